/- Sums of sizes; worlds that change between two block numbers. -/
import Derived.Test.YtfkaacfeikmabaaMf0
import Derived.Test.YtfkaacfeikmabaaMf1
import Derived.Test.YtfkaacfeikmabaaMf4
import Derived.Test.YtfkaacfeikmabaaMf6
import Derived.Test.YtfkaacfeikmabaaMf7
import Derived.Deep.RegionLaw
import Derived.BigRegion
namespace Go.Proofs.Ytfkaacfeikmabaa
open Go.RowKit


set_option maxHeartbeats 1600000 in
theorem markIntS_any (q : Nat) (zs : List Int) (c k : Nat) (w : World) (hn : zs.length ≤ 1048576) (hk : k ≤ 4194304) (h : RowB w q zs) :
    Calls Try.prog 72 #[.slice (some ⟨q, 0, none⟩) zs.length c, .int .i64 k] w fun e w' => e = .returned (.int .i64 ((k + zs.length : Nat) : Int)) ∧ RowB w' q (marks k zs.length) ∧ Only q w w' := by
  go_enter Try.func72, Try.ntmps72
  go_wp2_with fail
  go_loopw [1, 5] (fun l i wr => ∃ (j : Nat) (cs : Array Value), j ≤ zs.length ∧ i = .int .i64 j ∧ l = .int .i64 ((k + j : Nat) : Int) ∧ Blk wr q 3 cs ∧ Hid (zs.length ≤ cs.size) ∧ Hid (∀ m, m < j → cs[m]? = some (.int .i64 ((k + m : Nat) : Int))) ∧ Only q w wr) (fun _ i _ => zs.length - (intOf i).toNat)
  case atStart =>
    obtain ⟨cs, h1, h2, _⟩ := h
    exact ⟨0, cs, Nat.zero_le _, rfl, rfl, h1, hide h2, hide (fun m hm => by omega), Only.refl _ _⟩
  case round =>
    obtain ⟨j, cs, hj, rfl, rfl, hblk, hsz, hcs, ho⟩ := hrel
    by_cases hlt : j < zs.length
    · obtain ⟨v0, hv0⟩ : ∃ v0, cs[j]? = some v0 := ⟨cs[j]'(by have := hsz.out; omega), Array.getElem?_eq_getElem _⟩
      have hdst := (hblk.cell j).trans hv0
      have hfz := hblk.frozen j
      have HB := hide hblk
      have hlt' : (j : Int) < (zs.length : Int) := by omega
      clear hv0 hblk
      go_wp2_with fail
      go_roundw
      case rel =>
        refine ⟨j + 1, cs.setIfInBounds j (.int .i64 ((k + j : Nat) : Int)), by omega, by go_num, by go_num, HB.out.set_ j _, hide (by rw [Array.size_setIfInBounds]; exact hsz.out), hide (fun m hm => ?_), ho.setCell (.inl rfl) _⟩
        rw [Array.getElem?_setIfInBounds]
        by_cases e : j = m
        · subst e; rw [if_pos rfl, if_pos (by have := hsz.out; omega)]
        · rw [if_neg e]; exact hcs.out m (by omega)
      case measure => simp [intOf]; omega
    · obtain rfl : j = zs.length := by omega
      go_wp2_with fail
      go_ret
      exact ⟨rfl, ⟨cs, hblk, by rw [marks_len]; exact hsz.out, fun m hm => by rw [marks_len] at hm; rw [marks_get _ _ _ hm]; exact hcs.out m hm⟩, ho⟩

set_option maxHeartbeats 1600000 in
theorem heldIntS_any (A : Option Addr) (n c k : Nat) (S : Nat → Prop) (w : World) (hn : n ≤ 1048576) (hk : k ≤ 4194304) (_hS : ∀ b, S b → b < w.heap.size) (h : IntsAt w S A (marks k n)) :
    Calls Try.prog 74 #[.slice A n c, .int .i64 k] w fun e w' => e = .returned (.int .i64 ((k + n : Nat) : Int)) ∧ w = w' := by
  go_enter Try.func74, Try.ntmps74
  go_wp2_with fail
  go_loop [1, 5] (fun l i => ∃ (j : Nat), j ≤ n ∧ i = .int .i64 j ∧ l = .int .i64 ((k + j : Nat) : Int)) (fun _ i => n - (intOf i).toNat)
  case atStart => exact ⟨0, Nat.zero_le _, rfl, rfl⟩
  case round =>
    obtain ⟨j, hj, rfl, rfl⟩ := hrel
    by_cases hlt : j < n
    · obtain ⟨b, off, rfl, _, hc⟩ := h.2 (by rw [marks_len]; omega)
      have hcell := hc j (by rw [marks_len]; exact hlt)
      rw [marks_get _ _ _ hlt] at hcell
      have hlt' : (j : Int) < (n : Int) := by omega
      clear hc
      go_wp2_with fail
      go_round
      case rel => exact ⟨j + 1, by omega, by go_num, by go_num⟩
      case measure => simp [intOf]; omega
    · obtain rfl : j = n := by omega
      go_wp2_with fail
      go_ret
      exact ⟨rfl, rfl⟩

end Go.Proofs.Ytfkaacfeikmabaa

namespace Go.Proofs.Ytfkaacfeikmabaa
open Go.RowKit

set_option maxHeartbeats 800000 in
theorem szFile_any (A : Option Addr) (n c : Nat) (w : World) (hn : n ≤ 9223372036854775807) :
    Calls Try.prog 40 #[.agg #[.slice A n c], .int .i64 1048576] w fun e w' => e = .returned (.int .i64 (szR 1048576 n)) ∧ Below w.heap.size w w' := by
  have ks := fun w => szIntS_any A n c 1048576 w (by omega) (by omega) hn
  have hr : szR 1048576 n = -1 ∨ 0 ≤ szR 1048576 n := by unfold szR; split <;> omega
  generalize szR 1048576 n = s at *
  replace ks := hide ks
  rcases hr with rfl | hr
  · go_enter Try.func40, Try.ntmps40
    go_wp2_with fail
    refine (ks.out _).mono ?_
    rintro e w1 ⟨rfl, rfl⟩
    go_wp2_with fail
    go_ret
    exact ⟨rfl, below1 _ _⟩
  · go_enter Try.func40, Try.ntmps40
    go_wp2_with fail
    refine (ks.out _).mono ?_
    rintro e w1 ⟨rfl, rfl⟩
    go_wp2_with fail
    go_ret
    exact ⟨rfl, below1 _ _⟩

def FileCopy (w w' : World) (e : Ending) (zs : List Int) : Prop := ∃ q, e = .returned (.agg #[.slice (some ⟨q, 0, none⟩) zs.length zs.length]) ∧ w.heap.size ≤ q ∧ RowB w' q zs ∧ Below w.heap.size w w'
set_option maxHeartbeats 800000 in
theorem toFile_any (A : Option Addr) (zs : List Int) (c : Nat) (S : Nat → Prop) (w : World) (hn : zs.length ≤ 1048576) (hS : ∀ b, S b → b < w.heap.size) (ha : IntsAt w S A zs) :
    Calls Try.prog 43 #[.agg #[.slice A zs.length c]] w fun e w' => FileCopy w w' e zs := by
  have hb0 := (below2 w (Obj.cells #[Value.slice A zs.length c] 67) (Obj.cells #[Value.slice none 0 0] 69)).alloc (by simp; omega) (Obj.cells #[Value.slice none 0 0] 69)
  have hR := ((Blk.new (w.alloc (Obj.cells #[Value.slice A zs.length c] 67)) 69 #[Value.slice none 0 0]).alloc (Obj.cells #[Value.slice none 0 0] 69))
  have hX := Blk.new ((w.alloc (Obj.cells #[Value.slice A zs.length c] 67)).alloc (Obj.cells #[Value.slice none 0 0] 69)) 69 #[Value.slice none 0 0]
  simp only [World.size_alloc] at hR hX
  replace hR := hide hR
  replace hX := hide hX
  go_enter Try.func43, Try.ntmps43
  go_wp2_with fail
  refine (toIntS_row A zs c S _ hn (fun b h => Nat.lt_of_lt_of_le (hS b h) hb0.size) (ha.below hb0 hS)).mono ?_
  rintro e w1 ⟨rfl, hrow, hb1⟩
  have hR1 := hR.out.below hb1 (by simp)
  have hX1 := hX.out.below hb1 (by simp)
  have r0 := hR1.cell 0
  have z0 := hR1.frozen 0
  have x0 := hX1.cell 0
  have z1 := hX1.frozen 0
  simp only [List.getElem?_toArray, List.getElem?_cons_zero] at r0 x0
  have hl := hX1.lt
  have hB := hide (hb0.trans (hb1.mono (by first | (simp; omega) | simp)))
  replace hrow := hide hrow
  clear hR1 hX1 hb1
  go_wp2_with fail
  refine bodyPost_ret (v := .agg #[.slice (some ⟨w.heap.size + 1 + 1 + 1, 0, none⟩) zs.length zs.length]) (by simp [results, Try.results43, go_sem, r0]; done) rfl ⟨w.heap.size + 1 + 1 + 1, rfl, by omega, ?_, ?_⟩
  · obtain ⟨cs, h1, h2⟩ := hrow.out
    simp only [World.size_alloc] at h1
    exact ⟨cs, (h1.far (by show w.heap.size + 1 + 1 + 1 ≠ w.heap.size + 1 + 1; omega) _).far (by show w.heap.size + 1 + 1 + 1 ≠ w.heap.size + 1; omega) _, h2⟩
  · exact (hB.out.setCell (by show w.heap.size ≤ w.heap.size + 1 + 1; omega) _).setCell (by show w.heap.size ≤ w.heap.size + 1; omega) _

set_option maxHeartbeats 800000 in
theorem eqFile_any (A A' : Option Addr) (zs : List Int) (c c' : Nat) (S : Nat → Prop) (w : World) (hS : ∀ b, S b → b < w.heap.size) (ha : IntsAt w S A zs) (ha' : IntsAt w S A' zs) :
    Calls Try.prog 45 #[.agg #[.slice A zs.length c], .agg #[.slice A' zs.length c']] w fun e w' => e = .returned (.bool true) ∧ Below w.heap.size w w' := by
  have hb0 := below2 w (Obj.cells #[Value.slice A zs.length c] 69) (Obj.cells #[Value.slice A' zs.length c'] 69)
  go_enter Try.func45, Try.ntmps45
  go_wp2_with fail
  refine (eqIntS_any A A' zs c c' S _ (fun b h => Nat.lt_of_lt_of_le (hS b h) hb0.size) (ha.below hb0 hS) (ha'.below hb0 hS)).mono ?_
  rintro e w1 ⟨rfl, hb1⟩
  go_wp2_with fail
  go_ret
  exact ⟨rfl, below_then hb0 hb1⟩

end Go.Proofs.Ytfkaacfeikmabaa

namespace Go.Proofs.Ytfkaacfeikmabaa
open Go.RowKit

set_option maxHeartbeats 800000 in
theorem markFile_any (q : Nat) (zs : List Int) (c k : Nat) (w : World) (hn : zs.length ≤ 1048576) (hk : k ≤ 4194304) (h : RowB w q zs) :
    Calls Try.prog 46 #[.agg #[.slice (some ⟨q, 0, none⟩) zs.length c], .int .i64 k] w fun e w' => e = .returned (.int .i64 ((k + zs.length : Nat) : Int)) ∧ RowB w' q (marks k zs.length) ∧ Only q w w' := by
  have hb0 := below1 w (Obj.cells #[Value.slice (some ⟨q, 0, none⟩) zs.length c] 69)
  have h1 := h.below hb0
  go_enter Try.func46, Try.ntmps46
  go_wp2_with fail
  refine (markIntS_any q zs c k _ hn hk h1).mono ?_
  rintro e w1 ⟨rfl, hr, ho⟩
  go_wp2_with fail
  go_ret
  exact ⟨rfl, hr, (Only.of_below hb0).trans ho⟩
set_option maxHeartbeats 800000 in
theorem markFile_nil (w : World) :
    Calls Try.prog 46 #[.agg #[.slice none 0 0], .int .i64 1] w fun e w' => e = .returned (.int .i64 1) ∧ Below w.heap.size w w' := by
  have km : ∀ w, Calls Try.prog 72 #[.slice none 0 0, .int .i64 1] w fun e w' => e = .returned (.int .i64 1) ∧ w = w' := fun w => by
    go_enter Try.func72, Try.ntmps72
    go_wp2_with fail
    go_loop [1, 5] (fun l i => i = .int .i64 0 ∧ l = .int .i64 1) (fun _ _ => 0)
    case atStart => exact ⟨rfl, rfl⟩
    case round =>
      obtain ⟨rfl, rfl⟩ := hrel
      go_wp2_with fail
      go_ret
      exact ⟨rfl, rfl⟩
  replace km := hide km
  go_enter Try.func46, Try.ntmps46
  go_wp2_with fail
  refine (km.out _).mono ?_
  rintro e w1 ⟨rfl, rfl⟩
  go_wp2_with fail
  go_ret
  exact ⟨rfl, below1 _ _⟩
set_option maxHeartbeats 800000 in
theorem heldFile_any (A : Option Addr) (n c k : Nat) (S : Nat → Prop) (w : World) (hn : n ≤ 1048576) (hk : k ≤ 4194304) (hS : ∀ b, S b → b < w.heap.size) (h : IntsAt w S A (marks k n)) :
    Calls Try.prog 47 #[.agg #[.slice A n c], .int .i64 k] w fun e w' => e = .returned (.int .i64 ((k + n : Nat) : Int)) ∧ Below w.heap.size w w' := by
  have hb0 := below1 w (Obj.cells #[Value.slice A n c] 69)
  have hge : (0 : Int) ≤ ((k + n : Nat) : Int) := by omega
  go_enter Try.func47, Try.ntmps47
  go_wp2_with fail
  refine (heldIntS_any A n c k S _ hn hk (fun b h => Nat.lt_of_lt_of_le (hS b h) hb0.size) (h.below hb0 hS)).mono ?_
  rintro e w1 ⟨rfl, rfl⟩
  go_wp2_with fail
  go_ret
  exact ⟨rfl, hb0⟩
end Go.Proofs.Ytfkaacfeikmabaa

namespace Go.Proofs.Ytfkaacfeikmabaa
open Go.RowKit

attribute [local go_sem ↓] Go.wp_at_zero Go.wp_at_succ

theorem Try.infoFile : (Try.prog.info? 69).map (fun i => (i.zero, i.size, i.bytes)) = some (some (.agg #[.slice none 0 0]), 1, 24) := by kernel_rfl

def zeros (n : Nat) : List Int := List.replicate n 0
theorem zeros_len (n : Nat) : (zeros n).length = n := by simp [zeros]
theorem RowB.ofZ {w : World} {q n : Nat} (h : Blk w q 3 (zrow #[.int .i64 0] n)) : RowB w q (zeros n) := by
  refine ⟨_, h, by rw [zeros_len, zrow_size1]; exact Nat.le_refl _, fun k hk => ?_⟩
  rw [zeros_len] at hk
  have h1 : geti (zeros n) k = 0 := by simp [zeros, geti, List.getD_eq_getElem?_getD, hk]
  rw [h1]
  show (zrow #[Value.int .i64 0] n)[k]? = some (Value.int .i64 0)
  unfold zrow madeCells
  simp [hk, Nat.mod_one]

def FilesNew (w : World) (B : Nat) (fs : List Value) : Prop := ∀ u ∈ fs, ∃ q, u = .slice (some ⟨q, 0, none⟩) 6 6 ∧ RowB w q (zeros 6) ∧ B ≤ q

structure CoAt (w0 : World) (T : Nat) (A1 A2 : Option Addr) (n1 n2 c1 c2 qp : Nat) (fv : Value) (fs : List Value) (w : World) : Prop where
  below : Below w0.heap.size w0 w
  blk : Blk w T 135 #[.slice A1 n1 c1, .slice A2 n2 c2, .slice (some ⟨qp, 0, none⟩) n2 n2, fv]
  pcs : RowB w qp (zeros n2) ∧ w0.heap.size + 1 + 1 ≤ qp
  rows : w.ownsRow (w0.heap.size + 1 + 1) 69 1 fv fs.length fs
  files : FilesNew w (w0.heap.size + 1 + 1) fs
  lo : w0.heap.size + 1 + 1 ≤ T
  out : ∃ u1 u2 u3 u4, Blk w (w0.heap.size + 1) 135 #[u1, u2, u3, u4]
  box : Blk w w0.heap.size 31 #[.slice A1 n1 c1, .slice A2 n2 c2]

section
variable {w0 w w' w1 : World} {T n1 n2 c1 c2 qp B q : Nat} {A1 A2 : Option Addr} {fv : Value} {fs : List Value} {zs : List Int}
theorem Blk.grownR {k : Nat} {t : TypeId} {cs : Array Value} {r : Option Nat} (h : Blk w k t cs) (hg : w.grownBy w1 r) (hne : some k ≠ r) : Blk w1 k t cs := (hg.block k h.lt hne).trans h
theorem RowB.grown {v : Value} {n : Nat} {xs : List Value} (h : RowB w q zs) (hg : w.grownBy w1 v.ownBlock) (hv : w.ownsRow B 69 1 v n xs) : RowB w1 q zs := by
  obtain ⟨cs, h1, h2⟩ := h
  exact ⟨cs, (hg.block q h1.lt (blk_far h1 hv (by decide))).trans h1, h2⟩
theorem CoAt.alloc (h : CoAt w0 T A1 A2 n1 n2 c1 c2 qp fv fs w) (o : Obj) : CoAt w0 T A1 A2 n1 n2 c1 c2 qp fv fs (w.alloc o) :=
  ⟨h.below.alloc h.below.size o, h.blk.alloc o, ⟨h.pcs.1.below (below1 w o), h.pcs.2⟩, own_keep h.rows (fun b _ hlt => Below.heap_alloc w o b hlt), fun u hu => by obtain ⟨q, e, h1, h2⟩ := h.files u hu; exact ⟨q, e, h1.below (below1 w o), h2⟩, h.lo, h.out.imp fun _ => Exists.imp fun _ => Exists.imp fun _ => Exists.imp fun _ k => k.alloc o, h.box.alloc o⟩
theorem CoAt.drew (h : CoAt w0 T A1 A2 n1 n2 c1 c2 qp fv fs w) : CoAt w0 T A1 A2 n1 n2 c1 c2 qp fv fs w.drew := ⟨h.below.drew, h.blk, h.pcs, h.rows, h.files, h.lo, h.out, h.box⟩
theorem CoAt.cells (h : CoAt w0 T A1 A2 n1 n2 c1 c2 qp fv fs w) : w.cell? ⟨T, 2, none⟩ = some (.slice (some ⟨qp, 0, none⟩) n2 n2) ∧ w.cell? ⟨T, 3, none⟩ = some fv ∧ w.frozen? ⟨T, 3, none⟩ = false := ⟨h.blk.cell 2, h.blk.cell 3, h.blk.frozen 3⟩
theorem CoAt.grow {fv' : Value} (h : CoAt w0 T A1 A2 n1 n2 c1 c2 qp fv fs w) {u : Value} (hu : ∃ q, u = .slice (some ⟨q, 0, none⟩) 6 6 ∧ RowB w q (zeros 6) ∧ w0.heap.size + 1 + 1 ≤ q) {xs : List Value} (hxs : xs = fs ++ [u]) (ho : w1.ownsRow (w0.heap.size + 1 + 1) 69 1 fv' (fs.length + 1) xs) (hgr : w.grownBy w1 fv.ownBlock) :
    (w1.cell? ⟨T, 3, none⟩ = some fv ∧ w1.frozen? ⟨T, 3, none⟩ = false) ∧ CoAt w0 T A1 A2 n1 n2 c1 c2 qp fv' (fs ++ [u]) (w1.setCell ⟨T, 3, none⟩ fv') := by
  subst hxs
  have hlo := h.lo
  have hf : ∀ k, k < w0.heap.size + 1 + 1 → some k ≠ fv.ownBlock := fun _ hk => own_far h.rows hk
  have hB : Blk w1 T 135 _ := (hgr.block T h.blk.lt (blk_far h.blk h.rows (by decide))).trans h.blk
  have hlow : Below w0.heap.size w w1 := ⟨hgr.os, hgr.tape, hgr.output, hgr.size, fun k hk => hgr.block k (Nat.lt_of_lt_of_le hk h.below.size) (hf k (by omega))⟩
  have rfar : ∀ {q : Nat} {zs : List Int}, RowB w1 q zs → RowB (w1.setCell ⟨T, 3, none⟩ fv') q zs := fun {q zs} hr => by
    obtain ⟨cs, h1, h2⟩ := hr
    refine ⟨cs, h1.far (fun e => ?_) _, h2⟩
    have e : q = T := e
    subst e
    have h3 : w1.heap[q]? = some (.cells cs 3 (0, 0)) := h1
    have h4 : w1.heap[q]? = _ := hB
    rw [h3] at h4
    cases h4
  refine ⟨⟨hB.cell 3, hB.frozen 3⟩, ⟨(h.below.trans hlow).setCell (by show w0.heap.size ≤ T; omega) _, by have := hB.set_ 3 fv'; simpa using this, ⟨rfar (h.pcs.1.grown hgr h.rows), h.pcs.2⟩, own_setFar (by simpa using ho) (fun e => blk_far hB ho (by decide) e.symm) _, ?_, hlo, h.out.imp fun _ => Exists.imp fun _ => Exists.imp fun _ => Exists.imp fun _ k => (Blk.grownR k hgr (hf _ (by omega))).far (by show w0.heap.size + 1 ≠ T; omega) _, (Blk.grownR h.box hgr (hf _ (by omega))).far (by show w0.heap.size ≠ T; omega) _⟩⟩
  intro u' hu'
  rcases List.mem_append.1 hu' with h1 | h1
  · obtain ⟨q, e, hr, hq⟩ := h.files u' h1
    exact ⟨q, e, rfar (hr.grown hgr h.rows), hq⟩
  · rw [List.mem_singleton.1 h1]
    obtain ⟨q, e, hr, hq⟩ := hu
    exact ⟨q, e, rfar (hr.grown hgr h.rows), hq⟩
end

theorem RowB.heap {w w' : World} {q : Nat} {zs : List Int} (h : RowB w q zs) (hk : w'.heap[q]? = w.heap[q]?) : RowB w' q zs := by
  obtain ⟨cs, h1, h2⟩ := h
  exact ⟨cs, hk.trans h1, h2⟩
theorem CoAt.startA (w : World) (A1 A2 : Option Addr) (n1 n2 c1 c2 : Nat) : CoAt w (w.heap.size + 1 + 1 + 1) A1 A2 n1 n2 c1 c2 (w.heap.size + 1 + 1) (.slice none 0 0) [] (((((w.alloc (Obj.cells #[Value.slice A1 n1 c1, Value.slice A2 n2 c2] 31)).alloc (Obj.cells #[Value.slice none 0 0, Value.slice none 0 0, Value.slice none 0 0, Value.slice none 0 0] 135)).alloc (Obj.cells (zrow #[Value.int .i64 0] n2) 3)).alloc (Obj.cells #[Value.slice A1 n1 c1, Value.slice A2 n2 c2, Value.slice (some ⟨w.heap.size + 1 + 1, 0, none⟩) n2 n2, Value.slice none 0 0] 135)).drew) := by
  have hb := ((below2 w (Obj.cells #[Value.slice A1 n1 c1, Value.slice A2 n2 c2] 31) (Obj.cells #[Value.slice none 0 0, Value.slice none 0 0, Value.slice none 0 0, Value.slice none 0 0] 135)).alloc (by simp; omega) (Obj.cells (zrow #[Value.int .i64 0] n2) 3)).alloc (by simp; omega) (Obj.cells #[Value.slice A1 n1 c1, Value.slice A2 n2 c2, Value.slice (some ⟨w.heap.size + 1 + 1, 0, none⟩) n2 n2, Value.slice none 0 0] 135)
  have hZ := (Blk.new ((w.alloc (Obj.cells #[Value.slice A1 n1 c1, Value.slice A2 n2 c2] 31)).alloc (Obj.cells #[Value.slice none 0 0, Value.slice none 0 0, Value.slice none 0 0, Value.slice none 0 0] 135)) 3 (zrow #[Value.int .i64 0] n2)).alloc (Obj.cells #[Value.slice A1 n1 c1, Value.slice A2 n2 c2, Value.slice (some ⟨w.heap.size + 1 + 1, 0, none⟩) n2 n2, Value.slice none 0 0] 135)
  have hC := Blk.new (((w.alloc (Obj.cells #[Value.slice A1 n1 c1, Value.slice A2 n2 c2] 31)).alloc (Obj.cells #[Value.slice none 0 0, Value.slice none 0 0, Value.slice none 0 0, Value.slice none 0 0] 135)).alloc (Obj.cells (zrow #[Value.int .i64 0] n2) 3)) 135 #[Value.slice A1 n1 c1, Value.slice A2 n2 c2, Value.slice (some ⟨w.heap.size + 1 + 1, 0, none⟩) n2 n2, Value.slice none 0 0]
  have hN := ((Blk.new (w.alloc (Obj.cells #[Value.slice A1 n1 c1, Value.slice A2 n2 c2] 31)) 135 #[Value.slice none 0 0, Value.slice none 0 0, Value.slice none 0 0, Value.slice none 0 0]).alloc (Obj.cells (zrow #[Value.int .i64 0] n2) 3)).alloc (Obj.cells #[Value.slice A1 n1 c1, Value.slice A2 n2 c2, Value.slice (some ⟨w.heap.size + 1 + 1, 0, none⟩) n2 n2, Value.slice none 0 0] 135)
  simp only [World.size_alloc] at hC hZ hN
  exact ⟨hb.drew, hC, ⟨RowB.ofZ hZ, by omega⟩, ⟨rfl, .inl ⟨rfl, rfl⟩⟩, fun u hu => by simp at hu, by omega, ⟨_, _, _, _, hN⟩, (((Blk.new w 31 #[Value.slice A1 n1 c1, Value.slice A2 n2 c2]).alloc _).alloc _).alloc _⟩
theorem CoAt.startB (w : World) (A1 A2 : Option Addr) (n1 n2 c1 c2 : Nat) : CoAt w (w.heap.size + 1 + 1) A1 A2 n1 n2 c1 c2 (w.heap.size + 1 + 1 + 1) (.slice none 0 0) [] (((((w.alloc (Obj.cells #[Value.slice A1 n1 c1, Value.slice A2 n2 c2] 31)).alloc (Obj.cells #[Value.slice none 0 0, Value.slice none 0 0, Value.slice none 0 0, Value.slice none 0 0] 135)).alloc (Obj.cells #[Value.slice A1 n1 c1, Value.slice A2 n2 c2, Value.slice (some ⟨w.heap.size + 1 + 1 + 1, 0, none⟩) n2 n2, Value.slice none 0 0] 135)).alloc (Obj.cells (zrow #[Value.int .i64 0] n2) 3)).drew) := by
  have hb := ((below2 w (Obj.cells #[Value.slice A1 n1 c1, Value.slice A2 n2 c2] 31) (Obj.cells #[Value.slice none 0 0, Value.slice none 0 0, Value.slice none 0 0, Value.slice none 0 0] 135)).alloc (by simp; omega) (Obj.cells #[Value.slice A1 n1 c1, Value.slice A2 n2 c2, Value.slice (some ⟨w.heap.size + 1 + 1 + 1, 0, none⟩) n2 n2, Value.slice none 0 0] 135)).alloc (by simp; omega) (Obj.cells (zrow #[Value.int .i64 0] n2) 3)
  have hC := (Blk.new ((w.alloc (Obj.cells #[Value.slice A1 n1 c1, Value.slice A2 n2 c2] 31)).alloc (Obj.cells #[Value.slice none 0 0, Value.slice none 0 0, Value.slice none 0 0, Value.slice none 0 0] 135)) 135 #[Value.slice A1 n1 c1, Value.slice A2 n2 c2, Value.slice (some ⟨w.heap.size + 1 + 1 + 1, 0, none⟩) n2 n2, Value.slice none 0 0]).alloc (Obj.cells (zrow #[Value.int .i64 0] n2) 3)
  have hZ := Blk.new (((w.alloc (Obj.cells #[Value.slice A1 n1 c1, Value.slice A2 n2 c2] 31)).alloc (Obj.cells #[Value.slice none 0 0, Value.slice none 0 0, Value.slice none 0 0, Value.slice none 0 0] 135)).alloc (Obj.cells #[Value.slice A1 n1 c1, Value.slice A2 n2 c2, Value.slice (some ⟨w.heap.size + 1 + 1 + 1, 0, none⟩) n2 n2, Value.slice none 0 0] 135)) 3 (zrow #[Value.int .i64 0] n2)
  have hN := ((Blk.new (w.alloc (Obj.cells #[Value.slice A1 n1 c1, Value.slice A2 n2 c2] 31)) 135 #[Value.slice none 0 0, Value.slice none 0 0, Value.slice none 0 0, Value.slice none 0 0]).alloc (Obj.cells #[Value.slice A1 n1 c1, Value.slice A2 n2 c2, Value.slice (some ⟨w.heap.size + 1 + 1 + 1, 0, none⟩) n2 n2, Value.slice none 0 0] 135)).alloc (Obj.cells (zrow #[Value.int .i64 0] n2) 3)
  simp only [World.size_alloc] at hC hZ hN
  exact ⟨hb.drew, hC, ⟨RowB.ofZ hZ, by omega⟩, ⟨rfl, .inl ⟨rfl, rfl⟩⟩, fun u hu => by simp at hu, by omega, ⟨_, _, _, _, hN⟩, (((Blk.new w 31 #[Value.slice A1 n1 c1, Value.slice A2 n2 c2]).alloc _).alloc _).alloc _⟩

set_option maxRecDepth 100000 in
set_option maxHeartbeats 6400000 in
theorem commonStart_any (A1 A2 : Option Addr) (n1 n2 c1 c2 : Nat) (w : World) (hn : n2 ≤ 3) :
    Calls Try.prog 148 #[.agg #[.slice A1 n1 c1, .slice A2 n2 c2]] w fun e w' => ∃ (qp : Nat) (fv : Value) (fs : List Value), e = .returned (.agg #[.slice A1 n1 c1, .slice A2 n2 c2, .slice (some ⟨qp, 0, none⟩) n2 n2, fv]) ∧ fs.length = n2 ∧ (RowB w' qp (zeros n2) ∧ w.heap.size ≤ qp) ∧ w'.ownsRow w.heap.size 69 1 fv fs.length fs ∧ FilesNew w' w.heap.size fs ∧ Below w.heap.size w w' := by
  have hmk := make_ints n2 (by omega)
  have hm6 : ∀ W : World, (Instr.makeSlice 22 (.int .i64 6) (.int .i64 6)).run Try.prog W = .ok (.slice (some ⟨W.heap.size, 0, none⟩) 6 6) (W.alloc (.cells (zrow #[.int .i64 0] 6) 3)) := fun W => make_ints 6 (by omega) W
  obtain ⟨i2, hi2, hx0, hx1, hx2⟩ := info_parts Try.infoFile
  have hi2 := hide hi2
  have hbx := hide (Blk.new w 31 #[Value.slice A1 n1 c1, Value.slice A2 n2 c2])
  go_enter Try.func148, Try.ntmps148
  go_wp2_with fail
  go_cut [3] (fun s3 wx => ∃ T qp, s3 = .pointer (some ⟨T, 0, none⟩) ∧ CoAt w T A1 A2 n1 n2 c1 c2 qp (.slice none 0 0) [] wx)
  case first =>
    go_region
    all_goals
      go_wp2_with fail
      go_meet
      first
        | exact ⟨w.heap.size + 1 + 1 + 1, w.heap.size + 1 + 1, rfl, CoAt.startA w A1 A2 n1 n2 c1 c2⟩
        | exact ⟨w.heap.size + 1 + 1, w.heap.size + 1 + 1 + 1, rfl, CoAt.startB w A1 A2 n1 n2 c1 c2⟩
  case rest =>
    obtain ⟨T, qp, rfl, h0⟩ := hcut
    have b1 : wc.cell? ⟨w.heap.size, 1, none⟩ = some (.slice A2 n2 c2) := h0.box.cell 1
    have hl0 := h0.box.lt
    go_wp2_with fail
    go_loopw [13] (fun k wr => ∃ (fs : List Value) (fv : Value), k = .int .i64 fs.length ∧ fs.length ≤ n2 ∧ CoAt w T A1 A2 n1 n2 c1 c2 qp fv fs wr) (fun k _ => (n2 - intOf k).toNat)
    case atStart => exact ⟨[], _, rfl, Nat.zero_le _, h0⟩
    case round =>
      obtain ⟨fs, fv, rfl, hfl, h1⟩ := hrel
      have hs1 := h1.blk.lt
      have hbx1 := h1.box.lt
      obtain ⟨d0, d1, d2⟩ := h1.cells
      clear b1 h0
      by_cases hlt : fs.length < n2
      · have hlt' : (fs.length : Int) < (n2 : Int) := by omega
        have h2 := h1.drew
        have hlo := h1.lo
        have hnew : ((wr.drew.alloc (.cells (zrow #[.int .i64 0] 6) 3)).alloc (.cells #[.slice (some ⟨wr.heap.size, 0, none⟩) 6 6] 69)).heap[wr.heap.size + 1]? = some (.cells #[.slice (some ⟨wr.heap.size, 0, none⟩) 6 6] 69 (0, 0)) := by
          have := heap_alloc_new (wr.drew.alloc (.cells (zrow #[.int .i64 0] 6) 3)) (.cells #[.slice (some ⟨wr.heap.size, 0, none⟩) 6 6] 69)
          rw [World.size_alloc] at this
          exact this
        go_wp2_with fail
        go_region_law (first
          | (refine step_append_lies _ (by rfl) _ _ _ (by rfl) (w.heap.size + 1 + 1) 69 i2 _ 1 24 Try.underlying44 hi2.out hx0 hx1 hx2 rfl (by omega) fv fs.length fs (by rfl) ((h2.alloc (.cells (zrow #[.int .i64 0] 6) 3)).alloc _).rows _ 1 1 [.slice (some ⟨wr.heap.size, 0, none⟩) 6 6] (by rfl) ?hl (World.news_of_block hnew) ?h1 (by omega) ?h63 ?hby ?hb _ (by rfl) ?_
             case hl => rfl
             case h1 => simp [Value.oneCell']
             case h63 => (have : maxLen = 9223372036854775807 := rfl); omega
             case hby => omega
             case hb => simp; omega
             intro gg cap w4 hown hgrow hat hlt4
             obtain ⟨⟨g0, g1⟩, h3⟩ := CoAt.grow ((h2.alloc (.cells (zrow #[.int .i64 0] 6) 3)).alloc _) ⟨wr.heap.size, rfl, RowB.ofZ ((Blk.new wr.drew 3 (zrow #[.int .i64 0] 6)).alloc _), by omega⟩ rfl hown hgrow))
        all_goals
          go_wp2_with fail
          go_roundw
          case rel => exact ⟨_, _, by simp, by simp; omega, h3⟩
          case measure => simp [intOf]; omega
      · obtain hfe : fs.length = n2 := by omega
        obtain ⟨A5, c5, rfl, -⟩ := own_form h1.rows
        obtain ⟨u1, u2, u3, u4, ho⟩ := h1.out
        have o0 : wr.cell? ⟨w.heap.size + 1, 0, none⟩ = some u1 := ho.cell 0
        have o1 : wr.cell? ⟨w.heap.size + 1, 1, none⟩ = some u2 := ho.cell 1
        have o2 : wr.cell? ⟨w.heap.size + 1, 2, none⟩ = some u3 := ho.cell 2
        have o3 : wr.cell? ⟨w.heap.size + 1, 3, none⟩ = some u4 := ho.cell 3
        have t0 : wr.cell? ⟨T, 0, none⟩ = some (.slice A1 n1 c1) := h1.blk.cell 0
        have t1 : wr.cell? ⟨T, 1, none⟩ = some (.slice A2 n2 c2) := h1.blk.cell 1
        have z0 := ho.frozen 0
        have z1 := ho.frozen 1
        have z2 := ho.frozen 2
        have z3 := ho.frozen 3
        have hp := hide h1.pcs
        have hr := hide h1.rows
        have hf := hide h1.files
        have hb := hide h1.below
        clear h1 ho
        go_wp2_with fail
        have hkeep : ∀ (u1 u2 u3 u4 : Value) (k : Nat), k ≠ w.heap.size + 1 → ((((wr.setCell ⟨w.heap.size + 1, 0, none⟩ u1).setCell ⟨w.heap.size + 1, 1, none⟩ u2).setCell ⟨w.heap.size + 1, 2, none⟩ u3).setCell ⟨w.heap.size + 1, 3, none⟩ u4).heap[k]? = wr.heap[k]? := fun u1 u2 u3 u4 k hk =>
          (Below.heap_setCell _ _ _ k hk).trans ((Below.heap_setCell _ _ _ k hk).trans ((Below.heap_setCell _ _ _ k hk).trans (Below.heap_setCell _ _ _ k hk)))
        refine bodyPost_ret (v := .agg #[.slice A1 n1 c1, .slice A2 n2 c2, .slice (some ⟨qp, 0, none⟩) n2 n2, .slice A5 fs.length c5]) (by simp [results, Try.results148, go_sem, o0, o1, o2, o3, hfe]; done) rfl ⟨qp, _, fs, rfl, hfe, ⟨hp.out.1.heap (hkeep _ _ _ _ _ (by have := hp.out.2; omega)), by have := hp.out.2; omega⟩, own_base (own_keep hr.out (fun b hb' _ => hkeep _ _ _ _ _ (by omega))) (by omega), fun u hu => ?_, ?_⟩
        · obtain ⟨q, e, h1, h2⟩ := hf.out u hu
          exact ⟨q, e, h1.heap (hkeep _ _ _ _ _ (by omega)), by omega⟩
        · iterate 4 (refine Below.setCell ?_ (by show w.heap.size ≤ w.heap.size + 1; omega) _)
          exact hb.out
end Go.Proofs.Ytfkaacfeikmabaa

namespace Go.Proofs.Ytfkaacfeikmabaa
open Go.RowKit

def sumTo (l : List Nat) (k : Nat) : Nat := (l.take k).sum
theorem sumTo_zero (l : List Nat) : sumTo l 0 = 0 := by simp [sumTo]
theorem sumTo_succ (l : List Nat) (k : Nat) (h : k < l.length) : sumTo l (k + 1) = sumTo l k + l.getD k 0 := by
  unfold sumTo
  rw [sum_take _ k h]
  simp [List.getD, List.getElem?_eq_getElem h]
theorem sumTo_le (l : List Nat) (k : Nat) : sumTo l k ≤ l.sum := sum_take_le l k
theorem sumTo_all (l : List Nat) : sumTo l l.length = l.sum := by unfold sumTo; rw [List.take_of_length_le (Nat.le_refl _)]

structure Inn (lo hi : Nat) (w w' : World) : Prop where
  os : w'.os = w.os
  tape : w'.tape = w.tape
  output : w'.output = w.output
  size : w.heap.size ≤ w'.heap.size
  block : ∀ k, k < w.heap.size → ¬ (lo ≤ k ∧ k < hi) → w'.heap[k]? = w.heap[k]?
section
variable {w w' w'' : World} {lo hi lo' hi' g : Nat}
theorem Inn.refl (lo hi : Nat) (w : World) : Inn lo hi w w := ⟨rfl, rfl, rfl, Nat.le_refl _, fun _ _ _ => rfl⟩
theorem Inn.trans (h : Inn lo hi w w') (k : Inn lo hi w' w'') : Inn lo hi w w'' :=
  ⟨k.os.trans h.os, k.tape.trans h.tape, k.output.trans h.output, Nat.le_trans h.size k.size, fun i hi' hn => (k.block i (Nat.lt_of_lt_of_le hi' h.size) hn).trans (h.block i hi' hn)⟩
theorem Inn.of_only (h : Only g w w') (hg : lo ≤ g ∧ g < hi) : Inn lo hi w w' := ⟨h.os, h.tape, h.output, h.size, fun k hk hn => h.block k hk (fun e => hn (by rw [e]; exact hg))⟩
theorem Inn.of_below (h : Below w.heap.size w w') : Inn lo hi w w' := ⟨h.os, h.tape, h.output, h.size, fun k hk _ => h.block k hk⟩
theorem Inn.wide (h : Inn lo hi w w') (h1 : lo' ≤ lo) (h2 : hi ≤ hi') : Inn lo' hi' w w' := ⟨h.os, h.tape, h.output, h.size, fun k hk hn => h.block k hk (fun e => hn ⟨by omega, by omega⟩)⟩
theorem Inn.below (h : Inn lo hi w w') (hl : lo ≤ w.heap.size) : Below lo w w' := ⟨h.os, h.tape, h.output, h.size, fun k hk => h.block k (by omega) (fun e => by omega)⟩
end
end Go.Proofs.Ytfkaacfeikmabaa
