/- l2file: a file of six numbers drawn, or of five. · laws' helpers on a file: markFile, heldFile. · commonStart: the threads' numbers and files at the beginning. · commonStart: the files go up. -/
import Derived.Test.YtfkaacfeikmabaaMg7
import Derived.Test.YtfkaacfeikmabaaMg21
import Derived.Test.YtfkaacfeikmabaaMg29
import Derived.Deep.RegionLaw
import Derived.BigRegion
namespace Go.Proofs.Ytfkaacfeikmabaa
open Go.RowKit

attribute [local go_sem ↓] Go.wp_at_zero Go.wp_at_succ

def intRow (zs : List Int) : Array Value := (zs.map (Value.int .i64)).toArray
theorem intRow_get (zs : List Int) (k : Nat) (hk : k < zs.length) : (intRow zs)[k]? = some (.int .i64 (geti zs k)) := by
  simp [intRow, geti, List.getD_eq_getElem?_getD, List.getElem?_eq_getElem hk]
theorem intRow_set (zs : List Int) (k : Nat) (y : Int) : (intRow zs).setIfInBounds k (.int .i64 y) = intRow (zs.set k y) := by
  simp [intRow, List.map_set]
theorem intRow_cell {w : World} {q : Nat} {zs : List Int} (h : Blk w q 3 (intRow zs)) {k : Nat} (hk : k < zs.length) : w.cell? ⟨q, k, none⟩ = some (.int .i64 (geti zs k)) := (h.cell k).trans (intRow_get zs k hk)

/-- A file in the making: its row in block w0.heap.size + 1, its slice in the one behind. -/
structure FiAt (g : Nat) (w0 : World) (T : Nat) (zs : List Int) (w : World) : Prop where
  cur : Cur w g
  only : Only g w0 w
  lo : w0.heap.size + 1 < T
  blkT : Blk w T 69 #[.slice (some ⟨w0.heap.size + 1, 0, none⟩) 6 6]
  blkQ : Blk w (w0.heap.size + 1) 3 (intRow zs)
  len : zs.length = 6
  out : ∃ u, Blk w w0.heap.size 69 #[u]

section
variable {g T : Nat} {w0 w w' : World} {zs : List Int}
theorem FiAt.call (h : FiAt g w0 T zs w) (hg : g < w0.heap.size) (hc : Cur w' g) (ho : Only g w w') : FiAt g w0 T zs w' :=
  ⟨hc, h.only.trans ho, h.lo, h.blkT.only ho (by have := h.lo; omega), h.blkQ.only ho (by omega), h.len, h.out.imp fun _ k => k.only ho (by omega)⟩
theorem FiAt.drew (h : FiAt g w0 T zs w) : FiAt g w0 T zs w.drew := ⟨h.cur, h.only.drew, h.lo, h.blkT, h.blkQ, h.len, h.out⟩
theorem FiAt.alloc (h : FiAt g w0 T zs w) (o : Obj) : FiAt g w0 T zs (w.alloc o) := ⟨h.cur.alloc o, h.only.alloc o, h.lo, h.blkT.alloc o, h.blkQ.alloc o, h.len, h.out.imp fun _ k => k.alloc o⟩
theorem FiAt.set (h : FiAt g w0 T zs w) (hg : g < w0.heap.size) (k : Nat) (y : Int) : FiAt g w0 T (zs.set k y) (w.setCell ⟨w0.heap.size + 1, k, none⟩ (.int .i64 y)) :=
  ⟨h.cur.setCell (by show g < w0.heap.size + 1; omega) _, h.only.setCell (.inr (by show w0.heap.size ≤ w0.heap.size + 1; omega)) _, h.lo, h.blkT.far (by have := h.lo; show T ≠ w0.heap.size + 1; omega) _, by rw [← intRow_set]; exact h.blkQ.set_ _ _, by rw [List.length_set]; exact h.len, h.out.imp fun _ k => k.far (by show w0.heap.size ≠ w0.heap.size + 1; omega) _⟩
theorem FiAt.cells (h : FiAt g w0 T zs w) : w.cell? ⟨T, 0, none⟩ = some (.slice (some ⟨w0.heap.size + 1, 0, none⟩) 6 6) ∧ w.frozen? ⟨T, 0, none⟩ = false ∧ ∀ k, k < 6 → w.cell? ⟨w0.heap.size + 1, k, none⟩ = some (.int .i64 (geti zs k)) ∧ w.frozen? ⟨w0.heap.size + 1, k, none⟩ = false :=
  ⟨h.blkT.cell 0, h.blkT.frozen 0, fun k hk => ⟨intRow_cell h.blkQ (by rw [h.len]; exact hk), h.blkQ.frozen k⟩⟩
end

/-- A file drawn. -/
def FileDrawn (g : Nat) (w w' : World) (e : Ending) : Prop := ∃ (A : Option Addr) (zs : List Int) (c : Nat), e = .returned (.agg #[.slice A zs.length c]) ∧ (zs.length = 6 ∨ zs.length = 5) ∧ IntsAt w' (New w.heap.size w'.heap.size) A zs ∧ Cur w' g ∧ Only g w w'

set_option maxRecDepth 100000 in
set_option maxHeartbeats 6400000 in
theorem l2file_any (g : Nat) (w : World) (hc : Cur w g) :
    Calls Try.prog 129 #[.pointer (some ⟨g, 0, none⟩)] w fun e w' => FileDrawn g w w' e := by
  have hg := hc.lt
  obtain ⟨i1, hi1, hy0, hy1, hy2⟩ := info_parts Try.infoInt
  have HC := hide hc
  clear hc
  go_enter Try.func129, Try.ntmps129
  go_wp2_with (at_make; refine wpList_make_full _ rfl _ _ _ rfl (w.heap.size + 1) 3 i1 _ 1 Try.underlying22 hi1 hy0 hy1 .i64 .i64 6 6 6 rfl rfl rfl rfl (by rw [hy2]; omega) (by decide) (by simp) ?_)
  intro w2 hrow hgr
  have hz2 : w.heap.size + 1 < w2.heap.size ∧ Blk w2 (w.heap.size + 1) 3 (intRow [0, 0, 0, 0, 0, 0]) := by
    rcases hrow.2 with ⟨hv, _⟩ | ⟨q, cap, cur, hv, hq, hh, hcap, hmax, hcs, ht⟩
    · cases hv
    · cases hv
      have e : cur = intRow [0, 0, 0, 0, 0, 0] := by
        have h1 : cur.toList = cur.toList.take (6 * 1) := by rw [List.take_of_length_le (by simp [hcs])]
        have h2 : cur.toList = (intRow [0, 0, 0, 0, 0, 0]).toList := by rw [h1, ht]; first | rfl | decide | (simp [madeCells, intRow, Array.range]; done)
        exact Array.toList_inj.1 h2
      rw [e] at hh
      exact ⟨Blk.lt (t := 3) hh, hh⟩
  have h0 : FiAt g w w2.heap.size [0, 0, 0, 0, 0, 0] (w2.alloc (Obj.cells #[Value.slice (some ⟨w.heap.size + 1, 0, none⟩) 6 6] 69)) := by
    have hB : Below (w.heap.size + 1) (w.alloc (Obj.cells #[Value.slice none 0 0] 69)) w2 := ⟨hgr.os, hgr.tape, hgr.output, hgr.size, fun k hk => hgr.block k (by simpa using hk) (by simp)⟩
    have hcw := (HC.out.alloc (Obj.cells #[Value.slice none 0 0] 69)).below (hB.mono (by omega))
    have how : Only g w w2 := ((Only.refl g w).alloc (Obj.cells #[Value.slice none 0 0] 69)).trans (Only.of_below (hB.mono (by simp)))
    exact ⟨hcw.alloc _, how.alloc _, hz2.1, Blk.new _ _ _, hz2.2.alloc _, rfl, ⟨_, ((Blk.new w 69 #[Value.slice none 0 0]).below hB (by omega)).alloc _⟩⟩
  clear hrow hgr
  go_wp2_with fail
  go_loopw [4] (fun k wr => ∃ (n : Nat) (zs : List Int), k = .int .i64 n ∧ n ≤ 6 ∧ FiAt g w w2.heap.size zs wr) (fun k _ => (6 - intOf k).toNat)
  case atStart => exact ⟨0, _, rfl, by omega, h0⟩
  case round =>
    obtain ⟨n, zs, rfl, hn, h1⟩ := hrel
    obtain ⟨t0, tz, hq⟩ := h1.cells
    have hsz := h1.blkT.lt
    clear h0
    by_cases hlt : n < 6
    · have hlt' : (n : Int) < 6 := by omega
      obtain ⟨q0, qz⟩ := hq n hlt
      have h2 := h1.drew
      clear hq
      go_wp2_with fail
      go_region_law (first
        | (go_simp; refine (l1PickInt_any g (some ⟨wr.heap.size, 0, none⟩) [0, 1, 2, -1, 5, -9223372036854775808] 6 _ (by decide) (by decide) (ints_of_blk (t := 3) (zs := [0, 1, 2, -1, 5, -9223372036854775808]) (Blk.new wr.drew _ _) (by decide) ⟨by simp, by have := h2.cur.lt; have e : wr.drew.heap.size = wr.heap.size := rfl; omega⟩) (h2.alloc _).cur).mono ?_; rintro e w3 ⟨k3, hk3, rfl, hc3, ho3⟩; have h3 := (h2.alloc _).call hg hc3 ho3; obtain ⟨s0, sz, hs⟩ := h3.cells; obtain ⟨p0, pz⟩ := hs n hlt; clear hs; go_simp))
      all_goals
        go_wp2_with fail
        go_roundw
        case rel => exact ⟨n + 1, _, by simp, by omega, h3.set hg n _⟩
        case measure => simp [intOf]; omega
    · obtain rfl : n = 6 := by omega
      clear hq
      go_wp2_with fail
      refine (l1Once_any g 12 _ (by omega) (by omega) h1.cur).mono ?_
      rintro e w3 ⟨bb, rfl, hc3, ho3⟩
      have h3 := h1.call hg hc3 ho3
      clear t0 tz h1 hc3 ho3
      obtain ⟨t0, tz, -⟩ := h3.cells
      have hsz3 := h3.blkT.lt
      obtain ⟨u, hu⟩ := h3.out
      have u0 : w3.cell? ⟨w.heap.size, 0, none⟩ = some u := hu.cell 0
      have uz := hu.frozen 0
      have hl := h3.len
      cases bb
      · have hcu := hide h3.cur
        have hon := hide h3.only
        have hqq := hide h3.blkQ
        clear h3 hu
        go_wp2_with fail
        refine bodyPost_ret (v := .agg #[.slice (some ⟨w.heap.size + 1, 0, none⟩) zs.length 6]) (by rw [hl]; simp [results, Try.results129, go_sem, u0]; done) rfl ⟨_, zs, 6, rfl, .inl hl, ⟨by omega, fun _ => ⟨_, 0, rfl, ⟨by omega, by simp [World.setCell]; omega⟩, fun k hk => ?_⟩⟩, ?_, ?_⟩
        · rw [Nat.zero_add]
          exact intRow_cell (hqq.out.far (by show w.heap.size + 1 ≠ w.heap.size; omega) _) hk
        · exact hcu.out.setCell (by show g < w.heap.size; omega) _
        · exact hon.out.setCell (.inr (Nat.le_refl _)) _
      · have hcu := hide h3.cur
        have hon := hide h3.only
        have hqq := hide h3.blkQ
        clear h3 hu
        go_wp2_with fail
        have hld : (zs.drop 1).length = 5 := by simp [hl]
        refine bodyPost_ret (v := .agg #[.slice (some ⟨w.heap.size + 1, 1, none⟩) (zs.drop 1).length 5]) (by rw [hld]; simp [results, Try.results129, go_sem, u0]; done) rfl ⟨_, zs.drop 1, 5, rfl, .inr hld, ⟨by omega, fun _ => ⟨_, 1, rfl, ⟨by omega, by simp [World.setCell]; omega⟩, fun k hk => ?_⟩⟩, ?_, ?_⟩
        · have h5 := hz2.1
          have hg1 : geti (zs.drop 1) k = geti zs (1 + k) := by unfold geti; rw [List.getD_eq_getElem?_getD, List.getD_eq_getElem?_getD, List.getElem?_drop]
          rw [hg1]
          exact intRow_cell ((hqq.out.far (by show w.heap.size + 1 ≠ w2.heap.size; omega) _).far (by show w.heap.size + 1 ≠ w.heap.size; omega) _) (by omega)
        · have h5 := hz2.1
          exact (hcu.out.setCell (by show g < w2.heap.size; omega) _).setCell (by show g < w.heap.size; omega) _
        · have h5 := hz2.1
          exact (hon.out.setCell (.inr (by show w.heap.size ≤ w2.heap.size; omega)) _).setCell (.inr (Nat.le_refl _)) _
end Go.Proofs.Ytfkaacfeikmabaa

namespace Go.Proofs.Ytfkaacfeikmabaa
open Go.RowKit

set_option maxHeartbeats 800000 in
theorem markFile_any (q : Nat) (zs : List Int) (c k : Nat) (w : World) (hn : zs.length ≤ 1048576) (hk : k ≤ 4194304) (h : RowB w q zs) :
    Calls Try.prog 46 #[.agg #[.slice (some ⟨q, 0, none⟩) zs.length c], .int .i64 k] w fun e w' => e = .returned (.int .i64 ((k + zs.length : Nat) : Int)) ∧ RowB w' q (marks k zs.length) ∧ Only q w w' := by
  have hb0 := below1 w (Obj.cells #[Value.slice (some ⟨q, 0, none⟩) zs.length c] 69)
  have h1 := h.below hb0
  go_enter Try.func46, Try.ntmps46
  go_wp2_with fail
  refine (markIntS_any q zs c k _ hn hk h1).mono ?_
  rintro e w1 ⟨rfl, hr, ho⟩
  go_wp2_with fail
  go_ret
  exact ⟨rfl, hr, (Only.of_below hb0).trans ho⟩
set_option maxHeartbeats 800000 in
theorem markFile_nil (w : World) :
    Calls Try.prog 46 #[.agg #[.slice none 0 0], .int .i64 1] w fun e w' => e = .returned (.int .i64 1) ∧ Below w.heap.size w w' := by
  have km : ∀ w, Calls Try.prog 72 #[.slice none 0 0, .int .i64 1] w fun e w' => e = .returned (.int .i64 1) ∧ w = w' := fun w => by
    go_enter Try.func72, Try.ntmps72
    go_wp2_with fail
    go_loop [1, 5] (fun l i => i = .int .i64 0 ∧ l = .int .i64 1) (fun _ _ => 0)
    case atStart => exact ⟨rfl, rfl⟩
    case round =>
      obtain ⟨rfl, rfl⟩ := hrel
      go_wp2_with fail
      go_ret
      exact ⟨rfl, rfl⟩
  replace km := hide km
  go_enter Try.func46, Try.ntmps46
  go_wp2_with fail
  refine (km.out _).mono ?_
  rintro e w1 ⟨rfl, rfl⟩
  go_wp2_with fail
  go_ret
  exact ⟨rfl, below1 _ _⟩
set_option maxHeartbeats 800000 in
theorem heldFile_any (A : Option Addr) (n c k : Nat) (S : Nat → Prop) (w : World) (hn : n ≤ 1048576) (hk : k ≤ 4194304) (hS : ∀ b, S b → b < w.heap.size) (h : IntsAt w S A (marks k n)) :
    Calls Try.prog 47 #[.agg #[.slice A n c], .int .i64 k] w fun e w' => e = .returned (.int .i64 ((k + n : Nat) : Int)) ∧ Below w.heap.size w w' := by
  have hb0 := below1 w (Obj.cells #[Value.slice A n c] 69)
  have hge : (0 : Int) ≤ ((k + n : Nat) : Int) := by omega
  go_enter Try.func47, Try.ntmps47
  go_wp2_with fail
  refine (heldIntS_any A n c k S _ hn hk (fun b h => Nat.lt_of_lt_of_le (hS b h) hb0.size) (h.below hb0 hS)).mono ?_
  rintro e w1 ⟨rfl, rfl⟩
  go_wp2_with fail
  go_ret
  exact ⟨rfl, hb0⟩
end Go.Proofs.Ytfkaacfeikmabaa

namespace Go.Proofs.Ytfkaacfeikmabaa
open Go.RowKit

attribute [local go_sem ↓] Go.wp_at_zero Go.wp_at_succ

theorem Try.infoFile : (Try.prog.info? 69).map (fun i => (i.zero, i.size, i.bytes)) = some (some (.agg #[.slice none 0 0]), 1, 24) := by kernel_rfl

def zeros (n : Nat) : List Int := List.replicate n 0
theorem zeros_len (n : Nat) : (zeros n).length = n := by simp [zeros]
theorem RowB.ofZ {w : World} {q n : Nat} (h : Blk w q 3 (zrow #[.int .i64 0] n)) : RowB w q (zeros n) := by
  refine ⟨_, h, by rw [zeros_len, zrow_size1]; exact Nat.le_refl _, fun k hk => ?_⟩
  rw [zeros_len] at hk
  have h1 : geti (zeros n) k = 0 := by simp [zeros, geti, List.getD_eq_getElem?_getD, hk]
  rw [h1]
  show (zrow #[Value.int .i64 0] n)[k]? = some (Value.int .i64 0)
  unfold zrow madeCells
  simp [hk, Nat.mod_one]

/-- A file of six zeros for each of fs. -/
def FilesNew (w : World) (B : Nat) (fs : List Value) : Prop := ∀ u ∈ fs, ∃ q, u = .slice (some ⟨q, 0, none⟩) 6 6 ∧ RowB w q (zeros 6) ∧ B ≤ q

structure CoAt (w0 : World) (T : Nat) (A1 A2 : Option Addr) (n1 n2 c1 c2 qp : Nat) (fv : Value) (fs : List Value) (w : World) : Prop where
  below : Below w0.heap.size w0 w
  blk : Blk w T 135 #[.slice A1 n1 c1, .slice A2 n2 c2, .slice (some ⟨qp, 0, none⟩) n2 n2, fv]
  pcs : RowB w qp (zeros n2) ∧ w0.heap.size + 1 + 1 ≤ qp
  rows : w.ownsRow (w0.heap.size + 1 + 1) 69 1 fv fs.length fs
  files : FilesNew w (w0.heap.size + 1 + 1) fs
  lo : w0.heap.size + 1 + 1 ≤ T
  out : ∃ u1 u2 u3 u4, Blk w (w0.heap.size + 1) 135 #[u1, u2, u3, u4]
  box : Blk w w0.heap.size 31 #[.slice A1 n1 c1, .slice A2 n2 c2]

section
variable {w0 w w' w1 : World} {T n1 n2 c1 c2 qp B q : Nat} {A1 A2 : Option Addr} {fv : Value} {fs : List Value} {zs : List Int}
theorem Blk.grownR {k : Nat} {t : TypeId} {cs : Array Value} {r : Option Nat} (h : Blk w k t cs) (hg : w.grownBy w1 r) (hne : some k ≠ r) : Blk w1 k t cs := (hg.block k h.lt hne).trans h
theorem RowB.grown {v : Value} {n : Nat} {xs : List Value} (h : RowB w q zs) (hg : w.grownBy w1 v.ownBlock) (hv : w.ownsRow B 69 1 v n xs) : RowB w1 q zs := by
  obtain ⟨cs, h1, h2⟩ := h
  exact ⟨cs, (hg.block q h1.lt (blk_far h1 hv (by decide))).trans h1, h2⟩
theorem CoAt.alloc (h : CoAt w0 T A1 A2 n1 n2 c1 c2 qp fv fs w) (o : Obj) : CoAt w0 T A1 A2 n1 n2 c1 c2 qp fv fs (w.alloc o) :=
  ⟨h.below.alloc h.below.size o, h.blk.alloc o, ⟨h.pcs.1.below (below1 w o), h.pcs.2⟩, own_keep h.rows (fun b _ hlt => Below.heap_alloc w o b hlt), fun u hu => by obtain ⟨q, e, h1, h2⟩ := h.files u hu; exact ⟨q, e, h1.below (below1 w o), h2⟩, h.lo, h.out.imp fun _ => Exists.imp fun _ => Exists.imp fun _ => Exists.imp fun _ k => k.alloc o, h.box.alloc o⟩
theorem CoAt.drew (h : CoAt w0 T A1 A2 n1 n2 c1 c2 qp fv fs w) : CoAt w0 T A1 A2 n1 n2 c1 c2 qp fv fs w.drew := ⟨h.below.drew, h.blk, h.pcs, h.rows, h.files, h.lo, h.out, h.box⟩
theorem CoAt.cells (h : CoAt w0 T A1 A2 n1 n2 c1 c2 qp fv fs w) : w.cell? ⟨T, 2, none⟩ = some (.slice (some ⟨qp, 0, none⟩) n2 n2) ∧ w.cell? ⟨T, 3, none⟩ = some fv ∧ w.frozen? ⟨T, 3, none⟩ = false := ⟨h.blk.cell 2, h.blk.cell 3, h.blk.frozen 3⟩
theorem CoAt.grow {fv' : Value} (h : CoAt w0 T A1 A2 n1 n2 c1 c2 qp fv fs w) {u : Value} (hu : ∃ q, u = .slice (some ⟨q, 0, none⟩) 6 6 ∧ RowB w q (zeros 6) ∧ w0.heap.size + 1 + 1 ≤ q) {xs : List Value} (hxs : xs = fs ++ [u]) (ho : w1.ownsRow (w0.heap.size + 1 + 1) 69 1 fv' (fs.length + 1) xs) (hgr : w.grownBy w1 fv.ownBlock) :
    (w1.cell? ⟨T, 3, none⟩ = some fv ∧ w1.frozen? ⟨T, 3, none⟩ = false) ∧ CoAt w0 T A1 A2 n1 n2 c1 c2 qp fv' (fs ++ [u]) (w1.setCell ⟨T, 3, none⟩ fv') := by
  subst hxs
  have hlo := h.lo
  have hf : ∀ k, k < w0.heap.size + 1 + 1 → some k ≠ fv.ownBlock := fun _ hk => own_far h.rows hk
  have hB : Blk w1 T 135 _ := (hgr.block T h.blk.lt (blk_far h.blk h.rows (by decide))).trans h.blk
  have hlow : Below w0.heap.size w w1 := ⟨hgr.os, hgr.tape, hgr.output, hgr.size, fun k hk => hgr.block k (Nat.lt_of_lt_of_le hk h.below.size) (hf k (by omega))⟩
  have rfar : ∀ {q : Nat} {zs : List Int}, RowB w1 q zs → RowB (w1.setCell ⟨T, 3, none⟩ fv') q zs := fun {q zs} hr => by
    obtain ⟨cs, h1, h2⟩ := hr
    refine ⟨cs, h1.far (fun e => ?_) _, h2⟩
    have e : q = T := e
    subst e
    have h3 : w1.heap[q]? = some (.cells cs 3 (0, 0)) := h1
    have h4 : w1.heap[q]? = _ := hB
    rw [h3] at h4
    cases h4
  refine ⟨⟨hB.cell 3, hB.frozen 3⟩, ⟨(h.below.trans hlow).setCell (by show w0.heap.size ≤ T; omega) _, by have := hB.set_ 3 fv'; simpa using this, ⟨rfar (h.pcs.1.grown hgr h.rows), h.pcs.2⟩, own_setFar (by simpa using ho) (fun e => blk_far hB ho (by decide) e.symm) _, ?_, hlo, h.out.imp fun _ => Exists.imp fun _ => Exists.imp fun _ => Exists.imp fun _ k => (Blk.grownR k hgr (hf _ (by omega))).far (by show w0.heap.size + 1 ≠ T; omega) _, (Blk.grownR h.box hgr (hf _ (by omega))).far (by show w0.heap.size ≠ T; omega) _⟩⟩
  intro u' hu'
  rcases List.mem_append.1 hu' with h1 | h1
  · obtain ⟨q, e, hr, hq⟩ := h.files u' h1
    exact ⟨q, e, rfar (hr.grown hgr h.rows), hq⟩
  · rw [List.mem_singleton.1 h1]
    obtain ⟨q, e, hr, hq⟩ := hu
    exact ⟨q, e, rfar (hr.grown hgr h.rows), hq⟩
end

theorem RowB.heap {w w' : World} {q : Nat} {zs : List Int} (h : RowB w q zs) (hk : w'.heap[q]? = w.heap[q]?) : RowB w' q zs := by
  obtain ⟨cs, h1, h2⟩ := h
  exact ⟨cs, hk.trans h1, h2⟩
theorem CoAt.startA (w : World) (A1 A2 : Option Addr) (n1 n2 c1 c2 : Nat) : CoAt w (w.heap.size + 1 + 1 + 1) A1 A2 n1 n2 c1 c2 (w.heap.size + 1 + 1) (.slice none 0 0) [] (((((w.alloc (Obj.cells #[Value.slice A1 n1 c1, Value.slice A2 n2 c2] 31)).alloc (Obj.cells #[Value.slice none 0 0, Value.slice none 0 0, Value.slice none 0 0, Value.slice none 0 0] 135)).alloc (Obj.cells (zrow #[Value.int .i64 0] n2) 3)).alloc (Obj.cells #[Value.slice A1 n1 c1, Value.slice A2 n2 c2, Value.slice (some ⟨w.heap.size + 1 + 1, 0, none⟩) n2 n2, Value.slice none 0 0] 135)).drew) := by
  have hb := ((below2 w (Obj.cells #[Value.slice A1 n1 c1, Value.slice A2 n2 c2] 31) (Obj.cells #[Value.slice none 0 0, Value.slice none 0 0, Value.slice none 0 0, Value.slice none 0 0] 135)).alloc (by simp; omega) (Obj.cells (zrow #[Value.int .i64 0] n2) 3)).alloc (by simp; omega) (Obj.cells #[Value.slice A1 n1 c1, Value.slice A2 n2 c2, Value.slice (some ⟨w.heap.size + 1 + 1, 0, none⟩) n2 n2, Value.slice none 0 0] 135)
  have hZ := (Blk.new ((w.alloc (Obj.cells #[Value.slice A1 n1 c1, Value.slice A2 n2 c2] 31)).alloc (Obj.cells #[Value.slice none 0 0, Value.slice none 0 0, Value.slice none 0 0, Value.slice none 0 0] 135)) 3 (zrow #[Value.int .i64 0] n2)).alloc (Obj.cells #[Value.slice A1 n1 c1, Value.slice A2 n2 c2, Value.slice (some ⟨w.heap.size + 1 + 1, 0, none⟩) n2 n2, Value.slice none 0 0] 135)
  have hC := Blk.new (((w.alloc (Obj.cells #[Value.slice A1 n1 c1, Value.slice A2 n2 c2] 31)).alloc (Obj.cells #[Value.slice none 0 0, Value.slice none 0 0, Value.slice none 0 0, Value.slice none 0 0] 135)).alloc (Obj.cells (zrow #[Value.int .i64 0] n2) 3)) 135 #[Value.slice A1 n1 c1, Value.slice A2 n2 c2, Value.slice (some ⟨w.heap.size + 1 + 1, 0, none⟩) n2 n2, Value.slice none 0 0]
  have hN := ((Blk.new (w.alloc (Obj.cells #[Value.slice A1 n1 c1, Value.slice A2 n2 c2] 31)) 135 #[Value.slice none 0 0, Value.slice none 0 0, Value.slice none 0 0, Value.slice none 0 0]).alloc (Obj.cells (zrow #[Value.int .i64 0] n2) 3)).alloc (Obj.cells #[Value.slice A1 n1 c1, Value.slice A2 n2 c2, Value.slice (some ⟨w.heap.size + 1 + 1, 0, none⟩) n2 n2, Value.slice none 0 0] 135)
  simp only [World.size_alloc] at hC hZ hN
  exact ⟨hb.drew, hC, ⟨RowB.ofZ hZ, by omega⟩, ⟨rfl, .inl ⟨rfl, rfl⟩⟩, fun u hu => by simp at hu, by omega, ⟨_, _, _, _, hN⟩, (((Blk.new w 31 #[Value.slice A1 n1 c1, Value.slice A2 n2 c2]).alloc _).alloc _).alloc _⟩
theorem CoAt.startB (w : World) (A1 A2 : Option Addr) (n1 n2 c1 c2 : Nat) : CoAt w (w.heap.size + 1 + 1) A1 A2 n1 n2 c1 c2 (w.heap.size + 1 + 1 + 1) (.slice none 0 0) [] (((((w.alloc (Obj.cells #[Value.slice A1 n1 c1, Value.slice A2 n2 c2] 31)).alloc (Obj.cells #[Value.slice none 0 0, Value.slice none 0 0, Value.slice none 0 0, Value.slice none 0 0] 135)).alloc (Obj.cells #[Value.slice A1 n1 c1, Value.slice A2 n2 c2, Value.slice (some ⟨w.heap.size + 1 + 1 + 1, 0, none⟩) n2 n2, Value.slice none 0 0] 135)).alloc (Obj.cells (zrow #[Value.int .i64 0] n2) 3)).drew) := by
  have hb := ((below2 w (Obj.cells #[Value.slice A1 n1 c1, Value.slice A2 n2 c2] 31) (Obj.cells #[Value.slice none 0 0, Value.slice none 0 0, Value.slice none 0 0, Value.slice none 0 0] 135)).alloc (by simp; omega) (Obj.cells #[Value.slice A1 n1 c1, Value.slice A2 n2 c2, Value.slice (some ⟨w.heap.size + 1 + 1 + 1, 0, none⟩) n2 n2, Value.slice none 0 0] 135)).alloc (by simp; omega) (Obj.cells (zrow #[Value.int .i64 0] n2) 3)
  have hC := (Blk.new ((w.alloc (Obj.cells #[Value.slice A1 n1 c1, Value.slice A2 n2 c2] 31)).alloc (Obj.cells #[Value.slice none 0 0, Value.slice none 0 0, Value.slice none 0 0, Value.slice none 0 0] 135)) 135 #[Value.slice A1 n1 c1, Value.slice A2 n2 c2, Value.slice (some ⟨w.heap.size + 1 + 1 + 1, 0, none⟩) n2 n2, Value.slice none 0 0]).alloc (Obj.cells (zrow #[Value.int .i64 0] n2) 3)
  have hZ := Blk.new (((w.alloc (Obj.cells #[Value.slice A1 n1 c1, Value.slice A2 n2 c2] 31)).alloc (Obj.cells #[Value.slice none 0 0, Value.slice none 0 0, Value.slice none 0 0, Value.slice none 0 0] 135)).alloc (Obj.cells #[Value.slice A1 n1 c1, Value.slice A2 n2 c2, Value.slice (some ⟨w.heap.size + 1 + 1 + 1, 0, none⟩) n2 n2, Value.slice none 0 0] 135)) 3 (zrow #[Value.int .i64 0] n2)
  have hN := ((Blk.new (w.alloc (Obj.cells #[Value.slice A1 n1 c1, Value.slice A2 n2 c2] 31)) 135 #[Value.slice none 0 0, Value.slice none 0 0, Value.slice none 0 0, Value.slice none 0 0]).alloc (Obj.cells #[Value.slice A1 n1 c1, Value.slice A2 n2 c2, Value.slice (some ⟨w.heap.size + 1 + 1 + 1, 0, none⟩) n2 n2, Value.slice none 0 0] 135)).alloc (Obj.cells (zrow #[Value.int .i64 0] n2) 3)
  simp only [World.size_alloc] at hC hZ hN
  exact ⟨hb.drew, hC, ⟨RowB.ofZ hZ, by omega⟩, ⟨rfl, .inl ⟨rfl, rfl⟩⟩, fun u hu => by simp at hu, by omega, ⟨_, _, _, _, hN⟩, (((Blk.new w 31 #[Value.slice A1 n1 c1, Value.slice A2 n2 c2]).alloc _).alloc _).alloc _⟩

set_option maxRecDepth 100000 in
set_option maxHeartbeats 6400000 in
theorem commonStart_any (A1 A2 : Option Addr) (n1 n2 c1 c2 : Nat) (w : World) (hn : n2 ≤ 3) :
    Calls Try.prog 148 #[.agg #[.slice A1 n1 c1, .slice A2 n2 c2]] w fun e w' => ∃ (qp : Nat) (fv : Value) (fs : List Value), e = .returned (.agg #[.slice A1 n1 c1, .slice A2 n2 c2, .slice (some ⟨qp, 0, none⟩) n2 n2, fv]) ∧ fs.length = n2 ∧ (RowB w' qp (zeros n2) ∧ w.heap.size ≤ qp) ∧ w'.ownsRow w.heap.size 69 1 fv fs.length fs ∧ FilesNew w' w.heap.size fs ∧ Below w.heap.size w w' := by
  have hmk := make_ints n2 (by omega)
  have hm6 : ∀ W : World, (Instr.makeSlice 22 (.int .i64 6) (.int .i64 6)).run Try.prog W = .ok (.slice (some ⟨W.heap.size, 0, none⟩) 6 6) (W.alloc (.cells (zrow #[.int .i64 0] 6) 3)) := fun W => make_ints 6 (by omega) W
  obtain ⟨i2, hi2, hx0, hx1, hx2⟩ := info_parts Try.infoFile
  have hi2 := hide hi2
  have hbx := hide (Blk.new w 31 #[Value.slice A1 n1 c1, Value.slice A2 n2 c2])
  go_enter Try.func148, Try.ntmps148
  go_wp2_with fail
  go_cut [3] (fun s3 wx => ∃ T qp, s3 = .pointer (some ⟨T, 0, none⟩) ∧ CoAt w T A1 A2 n1 n2 c1 c2 qp (.slice none 0 0) [] wx)
  case first =>
    go_region
    all_goals
      go_wp2_with fail
      go_meet
      first
        | exact ⟨w.heap.size + 1 + 1 + 1, w.heap.size + 1 + 1, rfl, CoAt.startA w A1 A2 n1 n2 c1 c2⟩
        | exact ⟨w.heap.size + 1 + 1, w.heap.size + 1 + 1 + 1, rfl, CoAt.startB w A1 A2 n1 n2 c1 c2⟩
  case rest =>
    obtain ⟨T, qp, rfl, h0⟩ := hcut
    have b1 : wc.cell? ⟨w.heap.size, 1, none⟩ = some (.slice A2 n2 c2) := h0.box.cell 1
    have hl0 := h0.box.lt
    go_wp2_with fail
    go_loopw [13] (fun k wr => ∃ (fs : List Value) (fv : Value), k = .int .i64 fs.length ∧ fs.length ≤ n2 ∧ CoAt w T A1 A2 n1 n2 c1 c2 qp fv fs wr) (fun k _ => (n2 - intOf k).toNat)
    case atStart => exact ⟨[], _, rfl, Nat.zero_le _, h0⟩
    case round =>
      obtain ⟨fs, fv, rfl, hfl, h1⟩ := hrel
      have hs1 := h1.blk.lt
      have hbx1 := h1.box.lt
      obtain ⟨d0, d1, d2⟩ := h1.cells
      clear b1 h0
      by_cases hlt : fs.length < n2
      · have hlt' : (fs.length : Int) < (n2 : Int) := by omega
        have h2 := h1.drew
        have hlo := h1.lo
        have hnew : ((wr.drew.alloc (.cells (zrow #[.int .i64 0] 6) 3)).alloc (.cells #[.slice (some ⟨wr.heap.size, 0, none⟩) 6 6] 69)).heap[wr.heap.size + 1]? = some (.cells #[.slice (some ⟨wr.heap.size, 0, none⟩) 6 6] 69 (0, 0)) := by
          have := heap_alloc_new (wr.drew.alloc (.cells (zrow #[.int .i64 0] 6) 3)) (.cells #[.slice (some ⟨wr.heap.size, 0, none⟩) 6 6] 69)
          rw [World.size_alloc] at this
          exact this
        go_wp2_with fail
        go_region_law (first
          | (refine step_append_lies _ (by rfl) _ _ _ (by rfl) (w.heap.size + 1 + 1) 69 i2 _ 1 24 Try.underlying44 hi2.out hx0 hx1 hx2 rfl (by omega) fv fs.length fs (by rfl) ((h2.alloc (.cells (zrow #[.int .i64 0] 6) 3)).alloc _).rows _ 1 1 [.slice (some ⟨wr.heap.size, 0, none⟩) 6 6] (by rfl) ?hl (World.news_of_block hnew) ?h1 (by omega) ?h63 ?hby ?hb _ (by rfl) ?_
             case hl => rfl
             case h1 => simp [Value.oneCell']
             case h63 => (have : maxLen = 9223372036854775807 := rfl); omega
             case hby => omega
             case hb => simp; omega
             intro gg cap w4 hown hgrow hat hlt4
             obtain ⟨⟨g0, g1⟩, h3⟩ := CoAt.grow ((h2.alloc (.cells (zrow #[.int .i64 0] 6) 3)).alloc _) ⟨wr.heap.size, rfl, RowB.ofZ ((Blk.new wr.drew 3 (zrow #[.int .i64 0] 6)).alloc _), by omega⟩ rfl hown hgrow))
        all_goals
          go_wp2_with fail
          go_roundw
          case rel => exact ⟨_, _, by simp, by simp; omega, h3⟩
          case measure => simp [intOf]; omega
      · obtain hfe : fs.length = n2 := by omega
        obtain ⟨A5, c5, rfl, -⟩ := own_form h1.rows
        obtain ⟨u1, u2, u3, u4, ho⟩ := h1.out
        have o0 : wr.cell? ⟨w.heap.size + 1, 0, none⟩ = some u1 := ho.cell 0
        have o1 : wr.cell? ⟨w.heap.size + 1, 1, none⟩ = some u2 := ho.cell 1
        have o2 : wr.cell? ⟨w.heap.size + 1, 2, none⟩ = some u3 := ho.cell 2
        have o3 : wr.cell? ⟨w.heap.size + 1, 3, none⟩ = some u4 := ho.cell 3
        have t0 : wr.cell? ⟨T, 0, none⟩ = some (.slice A1 n1 c1) := h1.blk.cell 0
        have t1 : wr.cell? ⟨T, 1, none⟩ = some (.slice A2 n2 c2) := h1.blk.cell 1
        have z0 := ho.frozen 0
        have z1 := ho.frozen 1
        have z2 := ho.frozen 2
        have z3 := ho.frozen 3
        have hp := hide h1.pcs
        have hr := hide h1.rows
        have hf := hide h1.files
        have hb := hide h1.below
        clear h1 ho
        go_wp2_with fail
        have hkeep : ∀ (u1 u2 u3 u4 : Value) (k : Nat), k ≠ w.heap.size + 1 → ((((wr.setCell ⟨w.heap.size + 1, 0, none⟩ u1).setCell ⟨w.heap.size + 1, 1, none⟩ u2).setCell ⟨w.heap.size + 1, 2, none⟩ u3).setCell ⟨w.heap.size + 1, 3, none⟩ u4).heap[k]? = wr.heap[k]? := fun u1 u2 u3 u4 k hk =>
          (Below.heap_setCell _ _ _ k hk).trans ((Below.heap_setCell _ _ _ k hk).trans ((Below.heap_setCell _ _ _ k hk).trans (Below.heap_setCell _ _ _ k hk)))
        refine bodyPost_ret (v := .agg #[.slice A1 n1 c1, .slice A2 n2 c2, .slice (some ⟨qp, 0, none⟩) n2 n2, .slice A5 fs.length c5]) (by simp [results, Try.results148, go_sem, o0, o1, o2, o3, hfe]; done) rfl ⟨qp, _, fs, rfl, hfe, ⟨hp.out.1.heap (hkeep _ _ _ _ _ (by have := hp.out.2; omega)), by have := hp.out.2; omega⟩, own_base (own_keep hr.out (fun b hb' _ => hkeep _ _ _ _ _ (by omega))) (by omega), fun u hu => ?_, ?_⟩
        · obtain ⟨q, e, h1, h2⟩ := hf.out u hu
          exact ⟨q, e, h1.heap (hkeep _ _ _ _ _ (by omega)), by omega⟩
        · iterate 4 (refine Below.setCell ?_ (by show w.heap.size ≤ w.heap.size + 1; omega) _)
          exact hb.out
end Go.Proofs.Ytfkaacfeikmabaa

namespace Go.Proofs.Ytfkaacfeikmabaa
open Go.RowKit

attribute [local go_sem ↓] Go.wp_at_zero Go.wp_at_succ

structure CuAt (w0 : World) (T : Nat) (A1 A2 : Option Addr) (n1 n2 c1 c2 qp : Nat) (fv : Value) (rs : List RowD) (w : World) : Prop where
  below : Below w0.heap.size w0 w
  blk : Blk w T 135 #[.slice A1 n1 c1, .slice A2 n2 c2, .slice (some ⟨qp, 0, none⟩) n2 n2, fv]
  pcs : RowT 3 w qp (zerosS n2)
  up : RowsUp 69 w (w0.heap.size + 1 + 1 + 1 + 1) fv rs
  six : ∀ k, k < rs.length → (getr rs k).n = 6 ∧ (getr rs k).zs = zerosS 6
  pos : (w0.heap.size + 1 + 1 ≤ T ∧ T < w0.heap.size + 1 + 1 + 1 + 1) ∧ (w0.heap.size + 1 + 1 ≤ qp ∧ qp < w0.heap.size + 1 + 1 + 1 + 1) ∧ qp ≠ T
  out : ∃ u1 u2 u3 u4, Blk w (w0.heap.size + 1) 135 #[u1, u2, u3, u4]
  box : Blk w w0.heap.size 31 #[.slice A1 n1 c1, .slice A2 n2 c2]
section
variable {w0 w w' w1 : World} {T n1 n2 c1 c2 qp : Nat} {A1 A2 : Option Addr} {fv fv' : Value} {rs : List RowD}
theorem CoAt.of' (h : CoAt w0 T A1 A2 n1 n2 c1 c2 qp (.slice none 0 0) [] w) (hT : T < w0.heap.size + 1 + 1 + 1 + 1) (hq : qp < w0.heap.size + 1 + 1 + 1 + 1) (hne : qp ≠ T) : CuAt w0 T A1 A2 n1 n2 c1 c2 qp (.slice none 0 0) [] w :=
  ⟨h.below, h.blk, h.pcs.1, RowsUp.nil _ _ _, fun k hk => by simp at hk, ⟨⟨h.lo, hT⟩, ⟨h.pcs.2, hq⟩, hne⟩, h.out, h.box⟩
theorem CuAt.next (h : CuAt w0 T A1 A2 n1 n2 c1 c2 qp fv rs w) (hb : Below w.heap.size w w') : CuAt w0 T A1 A2 n1 n2 c1 c2 qp fv rs w' :=
  ⟨below_then h.below hb, h.blk.below hb h.blk.lt, h.pcs.below hb, h.up.next hb, h.six, h.pos, h.out.imp fun _ => Exists.imp fun _ => Exists.imp fun _ => Exists.imp fun _ k => k.below hb k.lt, h.box.below hb h.box.lt⟩
theorem CuAt.alloc (h : CuAt w0 T A1 A2 n1 n2 c1 c2 qp fv rs w) (o : Obj) : CuAt w0 T A1 A2 n1 n2 c1 c2 qp fv rs (w.alloc o) := h.next (below1 w o)
theorem CuAt.drew (h : CuAt w0 T A1 A2 n1 n2 c1 c2 qp fv rs w) : CuAt w0 T A1 A2 n1 n2 c1 c2 qp fv rs w.drew := h.next (Below.refl _ _).drew
theorem CuAt.cells (h : CuAt w0 T A1 A2 n1 n2 c1 c2 qp fv rs w) : w.cell? ⟨T, 2, none⟩ = some (.slice (some ⟨qp, 0, none⟩) n2 n2) ∧ w.cell? ⟨T, 3, none⟩ = some fv ∧ w.frozen? ⟨T, 3, none⟩ = false := ⟨h.blk.cell 2, h.blk.cell 3, h.blk.frozen 3⟩
theorem CuAt.grow (h : CuAt w0 T A1 A2 n1 n2 c1 c2 qp fv rs w) {q : Nat} (hq : RowT 3 w q (zerosS 6)) (hlo : ∀ k, k < rs.length → (getr rs k).hi ≤ q) (hq2 : w0.heap.size + 1 + 1 + 1 + 1 ≤ q) {xs : List Value} (hxs : xs = rs.map RowD.val ++ [.slice (some ⟨q, 0, none⟩) 6 6]) (ho : w1.ownsRow (w0.heap.size + 1 + 1 + 1 + 1) 69 1 fv' (rs.length + 1) xs) (hg : w.grownBy w1 fv.ownBlock) :
    (w1.cell? ⟨T, 3, none⟩ = some fv ∧ w1.frozen? ⟨T, 3, none⟩ = false) ∧ CuAt w0 T A1 A2 n1 n2 c1 c2 qp fv' (rs ++ [zrowD q 6]) (w1.setCell ⟨T, 3, none⟩ fv') := by
  obtain ⟨⟨p1, p2⟩, ⟨p3, p4⟩, p5⟩ := h.pos
  have hf : ∀ k, k < w0.heap.size + 1 + 1 + 1 + 1 → some k ≠ fv.ownBlock := fun _ hk => own_far h.up.own hk
  have hlt4 : ∀ {k : Nat} {t : TypeId} {cs : Array Value}, k < w0.heap.size + 1 + 1 + 1 + 1 → Blk w k t cs → Blk w1 k t cs := fun hk hb => (hg.block _ hb.lt (hf _ hk)).trans hb
  have hB := hlt4 p2 h.blk
  have hlow : Below w0.heap.size w w1 := ⟨hg.os, hg.tape, hg.output, hg.size, fun k hk => hg.block k (Nat.lt_of_lt_of_le hk h.below.size) (hf k (by omega))⟩
  have hup := h.up.more (by decide) (zrowD_at hq) hq2 hlo (by exact hq.lt) hxs ho hg
  refine ⟨⟨hB.cell 3, hB.frozen 3⟩, ⟨(h.below.trans hlow).setCell (by show w0.heap.size ≤ T; omega) _, by have := hB.set_ 3 fv'; simpa using this, ?_, hup.setCell (by show T < w0.heap.size + 1 + 1 + 1 + 1; omega) _, fun k hk => ?_, h.pos, h.out.imp fun _ => Exists.imp fun _ => Exists.imp fun _ => Exists.imp fun _ k => (hlt4 (by omega) k).far (by show w0.heap.size + 1 ≠ T; omega) _, (hlt4 (by omega) h.box).far (by show w0.heap.size ≠ T; omega) _⟩⟩
  · obtain ⟨cs, h1, h2⟩ := h.pcs
    exact ⟨cs, (hlt4 p4 h1).far (by show qp ≠ T; exact p5) _, h2⟩
  · rcases getr_snoc rs _ k hk with ⟨hk', e⟩ | ⟨-, e⟩
    · rw [e]; exact h.six k hk'
    · rw [e]; exact ⟨rfl, rfl⟩
end

set_option maxRecDepth 100000 in
set_option maxHeartbeats 6400000 in
theorem commonStart_up (A1 A2 : Option Addr) (n1 n2 c1 c2 : Nat) (w : World) (hn : n2 ≤ 3) :
    Calls Try.prog 148 #[.agg #[.slice A1 n1 c1, .slice A2 n2 c2]] w fun e w' => ∃ (qp : Nat) (A5 : Option Addr) (c5 : Nat) (rs : List RowD), e = .returned (.agg #[.slice A1 n1 c1, .slice A2 n2 c2, .slice (some ⟨qp, 0, none⟩) n2 n2, .slice A5 n2 c5]) ∧ rs.length = n2 ∧ (∀ k, k < rs.length → (getr rs k).n = 6 ∧ (getr rs k).zs = zerosS 6) ∧ (RowT 3 w' qp (zerosS n2) ∧ w.heap.size + 1 + 1 ≤ qp ∧ qp < w.heap.size + 1 + 1 + 1 + 1) ∧ RowsI 69 3 w' (w.heap.size + 1 + 1 + 1 + 1) w'.heap.size A5 rs ∧ w.heap.size + 1 + 1 + 1 + 1 ≤ w'.heap.size ∧ Below w.heap.size w w' := by
  have hmk := make_ints n2 (by omega)
  have hm6 : ∀ W : World, (Instr.makeSlice 22 (.int .i64 6) (.int .i64 6)).run Try.prog W = .ok (.slice (some ⟨W.heap.size, 0, none⟩) 6 6) (W.alloc (.cells (zrow #[.int .i64 0] 6) 3)) := fun W => make_ints 6 (by omega) W
  obtain ⟨i2, hi2, hx0, hx1, hx2⟩ := info_parts Try.infoFile
  have hi2 := hide hi2
  have hbx := hide (Blk.new w 31 #[Value.slice A1 n1 c1, Value.slice A2 n2 c2])
  go_enter Try.func148, Try.ntmps148
  go_wp2_with fail
  go_cut [3] (fun s3 wx => ∃ T qp, s3 = .pointer (some ⟨T, 0, none⟩) ∧ CuAt w T A1 A2 n1 n2 c1 c2 qp (.slice none 0 0) [] wx)
  case first =>
    go_region
    all_goals
      go_wp2_with fail
      go_meet
      first
        | exact ⟨w.heap.size + 1 + 1 + 1, w.heap.size + 1 + 1, rfl, (CoAt.startA w A1 A2 n1 n2 c1 c2).of' (by omega) (by omega) (by omega)⟩
        | exact ⟨w.heap.size + 1 + 1, w.heap.size + 1 + 1 + 1, rfl, (CoAt.startB w A1 A2 n1 n2 c1 c2).of' (by omega) (by omega) (by omega)⟩
  case rest =>
    obtain ⟨T, qp, rfl, h0⟩ := hcut
    have b1 : wc.cell? ⟨w.heap.size, 1, none⟩ = some (.slice A2 n2 c2) := h0.box.cell 1
    have hl0 := h0.box.lt
    go_wp2_with fail
    go_loopw [13] (fun k wr => ∃ (rs : List RowD) (fv : Value), k = .int .i64 rs.length ∧ rs.length ≤ n2 ∧ CuAt w T A1 A2 n1 n2 c1 c2 qp fv rs wr) (fun k _ => (n2 - intOf k).toNat)
    case atStart => exact ⟨[], _, rfl, Nat.zero_le _, h0⟩
    case round =>
      obtain ⟨rs, fv, rfl, hfl, h1⟩ := hrel
      have hs1 := h1.blk.lt
      have hbx1 := h1.box.lt
      obtain ⟨d0, d1, d2⟩ := h1.cells
      clear b1 h0
      by_cases hlt : rs.length < n2
      · have hlt' : (rs.length : Int) < (n2 : Int) := by omega
        have h2 := h1.drew
        have hz9 : w.heap.size + 1 + 1 + 1 + 1 ≤ wr.heap.size := by have := h1.blk.lt; have := h1.pcs.lt; have := h1.pos; omega
        have hnew : ((wr.drew.alloc (.cells (zrow #[.int .i64 0] 6) 3)).alloc (.cells #[.slice (some ⟨wr.heap.size, 0, none⟩) 6 6] 69)).heap[wr.heap.size + 1]? = some (.cells #[.slice (some ⟨wr.heap.size, 0, none⟩) 6 6] 69 (0, 0)) := by
          have := heap_alloc_new (wr.drew.alloc (.cells (zrow #[.int .i64 0] 6) 3)) (.cells #[.slice (some ⟨wr.heap.size, 0, none⟩) 6 6] 69)
          rw [World.size_alloc] at this
          exact this
        go_wp2_with fail
        go_region_law (first
          | (refine step_append_lies _ (by rfl) _ _ _ (by rfl) (w.heap.size + 1 + 1 + 1 + 1) 69 i2 _ 1 24 Try.underlying44 hi2.out hx0 hx1 hx2 rfl (by omega) fv rs.length (rs.map RowD.val) (by rfl) ((h2.alloc (.cells (zrow #[.int .i64 0] 6) 3)).alloc _).up.own _ 1 1 [.slice (some ⟨wr.heap.size, 0, none⟩) 6 6] (by rfl) ?hl (World.news_of_block hnew) ?h1 (by omega) ?h63 ?hby ?hb _ (by rfl) ?_
             case hl => rfl
             case h1 => simp [Value.oneCell']
             case h63 => (have : maxLen = 9223372036854775807 := rfl); omega
             case hby => omega
             case hb => simp; omega
             intro gg cap w4 hown hgrow hat hlt4
             obtain ⟨⟨g0, g1⟩, h3⟩ := CuAt.grow ((h2.alloc (.cells (zrow #[.int .i64 0] 6) 3)).alloc _) (rowT_zeros ((Blk.new wr.drew 3 (zrow #[.int .i64 0] 6)).alloc _)) (fun k hk => (h1.up.rng k hk).2) (by exact hz9) rfl hown hgrow))
        all_goals
          go_wp2_with fail
          go_roundw
          case rel => exact ⟨_, _, by simp, by simp; omega, h3⟩
          case measure => simp [intOf]; omega
      · obtain hfe : rs.length = n2 := by omega
        obtain ⟨A5, c5, rfl, hrI⟩ := h1.up.toI (Nat.le_refl _)
        obtain ⟨u1, u2, u3, u4, ho⟩ := h1.out
        have o0 : wr.cell? ⟨w.heap.size + 1, 0, none⟩ = some u1 := ho.cell 0
        have o1 : wr.cell? ⟨w.heap.size + 1, 1, none⟩ = some u2 := ho.cell 1
        have o2 : wr.cell? ⟨w.heap.size + 1, 2, none⟩ = some u3 := ho.cell 2
        have o3 : wr.cell? ⟨w.heap.size + 1, 3, none⟩ = some u4 := ho.cell 3
        have t0 : wr.cell? ⟨T, 0, none⟩ = some (.slice A1 n1 c1) := h1.blk.cell 0
        have t1 : wr.cell? ⟨T, 1, none⟩ = some (.slice A2 n2 c2) := h1.blk.cell 1
        have z0 := ho.frozen 0
        have z1 := ho.frozen 1
        have z2 := ho.frozen 2
        have z3 := ho.frozen 3
        have hp := hide h1.pcs
        have h6 := hide h1.six
        have hpos := hide h1.pos
        have hr := hide hrI
        have hb := hide h1.below
        have hz4 : w.heap.size + 1 + 1 ≤ wr.heap.size := by have := h1.blk.lt; have := h1.pos.1.1; omega
        have hz5 : w.heap.size + 1 + 1 + 1 + 1 ≤ wr.heap.size := by have := h1.blk.lt; have := h1.pcs.lt; have := h1.pos; omega
        clear h1 ho hrI
        go_wp2_with fail
        have hkeep : ∀ (u1 u2 u3 u4 : Value) (k : Nat), k ≠ w.heap.size + 1 → ((((wr.setCell ⟨w.heap.size + 1, 0, none⟩ u1).setCell ⟨w.heap.size + 1, 1, none⟩ u2).setCell ⟨w.heap.size + 1, 2, none⟩ u3).setCell ⟨w.heap.size + 1, 3, none⟩ u4).heap[k]? = wr.heap[k]? := fun u1 u2 u3 u4 k hk =>
          (Below.heap_setCell _ _ _ k hk).trans ((Below.heap_setCell _ _ _ k hk).trans ((Below.heap_setCell _ _ _ k hk).trans (Below.heap_setCell _ _ _ k hk)))
        refine bodyPost_ret (v := .agg #[.slice A1 n1 c1, .slice A2 n2 c2, .slice (some ⟨qp, 0, none⟩) n2 n2, .slice A5 n2 c5]) (by simp [results, Try.results148, go_sem, o0, o1, o2, o3, hfe]; done) rfl ⟨qp, A5, c5, rs, rfl, hfe, h6.out, ⟨hp.out.heap (hkeep _ _ _ _ _ (by have := hpos.out; omega)), hpos.out.2.1.1, hpos.out.2.1.2⟩, ?_, ?_, ?_⟩
        · have hsz : ∀ (u1 u2 u3 u4 : Value), ((((wr.setCell ⟨w.heap.size + 1, 0, none⟩ u1).setCell ⟨w.heap.size + 1, 1, none⟩ u2).setCell ⟨w.heap.size + 1, 2, none⟩ u3).setCell ⟨w.heap.size + 1, 3, none⟩ u4).heap.size = wr.heap.size := fun _ _ _ _ => by simp
          rw [hsz]
          exact hr.out.keep (fun b hb1 _ _ => hkeep _ _ _ _ b (by omega))
        · simp only [World.size_setCell]
          exact hz5
        · iterate 4 (refine Below.setCell ?_ (by show w.heap.size ≤ w.heap.size + 1; omega) _)
          exact hb.out
end Go.Proofs.Ytfkaacfeikmabaa
