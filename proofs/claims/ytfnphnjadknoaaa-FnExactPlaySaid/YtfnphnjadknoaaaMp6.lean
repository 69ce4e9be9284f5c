/- Jobs and rows of numbers of one's own, each row in a block with a label of its own; the laws' copies of them. -/
import Derived.Test.YtfnphnjadknoaaaMp0
import Derived.Test.YtfnphnjadknoaaaMp2
import Derived.Test.YtfnphnjadknoaaaMp5
namespace Go.Proofs.Ytfnphnjadknoaaa
open Go.RowKit

def gJob (l : List JobD) (kv : Nat → Value) : Nat → Value := fun j => if j % 2 = 0 then .int .i64 (getj l (j / 2)).v else kv (j / 2)
theorem gJob_v (l : List JobD) (kv : Nat → Value) (k : Nat) : gJob l kv (k * 2) = .int .i64 (getj l k).v := by
  unfold gJob
  rw [if_pos (by omega), show k * 2 / 2 = k by omega]
theorem gJob_k (l : List JobD) (kv : Nat → Value) (k : Nat) : gJob l kv (k * 2 + 1) = kv k := by
  unfold gJob
  rw [if_neg (by omega), show (k * 2 + 1) / 2 = k by omega]
structure JobsO (w : World) (f : Nat → Nat) (B : Nat) (v : Value) (l : List JobD) (kv : Nat → Value) : Prop where
  heads : Sl 42 2 w f 1 B v l.length (gJob l kv)
  each : ∀ k, k < l.length → Sl 3 1 w f (8 + k * 2) B (kv k) (getj l k).ks.length (gI (getj l k).ks)
structure RowsO (w : World) (f : Nat → Nat) (B : Nat) (v : Value) (rs : List (List Int)) (rv : Nat → Value) : Prop where
  heads : Sl 35 1 w f 2 B v rs.length rv
  each : ∀ k, k < rs.length → Sl 3 1 w f (9 + k * 2) B (rv k) (getq rs k).length (gI (getq rs k))
section
variable {w w' : World} {f f' : Nat → Nat} {B B' : Nat} {v : Value} {l : List JobD} {rs : List (List Int)} {kv rv : Nat → Value}
theorem JobsO.keep (h : JobsO w f B v l kv) (hk : ∀ b, (f b = 1 ∨ (8 ≤ f b ∧ f b % 2 = 0)) → B ≤ b → b < w.heap.size → w'.heap[b]? = w.heap[b]?) : JobsO w' f B v l kv :=
  ⟨h.heads.keep (fun b hf => hk b (.inl hf)), fun k hl => (h.each k hl).keep (fun b hf => hk b (.inr (by omega)))⟩
theorem RowsO.keep (h : RowsO w f B v rs rv) (hk : ∀ b, (f b = 2 ∨ (9 ≤ f b ∧ f b % 2 = 1)) → B ≤ b → b < w.heap.size → w'.heap[b]? = w.heap[b]?) : RowsO w' f B v rs rv :=
  ⟨h.heads.keep (fun b hf => hk b (.inl hf)), fun k hl => (h.each k hl).keep (fun b hf => hk b (.inr (by omega)))⟩
theorem JobsO.next (h : JobsO w f B v l kv) (hb : Below w.heap.size w w') : JobsO w' f B v l kv := h.keep (fun b _ _ hl => hb.block b hl)
theorem RowsO.next (h : RowsO w f B v rs rv) (hb : Below w.heap.size w w') : RowsO w' f B v rs rv := h.keep (fun b _ _ hl => hb.block b hl)
theorem JobsO.relab (h : JobsO w f B v l kv) (hf : ∀ b, b < w.heap.size → f' b = f b) : JobsO w f' B v l kv := ⟨h.heads.relab hf, fun k hk => (h.each k hk).relab hf⟩
theorem RowsO.relab (h : RowsO w f B v rs rv) (hf : ∀ b, b < w.heap.size → f' b = f b) : RowsO w f' B v rs rv := ⟨h.heads.relab hf, fun k hk => (h.each k hk).relab hf⟩
theorem JobsO.base (h : JobsO w f B v l kv) (hB : B' ≤ B) : JobsO w f B' v l kv := ⟨h.heads.base hB, fun k hk => (h.each k hk).base hB⟩
theorem RowsO.base (h : RowsO w f B v rs rv) (hB : B' ≤ B) : RowsO w f B' v rs rv := ⟨h.heads.base hB, fun k hk => (h.each k hk).base hB⟩
theorem JobsO.form (h : JobsO w f B v l kv) : ∃ A c, v = .slice A l.length c := h.heads.form
theorem JobsO.at_ (h : JobsO w f B v l kv) {A : Option Addr} {n c : Nat} (hv : v = .slice A n c) : JobsAt w (fun b => B ≤ b ∧ b < w.heap.size) A l := by
  refine ⟨h.heads.le, fun hp => ?_⟩
  obtain ⟨q, off, c', e, h3, h4, h5, h6⟩ := h.heads.at_ (k := 0) (by omega)
  rw [hv] at e
  cases e
  refine ⟨q, off, rfl, ⟨h4, h5⟩, fun k hk => ?_⟩
  have a1 := (h6 (k * 2) (by omega)).1
  have a2 := (h6 (k * 2 + 1) (by omega)).1
  rw [gJob_v] at a1
  rw [gJob_k] at a2
  obtain ⟨A', c'', e', hc⟩ := (h.each k hk).formC
  refine ⟨a1, A', c'', ?_, hc, ((h.each k hk).ints e').more (fun _ h => h.2)⟩
  rw [← e', ← a2, Nat.add_assoc]
theorem RowsO.at_ (h : RowsO w f B v rs rv) {A : Option Addr} {n c : Nat} (hv : v = .slice A n c) : DqAt w (fun b => B ≤ b ∧ b < w.heap.size) A rs := by
  refine ⟨h.heads.le, fun hp => ?_⟩
  obtain ⟨q, off, c', e, h3, h4, h5, h6⟩ := h.heads.at_ (k := 0) (by omega)
  rw [hv] at e
  cases e
  refine ⟨q, off, rfl, ⟨h4, h5⟩, fun k hk => ?_⟩
  have a1 := (h6 k (by omega)).1
  obtain ⟨A', c'', e', hc⟩ := (h.each k hk).formC
  exact ⟨A', c'', by rw [← e']; exact a1, hc, ((h.each k hk).ints e').more (fun _ h => h.2)⟩
theorem JobsO.atO (h : JobsO w f B v l kv) {A : Option Addr} {n c : Nat} (hv : v = .slice A n c) : JobsAt w (Old w.heap.size) A l := (h.at_ hv).more (fun _ h => h.2)
theorem RowsO.atO (h : RowsO w f B v rs rv) {A : Option Addr} {n c : Nat} (hv : v = .slice A n c) : DqAt w (Old w.heap.size) A rs := (h.at_ hv).more (fun _ h => h.2)
theorem Sl.of_rowB {q l : Nat} {zs : List Int} (h : RowB w q zs) (hf : f q = l) (hB : B ≤ q) (hn : zs.length ≤ 9223372036854775807) : Sl 3 1 w f l B (.slice (some ⟨q, 0, none⟩) zs.length zs.length) zs.length (gI zs) := by
  obtain ⟨cs, h1, h2, h3⟩ := h
  exact .new h1 hf hB hn (by omega) (fun k hk => h3 k (by omega))
end

set_option maxRecDepth 100000 in
set_option maxHeartbeats 1600000 in
theorem toJob_any (v : Int) (A : Option Addr) (zs : List Int) (c : Nat) (S : Nat → Prop) (w : World) (hn : zs.length ≤ 1048576) (hS : ∀ b, S b → b < w.heap.size) (ha : IntsAt w S A zs) :
    Calls Try.prog 76 #[.agg #[.int .i64 v, .slice A zs.length c]] w fun e w' => ∃ q, e = .returned (.agg #[.int .i64 v, .slice (some ⟨q, 0, none⟩) zs.length zs.length]) ∧ w.heap.size ≤ q ∧ RowB w' q zs ∧ Below w.heap.size w w' := by
  have hb3 := (below2 w (Obj.cells #[.int .i64 v, .slice A zs.length c] 107) (Obj.cells #[.int .i64 0, .slice none 0 0] 42)).alloc (by simp; omega) (Obj.cells #[.int .i64 v, .slice none 0 0] 42)
  have hR := (Blk.new (w.alloc (Obj.cells #[.int .i64 v, .slice A zs.length c] 107)) 42 #[.int .i64 0, .slice none 0 0]).alloc (Obj.cells #[.int .i64 v, .slice none 0 0] 42)
  have hX := Blk.new ((w.alloc (Obj.cells #[.int .i64 v, .slice A zs.length c] 107)).alloc (Obj.cells #[.int .i64 0, .slice none 0 0] 42)) 42 #[.int .i64 v, .slice none 0 0]
  simp only [World.size_alloc] at hR hX
  replace hR := hide hR
  replace hX := hide hX
  go_enter Try.func76, Try.ntmps76
  go_wp2_with fail
  refine (toIntS_row A zs c S _ hn (fun b h => Nat.lt_of_lt_of_le (hS b h) hb3.size) (ha.below hb3 hS)).mono ?_
  rintro e w1 ⟨rfl, hl, hb1⟩
  have hR1 := hR.out.below hb1 (by simp)
  have hX1 := hX.out.below hb1 (by simp)
  have hlt := hX1.lt
  have r0 := hR1.cell 0
  have r1 := hR1.cell 1
  have x0 := hX1.cell 0
  have x1 := hX1.cell 1
  have y0 := hR1.frozen 0
  have y1 := hR1.frozen 1
  have z1 := hX1.frozen 1
  simp only [List.getElem?_toArray, List.getElem?_cons_zero, List.getElem?_cons_succ] at r0 r1 x0 x1
  have hB := hide (below_then hb3 hb1)
  replace hl := hide hl
  clear hR1 hX1 hb1 hb3
  go_wp2_with fail
  refine bodyPost_ret (v := .agg #[.int .i64 v, .slice (some ⟨w.heap.size + 1 + 1 + 1, 0, none⟩) zs.length zs.length]) (by simp [results, Try.results76, go_sem, r0, r1]; done) rfl ⟨w.heap.size + 1 + 1 + 1, rfl, by omega, ?_, ?_⟩
  · obtain ⟨ds, h1, h2⟩ := hl.out
    simp only [World.size_alloc] at h1
    refine ⟨ds, ?_, h2⟩
    iterate 3 (refine Blk.far ?_ (by first | (show w.heap.size + 1 + 1 + 1 ≠ w.heap.size + 1 + 1; omega) | (show w.heap.size + 1 + 1 + 1 ≠ w.heap.size + 1; omega)) _)
    exact h1
  · iterate 3 (refine Below.setCell ?_ (by first | (show w.heap.size ≤ w.heap.size + 1 + 1; omega) | (show w.heap.size ≤ w.heap.size + 1; omega)) _)
    exact hB.out

set_option maxRecDepth 100000 in
set_option maxHeartbeats 1600000 in
theorem toRow_any (A : Option Addr) (zs : List Int) (c : Nat) (S : Nat → Prop) (w : World) (hn : zs.length ≤ 1048576) (hS : ∀ b, S b → b < w.heap.size) (ha : IntsAt w S A zs) :
    Calls Try.prog 119 #[.agg #[.slice A zs.length c]] w fun e w' => ∃ q, e = .returned (.agg #[.slice (some ⟨q, 0, none⟩) zs.length zs.length]) ∧ w.heap.size ≤ q ∧ RowB w' q zs ∧ Below w.heap.size w w' := by
  have hb3 := (below2 w (Obj.cells #[.slice A zs.length c] 145) (Obj.cells #[.slice none 0 0] 35)).alloc (by simp; omega) (Obj.cells #[.slice none 0 0] 35)
  have hR := (Blk.new (w.alloc (Obj.cells #[.slice A zs.length c] 145)) 35 #[.slice none 0 0]).alloc (Obj.cells #[.slice none 0 0] 35)
  have hX := Blk.new ((w.alloc (Obj.cells #[.slice A zs.length c] 145)).alloc (Obj.cells #[.slice none 0 0] 35)) 35 #[.slice none 0 0]
  simp only [World.size_alloc] at hR hX
  replace hR := hide hR
  replace hX := hide hX
  go_enter Try.func119, Try.ntmps119
  go_wp2_with fail
  refine (toIntS_row A zs c S _ hn (fun b h => Nat.lt_of_lt_of_le (hS b h) hb3.size) (ha.below hb3 hS)).mono ?_
  rintro e w1 ⟨rfl, hl, hb1⟩
  have hR1 := hR.out.below hb1 (by simp)
  have hX1 := hX.out.below hb1 (by simp)
  have hlt := hX1.lt
  have r0 := hR1.cell 0
  have x0 := hX1.cell 0
  have y0 := hR1.frozen 0
  have z0 := hX1.frozen 0
  simp only [List.getElem?_toArray, List.getElem?_cons_zero] at r0 x0
  have hB := hide (below_then hb3 hb1)
  replace hl := hide hl
  clear hR1 hX1 hb1 hb3
  go_wp2_with fail
  refine bodyPost_ret (v := .agg #[.slice (some ⟨w.heap.size + 1 + 1 + 1, 0, none⟩) zs.length zs.length]) (by simp [results, Try.results119, go_sem, r0]; done) rfl ⟨w.heap.size + 1 + 1 + 1, rfl, by omega, ?_, ?_⟩
  · obtain ⟨ds, h1, h2⟩ := hl.out
    simp only [World.size_alloc] at h1
    refine ⟨ds, ?_, h2⟩
    iterate 2 (refine Blk.far ?_ (by first | (show w.heap.size + 1 + 1 + 1 ≠ w.heap.size + 1 + 1; omega) | (show w.heap.size + 1 + 1 + 1 ≠ w.heap.size + 1; omega)) _)
    exact h1
  · iterate 2 (refine Below.setCell ?_ (by first | (show w.heap.size ≤ w.heap.size + 1 + 1; omega) | (show w.heap.size ≤ w.heap.size + 1; omega)) _)
    exact hB.out

theorem Try.infoJobT : (Try.prog.info? 42).map (fun i => (i.zero, i.size, i.bytes)) = some (some (.agg #[.int .i64 0, .slice none 0 0]), 2, 32) := by kernel_rfl
theorem Try.infoRowT : (Try.prog.info? 35).map (fun i => (i.zero, i.size, i.bytes)) = some (some (.agg #[.slice none 0 0]), 1, 24) := by kernel_rfl
theorem make_jobs (n : Nat) (hn : n ≤ 1048576) (W : World) : (Instr.makeSlice 23 (.int .i64 (n : Int)) (.int .i64 (n : Int))).run Try.prog W = .ok (.slice (some ⟨W.heap.size, 0, none⟩) n n) (W.alloc (.cells (zrow #[.int .i64 0, .slice none 0 0] (n * 2)) 42)) := by
  obtain ⟨i0, hi, hz0, hz1, hz2⟩ := info_parts Try.infoJobT
  have hr := run_make (P := Try.prog) W 23 42 i0 _ Try.underlying23 hi hz0 .i64 .i64 n n (by omega) (Int.le_refl _) (by rw [hz2]; omega) (by omega)
  simp only [Int.toNat_natCast, hz1] at hr
  exact hr
theorem make_rows (n : Nat) (hn : n ≤ 1048576) (W : World) : (Instr.makeSlice 24 (.int .i64 (n : Int)) (.int .i64 (n : Int))).run Try.prog W = .ok (.slice (some ⟨W.heap.size, 0, none⟩) n n) (W.alloc (.cells (zrow #[.slice none 0 0] n) 35)) := by
  obtain ⟨i0, hi, hz0, hz1, hz2⟩ := info_parts Try.infoRowT
  have hr := run_make (P := Try.prog) W 24 35 i0 _ Try.underlying24 hi hz0 .i64 .i64 n n (by omega) (Int.le_refl _) (by rw [hz2]; omega) (by omega)
  simp only [Int.toNat_natCast, hz1, Nat.mul_one] at hr
  exact hr
theorem zrow_get2 (a b : Value) (n m : Nat) (h : m < n) : (zrow #[a, b] n)[m]? = some (if m % 2 = 0 then a else b) := by
  unfold zrow madeCells
  rw [Array.getElem?_map, Array.getElem?_range, if_pos h]
  have : m % 2 = 0 ∨ m % 2 = 1 := by omega
  rcases this with e | e <;> simp [e]

def gJobTo (l : List JobD) (kv : Nat → Value) (k : Nat) : Nat → Value := fun j => if j < k * 2 then gJob l kv j else (if j % 2 = 0 then .int .i64 0 else .slice none 0 0)
def gRowTo (rv : Nat → Value) (k : Nat) : Nat → Value := fun j => if j < k then rv j else .slice none 0 0
def updV (kv : Nat → Value) (k : Nat) (u : Value) : Nat → Value := fun j => if j = k then u else kv j
theorem updV_at (kv : Nat → Value) (k : Nat) (u : Value) : updV kv k u k = u := if_pos rfl
theorem updV_far {kv : Nat → Value} {k j : Nat} {u : Value} (h : j ≠ k) : updV kv k u j = kv j := if_neg h
theorem gJobTo_succ {l : List JobD} {kv : Nat → Value} {k j : Nat} {u : Value} : gJobTo l (updV kv k u) (k + 1) j = if j = k * 2 + 1 then u else if j = k * 2 then .int .i64 (getj l k).v else gJobTo l kv k j := by
  unfold gJobTo
  by_cases h1 : j = k * 2 + 1
  · rw [if_pos h1, if_pos (by omega), h1, gJob_k, updV_at]
  · rw [if_neg h1]
    by_cases h2 : j = k * 2
    · rw [if_pos h2, if_pos (by omega), h2, gJob_v]
    · rw [if_neg h2]
      by_cases h3 : j < k * 2
      · rw [if_pos h3, if_pos (by omega)]
        unfold gJob
        by_cases h4 : j % 2 = 0
        · rw [if_pos h4, if_pos h4]
        · rw [if_neg h4, if_neg h4, updV_far (by omega)]
      · rw [if_neg h3, if_neg (by omega)]
theorem gRowTo_succ {rv : Nat → Value} {k j : Nat} {u : Value} : gRowTo (updV rv k u) (k + 1) j = if j = k then u else gRowTo rv k j := by
  unfold gRowTo
  by_cases h1 : j = k
  · rw [if_pos h1, if_pos (by omega), h1, updV_at]
  · rw [if_neg h1]
    by_cases h3 : j < k
    · rw [if_pos h3, if_pos (by omega), updV_far h1]
    · rw [if_neg h3, if_neg (by omega)]

set_option maxRecDepth 100000 in
set_option maxHeartbeats 3200000 in
theorem toJobS_any (f0 : Nat → Nat) (A : Option Addr) (l : List JobD) (c : Nat) (S : Nat → Prop) (w : World) (hn2 : l.length ≤ 1048576) (hsz : ∀ k, (getj l k).ks.length ≤ 1048576) (hS : ∀ b, S b → b < w.heap.size) (ha : JobsAt w S A l) :
    Calls Try.prog 36 #[.slice A l.length c] w fun e w' => ∃ v f kv, e = .returned v ∧ JobsO w' f w.heap.size v l kv ∧ Below w.heap.size w w' ∧ ∀ b, b < w.heap.size → f b = f0 b := by
  have hmk := make_jobs l.length hn2
  have hX := Blk.new w 42 (zrow #[.int .i64 0, .slice none 0 0] (l.length * 2))
  have hS0 := hide (show Sl 42 2 (w.alloc (.cells (zrow #[.int .i64 0, .slice none 0 0] (l.length * 2)) 42)) (lab f0 w.heap.size 1) 1 w.heap.size (.slice (some ⟨w.heap.size, 0, none⟩) l.length l.length) l.length (gJobTo l (fun _ => .slice none 0 0) 0) from
    .new hX (lab_at _ _ _) (Nat.le_refl _) (by omega) (by unfold zrow; simp [madeCells]) (fun k hk => by
      rw [zrow_get2 _ _ _ _ hk]
      show some _ = some (if k < 0 * 2 then _ else _)
      rw [if_neg (show ¬ k < 0 * 2 by omega)]))
  obtain ⟨w0, hw0⟩ : ∃ w0, w0 = w.alloc (.cells (zrow #[.int .i64 0, .slice none 0 0] (l.length * 2)) 42) := ⟨_, rfl⟩
  have hb0 := hide (below1 w (.cells (zrow #[.int .i64 0, .slice none 0 0] (l.length * 2)) 42))
  rw [← hw0] at hS0 hb0
  clear hX
  go_enter Try.func36, Try.ntmps36
  go_wp2
  rw [← hw0]
  clear hmk hw0
  go_loopw [4] (fun i wr => ∃ (k : Nat) (kv : Nat → Value) (f : Nat → Nat), k ≤ l.length ∧ i = .int .i64 k ∧ Hid (Sl 42 2 wr f 1 w.heap.size (.slice (some ⟨w.heap.size, 0, none⟩) l.length l.length) l.length (gJobTo l kv k)) ∧ Hid (∀ j, j < k → Sl 3 1 wr f (8 + j * 2) w.heap.size (kv j) (getj l j).ks.length (gI (getj l j).ks)) ∧ Hid (Below w.heap.size w wr) ∧ Hid (∀ b, b < w.heap.size → f b = f0 b)) (fun i _ => l.length - (intOf i).toNat)
  case atStart => exact ⟨0, fun _ => .slice none 0 0, lab f0 w.heap.size 1, Nat.zero_le _, rfl, hS0, hide (fun j hj => by omega), hb0, hide (fun b hb => lab_old hb)⟩
  case round =>
    clear hS0 hb0
    obtain ⟨k, kv, f, hk, rfl, hH, hE, hb, hf⟩ := hrel
    by_cases hlt : k < l.length
    · obtain ⟨b, off, rfl, hbB, hv, A', c', hcell, hcap, hin⟩ := (ha.below hb.out hS).at_ hlt
      have hsk := hsz k
      have kT := hide (toJob_any (getj l k).v A' (getj l k).ks c' S wr hsk (fun b h => Nat.lt_of_lt_of_le (hS b h) hb.out.size) hin)
      clear hin
      go_wp2_with (go_at_call 76; refine kT.out.mono ?_)
      rintro e w1 ⟨q, rfl, hq, hr, hb1⟩
      have hqw : w.heap.size ≤ q := by have := hb.out.size; omega
      have hq2 : w1.heap.size ≥ wr.heap.size := hb1.size
      have hH1 := (hH.out.relab (f' := lab f q (8 + k * 2)) (fun b hb2 => lab_old (by omega))).next hb1
      have hE1 := fun j (hj : j < k) => ((hE.out j hj).relab (f' := lab f q (8 + k * 2)) (fun b hb2 => lab_old (by omega))).next hb1
      have hK1 := Sl.of_rowB (f := lab f q (8 + k * 2)) hr (lab_at _ _ _) hqw (by omega)
      obtain ⟨q0, off0, c0, e0, hl0, -, hlt0, hcl⟩ := hH1.at_ (k := k * 2) (by omega)
      cases e0
      obtain ⟨g0, z0⟩ := hcl (k * 2) (by omega)
      obtain ⟨g1, z1⟩ := hcl (k * 2 + 1) (by omega)
      rw [Nat.zero_add] at g0 z0 g1 z1
      have hH2 := hH1.set_ (k := k * 2) rfl (by omega) (.int .i64 (getj l k).v)
      have hH3 := hH2.set_ (k := k * 2 + 1) rfl (by omega) (.slice (some ⟨q, 0, none⟩) (getj l k).ks.length (getj l k).ks.length)
      rw [Nat.zero_add, Nat.zero_add] at hH3
      have L1 : Lab (lab f q (8 + k * 2)) 1 w.heap.size w1 ((w1.setCell ⟨w.heap.size, k * 2, none⟩ (.int .i64 (getj l k).v)).setCell ⟨w.heap.size, k * 2 + 1, none⟩ (.slice (some ⟨q, 0, none⟩) (getj l k).ks.length (getj l k).ks.length)) :=
        (Lab.set_ (p := ⟨w.heap.size, k * 2, none⟩) ⟨hl0, Nat.le_refl _⟩ _).trans (Lab.set_ (p := ⟨w.heap.size, k * 2 + 1, none⟩) ⟨hl0, Nat.le_refl _⟩ _)
      have hN := hide (show Sl 42 2 ((w1.setCell ⟨w.heap.size, k * 2, none⟩ (.int .i64 (getj l k).v)).setCell ⟨w.heap.size, k * 2 + 1, none⟩ (.slice (some ⟨q, 0, none⟩) (getj l k).ks.length (getj l k).ks.length)) (lab f q (8 + k * 2)) 1 w.heap.size (.slice (some ⟨w.heap.size, 0, none⟩) l.length l.length) l.length (gJobTo l (updV kv k (.slice (some ⟨q, 0, none⟩) (getj l k).ks.length (getj l k).ks.length)) (k + 1)) from
        hH3.congr (fun j _ => gJobTo_succ))
      have hNE := hide (show ∀ j, j < k + 1 → Sl 3 1 ((w1.setCell ⟨w.heap.size, k * 2, none⟩ (.int .i64 (getj l k).v)).setCell ⟨w.heap.size, k * 2 + 1, none⟩ (.slice (some ⟨q, 0, none⟩) (getj l k).ks.length (getj l k).ks.length)) (lab f q (8 + k * 2)) (8 + j * 2) w.heap.size (updV kv k (.slice (some ⟨q, 0, none⟩) (getj l k).ks.length (getj l k).ks.length) j) (getj l j).ks.length (gI (getj l j).ks) from fun j hj => by
        by_cases e : j = k
        · subst e
          rw [updV_at]
          exact hK1.other L1 (by omega)
        · rw [updV_far e]
          exact (hE1 j (by omega)).other L1 (by omega))
      have hNb := hide (((below_then hb.out hb1).setCell (p := ⟨w.heap.size, k * 2, none⟩) (Nat.le_refl _) (.int .i64 (getj l k).v)).setCell (p := ⟨w.heap.size, k * 2 + 1, none⟩) (Nat.le_refl _) (.slice (some ⟨q, 0, none⟩) (getj l k).ks.length (getj l k).ks.length))
      have hNf := hide (show ∀ b, b < w.heap.size → lab f q (8 + k * 2) b = f0 b from fun b hb2 => (lab_old (by omega)).trans (hf.out b hb2))
      clear hH hE hb hf hH1 hE1 hK1 hH2 hH3 L1 hr hcl hb1 hq2
      go_wp2_with fail
      go_roundw
      case rel => exact ⟨k + 1, _, _, by omega, by go_num, hN, hNE, hNb, hNf⟩
      case measure => simp [intOf]; omega
    · obtain rfl : k = l.length := by omega
      have hR := hide (show JobsO wr f w.heap.size (.slice (some ⟨w.heap.size, 0, none⟩) l.length l.length) l kv from
        ⟨hH.out.congr (fun j hj => by unfold gJobTo; rw [if_pos hj]), hE.out⟩)
      go_wp2
      go_ret
      exact ⟨_, f, kv, rfl, hR.out, hb.out, hf.out⟩
theorem zrow_size1' (z : Value) (n : Nat) : (zrow #[z] n).size = n := by simp [zrow, madeCells]
theorem zrow_get1' (z : Value) (n m : Nat) (h : m < n) : (zrow #[z] n)[m]? = some z := by
  simp [zrow, madeCells, h, Nat.mod_one]
set_option maxRecDepth 100000 in
set_option maxHeartbeats 3200000 in
theorem toRowS_any (f0 : Nat → Nat) (A : Option Addr) (l : List (List Int)) (c : Nat) (S : Nat → Prop) (w : World) (hn2 : l.length ≤ 1048576) (hsz : ∀ k, (getq l k).length ≤ 1048576) (hS : ∀ b, S b → b < w.heap.size) (ha : DqAt w S A l) :
    Calls Try.prog 93 #[.slice A l.length c] w fun e w' => ∃ v f kv, e = .returned v ∧ RowsO w' f w.heap.size v l kv ∧ Below w.heap.size w w' ∧ ∀ b, b < w.heap.size → f b = f0 b := by
  have hmk := make_rows l.length hn2
  have hX := Blk.new w 35 (zrow #[.slice none 0 0] l.length)
  have hS0 := hide (show Sl 35 1 (w.alloc (.cells (zrow #[.slice none 0 0] l.length) 35)) (lab f0 w.heap.size 2) 2 w.heap.size (.slice (some ⟨w.heap.size, 0, none⟩) l.length l.length) l.length (gRowTo (fun _ => .slice none 0 0) 0) from
    .new hX (lab_at _ _ _) (Nat.le_refl _) (by omega) (by rw [zrow_size1']; omega) (fun k hk => by
      rw [zrow_get1' _ _ _ (by omega)]
      rfl))
  obtain ⟨w0, hw0⟩ : ∃ w0, w0 = w.alloc (.cells (zrow #[.slice none 0 0] l.length) 35) := ⟨_, rfl⟩
  have hb0 := hide (below1 w (.cells (zrow #[.slice none 0 0] l.length) 35))
  rw [← hw0] at hS0 hb0
  clear hX
  go_enter Try.func93, Try.ntmps93
  go_wp2
  rw [← hw0]
  clear hmk hw0
  go_loopw [4] (fun i wr => ∃ (k : Nat) (kv : Nat → Value) (f : Nat → Nat), k ≤ l.length ∧ i = .int .i64 k ∧ Hid (Sl 35 1 wr f 2 w.heap.size (.slice (some ⟨w.heap.size, 0, none⟩) l.length l.length) l.length (gRowTo kv k)) ∧ Hid (∀ j, j < k → Sl 3 1 wr f (9 + j * 2) w.heap.size (kv j) (getq l j).length (gI (getq l j))) ∧ Hid (Below w.heap.size w wr) ∧ Hid (∀ b, b < w.heap.size → f b = f0 b)) (fun i _ => l.length - (intOf i).toNat)
  case atStart => exact ⟨0, fun _ => .slice none 0 0, lab f0 w.heap.size 2, Nat.zero_le _, rfl, hS0, hide (fun j hj => by omega), hb0, hide (fun b hb => lab_old hb)⟩
  case round =>
    clear hS0 hb0
    obtain ⟨k, kv, f, hk, rfl, hH, hE, hb, hf⟩ := hrel
    by_cases hlt : k < l.length
    · obtain ⟨b, off, rfl, hbB, A', c', hcell, hcap, hin⟩ := (ha.below hb.out hS).at_ hlt
      have hsk := hsz k
      have kT := hide (toRow_any A' (getq l k) c' S wr hsk (fun b h => Nat.lt_of_lt_of_le (hS b h) hb.out.size) hin)
      clear hin
      go_wp2_with (go_at_call 119; refine kT.out.mono ?_)
      rintro e w1 ⟨q, rfl, hq, hr, hb1⟩
      have hqw : w.heap.size ≤ q := by have := hb.out.size; omega
      have hq2 : w1.heap.size ≥ wr.heap.size := hb1.size
      have hH1 := (hH.out.relab (f' := lab f q (9 + k * 2)) (fun b hb2 => lab_old (by omega))).next hb1
      have hE1 := fun j (hj : j < k) => ((hE.out j hj).relab (f' := lab f q (9 + k * 2)) (fun b hb2 => lab_old (by omega))).next hb1
      have hK1 := Sl.of_rowB (f := lab f q (9 + k * 2)) hr (lab_at _ _ _) hqw (by omega)
      obtain ⟨q0, off0, c0, e0, hl0, -, hlt0, hcl⟩ := hH1.at_ (k := k) (by omega)
      cases e0
      obtain ⟨g0, z0⟩ := hcl k (by omega)
      rw [Nat.zero_add] at g0 z0
      have hH3 := hH1.set_ (k := k) rfl (by omega) (.slice (some ⟨q, 0, none⟩) (getq l k).length (getq l k).length)
      rw [Nat.zero_add] at hH3
      have L1 : Lab (lab f q (9 + k * 2)) 2 w.heap.size w1 (w1.setCell ⟨w.heap.size, k, none⟩ (.slice (some ⟨q, 0, none⟩) (getq l k).length (getq l k).length)) :=
        Lab.set_ (p := ⟨w.heap.size, k, none⟩) ⟨hl0, Nat.le_refl _⟩ _
      have hN := hide (show Sl 35 1 (w1.setCell ⟨w.heap.size, k, none⟩ (.slice (some ⟨q, 0, none⟩) (getq l k).length (getq l k).length)) (lab f q (9 + k * 2)) 2 w.heap.size (.slice (some ⟨w.heap.size, 0, none⟩) l.length l.length) l.length (gRowTo (updV kv k (.slice (some ⟨q, 0, none⟩) (getq l k).length (getq l k).length)) (k + 1)) from
        hH3.congr (fun j _ => gRowTo_succ))
      have hNE := hide (show ∀ j, j < k + 1 → Sl 3 1 (w1.setCell ⟨w.heap.size, k, none⟩ (.slice (some ⟨q, 0, none⟩) (getq l k).length (getq l k).length)) (lab f q (9 + k * 2)) (9 + j * 2) w.heap.size (updV kv k (.slice (some ⟨q, 0, none⟩) (getq l k).length (getq l k).length) j) (getq l j).length (gI (getq l j)) from fun j hj => by
        by_cases e : j = k
        · subst e
          rw [updV_at]
          exact hK1.other L1 (by omega)
        · rw [updV_far e]
          exact (hE1 j (by omega)).other L1 (by omega))
      have hNb := hide ((below_then hb.out hb1).setCell (p := ⟨w.heap.size, k, none⟩) (Nat.le_refl _) (.slice (some ⟨q, 0, none⟩) (getq l k).length (getq l k).length))
      have hNf := hide (show ∀ b, b < w.heap.size → lab f q (9 + k * 2) b = f0 b from fun b hb2 => (lab_old (by omega)).trans (hf.out b hb2))
      clear hH hE hb hf hH1 hE1 hK1 hH3 L1 hr hcl hb1 hq2
      go_wp2_with fail
      go_roundw
      case rel => exact ⟨k + 1, _, _, by omega, by go_num, hN, hNE, hNb, hNf⟩
      case measure => simp [intOf]; omega
    · obtain rfl : k = l.length := by omega
      have hR := hide (show RowsO wr f w.heap.size (.slice (some ⟨w.heap.size, 0, none⟩) l.length l.length) l kv from
        ⟨hH.out.congr (fun j hj => by unfold gRowTo; rw [if_pos (by omega)]), hE.out⟩)
      go_wp2
      go_ret
      exact ⟨_, f, kv, rfl, hR.out, hb.out, hf.out⟩
end Go.Proofs.Ytfnphnjadknoaaa
