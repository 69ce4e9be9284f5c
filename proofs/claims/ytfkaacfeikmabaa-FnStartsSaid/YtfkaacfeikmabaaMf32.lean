/- laws.crosswise: two threads that write one cell each and read the other's. -/
import Derived.Test.YtfkaacfeikmabaaMf0
import Derived.Test.YtfkaacfeikmabaaMf2
import Derived.Test.YtfkaacfeikmabaaMf6
import Derived.Test.YtfkaacfeikmabaaMf31
import Derived.BigQuiet
import Derived.Deep.QuietTactic
namespace Go.Proofs.Ytfkaacfeikmabaa
open Go.RowKit

def touchD (o x n cell : Int) : Int := if x ≤ cell ∧ cell < x + countN o n then touchN o else 0

theorem touchD_in {o x n cell : Int} (h : 0 ≤ cell - x) (k : ¬ countN o n ≤ cell - x) : touchD o x n cell = touchN o := by unfold touchD; rw [if_pos (by omega)]
theorem touchD_out {o x n cell : Int} (h : cell - x < 0 ∨ countN o n ≤ cell - x) : touchD o x n cell = 0 := by unfold touchD; rw [if_neg (by omega)]

set_option maxHeartbeats 1600000 in
theorem touch_any (o r a b x n cell : Int) (w : World) (hx : -100 ≤ x ∧ x ≤ 100) (hc : -100 ≤ cell ∧ cell ≤ 100) :
    Calls Try.prog 55 #[.agg #[.int .i64 o, .int .i64 r, .int .i64 a, .int .i64 b, .int .i64 x, .int .i64 n], .int .i64 cell] w fun e w' => e = .returned (.int .i64 (touchD o x n cell)) ∧ Below w.heap.size w w' := by
  by_cases h1 : cell - x < 0
  · have e1 := hide (touchD_out (o := o) (n := n) (.inl h1))
    go_enter Try.func55, Try.ntmps55
    go_wp2_with fail
    go_ret
    exact ⟨ret_int e1.out.symm, below1 _ _⟩
  have kc := hide (fun w => count_any o r a b x n w)
  by_cases h2 : countN o n ≤ cell - x
  · have e1 := hide (touchD_out (.inr h2))
    generalize countN o n = cn at *
    go_enter Try.func55, Try.ntmps55
    go_wp2_with fail
    refine (kc.out _).mono ?_; rintro e w1 ⟨rfl, hb1⟩
    go_wp2_with fail
    go_ret
    exact ⟨ret_int e1.out.symm, below_step hb1⟩
  have e1 := hide (touchD_in (by omega) h2)
  generalize countN o n = cn at *
  go_enter Try.func55, Try.ntmps55
  go_wp2_with fail
  refine (kc.out _).mono ?_; rintro e w1 ⟨rfl, hb1⟩
  obtain ⟨hcl1, hfz1⟩ := bcell hb1; have hz1 := size_step hb1
  go_wp2_with fail
  refine (kind_any _ _ _ _ _ _ _).mono ?_; rintro e w2 ⟨rfl, hb2⟩
  go_wp2_with fail
  refine (touches_any _ _).mono ?_; rintro e w3 ⟨rfl, rfl⟩
  go_wp2_with fail
  go_ret
  exact ⟨ret_int e1.out.symm, below_then (below_step hb1) hb2⟩

theorem touchD_eq (o x n cell : Int) : touchD o x n cell = if o = 7 ∧ x = cell ∨ o = 9 ∧ x ≤ cell ∧ cell < x + n then 1 else if o = 8 ∧ x = cell ∨ o = 10 ∧ x ≤ cell ∧ cell < x + n then 2 else if o = 11 ∧ x = cell then 3 else 0 := by
  unfold touchD touchN countN
  repeat' split
  all_goals omega

set_option maxHeartbeats 3200000 in
theorem stouch_any (o r a b x n cell : Int) (w : World) (hx : -100 ≤ x ∧ x ≤ 100) (hn : -100 ≤ n ∧ n ≤ 100) :
    Calls Try.prog 53 #[.agg #[.int .i64 o, .int .i64 r, .int .i64 a, .int .i64 b, .int .i64 x, .int .i64 n], .int .i64 cell] w fun e w' => e = .returned (.int .i64 (touchD o x n cell)) ∧ Below w.heap.size w w' := by
  have hw : IntKind.i64.wrap (x + n) = x + n := by rw [IntKind.wrap_i64]; omega
  rw [touchD_eq]
  go_enter Try.func53, Try.ntmps53
  go_wp2
  all_goals
    go_ret
    refine ⟨ret_int ?_, below1 _ _⟩
    simp only [beq_iff_eq, beq_eq_false_iff_ne, ne_eq] at *
    repeat' split
    all_goals omega
end Go.Proofs.Ytfkaacfeikmabaa

namespace Go.Proofs.Ytfkaacfeikmabaa
open Go.RowKit

def restV (x n : Int) : Int := if x.tmod n < 0 then wrap64 (x.tmod n + n) else x.tmod n
def cellV (o x n y : Int) (len : Nat) : Int :=
  if len = 6 then (if o = 7 ∨ o = 8 ∨ o = 11 then x else if (o = 9 ∨ o = 10) ∧ 1 ≤ n then wrap64 (x + restV y n) else -1) else -1

set_option maxHeartbeats 800000 in
theorem restOf_any (y n : Int) (w : World) (hn : 1 ≤ n) : Calls Try.prog 131 #[.int .i64 y, .int .i64 n] w fun e w' => e = .returned (.int .i64 (restV y n)) ∧ w' = w := by
  have h0 : ¬ n = 0 := by omega
  by_cases h : y.tmod n < 0
  · go_enter Try.func131, Try.ntmps131
    go_wp2
    go_ret
    exact ⟨ret_int (by unfold restV; rw [if_pos h]), rfl⟩
  · go_enter Try.func131, Try.ntmps131
    go_wp2
    go_ret
    exact ⟨ret_int (by unfold restV; rw [if_neg (by omega)]), rfl⟩
set_option maxHeartbeats 800000 in
theorem l2rest_any (y n : Int) (w : World) (hn : 1 ≤ n) : Calls Try.prog 132 #[.int .i64 y, .int .i64 n] w fun e w' => e = .returned (.int .i64 (restV y n)) ∧ w' = w := by
  have h0 : ¬ n = 0 := by omega
  by_cases h : y.tmod n < 0
  · go_enter Try.func132, Try.ntmps132
    go_wp2
    go_ret
    exact ⟨ret_int (by unfold restV; rw [if_pos h]), rfl⟩
  · go_enter Try.func132, Try.ntmps132
    go_wp2
    go_ret
    exact ⟨ret_int (by unfold restV; rw [if_neg (by omega)]), rfl⟩
end Go.Proofs.Ytfkaacfeikmabaa

namespace Go.Proofs.Ytfkaacfeikmabaa
open Go.RowKit

section
variable {o r x n b : Int} {a c : Nat} {A : Option Addr} {zs : List Int} {w : World}
set_option maxRecDepth 100000 in
set_option maxHeartbeats 6400000 in
theorem cellOf_any (o r x n b : Int) (a c : Nat) (ha : a < 6) (hz : zs.length = 6) (hin : IntsAt w (Old w.heap.size) A zs) :
    Calls Try.prog 51 #[.agg #[.int .i64 o, .int .i64 r, .int .i64 a, .int .i64 b, .int .i64 x, .int .i64 n], .agg #[.slice A zs.length c]] w fun e w' => e = .returned (.int .i64 (cellV o x n (geti zs a) zs.length)) ∧ Below w.heap.size w w' := by
  have H0 := hide (Fr.start (o := o) (r := r) (a := a) (b := b) (x := x) (n := n) (c := c) hin)
  have hx : ∀ {wx : World}, Fr w o r a b x n A c zs wx → ∃ bb off, A = some ⟨bb, off, none⟩ ∧ wx.cell? ⟨bb, off + a, none⟩ = some (.int .i64 (geti zs a)) := fun h => by
    obtain ⟨bb, off, e, _, hc⟩ := h.row.2 (by omega)
    exact ⟨bb, off, e, hc a (by omega)⟩
  have ha' : (a : Int) < 6 := by omega
  have hr : regB (a : Int) = true := by simp [regB]; omega
  have kr := hide (fun w => isReg_any (a : Int) w)
  rw [hr] at kr
  rw [hz] at H0 ⊢
  have hd : decide (6 = 6) = true := rfl
  have hcases : o = 7 ∨ o = 8 ∨ o = 11 ∨ (o = 9 ∧ n < 1) ∨ (o = 10 ∧ n < 1) ∨ (o = 9 ∧ 1 ≤ n) ∨ (o = 10 ∧ 1 ≤ n) ∨ (¬ o = 7 ∧ ¬ o = 8 ∧ ¬ o = 11 ∧ ¬ o = 9 ∧ ¬ o = 10) := by omega
  have hN : n < 1 ∨ 1 ≤ n := by omega
  rcases hcases with rfl | rfl | rfl | ⟨rfl, h1⟩ | ⟨rfl, h1⟩ | ⟨rfl, h1⟩ | ⟨rfl, h1⟩ | ⟨h1, h2, h3, h4, h5⟩
  all_goals
    go_enter Try.func51, Try.ntmps51
    go_wp2_with fail
    refine (fileOk_any _ _ _ _).mono ?_
    rintro e w1 ⟨rfl, hb1⟩
    have H1 := hide (H0.out.next hb1)
    obtain ⟨⟨e0, e1, e2, e3, e4, e5⟩, e6⟩ := H1.out.cells
    go_wp2_with fail
    refine (kr.out _).mono ?_
    rintro e w2 ⟨rfl, rfl⟩
    go_wp2_with fail
    refine (kind_any _ _ _ _ _ _ _).mono ?_
    rintro e w3 ⟨rfl, hb3⟩
    have H3 := hide (H1.out.next hb3)
    clear e0 e1 e2 e3 e4 e5 e6
    obtain ⟨⟨e0, e1, e2, e3, e4, e5⟩, e6⟩ := H3.out.cells
    rw [hz] at e6
    obtain ⟨bb, off, rfl, hcl⟩ := hx H3.out
    go_wp2_with fail
  iterate 3
    · go_ret
      exact ⟨ret_int (by simp [cellV]), H3.out.below⟩
  iterate 2
    · go_ret
      exact ⟨ret_int (by unfold cellV; rw [if_pos rfl, if_neg (by omega), if_neg (by omega)]), H3.out.below⟩
  iterate 2
    · go_quiet (first | (go_at_call 131; refine Calls.quiet_of_same (restOf_any _ _ _ h1)))
      go_wp2_with fail
      go_ret
      exact ⟨ret_int (by unfold cellV; rw [if_pos rfl, if_neg (by omega), if_pos (by omega)]), below_drewN H3.out.below _⟩
  · go_ret
    exact ⟨ret_int (by unfold cellV; rw [if_pos rfl, if_neg (by omega), if_neg (by omega)]), H3.out.below⟩
end
end Go.Proofs.Ytfkaacfeikmabaa

namespace Go.Proofs.Ytfkaacfeikmabaa
open Go.RowKit

section
variable {A : Option Addr} {zs : List Int} {w : World}
set_option maxRecDepth 100000 in
set_option maxHeartbeats 6400000 in
theorem scellOf_any (o r x n b : Int) (a c : Nat) (ha : a < 6) (hz : zs.length = 6) (hin : IntsAt w (Old w.heap.size) A zs) :
    Calls Try.prog 52 #[.agg #[.int .i64 o, .int .i64 r, .int .i64 a, .int .i64 b, .int .i64 x, .int .i64 n], .agg #[.slice A zs.length c]] w fun e w' => e = .returned (.int .i64 (cellV o x n (geti zs a) zs.length)) ∧ Below w.heap.size w w' := by
  have H0 := hide (Fr.start (o := o) (r := r) (a := a) (b := b) (x := x) (n := n) (c := c) hin)
  have hx : ∀ {wx : World}, Fr w o r a b x n A c zs wx → ∃ bb off, A = some ⟨bb, off, none⟩ ∧ wx.cell? ⟨bb, off + a, none⟩ = some (.int .i64 (geti zs a)) := fun h => by
    obtain ⟨bb, off, e, _, hc⟩ := h.row.2 (by omega)
    exact ⟨bb, off, e, hc a (by omega)⟩
  have ha' : (a : Int) < 6 := by omega
  have hr : regB (a : Int) = true := by simp [regB]; omega
  have kr := hide (fun w => l1reg_any (a : Int) w)
  rw [hr] at kr
  rw [hz] at ⊢
  have hcases : o = 7 ∨ o = 8 ∨ o = 11 ∨ (o = 9 ∧ n < 1) ∨ (o = 10 ∧ n < 1) ∨ (o = 9 ∧ 1 ≤ n) ∨ (o = 10 ∧ 1 ≤ n) ∨ (¬ o = 7 ∧ ¬ o = 8 ∧ ¬ o = 11 ∧ ¬ o = 9 ∧ ¬ o = 10) := by omega
  rcases hcases with rfl | rfl | rfl | ⟨rfl, h1⟩ | ⟨rfl, h1⟩ | ⟨rfl, h1⟩ | ⟨rfl, h1⟩ | ⟨h1, h2, h3, h4, h5⟩
  all_goals
    rw [hz] at H0
    go_enter Try.func52, Try.ntmps52
    go_wp2_with fail
  iterate 3
    · go_ret
      exact ⟨ret_int (by simp [cellV]), below2 _ _ _⟩
  iterate 2
    · refine (kr.out _).mono ?_
      rintro e w2 ⟨rfl, rfl⟩
      go_wp2_with fail
      go_ret
      exact ⟨ret_int (by unfold cellV; rw [if_pos rfl, if_neg (by omega), if_neg (by omega)]), below2 _ _ _⟩
  iterate 2
    · refine (kr.out _).mono ?_
      rintro e w2 ⟨rfl, hw2⟩
      rw [hw2] at H0
      obtain ⟨bb, off, rfl, hcl⟩ := hx H0.out
      have H3 := H0
      clear hw2 H0
      obtain ⟨⟨e0, e1, e2, e3, e4, e5⟩, e6⟩ := H3.out.cells
      rw [hz] at e6
      go_wp2_with fail
      go_quiet (first | (go_at_call 132; refine Calls.quiet_of_same (l2rest_any _ _ _ h1)))
      go_wp2_with fail
      go_ret
      exact ⟨ret_int (by unfold cellV; rw [if_pos rfl, if_neg (by omega), if_pos (by omega)]), below_drewN H3.out.below _⟩
  · go_ret
    exact ⟨ret_int (by unfold cellV; rw [if_pos rfl, if_neg (by omega), if_neg (by omega)]), below2 _ _ _⟩
end
end Go.Proofs.Ytfkaacfeikmabaa

namespace Go.Proofs.Ytfkaacfeikmabaa
open Go.RowKit

set_option maxRecDepth 100000 in
set_option maxHeartbeats 1600000 in
theorem cellOf_five (o r x n b a : Int) (c : Nat) (A : Option Addr) (w : World) :
    Calls Try.prog 51 #[.agg #[.int .i64 o, .int .i64 r, .int .i64 a, .int .i64 b, .int .i64 x, .int .i64 n], .agg #[.slice A 5 c]] w fun e w' => e = .returned (.int .i64 (-1)) ∧ Below w.heap.size w w' := by
  have hb0 := hide (below2 w (Obj.cells #[.int .i64 o, .int .i64 r, .int .i64 a, .int .i64 b, .int .i64 x, .int .i64 n] 72) (Obj.cells #[.slice A 5 c] 69))
  have hd : decide ((5 : Nat) = 6) = false := rfl
  have k := fun w => fileOk_any A 5 c w
  rw [hd] at k
  replace k := hide k
  go_enter Try.func51, Try.ntmps51
  go_wp2_with fail
  refine (k.out _).mono ?_
  rintro e w1 ⟨rfl, hb1⟩
  go_wp2_with fail
  go_ret
  exact ⟨rfl, below_then hb0.out hb1⟩

set_option maxRecDepth 100000 in
set_option maxHeartbeats 1600000 in
theorem scellOf_five (o r x n b a : Int) (c : Nat) (A : Option Addr) (w : World) :
    Calls Try.prog 52 #[.agg #[.int .i64 o, .int .i64 r, .int .i64 a, .int .i64 b, .int .i64 x, .int .i64 n], .agg #[.slice A 5 c]] w fun e w' => e = .returned (.int .i64 (-1)) ∧ Below w.heap.size w w' := by
  have hb0 := hide (below2 w (Obj.cells #[.int .i64 o, .int .i64 r, .int .i64 a, .int .i64 b, .int .i64 x, .int .i64 n] 72) (Obj.cells #[.slice A 5 c] 69))
  have hcases : o = 7 ∨ o = 8 ∨ o = 11 ∨ o = 9 ∨ o = 10 ∨ (¬ o = 7 ∧ ¬ o = 8 ∧ ¬ o = 11 ∧ ¬ o = 9 ∧ ¬ o = 10) := by omega
  rcases hcases with rfl | rfl | rfl | rfl | rfl | ⟨h1, h2, h3, h4, h5⟩
  all_goals
    go_enter Try.func52, Try.ntmps52
    go_wp2_with fail
    go_ret
    exact ⟨rfl, hb0.out⟩

theorem cellOf_all (o r x n b : Int) (a c : Nat) (A : Option Addr) (zs : List Int) (w : World) (ha : a < 6) (hz : zs.length = 6 ∨ zs.length = 5) (hin : IntsAt w (Old w.heap.size) A zs) :
    (Calls Try.prog 51 #[.agg #[.int .i64 o, .int .i64 r, .int .i64 a, .int .i64 b, .int .i64 x, .int .i64 n], .agg #[.slice A zs.length c]] w fun e w' => e = .returned (.int .i64 (cellV o x n (geti zs a) zs.length)) ∧ Below w.heap.size w w') ∧
    (Calls Try.prog 52 #[.agg #[.int .i64 o, .int .i64 r, .int .i64 a, .int .i64 b, .int .i64 x, .int .i64 n], .agg #[.slice A zs.length c]] w fun e w' => e = .returned (.int .i64 (cellV o x n (geti zs a) zs.length)) ∧ Below w.heap.size w w') := by
  rcases hz with hz | hz
  · exact ⟨cellOf_any o r x n b a c ha hz hin, scellOf_any o r x n b a c ha hz hin⟩
  · have e : cellV o x n (geti zs a) zs.length = -1 := by unfold cellV; rw [if_neg (by omega)]
    rw [e, hz]
    exact ⟨cellOf_five _ _ _ _ _ _ _ _ _, scellOf_five _ _ _ _ _ _ _ _ _⟩

theorem restV_in {y n : Int} (h : 1 ≤ n) (h2 : n ≤ 100) : 0 ≤ restV y n ∧ restV y n < n := by
  have h1 := Int.tmod_lt_of_pos y (show 0 < n by omega)
  have h3 : -n < y.tmod n := by
    have h5 := Int.tmod_lt_of_pos (-y) (show 0 < n by omega)
    rw [Int.neg_tmod] at h5
    omega
  unfold restV
  split
  · have : wrap64 (y.tmod n + n) = y.tmod n + n := by unfold wrap64; omega
    omega
  · omega
theorem cellV_touch {o x n y : Int} {len : Nat} (hx : 0 ≤ x) (hx2 : x ≤ 30) (hn2 : n ≤ 30) (h : ¬ cellV o x n y len = -1) : 0 < touchD o x n (cellV o x n y len) := by
  have hc : cellV o x n y len = (if o = 7 ∨ o = 8 ∨ o = 11 then x else wrap64 (x + restV y n)) ∧ (o = 7 ∨ o = 8 ∨ o = 11 ∨ (o = 9 ∨ o = 10) ∧ 1 ≤ n) := by
    unfold cellV at h ⊢
    split at h
    · rename_i hl
      rw [if_pos hl]
      split at h
      · rename_i ho
        exact ⟨by rw [if_pos ho, if_pos ho], by omega⟩
      · rename_i ho
        split at h
        · rename_i h9
          exact ⟨by rw [if_neg ho, if_neg ho, if_pos h9], by omega⟩
        · omega
    · omega
  obtain ⟨e, hc⟩ := hc
  rw [e]
  unfold touchD countN touchN
  by_cases ho : o = 7 ∨ o = 8 ∨ o = 11
  · rw [if_pos ho, if_pos ho]
    rw [if_pos (by omega)]
    repeat' split
    all_goals omega
  · rw [if_neg ho, if_neg ho]
    have hn : 1 ≤ n := by omega
    obtain ⟨h1, h2⟩ := restV_in (y := y) hn (by omega)
    have hw : wrap64 (x + restV y n) = x + restV y n := by unfold wrap64; omega
    rw [hw, if_pos (show o = 9 ∨ o = 10 by omega), if_pos (by omega)]
    repeat' split
    all_goals omega
end Go.Proofs.Ytfkaacfeikmabaa

namespace Go.Proofs.Ytfkaacfeikmabaa
open Go.RowKit

attribute [local go_sem ↓] Go.wp_at_zero Go.wp_at_succ

def crossT (f : Bool) (n : Nat) : List InsD := [⟨1, 1, 0, 0, 0, 1⟩, ⟨8, 0, 1, 0, n, 0⟩] ++ (if f then [⟨12, 0, 0, 0, 0, 0⟩] else []) ++ [⟨7, 0, 0, 0, 1 - n, 0⟩]
def crossTs (f : Bool) (n : Nat) : List (List InsD) := (List.range n).map (crossT f)
theorem crossTs_len (f : Bool) (n : Nat) : (crossTs f n).length = n := by simp [crossTs]
theorem crossTs_succ (f : Bool) (n : Nat) : crossTs f (n + 1) = crossTs f n ++ [crossT f n] := by simp [crossTs, List.range_succ]

set_option maxRecDepth 100000 in
set_option maxHeartbeats 6400000 in
theorem crosswise_any (f : Bool) (w : World) :
    Calls Try.prog 127 #[.bool f] w fun e w' => ∃ (v tv : Value), e = .returned (.agg #[v, tv]) ∧ (∃ vs : List Value, ProgOwn w' w.heap.size [0, 0] v (crossTs f 2) vs tv) ∧ Below w.heap.size w w' := by
  obtain ⟨i0, hi0, hz0, hz1, hz2⟩ := info_parts Try.infoIns
  obtain ⟨i2, hi2, hx0, hx1, hx2⟩ := info_parts Try.infoThr
  have hi0 := hide hi0
  have hi2 := hide hi2
  have h0 : CrAt w (w.heap.size + 1 + 1) [0, 0] (.slice (some ⟨w.heap.size + 1, 0, none⟩) 2 2) (crossTs f 0) [] (.slice none 0 0) (((w.alloc (Obj.cells #[Value.slice none 0 0, Value.slice none 0 0] 31)).alloc (Obj.cells #[Value.int .i64 0, Value.int .i64 0] 3)).alloc (Obj.cells #[Value.slice (some ⟨w.heap.size + 1, 0, none⟩) 2 2, Value.slice none 0 0] 31)) := by
    have r := own_lit (w.alloc (Obj.cells #[Value.slice none 0 0, Value.slice none 0 0] 31)) (w.heap.size + 1) 3 1 2 #[Value.int .i64 0, Value.int .i64 0] (by simp) (by omega) rfl
    have b := Blk.new ((w.alloc (Obj.cells #[Value.slice none 0 0, Value.slice none 0 0] 31)).alloc (Obj.cells #[Value.int .i64 0, Value.int .i64 0] 3)) 31 #[Value.slice (some ⟨w.heap.size + 1, 0, none⟩) 2 2, Value.slice none 0 0]
    simp only [World.size_alloc] at r b
    exact ⟨((below1 w _).alloc (by simp) _).alloc (by simp; omega) _, b, ⟨own_keep r (fun b _ hlt => Below.heap_alloc _ _ b hlt), ⟨rfl, .inl ⟨rfl, rfl⟩⟩, fun k hk => by simp [crossTs] at hk, fun j k _ hk => by simp [crossTs] at hk⟩, by omega, ⟨_, _, ((Blk.new w 31 #[Value.slice none 0 0, Value.slice none 0 0]).alloc _).alloc _⟩⟩
  go_enter Try.func127, Try.ntmps127
  go_wp2_with fail
  go_loopw [4] (fun t wr => ∃ (n : Nat) (vs : List Value) (tv : Value), t = .int .i64 n ∧ n ≤ 2 ∧ CrAt w (w.heap.size + 1 + 1) [0, 0] (.slice (some ⟨w.heap.size + 1, 0, none⟩) 2 2) (crossTs f n) vs tv wr) (fun t _ => (2 - intOf t).toNat)
  case atStart => exact ⟨0, [], _, rfl, by omega, h0⟩
  case round =>
    obtain ⟨n, vs, tv, rfl, hn, h1⟩ := hrel
    have hs1 := h1.blk.lt
    obtain ⟨⟨c0, c1⟩, f0, f1⟩ := h1.cells
    clear h0
    by_cases hlt : n < 2
    · have hlt' : (n : Int) < 2 := by omega
      have hw : IntKind.i64.wrap (1 - (n : Int)) = 1 - n := by rw [IntKind.wrap_i64]; omega
      have hl := crossTs_len f n
      obtain ⟨A5, c5, rfl, -⟩ := own_form h1.own.rows
      rw [hl] at c1
      have hL := LAt.start (l := [⟨1, 1, 0, 0, 0, 1⟩, ⟨8, 0, 1, 0, n, 0⟩]) (cs := #[Value.int .i64 1, Value.int .i64 1, Value.int .i64 0, Value.int .i64 0, Value.int .i64 0, Value.int .i64 1, Value.int .i64 8, Value.int .i64 0, Value.int .i64 1, Value.int .i64 0, Value.int .i64 n, Value.int .i64 0]) h1 (by simp) rfl
      cases f
      · go_wp2_with (at_builtin; refine wpList_append_lies _ rfl _ _ _ rfl (w.heap.size + 1) 72 i0 _ 6 48 Try.underlying97 hi0.out hz0 hz1 hz2 rfl (by omega) (.slice (some ⟨wr.heap.size, 0, none⟩) 2 2) 2 _ rfl (hL.alloc _).row ⟨wr.heap.size + 1, 0, none⟩ 1 1 [Value.int .i64 7, Value.int .i64 0, Value.int .i64 0, Value.int .i64 0, Value.int .i64 (1 - n), Value.int .i64 0] rfl rfl (World.news_of_block (cs := #[Value.int .i64 7, Value.int .i64 0, Value.int .i64 0, Value.int .i64 0, Value.int .i64 (1 - n), Value.int .i64 0]) (t := 72) (fr := (0, 0)) (by have := Blk.new (wr.alloc (Obj.cells #[Value.int .i64 1, Value.int .i64 1, Value.int .i64 0, Value.int .i64 0, Value.int .i64 0, Value.int .i64 1, Value.int .i64 8, Value.int .i64 0, Value.int .i64 1, Value.int .i64 0, Value.int .i64 n, Value.int .i64 0] 72)) 72 #[Value.int .i64 7, Value.int .i64 0, Value.int .i64 0, Value.int .i64 0, Value.int .i64 (1 - n), Value.int .i64 0]; simp only [World.size_alloc] at this; exact this)) (by simp [Value.oneCell']) (by omega) (by have : maxLen = 9223372036854775807 := rfl; omega) (by omega) (by simp; omega) _ rfl ?_)
        intro g7 cap7 w7 hown7 hgrow7 hat7 hlt7
        have hL2 := (hL.alloc _).growL (d := ⟨7, 0, 0, 0, 1 - n, 0⟩) (by simp [insVals]) hown7 hgrow7 (by simp only [World.size_alloc]; exact hat7)
        have hsz := hL2.cr.blk.lt
        obtain ⟨⟨e0, e1⟩, g0, g1⟩ := hL2.cr.cells
        rw [hl] at e1
        go_wp2_with (at_builtin; refine wpList_append_lies _ rfl _ _ _ rfl (w.heap.size + 1) 99 i2 _ 1 24 Try.underlying29 hi2.out hx0 hx1 hx2 rfl (by omega) (.slice A5 n c5) n vs rfl (by have := (hL2.alloc (Obj.cells #[Value.slice (some ⟨g7, 0, none⟩) 3 cap7] 99)).cr.own.rows; rw [hl] at this; exact this) ⟨w7.heap.size, 0, none⟩ 1 1 [Value.slice (some ⟨g7, 0, none⟩) 3 cap7] rfl rfl (World.news_of_block (cs := #[Value.slice (some ⟨g7, 0, none⟩) 3 cap7]) (t := 99) (fr := (0, 0)) (heap_alloc_new _ _)) (by simp [Value.oneCell']) (by omega) (by have : maxLen = 9223372036854775807 := rfl; omega) (by omega) (by simp; omega) _ rfl ?_)
        intro g9 cap9 w9 hown9 hgrow9 hat9 hlt9
        obtain ⟨⟨⟨p0, p1⟩, p2, p3⟩, h9⟩ := (hL2.alloc _).growRows rfl (by rw [hl]; exact hown9) (by rw [hl]; exact hgrow9)
        go_wp2_with fail
        go_roundw
        case rel => exact ⟨n + 1, _, _, by simp, by omega, by rw [crossTs_succ]; exact h9⟩
        case measure => simp [intOf]; omega
      · go_wp2_with (at_builtin; refine wpList_append_lies _ rfl _ _ _ rfl (w.heap.size + 1) 72 i0 _ 6 48 Try.underlying97 hi0.out hz0 hz1 hz2 rfl (by omega) (.slice (some ⟨wr.heap.size, 0, none⟩) 2 2) 2 _ rfl (hL.alloc _).row ⟨wr.heap.size + 1, 0, none⟩ 1 1 [Value.int .i64 12, Value.int .i64 0, Value.int .i64 0, Value.int .i64 0, Value.int .i64 0, Value.int .i64 0] rfl rfl (World.news_of_block (cs := #[Value.int .i64 12, Value.int .i64 0, Value.int .i64 0, Value.int .i64 0, Value.int .i64 0, Value.int .i64 0]) (t := 72) (fr := (0, 0)) (by have := Blk.new (wr.alloc (Obj.cells #[Value.int .i64 1, Value.int .i64 1, Value.int .i64 0, Value.int .i64 0, Value.int .i64 0, Value.int .i64 1, Value.int .i64 8, Value.int .i64 0, Value.int .i64 1, Value.int .i64 0, Value.int .i64 n, Value.int .i64 0] 72)) 72 #[Value.int .i64 12, Value.int .i64 0, Value.int .i64 0, Value.int .i64 0, Value.int .i64 0, Value.int .i64 0]; simp only [World.size_alloc] at this; exact this)) (by simp [Value.oneCell']) (by omega) (by have : maxLen = 9223372036854775807 := rfl; omega) (by omega) (by simp; omega) _ rfl ?_)
        intro g6 cap6 w6 hown6 hgrow6 hat6 hlt6
        have hL1 := (hL.alloc _).growL (d := ⟨12, 0, 0, 0, 0, 0⟩) (by simp [insVals]) hown6 hgrow6 (by simp only [World.size_alloc]; exact hat6)
        have hs6 := hL1.cr.blk.lt
        go_wp2_with (at_builtin; refine wpList_append_lies _ rfl _ _ _ rfl (w.heap.size + 1) 72 i0 _ 6 48 Try.underlying97 hi0.out hz0 hz1 hz2 rfl (by omega) (.slice (some ⟨g6, 0, none⟩) 3 cap6) 3 _ rfl (hL1.alloc _).row ⟨w6.heap.size, 0, none⟩ 1 1 [Value.int .i64 7, Value.int .i64 0, Value.int .i64 0, Value.int .i64 0, Value.int .i64 (1 - n), Value.int .i64 0] rfl rfl (World.news_of_block (cs := #[Value.int .i64 7, Value.int .i64 0, Value.int .i64 0, Value.int .i64 0, Value.int .i64 (1 - n), Value.int .i64 0]) (t := 72) (fr := (0, 0)) (heap_alloc_new _ _)) (by simp [Value.oneCell']) (by omega) (by have : maxLen = 9223372036854775807 := rfl; omega) (by omega) (by simp; omega) _ rfl ?_)
        intro g7 cap7 w7 hown7 hgrow7 hat7 hlt7
        have hL2 := (hL1.alloc _).growL (d := ⟨7, 0, 0, 0, 1 - n, 0⟩) (by simp [insVals]) hown7 hgrow7 (by simp only [World.size_alloc]; exact hat7)
        have hsz := hL2.cr.blk.lt
        obtain ⟨⟨e0, e1⟩, g0, g1⟩ := hL2.cr.cells
        rw [hl] at e1
        go_wp2_with (at_builtin; refine wpList_append_lies _ rfl _ _ _ rfl (w.heap.size + 1) 99 i2 _ 1 24 Try.underlying29 hi2.out hx0 hx1 hx2 rfl (by omega) (.slice A5 n c5) n vs rfl (by have := (hL2.alloc (Obj.cells #[Value.slice (some ⟨g7, 0, none⟩) 4 cap7] 99)).cr.own.rows; rw [hl] at this; exact this) ⟨w7.heap.size, 0, none⟩ 1 1 [Value.slice (some ⟨g7, 0, none⟩) 4 cap7] rfl rfl (World.news_of_block (cs := #[Value.slice (some ⟨g7, 0, none⟩) 4 cap7]) (t := 99) (fr := (0, 0)) (heap_alloc_new _ _)) (by simp [Value.oneCell']) (by omega) (by have : maxLen = 9223372036854775807 := rfl; omega) (by omega) (by simp; omega) _ rfl ?_)
        intro g9 cap9 w9 hown9 hgrow9 hat9 hlt9
        obtain ⟨⟨⟨p0, p1⟩, p2, p3⟩, h9⟩ := (hL2.alloc _).growRows rfl (by rw [hl]; exact hown9) (by rw [hl]; exact hgrow9)
        go_wp2_with fail
        go_roundw
        case rel => exact ⟨n + 1, _, _, by simp, by omega, by rw [crossTs_succ]; exact h9⟩
        case measure => simp [intOf]; omega
    · obtain rfl : n = 2 := by omega
      obtain ⟨A5, c5, rfl, -⟩ := own_form h1.own.rows
      obtain ⟨u, u', ho⟩ := h1.out
      have e0 : wr.cell? ⟨w.heap.size, 0, none⟩ = some u := ho.cell 0
      have e1 : wr.cell? ⟨w.heap.size, 1, none⟩ = some u' := ho.cell 1
      have z0 := ho.frozen 0
      have z1 := ho.frozen 1
      have hown := hide h1.own
      have hb := hide h1.below
      clear h1 ho
      go_wp2_with fail
      refine bodyPost_ret (v := .agg #[.slice (some ⟨w.heap.size + 1, 0, none⟩) 2 2, .slice A5 (crossTs f 2).length c5]) (by simp [results, Try.results127, go_sem, e0, e1]; done) rfl ⟨_, _, rfl, ⟨vs, ?_⟩, ?_⟩
      · exact ((hown.out.setCell (by show w.heap.size < w.heap.size + 1; omega) _).setCell (by show w.heap.size < w.heap.size + 1; omega) _).base (Nat.le_succ _)
      · exact (hb.out.setCell (Nat.le_refl _) _).setCell (Nat.le_refl _) _
end Go.Proofs.Ytfkaacfeikmabaa
