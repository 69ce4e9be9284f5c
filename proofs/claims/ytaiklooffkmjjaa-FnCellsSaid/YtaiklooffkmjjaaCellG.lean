/- CellOf, of the program and of the model, where A is a register. · CellOf of an instruction whose A is a register, and a file. · The document's CellOf of an instruction whose A is a register, and a file. · CellOf of a file of five numbers, and of five or six. -/
import Derived.Test.YtaiklooffkmjjaaQFr
import Derived.Test.YtaiklooffkmjjaaLeaf2
import Derived.BigQuiet
import Derived.Deep.QuietTactic
import Derived.Test.YtaiklooffkmjjaaTouch
namespace Go.Proofs.Ytaiklooffkmjjaa
open Go.RowKit

/-- What is left by n, in 0 .. n - 1. -/
def restV (x n : Int) : Int := if x.tmod n < 0 then wrap64 (x.tmod n + n) else x.tmod n
/-- The cell, of a register's number y. -/
def cellV (o x n y : Int) (len : Nat) : Int :=
  if len = 6 then (if o = 7 ∨ o = 8 ∨ o = 11 then x else if (o = 9 ∨ o = 10) ∧ 1 ≤ n then wrap64 (x + restV y n) else -1) else -1

set_option maxHeartbeats 800000 in
theorem restOf_any (y n : Int) (w : World) (hn : 1 ≤ n) : Calls Try.prog 40 #[.int .i64 y, .int .i64 n] w fun e w' => e = .returned (.int .i64 (restV y n)) ∧ w' = w := by
  have h0 : ¬ n = 0 := by omega
  by_cases h : y.tmod n < 0
  · go_enter Try.func40, Try.ntmps40
    go_wp2
    go_ret
    exact ⟨ret_int (by unfold restV; rw [if_pos h]), rfl⟩
  · go_enter Try.func40, Try.ntmps40
    go_wp2
    go_ret
    exact ⟨ret_int (by unfold restV; rw [if_neg (by omega)]), rfl⟩
set_option maxHeartbeats 800000 in
theorem l2rest_any (y n : Int) (w : World) (hn : 1 ≤ n) : Calls Try.prog 42 #[.int .i64 y, .int .i64 n] w fun e w' => e = .returned (.int .i64 (restV y n)) ∧ w' = w := by
  have h0 : ¬ n = 0 := by omega
  by_cases h : y.tmod n < 0
  · go_enter Try.func42, Try.ntmps42
    go_wp2
    go_ret
    exact ⟨ret_int (by unfold restV; rw [if_pos h]), rfl⟩
  · go_enter Try.func42, Try.ntmps42
    go_wp2
    go_ret
    exact ⟨ret_int (by unfold restV; rw [if_neg (by omega)]), rfl⟩
end Go.Proofs.Ytaiklooffkmjjaa

namespace Go.Proofs.Ytaiklooffkmjjaa
open Go.RowKit

section
variable {o r x n b : Int} {a c : Nat} {A : Option Addr} {zs : List Int} {w : World}
set_option maxRecDepth 100000 in
set_option maxHeartbeats 6400000 in
theorem cellOf_any (o r x n b : Int) (a c : Nat) (ha : a < 6) (hz : zs.length = 6) (hin : IntsAt w (Old w.heap.size) A zs) :
    Calls Try.prog 12 #[.agg #[.int .i64 o, .int .i64 r, .int .i64 a, .int .i64 b, .int .i64 x, .int .i64 n], .agg #[.slice A zs.length c]] w fun e w' => e = .returned (.int .i64 (cellV o x n (geti zs a) zs.length)) ∧ Below w.heap.size w w' := by
  have H0 := hide (Fr.start (o := o) (r := r) (a := a) (b := b) (x := x) (n := n) (c := c) hin)
  have hx : ∀ {wx : World}, Fr w o r a b x n A c zs wx → ∃ bb off, A = some ⟨bb, off, none⟩ ∧ wx.cell? ⟨bb, off + a, none⟩ = some (.int .i64 (geti zs a)) := fun h => by
    obtain ⟨bb, off, e, _, hc⟩ := h.row.2 (by omega)
    exact ⟨bb, off, e, hc a (by omega)⟩
  have ha' : (a : Int) < 6 := by omega
  have hr : regB (a : Int) = true := by simp [regB]; omega
  have kr := hide (fun w => isReg_any (a : Int) w)
  rw [hr] at kr
  rw [hz] at H0 ⊢
  have hd : decide (6 = 6) = true := rfl
  have hcases : o = 7 ∨ o = 8 ∨ o = 11 ∨ (o = 9 ∧ n < 1) ∨ (o = 10 ∧ n < 1) ∨ (o = 9 ∧ 1 ≤ n) ∨ (o = 10 ∧ 1 ≤ n) ∨ (¬ o = 7 ∧ ¬ o = 8 ∧ ¬ o = 11 ∧ ¬ o = 9 ∧ ¬ o = 10) := by omega
  have hN : n < 1 ∨ 1 ≤ n := by omega
  rcases hcases with rfl | rfl | rfl | ⟨rfl, h1⟩ | ⟨rfl, h1⟩ | ⟨rfl, h1⟩ | ⟨rfl, h1⟩ | ⟨h1, h2, h3, h4, h5⟩
  all_goals
    go_enter Try.func12, Try.ntmps12
    go_wp2_with fail
    refine (fileOk_any _ _ _ _).mono ?_
    rintro e w1 ⟨rfl, hb1⟩
    have H1 := hide (H0.out.next hb1)
    obtain ⟨⟨e0, e1, e2, e3, e4, e5⟩, e6⟩ := H1.out.cells
    go_wp2_with fail
    refine (kr.out _).mono ?_
    rintro e w2 ⟨rfl, rfl⟩
    go_wp2_with fail
    refine (kind_any _ _ _ _ _ _ _).mono ?_
    rintro e w3 ⟨rfl, hb3⟩
    have H3 := hide (H1.out.next hb3)
    clear e0 e1 e2 e3 e4 e5 e6
    obtain ⟨⟨e0, e1, e2, e3, e4, e5⟩, e6⟩ := H3.out.cells
    rw [hz] at e6
    obtain ⟨bb, off, rfl, hcl⟩ := hx H3.out
    go_wp2_with fail
  iterate 3
    · go_ret
      exact ⟨ret_int (by simp [cellV]), H3.out.below⟩
  iterate 2
    · go_ret
      exact ⟨ret_int (by unfold cellV; rw [if_pos rfl, if_neg (by omega), if_neg (by omega)]), H3.out.below⟩
  iterate 2
    · go_quiet (first | (go_at_call 40; refine Calls.quiet_of_same (restOf_any _ _ _ h1)))
      go_wp2_with fail
      go_ret
      exact ⟨ret_int (by unfold cellV; rw [if_pos rfl, if_neg (by omega), if_pos (by omega)]), below_drewN H3.out.below _⟩
  · go_ret
    exact ⟨ret_int (by unfold cellV; rw [if_pos rfl, if_neg (by omega), if_neg (by omega)]), H3.out.below⟩
end
end Go.Proofs.Ytaiklooffkmjjaa

namespace Go.Proofs.Ytaiklooffkmjjaa
open Go.RowKit

section
variable {A : Option Addr} {zs : List Int} {w : World}
set_option maxRecDepth 100000 in
set_option maxHeartbeats 6400000 in
theorem scellOf_any (o r x n b : Int) (a c : Nat) (ha : a < 6) (hz : zs.length = 6) (hin : IntsAt w (Old w.heap.size) A zs) :
    Calls Try.prog 13 #[.agg #[.int .i64 o, .int .i64 r, .int .i64 a, .int .i64 b, .int .i64 x, .int .i64 n], .agg #[.slice A zs.length c]] w fun e w' => e = .returned (.int .i64 (cellV o x n (geti zs a) zs.length)) ∧ Below w.heap.size w w' := by
  have H0 := hide (Fr.start (o := o) (r := r) (a := a) (b := b) (x := x) (n := n) (c := c) hin)
  have hx : ∀ {wx : World}, Fr w o r a b x n A c zs wx → ∃ bb off, A = some ⟨bb, off, none⟩ ∧ wx.cell? ⟨bb, off + a, none⟩ = some (.int .i64 (geti zs a)) := fun h => by
    obtain ⟨bb, off, e, _, hc⟩ := h.row.2 (by omega)
    exact ⟨bb, off, e, hc a (by omega)⟩
  have ha' : (a : Int) < 6 := by omega
  have hr : regB (a : Int) = true := by simp [regB]; omega
  have kr := hide (fun w => l1reg_any (a : Int) w)
  rw [hr] at kr
  rw [hz] at ⊢
  have hcases : o = 7 ∨ o = 8 ∨ o = 11 ∨ (o = 9 ∧ n < 1) ∨ (o = 10 ∧ n < 1) ∨ (o = 9 ∧ 1 ≤ n) ∨ (o = 10 ∧ 1 ≤ n) ∨ (¬ o = 7 ∧ ¬ o = 8 ∧ ¬ o = 11 ∧ ¬ o = 9 ∧ ¬ o = 10) := by omega
  rcases hcases with rfl | rfl | rfl | ⟨rfl, h1⟩ | ⟨rfl, h1⟩ | ⟨rfl, h1⟩ | ⟨rfl, h1⟩ | ⟨h1, h2, h3, h4, h5⟩
  all_goals
    rw [hz] at H0
    go_enter Try.func13, Try.ntmps13
    go_wp2_with fail
  iterate 3
    · go_ret
      exact ⟨ret_int (by simp [cellV]), below2 _ _ _⟩
  iterate 2
    · refine (kr.out _).mono ?_
      rintro e w2 ⟨rfl, rfl⟩
      go_wp2_with fail
      go_ret
      exact ⟨ret_int (by unfold cellV; rw [if_pos rfl, if_neg (by omega), if_neg (by omega)]), below2 _ _ _⟩
  iterate 2
    · refine (kr.out _).mono ?_
      rintro e w2 ⟨rfl, hw2⟩
      rw [hw2] at H0
      obtain ⟨bb, off, rfl, hcl⟩ := hx H0.out
      have H3 := H0
      clear hw2 H0
      obtain ⟨⟨e0, e1, e2, e3, e4, e5⟩, e6⟩ := H3.out.cells
      rw [hz] at e6
      go_wp2_with fail
      go_quiet (first | (go_at_call 42; refine Calls.quiet_of_same (l2rest_any _ _ _ h1)))
      go_wp2_with fail
      go_ret
      exact ⟨ret_int (by unfold cellV; rw [if_pos rfl, if_neg (by omega), if_pos (by omega)]), below_drewN H3.out.below _⟩
  · go_ret
    exact ⟨ret_int (by unfold cellV; rw [if_pos rfl, if_neg (by omega), if_neg (by omega)]), below2 _ _ _⟩
end
end Go.Proofs.Ytaiklooffkmjjaa

namespace Go.Proofs.Ytaiklooffkmjjaa
open Go.RowKit

set_option maxRecDepth 100000 in
set_option maxHeartbeats 1600000 in
theorem cellOf_five (o r x n b a : Int) (c : Nat) (A : Option Addr) (w : World) :
    Calls Try.prog 12 #[.agg #[.int .i64 o, .int .i64 r, .int .i64 a, .int .i64 b, .int .i64 x, .int .i64 n], .agg #[.slice A 5 c]] w fun e w' => e = .returned (.int .i64 (-1)) ∧ Below w.heap.size w w' := by
  have hb0 := hide (below2 w (Obj.cells #[.int .i64 o, .int .i64 r, .int .i64 a, .int .i64 b, .int .i64 x, .int .i64 n] 24) (Obj.cells #[.slice A 5 c] 32))
  have hd : decide ((5 : Nat) = 6) = false := rfl
  have k := fun w => fileOk_any A 5 c w
  rw [hd] at k
  replace k := hide k
  go_enter Try.func12, Try.ntmps12
  go_wp2_with fail
  refine (k.out _).mono ?_
  rintro e w1 ⟨rfl, hb1⟩
  go_wp2_with fail
  go_ret
  exact ⟨rfl, below_then hb0.out hb1⟩

set_option maxRecDepth 100000 in
set_option maxHeartbeats 1600000 in
theorem scellOf_five (o r x n b a : Int) (c : Nat) (A : Option Addr) (w : World) :
    Calls Try.prog 13 #[.agg #[.int .i64 o, .int .i64 r, .int .i64 a, .int .i64 b, .int .i64 x, .int .i64 n], .agg #[.slice A 5 c]] w fun e w' => e = .returned (.int .i64 (-1)) ∧ Below w.heap.size w w' := by
  have hb0 := hide (below2 w (Obj.cells #[.int .i64 o, .int .i64 r, .int .i64 a, .int .i64 b, .int .i64 x, .int .i64 n] 24) (Obj.cells #[.slice A 5 c] 32))
  have hcases : o = 7 ∨ o = 8 ∨ o = 11 ∨ o = 9 ∨ o = 10 ∨ (¬ o = 7 ∧ ¬ o = 8 ∧ ¬ o = 11 ∧ ¬ o = 9 ∧ ¬ o = 10) := by omega
  rcases hcases with rfl | rfl | rfl | rfl | rfl | ⟨h1, h2, h3, h4, h5⟩
  all_goals
    go_enter Try.func13, Try.ntmps13
    go_wp2_with fail
    go_ret
    exact ⟨rfl, hb0.out⟩

/-- Of five or six. -/
theorem cellOf_all (o r x n b : Int) (a c : Nat) (A : Option Addr) (zs : List Int) (w : World) (ha : a < 6) (hz : zs.length = 6 ∨ zs.length = 5) (hin : IntsAt w (Old w.heap.size) A zs) :
    (Calls Try.prog 12 #[.agg #[.int .i64 o, .int .i64 r, .int .i64 a, .int .i64 b, .int .i64 x, .int .i64 n], .agg #[.slice A zs.length c]] w fun e w' => e = .returned (.int .i64 (cellV o x n (geti zs a) zs.length)) ∧ Below w.heap.size w w') ∧
    (Calls Try.prog 13 #[.agg #[.int .i64 o, .int .i64 r, .int .i64 a, .int .i64 b, .int .i64 x, .int .i64 n], .agg #[.slice A zs.length c]] w fun e w' => e = .returned (.int .i64 (cellV o x n (geti zs a) zs.length)) ∧ Below w.heap.size w w') := by
  rcases hz with hz | hz
  · exact ⟨cellOf_any o r x n b a c ha hz hin, scellOf_any o r x n b a c ha hz hin⟩
  · have e : cellV o x n (geti zs a) zs.length = -1 := by unfold cellV; rw [if_neg (by omega)]
    rw [e, hz]
    exact ⟨cellOf_five _ _ _ _ _ _ _ _ _, scellOf_five _ _ _ _ _ _ _ _ _⟩

theorem restV_in {y n : Int} (h : 1 ≤ n) (h2 : n ≤ 100) : 0 ≤ restV y n ∧ restV y n < n := by
  have h1 := Int.tmod_lt_of_pos y (show 0 < n by omega)
  have h3 : -n < y.tmod n := by
    have h5 := Int.tmod_lt_of_pos (-y) (show 0 < n by omega)
    rw [Int.neg_tmod] at h5
    omega
  unfold restV
  split
  · have : wrap64 (y.tmod n + n) = y.tmod n + n := by unfold wrap64; omega
    omega
  · omega
/-- The cell of an instruction whose X is none below 0 is one that it touches. -/
theorem cellV_touch {o x n y : Int} {len : Nat} (hx : 0 ≤ x) (hx2 : x ≤ 30) (hn2 : n ≤ 30) (h : ¬ cellV o x n y len = -1) : 0 < touchD o x n (cellV o x n y len) := by
  have hc : cellV o x n y len = (if o = 7 ∨ o = 8 ∨ o = 11 then x else wrap64 (x + restV y n)) ∧ (o = 7 ∨ o = 8 ∨ o = 11 ∨ (o = 9 ∨ o = 10) ∧ 1 ≤ n) := by
    unfold cellV at h ⊢
    split at h
    · rename_i hl
      rw [if_pos hl]
      split at h
      · rename_i ho
        exact ⟨by rw [if_pos ho, if_pos ho], by omega⟩
      · rename_i ho
        split at h
        · rename_i h9
          exact ⟨by rw [if_neg ho, if_neg ho, if_pos h9], by omega⟩
        · omega
    · omega
  obtain ⟨e, hc⟩ := hc
  rw [e]
  unfold touchD countN touchN
  by_cases ho : o = 7 ∨ o = 8 ∨ o = 11
  · rw [if_pos ho, if_pos ho]
    rw [if_pos (by omega)]
    repeat' split
    all_goals omega
  · rw [if_neg ho, if_neg ho]
    have hn : 1 ≤ n := by omega
    obtain ⟨h1, h2⟩ := restV_in (y := y) hn (by omega)
    have hw : wrap64 (x + restV y n) = x + restV y n := by unfold wrap64; omega
    rw [hw, if_pos (show o = 9 ∨ o = 10 by omega), if_pos (by omega)]
    repeat' split
    all_goals omega
end Go.Proofs.Ytaiklooffkmjjaa
