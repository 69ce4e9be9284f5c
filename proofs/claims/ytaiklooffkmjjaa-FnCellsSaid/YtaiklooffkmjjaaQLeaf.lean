/- The leaves of Quiet and CellOf, of the program and of the model. -/
import Derived.Test.YtaiklooffkmjjaaLeaf2
import Derived.Test.YtaiklooffkmjjaaCore
import Derived.BigQuiet
import Derived.Deep.QuietTactic
import Derived.BigRegion
namespace Go.Proofs.Ytaiklooffkmjjaa
open Go.RowKit

/-- What is put into the register, of two registers' numbers x and y. -/
def calcV (o n x y : Int) : Int :=
  if o = 2 then x else if o = 3 then wrap64 (x + y) else if o = 4 then wrap64 (x - y) else if o = 5 then (if x < y then 1 else 0) else if o = 6 then (if x = y then 1 else 0) else n
def quietB (o : Int) : Bool := knownB o && decide (touchN o = 0)
/-- Does it jump? x: register A. -/
def jumpsB (o x : Int) : Bool := decide (o = 14 ∨ (o = 13 ∧ x = 0))

theorem oneIf_any (b : Bool) (w : World) : Calls Try.prog 91 #[.bool b] w fun e w' => e = .returned (.int .i64 (if b then 1 else 0)) ∧ w' = w := by
  cases b
  all_goals
    go_enter Try.func91, Try.ntmps91
    go_wp2
    go_ret
    exact ⟨rfl, rfl⟩
theorem l2flag_any (b : Bool) (w : World) : Calls Try.prog 90 #[.bool b] w fun e w' => e = .returned (.int .i64 (if b then 1 else 0)) ∧ w' = w := by
  cases b
  all_goals
    go_enter Try.func90, Try.ntmps90
    go_wp2
    go_ret
    exact ⟨rfl, rfl⟩
theorem quietK_any (o : Int) (w : World) : Calls Try.prog 56 #[.int .i64 o] w fun e w' => e = .returned (.bool (quietB o)) ∧ w = w' := by
  have h1 := hide (show quietB o = (knownB o && decide (touchN o = 0)) from rfl)
  have k1 := hide (fun w => known_any o w)
  have k2 := hide (fun w => touches_any o w)
  generalize knownB o = p at *
  cases p
  · go_enter Try.func56, Try.ntmps56
    go_wp2_with fail
    refine (k1.out _).mono ?_
    rintro e w1 ⟨rfl, rfl⟩
    go_wp2_with fail
    go_ret
    exact ⟨ret_bool (by rw [h1.out]; rfl), rfl⟩
  · generalize touchN o = t at *
    by_cases ht : t = 0
    · subst ht
      go_enter Try.func56, Try.ntmps56
      go_wp2_with fail
      refine (k1.out _).mono ?_
      rintro e w1 ⟨rfl, rfl⟩
      go_wp2_with fail
      refine (k2.out _).mono ?_
      rintro e w1 ⟨rfl, rfl⟩
      go_wp2_with fail
      go_ret
      exact ⟨ret_bool (by rw [h1.out]; rfl), rfl⟩
    · go_enter Try.func56, Try.ntmps56
      go_wp2_with fail
      refine (k1.out _).mono ?_
      rintro e w1 ⟨rfl, rfl⟩
      go_wp2_with fail
      refine (k2.out _).mono ?_
      rintro e w1 ⟨rfl, rfl⟩
      go_wp2_with fail
      go_ret
      exact ⟨ret_bool (by rw [h1.out]; simp [ht]), rfl⟩
theorem fileOk_any (A : Option Addr) (n c : Nat) (w : World) : Calls Try.prog 38 #[.agg #[.slice A n c]] w fun e w' => e = .returned (.bool (decide (n = 6))) ∧ Below w.heap.size w w' := by
  go_enter Try.func38, Try.ntmps38
  go_wp2
  go_ret
  exact ⟨ret_bool (by rw [Bool.eq_iff_iff]; simp; try omega), below1 _ _⟩
theorem l2quiet_any (o : Int) (w : World) : Calls Try.prog 54 #[.int .i64 o] w fun e w' => e = .returned (.bool (decide ((1 ≤ o ∧ o ≤ 6) ∨ o = 13 ∨ o = 14))) ∧ w' = w := by
  go_enter Try.func54, Try.ntmps54
  go_wp2
  all_goals
    go_ret
    refine ⟨ret_bool ?_, rfl⟩
    rw [Bool.eq_iff_iff] <;> simp <;> omega

section
variable {S : Nat → Prop} {A : Option Addr} {zs : List Int} {w : World}
set_option maxRecDepth 100000 in
set_option maxHeartbeats 3200000 in
theorem result_any (o r x n : Int) (a b c : Nat) (ha : a < 6) (hb : b < 6) (hz : zs.length = 6) (hS : ∀ b, S b → b < w.heap.size) (hin : IntsAt w S A zs) :
    Calls Try.prog 60 #[.agg #[.int .i64 o, .int .i64 r, .int .i64 a, .int .i64 b, .int .i64 x, .int .i64 n], .agg #[.slice A 6 c]] w fun e w' => e = .returned (.int .i64 (calcV o n (geti zs a) (geti zs b))) ∧ Below w.heap.size w w' := by
  obtain ⟨bb, off, rfl, hSb, hci⟩ := hin.2 (by omega)
  have hlt := hS bb hSb
  have ca := hci a (by omega)
  have cb := hci b (by omega)
  have ha' : (a : Int) < 6 := by omega
  have hb' : (b : Int) < 6 := by omega
  clear hci hin hz hS hSb
  generalize geti zs a = za at *
  generalize geti zs b = zb at *
  have hb2 := hide (below2 w (Obj.cells #[Value.int .i64 o, Value.int .i64 r, Value.int .i64 a, Value.int .i64 b, Value.int .i64 x, Value.int .i64 n] 24) (Obj.cells #[Value.slice (some ⟨bb, off, none⟩) 6 c] 32))
  have KI := hide ((Blk.new w 24 #[Value.int .i64 o, Value.int .i64 r, Value.int .i64 a, Value.int .i64 b, Value.int .i64 x, Value.int .i64 n]).alloc (Obj.cells #[Value.slice (some ⟨bb, off, none⟩) 6 c] 32))
  have hcases : o = 2 ∨ o = 3 ∨ o = 4 ∨ (o = 5 ∧ za < zb) ∨ (o = 5 ∧ ¬ za < zb) ∨ (o = 6 ∧ za = zb) ∨ (o = 6 ∧ ¬ za = zb) ∨ (¬ o = 2 ∧ ¬ o = 3 ∧ ¬ o = 4 ∧ ¬ o = 5 ∧ ¬ o = 6) := by omega
  rcases hcases with rfl | rfl | rfl | ⟨rfl, h1⟩ | ⟨rfl, h1⟩ | ⟨rfl, rfl⟩ | ⟨rfl, h1⟩ | ⟨h1, h2, h3, h4, h5⟩
  all_goals
    go_enter Try.func60, Try.ntmps60
    go_wp2_with fail
    go_quiet (fail)
    go_wp2_with fail
    refine (kind_any _ _ _ _ _ _ _).mono ?_
    rintro e w1 ⟨rfl, hb1⟩
    have hB := hide (below_then hb2.out (below_then (below_drewN (Below.refl _ _) _) hb1))
    have c5 : w1.cell? ⟨w.heap.size, 5, none⟩ = some (.int .i64 n) := (hb1.cell (p := ⟨w.heap.size, 5, none⟩) (by simp; omega)).trans (KI.out.cell 5)
    go_wp2_with (first | (go_at_call 91; refine (oneIf_any _ _).mono ?_; rintro e w2 ⟨rfl, rfl⟩))
    go_ret
    exact ⟨ret_int (by simp [calcV, *]), hB.out⟩
end
end Go.Proofs.Ytaiklooffkmjjaa
