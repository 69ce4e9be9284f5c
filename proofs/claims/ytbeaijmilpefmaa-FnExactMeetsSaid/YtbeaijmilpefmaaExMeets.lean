/- FnExactMeets: for every outcome and conditions, Meets answers as the model does and leaves its arguments as they were. No condition. -/
import Derived.Test.YtbeaijmilpefmaaExMeetsW
import Derived.Test.YtbeaijmilpefmaaOpenOut
import Derived.Test.YtbeaijmilpefmaaOpenCond
namespace Go.Proofs.Ytbeaijmilpefmaa
open Go.RowKit Go.Joins Go.ChangeShapes Go.WideShapes Go.ChangeAt Go.Deep

theorem laidOut_fnExactMeets : laidOutB Try.prog = true := by kernel_rfl
theorem own_fnExactMeets : ownKnob Try.prog.godebug = none := by kernel_rfl

set_option maxRecDepth 100000 in
theorem fnExactMeets_lifted (os : Os) (started : os.Started) (H : Type) (enc : TypeId × Value → H) :
    ReturnsInHanded {} Try.checked os 3 .any (Rows.fnExactMeetsSpec.pre6 enc Try.prog Try.f3 [] false) (Rows.fnExactMeetsSpec.post enc Try.prog Try.f3 false true false false) := by
  refine returnsInHanded_of_change (C := Try.checked) own_fnExactMeets started (by kernel_rfl) Try.func3
    (ChangeSpec.witness6 (enc := enc) (C := Try.checked) (os := os) false ⟨#[], #[.agg #[.slice none 0 0], .slice none 0 0], []⟩ 8 (by kernel_rfl) (by kernel_rfl) (by kernel_rfl) (by kernel_rfl)) ?_
  intro W base args ds gs before hval hW _ _
  have hW' := hW
  obtain ⟨p, q, hA0, hV, rfl, hfz, hnd⟩ := hW
  have hA : DataW.TrodAll enc Try.prog W 0 (fun _ => true) true Try.f3.params.toList args.toList ds p := hA0
  rw [Try.params3] at hA hval
  obtain ⟨v0, v1, d0, d1, p0, p1, hargs, hds, hp, h0, h1⟩ := trodAll_two hA
  obtain rfl : args = #[v0, v1] := by cases args; simp_all
  obtain ⟨A0, zs0, c0, rfl, hi0⟩ := open_outcome (hval 0 _ v0 rfl rfl) h0
  obtain ⟨A1, n1, c1, rfl, -, hn1, hi1⟩ := open_conds (hval 1 _ v1 rfl rfl) h1
  refine (exMeets_walk A0 A1 zs0 c0 n1 c1 W hi0 hn1 hi1).mono fun e W' ⟨he, hb⟩ => ⟨_, he, ?_⟩
  refine law_post laidOut_fnExactMeets (fun t ht => ?_) rfl (by kernel_rfl) Try.underlying4 (fun ds hds => ?_) hW' hb
  · rw [Try.params3] at ht
    simp at ht
    rcases ht with rfl | rfl
    all_goals exact ⟨by kernel_rfl, of_decide_eq_true (by kernel_rfl)⟩
  · rw [Try.params3] at hds
    match ds, hds with
    | [_, _], _ => exact ⟨rfl, rfl, rfl⟩

theorem fnExactMeets_holds : Rows.FnExactMeetsSaid :=
  OpenClaim.holds_of_wide 3 Try.f3 rfl rfl rfl rfl rfl rfl rfl ⟨rfl, rfl, rfl, rfl, rfl⟩ rfl rfl rfl rfl rfl (by kernel_rfl) Try.func3 (by kernel_rfl)
    (of_decide_eq_true (by kernel_rfl)) (by unfold Func.isWrapper; first | (rw [if_pos (by decide +kernel)]; kernel_rfl) | (rw [if_neg (by decide +kernel)]; exact ⟨rfl, rfl⟩))
    (fun os started H enc _ => fnExactMeets_lifted os started H enc)
#print axioms fnExactMeets_holds
end Go.Proofs.Ytbeaijmilpefmaa
