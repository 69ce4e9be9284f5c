/- FnExactPlaceOf: for every history and number, PlaceOf answers as the model does and leaves its arguments as they were. No condition. -/
import Derived.Test.YtbhfkfapdpedpaaExPlaceW
import Derived.Test.YtbhfkfapdpedpaaOpenHist
namespace Go.Proofs.Ytbhfkfapdpedpaa
open Go.RowKit Go.Joins Go.ChangeShapes Go.WideShapes Go.ChangeAt Go.Deep

theorem laidOut_fnExactPlaceOf : laidOutB Try.prog = true := by kernel_rfl
theorem own_fnExactPlaceOf : ownKnob Try.prog.godebug = none := by kernel_rfl

set_option maxRecDepth 100000 in
theorem fnExactPlaceOf_lifted (os : Os) (started : os.Started) (H : Type) (enc : TypeId × Value → H) :
    ReturnsInHanded {} Try.checked os 13 .any (Rows.fnExactPlaceOfSpec.pre6 enc Try.prog Try.f13 [] false) (Rows.fnExactPlaceOfSpec.post enc Try.prog Try.f13 false true false false) := by
  refine returnsInHanded_of_change (C := Try.checked) own_fnExactPlaceOf started (by kernel_rfl) Try.func13
    (ChangeSpec.witness6 (enc := enc) (C := Try.checked) (os := os) false ⟨#[], #[.agg #[.slice none 0 0], .int .i64 0], []⟩ 8 (by kernel_rfl) (by kernel_rfl) (by kernel_rfl) (by kernel_rfl)) ?_
  intro W base args ds gs before hval hW _ _
  have hW' := hW
  obtain ⟨p, q, hA0, hV, rfl, hfz, hnd⟩ := hW
  have hA : DataW.TrodAll enc Try.prog W 0 (fun _ => true) true Try.f13.params.toList args.toList ds p := hA0
  rw [Try.params13] at hA hval
  obtain ⟨v0, v1, d0, d1, p0, p1, hargs, hds, hp, h0, h1⟩ := trodAll_two hA
  obtain rfl : args = #[v0, v1] := by cases args; simp_all
  obtain ⟨A0, c0, l0, rfl, -, hi0, hw0⟩ := open_hist (hval 0 _ v0 rfl rfl) h0
  obtain ⟨x1, rfl, -, -, hw1⟩ := open_int Try.underlying3 (hval 1 _ v1 rfl rfl) h1
  refine (exPlaceOf_walk A0 l0 c0 x1 W hi0 hw0 hw1).mono fun e W' ⟨he, hb⟩ => ⟨_, he, ?_⟩
  refine law_post laidOut_fnExactPlaceOf (fun t ht => ?_) rfl (by kernel_rfl) Try.underlying4 (fun ds hds => ?_) hW' hb
  · rw [Try.params13] at ht
    simp at ht
    rcases ht with rfl | rfl
    all_goals exact ⟨by kernel_rfl, of_decide_eq_true (by kernel_rfl)⟩
  · rw [Try.params13] at hds
    match ds, hds with
    | [_, _], _ => exact ⟨rfl, rfl, rfl⟩


theorem fnExactPlaceOf_f1 : (Rows.fnExactPlaceOfRow.inPlace == Try.prog.inPlace 13) = true := by kernel_rfl
theorem fnExactPlaceOf_f2 : (Rows.fnExactPlaceOfRow.unfollowed == Try.prog.unfollowed 13) = true := by kernel_rfl
theorem fnExactPlaceOf_f3 : (Rows.fnExactPlaceOfRow.recurses == Try.prog.recurses 13) = true := by kernel_rfl
theorem fnExactPlaceOf_f4 : (Rows.fnExactPlaceOfRow.named == Try.prog.varsNamed 13) = true := by kernel_rfl
theorem fnExactPlaceOf_facts : joinedFacts Try.prog 13 Try.f13 Rows.fnExactPlaceOfSpec Rows.fnExactPlaceOfRow = true := by
  unfold joinedFacts
  rw [fnExactPlaceOf_f1, fnExactPlaceOf_f2, fnExactPlaceOf_f3, fnExactPlaceOf_f4]
  kernel_rfl

theorem fnExactPlaceOf_holds : Rows.FnExactPlaceOfSaid :=
  OpenClaim.holds_of_wide 13 Try.f13 rfl rfl rfl rfl rfl rfl rfl ⟨rfl, rfl, rfl, rfl, rfl⟩ rfl rfl rfl rfl rfl (by kernel_rfl) Try.func13 fnExactPlaceOf_facts
    (of_decide_eq_true (by kernel_rfl)) (by unfold Func.isWrapper; first | (rw [if_pos (by decide +kernel)]; kernel_rfl) | (rw [if_neg (by decide +kernel)]; exact ⟨rfl, rfl⟩))
    (fun os started H enc _ => fnExactPlaceOf_lifted os started H enc)
#print axioms fnExactPlaceOf_holds
end Go.Proofs.Ytbhfkfapdpedpaa
