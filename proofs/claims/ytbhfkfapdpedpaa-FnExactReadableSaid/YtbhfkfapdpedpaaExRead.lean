/- FnExactReadable: for every history and number, Readable answers as the model does, leaves its arguments as they were, and its answer owns its memory. No condition. -/
import Derived.Test.YtbhfkfapdpedpaaExReadW
import Derived.Test.YtbhfkfapdpedpaaOpenHist
namespace Go.Proofs.Ytbhfkfapdpedpaa
open Go.RowKit Go.Joins Go.ChangeShapes Go.WideShapes Go.ChangeAt Go.Deep

theorem laidOut_fnExactReadable : laidOutB Try.prog = true := by kernel_rfl
theorem own_fnExactReadable : ownKnob Try.prog.godebug = none := by kernel_rfl

set_option maxRecDepth 100000 in
theorem fnExactReadable_lifted (os : Os) (started : os.Started) (H : Type) (enc : TypeId × Value → H) :
    ReturnsInHanded {} Try.checked os 15 .any (Rows.fnExactReadableSpec.pre6 enc Try.prog Try.f15 [] false) (Rows.fnExactReadableSpec.post enc Try.prog Try.f15 false true false false) := by
  refine returnsInHanded_of_change (C := Try.checked) own_fnExactReadable started (by kernel_rfl) Try.func15
    (ChangeSpec.witness6 (enc := enc) (C := Try.checked) (os := os) false ⟨#[], #[.agg #[.slice none 0 0], .int .i64 0], []⟩ 8 (by kernel_rfl) (by kernel_rfl) (by kernel_rfl) (by kernel_rfl)) ?_
  intro W base args ds gs before hval hW _ _
  have hW' := hW
  obtain ⟨p, q, hA0, hV, rfl, hfz, hnd⟩ := hW
  have hA : DataW.TrodAll enc Try.prog W 0 (fun _ => true) true Try.f15.params.toList args.toList ds p := hA0
  rw [Try.params15] at hA hval
  obtain ⟨v0, v1, d0, d1, p0, p1, hargs, hds, hp, h0, h1⟩ := trodAll_two hA
  obtain rfl : args = #[v0, v1] := by cases args; simp_all
  obtain ⟨A0, c0, l0, rfl, -, hi0, hw0⟩ := open_hist (hval 0 _ v0 rfl rfl) h0
  obtain ⟨x1, rfl, -, -, hw1⟩ := open_int Try.underlying3 (hval 1 _ v1 rfl rfl) h1
  refine (exReadable_walk A0 l0 c0 x1 W hi0 hw0 hw1).mono fun e W' ⟨he, hb⟩ => ⟨_, he, ?_⟩
  refine law_post laidOut_fnExactReadable (fun t ht => ?_) rfl (by kernel_rfl) Try.underlying4 (fun ds hds => ?_) hW' hb
  · rw [Try.params15] at ht
    simp at ht
    rcases ht with rfl | rfl
    all_goals exact ⟨by kernel_rfl, of_decide_eq_true (by kernel_rfl)⟩
  · rw [Try.params15] at hds
    match ds, hds with
    | [_, _], _ => exact ⟨rfl, rfl, rfl⟩


theorem fnExactReadable_f1 : (Rows.fnExactReadableRow.inPlace == Try.prog.inPlace 15) = true := by kernel_rfl
theorem fnExactReadable_f2 : (Rows.fnExactReadableRow.unfollowed == Try.prog.unfollowed 15) = true := by kernel_rfl
theorem fnExactReadable_f3 : (Rows.fnExactReadableRow.recurses == Try.prog.recurses 15) = true := by kernel_rfl
theorem fnExactReadable_f4 : (Rows.fnExactReadableRow.named == Try.prog.varsNamed 15) = true := by kernel_rfl
theorem fnExactReadable_facts : joinedFacts Try.prog 15 Try.f15 Rows.fnExactReadableSpec Rows.fnExactReadableRow = true := by
  unfold joinedFacts
  rw [fnExactReadable_f1, fnExactReadable_f2, fnExactReadable_f3, fnExactReadable_f4]
  kernel_rfl

theorem fnExactReadable_holds : Rows.FnExactReadableSaid :=
  OpenClaim.holds_of_wide 15 Try.f15 rfl rfl rfl rfl rfl rfl rfl ⟨rfl, rfl, rfl, rfl, rfl⟩ rfl rfl rfl rfl rfl (by kernel_rfl) Try.func15 fnExactReadable_facts
    (of_decide_eq_true (by kernel_rfl)) (by unfold Func.isWrapper; first | (rw [if_pos (by decide +kernel)]; kernel_rfl) | (rw [if_neg (by decide +kernel)]; exact ⟨rfl, rfl⟩))
    (fun os started H enc _ => fnExactReadable_lifted os started H enc)
#print axioms fnExactReadable_holds
end Go.Proofs.Ytbhfkfapdpedpaa
