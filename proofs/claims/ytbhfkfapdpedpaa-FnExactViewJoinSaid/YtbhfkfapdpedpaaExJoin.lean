/- FnExactViewJoin: for all histories and views, ViewJoin answers as the model does, leaves its arguments as they were, and its answer owns its memory. No condition. -/
import Derived.Test.YtbhfkfapdpedpaaExJoinW
import Derived.Test.YtbhfkfapdpedpaaOpenHist
namespace Go.Proofs.Ytbhfkfapdpedpaa
open Go.RowKit Go.Joins Go.ChangeShapes Go.WideShapes Go.ChangeAt Go.Deep

theorem laidOut_fnExactViewJoin : laidOutB Try.prog = true := by kernel_rfl
theorem own_fnExactViewJoin : ownKnob Try.prog.godebug = none := by kernel_rfl

set_option maxRecDepth 100000 in
theorem fnExactViewJoin_lifted (os : Os) (started : os.Started) (H : Type) (enc : TypeId × Value → H) :
    ReturnsInHanded {} Try.checked os 14 .any (Rows.fnExactViewJoinSpec.pre6 enc Try.prog Try.f14 [] false) (Rows.fnExactViewJoinSpec.post enc Try.prog Try.f14 false true false false) := by
  refine returnsInHanded_of_change (C := Try.checked) own_fnExactViewJoin started (by kernel_rfl) Try.func14
    (ChangeSpec.witness6 (enc := enc) (C := Try.checked) (os := os) false ⟨#[], #[.slice none 0 0, .slice none 0 0, .slice none 0 0], []⟩ 8 (by kernel_rfl) (by kernel_rfl) (by kernel_rfl) (by kernel_rfl)) ?_
  intro W base args ds gs before hval hW _ _
  have hW' := hW
  obtain ⟨p, q, hA0, hV, rfl, hfz, hnd⟩ := hW
  have hA : DataW.TrodAll enc Try.prog W 0 (fun _ => true) true Try.f14.params.toList args.toList ds p := hA0
  rw [Try.params14] at hA hval
  obtain ⟨v0, v1, v2, d0, d1, d2, p0, p1, p2, hargs, hds, hp, h0, h1, h2⟩ := trodAll_three hA
  obtain rfl : args = #[v0, v1, v2] := by cases args; simp_all
  obtain ⟨A0, c0, hs0, rfl, -, hi0, hw0⟩ := open_hists (hval 0 _ v0 rfl rfl) h0
  obtain ⟨A1, c1, zs1, rfl, -, hi1, hw1⟩ := open_ints_wf (hval 1 _ v1 rfl rfl) h1
  obtain ⟨A2, c2, zs2, rfl, -, hi2, hw2⟩ := open_ints_wf (hval 2 _ v2 rfl rfl) h2
  refine (exViewJoin_walk A0 hs0 c0 A1 zs1 c1 A2 zs2 c2 W hi0 hi1 hi2 hw0 hw1 hw2).mono fun e W' ⟨he, hb⟩ => ⟨_, he, ?_⟩
  refine law_post laidOut_fnExactViewJoin (fun t ht => ?_) rfl (by kernel_rfl) Try.underlying4 (fun ds hds => ?_) hW' hb
  · rw [Try.params14] at ht
    simp at ht
    rcases ht with rfl | rfl
    all_goals exact ⟨by kernel_rfl, of_decide_eq_true (by kernel_rfl)⟩
  · rw [Try.params14] at hds
    match ds, hds with
    | [_, _, _], _ => exact ⟨rfl, rfl, rfl⟩


theorem fnExactViewJoin_f1 : (Rows.fnExactViewJoinRow.inPlace == Try.prog.inPlace 14) = true := by kernel_rfl
theorem fnExactViewJoin_f2 : (Rows.fnExactViewJoinRow.unfollowed == Try.prog.unfollowed 14) = true := by kernel_rfl
theorem fnExactViewJoin_f3 : (Rows.fnExactViewJoinRow.recurses == Try.prog.recurses 14) = true := by kernel_rfl
theorem fnExactViewJoin_f4 : (Rows.fnExactViewJoinRow.named == Try.prog.varsNamed 14) = true := by kernel_rfl
theorem fnExactViewJoin_facts : joinedFacts Try.prog 14 Try.f14 Rows.fnExactViewJoinSpec Rows.fnExactViewJoinRow = true := by
  unfold joinedFacts
  rw [fnExactViewJoin_f1, fnExactViewJoin_f2, fnExactViewJoin_f3, fnExactViewJoin_f4]
  kernel_rfl

theorem fnExactViewJoin_holds : Rows.FnExactViewJoinSaid :=
  OpenClaim.holds_of_wide 14 Try.f14 rfl rfl rfl rfl rfl rfl rfl ⟨rfl, rfl, rfl, rfl, rfl⟩ rfl rfl rfl rfl rfl (by kernel_rfl) Try.func14 fnExactViewJoin_facts
    (of_decide_eq_true (by kernel_rfl)) (by unfold Func.isWrapper; first | (rw [if_pos (by decide +kernel)]; kernel_rfl) | (rw [if_neg (by decide +kernel)]; exact ⟨rfl, rfl⟩))
    (fun os started H enc _ => fnExactViewJoin_lifted os started H enc)
#print axioms fnExactViewJoin_holds
end Go.Proofs.Ytbhfkfapdpedpaa
