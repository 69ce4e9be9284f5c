/- FnPlaces: for every code, what one may read begins with what one knows; where one may write is behind it, and at the end one always may. No condition. -/
import Derived.Test.YtbhfkfapdpedpaaFnPlacesW
namespace Go.Proofs.Ytbhfkfapdpedpaa
open Go.RowKit Go.Joins Go.ChangeShapes Go.WideShapes Go.ChangeAt Go.Deep

theorem laidOut_fnPlaces : laidOutB Try.prog = true := by kernel_rfl
theorem own_fnPlaces : ownKnob Try.prog.godebug = none := by kernel_rfl

set_option maxRecDepth 100000 in
theorem fnPlaces_lifted (os : Os) (started : os.Started) (H : Type) (enc : TypeId × Value → H) :
    ReturnsInHanded {} Try.checked os 7 .any (Rows.fnPlacesSpec.pre6 enc Try.prog Try.f7 [] false) (Rows.fnPlacesSpec.post enc Try.prog Try.f7 false true false false) := by
  refine returnsInHanded_of_change (C := Try.checked) own_fnPlaces started (by kernel_rfl) Try.func7
    (ChangeSpec.witness6 (enc := enc) (C := Try.checked) (os := os) false ⟨#[], #[.slice none 0 0], []⟩ 8 (by kernel_rfl) (by kernel_rfl) (by kernel_rfl) (by kernel_rfl)) ?_
  intro W base args ds gs before hval hW _ _
  have hW' := hW
  obtain ⟨p, q, hA0, hV, rfl, hfz, hnd⟩ := hW
  have hA : DataW.TrodAll enc Try.prog W 0 (fun _ => true) true Try.f7.params.toList args.toList ds p := hA0
  rw [Try.params7] at hA hval
  obtain ⟨v0, d0, rfl, rfl, h0⟩ := trodAll_one hA
  obtain ⟨A, n, c, rfl, hn, ha⟩ := open_code (hval 0 _ v0 rfl rfl) h0
  refine (fnPlaces_walk A n c W hn ha).mono fun e W' ⟨he, hb⟩ => ⟨_, he, ?_⟩
  refine law_post laidOut_fnPlaces (fun t ht => ?_) rfl (by kernel_rfl) Try.underlying4 (fun ds hds => ?_) hW' hb
  · rw [Try.params7] at ht
    simp at ht
    subst ht
    exact ⟨by kernel_rfl, of_decide_eq_true (by kernel_rfl)⟩
  · rw [Try.params7] at hds
    match ds, hds with
    | [_], _ => exact ⟨rfl, rfl, rfl⟩

theorem fnPlaces_f1 : (Rows.fnPlacesRow.inPlace == Try.prog.inPlace 7) = true := by kernel_rfl
theorem fnPlaces_f2 : (Rows.fnPlacesRow.unfollowed == Try.prog.unfollowed 7) = true := by kernel_rfl
theorem fnPlaces_f3 : (Rows.fnPlacesRow.recurses == Try.prog.recurses 7) = true := by kernel_rfl
theorem fnPlaces_f4 : (Rows.fnPlacesRow.named == Try.prog.varsNamed 7) = true := by kernel_rfl
theorem fnPlaces_facts : joinedFacts Try.prog 7 Try.f7 Rows.fnPlacesSpec Rows.fnPlacesRow = true := by
  unfold joinedFacts
  rw [fnPlaces_f1, fnPlaces_f2, fnPlaces_f3, fnPlaces_f4]
  kernel_rfl

theorem fnPlaces_holds : Rows.FnPlacesSaid :=
  OpenClaim.holds_of_wide 7 Try.f7 rfl rfl rfl rfl rfl rfl rfl ⟨rfl, rfl, rfl, rfl, rfl⟩ rfl rfl rfl rfl rfl (by kernel_rfl) Try.func7 fnPlaces_facts
    (of_decide_eq_true (by kernel_rfl)) (by unfold Func.isWrapper; first | (rw [if_pos (by decide +kernel)]; kernel_rfl) | (rw [if_neg (by decide +kernel)]; exact ⟨rfl, rfl⟩))
    (fun os started H enc _ => fnPlaces_lifted os started H enc)
#print axioms fnPlaces_holds
end Go.Proofs.Ytbhfkfapdpedpaa
