/- FnJoins: for every code, who joins two views knows of each cell what either knows, and the later one of both. No condition. -/
import Derived.Test.YtbhfkfapdpedpaaFnJoinsW
namespace Go.Proofs.Ytbhfkfapdpedpaa
open Go.RowKit Go.Joins Go.ChangeShapes Go.WideShapes Go.ChangeAt Go.Deep

theorem laidOut_fnJoins : laidOutB Try.prog = true := by kernel_rfl
theorem own_fnJoins : ownKnob Try.prog.godebug = none := by kernel_rfl

set_option maxRecDepth 100000 in
theorem fnJoins_lifted (os : Os) (started : os.Started) (H : Type) (enc : TypeId × Value → H) :
    ReturnsInHanded {} Try.checked os 6 .any (Rows.fnJoinsSpec.pre6 enc Try.prog Try.f6 [] false) (Rows.fnJoinsSpec.post enc Try.prog Try.f6 false true false false) := by
  refine returnsInHanded_of_change (C := Try.checked) own_fnJoins started (by kernel_rfl) Try.func6
    (ChangeSpec.witness6 (enc := enc) (C := Try.checked) (os := os) false ⟨#[], #[.slice none 0 0], []⟩ 8 (by kernel_rfl) (by kernel_rfl) (by kernel_rfl) (by kernel_rfl)) ?_
  intro W base args ds gs before hval hW _ _
  have hW' := hW
  obtain ⟨p, q, hA0, hV, rfl, hfz, hnd⟩ := hW
  have hA : DataW.TrodAll enc Try.prog W 0 (fun _ => true) true Try.f6.params.toList args.toList ds p := hA0
  rw [Try.params6] at hA hval
  obtain ⟨v0, d0, rfl, rfl, h0⟩ := trodAll_one hA
  obtain ⟨A, n, c, rfl, hn, ha⟩ := open_code (hval 0 _ v0 rfl rfl) h0
  refine (fnJoins_walk A n c W hn ha).mono fun e W' ⟨he, hb⟩ => ⟨_, he, ?_⟩
  refine law_post laidOut_fnJoins (fun t ht => ?_) rfl (by kernel_rfl) Try.underlying4 (fun ds hds => ?_) hW' hb
  · rw [Try.params6] at ht
    simp at ht
    subst ht
    exact ⟨by kernel_rfl, of_decide_eq_true (by kernel_rfl)⟩
  · rw [Try.params6] at hds
    match ds, hds with
    | [_], _ => exact ⟨rfl, rfl, rfl⟩

theorem fnJoins_f1 : (Rows.fnJoinsRow.inPlace == Try.prog.inPlace 6) = true := by kernel_rfl
theorem fnJoins_f2 : (Rows.fnJoinsRow.unfollowed == Try.prog.unfollowed 6) = true := by kernel_rfl
theorem fnJoins_f3 : (Rows.fnJoinsRow.recurses == Try.prog.recurses 6) = true := by kernel_rfl
theorem fnJoins_f4 : (Rows.fnJoinsRow.named == Try.prog.varsNamed 6) = true := by kernel_rfl
theorem fnJoins_facts : joinedFacts Try.prog 6 Try.f6 Rows.fnJoinsSpec Rows.fnJoinsRow = true := by
  unfold joinedFacts
  rw [fnJoins_f1, fnJoins_f2, fnJoins_f3, fnJoins_f4]
  kernel_rfl

theorem fnJoins_holds : Rows.FnJoinsSaid :=
  OpenClaim.holds_of_wide 6 Try.f6 rfl rfl rfl rfl rfl rfl rfl ⟨rfl, rfl, rfl, rfl, rfl⟩ rfl rfl rfl rfl rfl (by kernel_rfl) Try.func6 fnJoins_facts
    (of_decide_eq_true (by kernel_rfl)) (by unfold Func.isWrapper; first | (rw [if_pos (by decide +kernel)]; kernel_rfl) | (rw [if_neg (by decide +kernel)]; exact ⟨rfl, rfl⟩))
    (fun os started H enc _ => fnJoins_lifted os started H enc)
#print axioms fnJoins_holds
end Go.Proofs.Ytbhfkfapdpedpaa
