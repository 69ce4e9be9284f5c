/- FnExactBufAll: for every buffer and memory, BufAll answers as the model does, leaves its arguments as they were, and its answer owns its memory. No condition. -/
import Derived.Test.YtmfjdmhcpgljbaaExBufAllW
import Derived.Test.YtmfjdmhcpgljbaaOpenBuf
namespace Go.Proofs.Ytmfjdmhcpgljbaa
open Go.RowKit Go.Joins Go.ChangeShapes Go.WideShapes Go.ChangeAt Go.Deep

theorem laidOut_fnExactBufAll : laidOutB Try.prog = true := by kernel_rfl
theorem own_fnExactBufAll : ownKnob Try.prog.godebug = none := by kernel_rfl

set_option maxRecDepth 100000 in
theorem fnExactBufAll_lifted (os : Os) (started : os.Started) (H : Type) (enc : TypeId × Value → H) :
    ReturnsInHanded {} Try.checked os 13 .any (Rows.fnExactBufAllSpec.pre6 enc Try.prog Try.f13 [] false) (Rows.fnExactBufAllSpec.post enc Try.prog Try.f13 false true false false) := by
  refine returnsInHanded_of_change (C := Try.checked) own_fnExactBufAll started (by kernel_rfl) Try.func13
    (ChangeSpec.witness6 (enc := enc) (C := Try.checked) (os := os) false ⟨#[], #[.agg #[.slice none 0 0], .slice none 0 0], []⟩ 8 (by kernel_rfl) (by kernel_rfl) (by kernel_rfl) (by kernel_rfl)) ?_
  intro W base args ds gs before hval hW _ _
  have hW' := hW
  obtain ⟨p, q, hA0, hV, rfl, hfz, hnd⟩ := hW
  have hA : DataW.TrodAll enc Try.prog W 0 (fun _ => true) true Try.f13.params.toList args.toList ds p := hA0
  rw [Try.params13] at hA hval
  obtain ⟨v0, v1, d0, d1, p0, p1, hargs, hds, hp, h0, h1⟩ := trodAll_two hA
  obtain rfl : args = #[v0, v1] := by cases args; simp_all
  obtain ⟨A0, n0, c0, rfl, hc0, hn0, hi0⟩ := open_buf (hval 0 _ v0 rfl rfl) h0
  obtain ⟨A1, c1, zs1, rfl, -, hi1⟩ := open_ints_arg (hval 1 _ v1 rfl rfl) h1
  refine (exBufAll_walk A0 A1 n0 c0 c1 zs1 W hn0 hi0 hi1).mono fun e W' ⟨he, hb⟩ => ⟨_, he, ?_⟩
  refine law_post laidOut_fnExactBufAll (fun t ht => ?_) rfl (by kernel_rfl) Try.underlying4 (fun ds hds => ?_) hW' hb
  · rw [Try.params13] at ht
    simp at ht
    rcases ht with rfl | rfl
    all_goals exact ⟨by kernel_rfl, of_decide_eq_true (by kernel_rfl)⟩
  · rw [Try.params13] at hds
    match ds, hds with
    | [_, _], _ => exact ⟨rfl, rfl, rfl⟩

theorem fnExactBufAll_holds : Rows.FnExactBufAllSaid :=
  OpenClaim.holds_of_wide 13 Try.f13 rfl rfl rfl rfl rfl rfl rfl ⟨rfl, rfl, rfl, rfl, rfl⟩ rfl rfl rfl rfl rfl (by kernel_rfl) Try.func13 (by kernel_rfl)
    (of_decide_eq_true (by kernel_rfl)) (by unfold Func.isWrapper; first | (rw [if_pos (by decide +kernel)]; kernel_rfl) | (rw [if_neg (by decide +kernel)]; exact ⟨rfl, rfl⟩))
    (fun os started H enc _ => fnExactBufAll_lifted os started H enc)
#print axioms fnExactBufAll_holds
end Go.Proofs.Ytmfjdmhcpgljbaa
