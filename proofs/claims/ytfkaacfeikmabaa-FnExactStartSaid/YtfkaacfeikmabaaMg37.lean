/- FnExactStart: for every program and kind, Start answers as the model does, leaves its argument as it was, and its answer owns its memory. No condition. · laws.Prog, opened. -/
import Derived.Test.YtfkaacfeikmabaaMg13
import Derived.Test.YtfkaacfeikmabaaMg36
import Derived.Test.YtfkaacfeikmabaaRows
namespace Go.Proofs.Ytfkaacfeikmabaa
open Go.RowKit Go.Joins Go.ChangeShapes Go.WideShapes Go.Deep

theorem cellsOfInt : Try.prog.cellsOf 3 = 1 := by kernel_rfl
theorem cellsOfIns : Try.prog.cellsOf 65 = 6 := by kernel_rfl
theorem cellsOfThread : Try.prog.cellsOf 168 = 1 := by kernel_rfl
theorem cellsOfProg : Try.prog.cellsOf 25 = 2 := by kernel_rfl

set_option maxRecDepth 100000 in
theorem open_prog {H : Type} {enc : TypeId × Value → H} {W : World} {r : Reach} {b0 : Nat} {spare : Nat → Bool} {held : Bool} {v : Value} {d : DataW H} {p : List MemPlace} (hv : Value.okWide Try.prog W r b0 25 v) (h : DataW.Trod enc Try.prog W 0 spare held 25 v d p) :
    ∃ q, ProgAt W (Old W.heap.size) v q := by
  obtain ⟨v0, v1, y0, y1, n, rfl, _, _, h0, h1⟩ := open_agg2 Try.underlying25 (by kernel_rfl) cellsOfProg hv h
  obtain ⟨A, zs, c, rfl, hc1, hi⟩ := trod_ints Try.underlying22 Try.underlying3 cellsOfInt h0
  obtain ⟨A', l, c', rfl, hc2, ht⟩ := trod_threads Try.underlying23 Try.underlying168 (by kernel_rfl) cellsOfThread rfl Try.underlying166 Try.underlying65 (by kernel_rfl) cellsOfIns ⟨rfl, rfl, rfl, rfl, rfl, rfl⟩ Try.underlying3 h1
  exact ⟨⟨zs, l⟩, A, c, A', c', rfl, ⟨hc1, hc2⟩, hi, ht⟩
end Go.Proofs.Ytfkaacfeikmabaa

namespace Go.Proofs.Ytfkaacfeikmabaa
open Go.RowKit Go.Joins Go.ChangeShapes Go.WideShapes Go.ChangeAt Go.Deep

theorem laidOut_fnExactStart : laidOutB Try.prog = true := by kernel_rfl
theorem own_fnExactStart : ownKnob Try.prog.godebug = none := by kernel_rfl

set_option maxRecDepth 100000 in
theorem fnExactStart_lifted (os : Os) (started : os.Started) (H : Type) (enc : TypeId × Value → H) :
    ReturnsInHanded {} Try.checked os 5 .any (Rows.fnExactStartSpec.pre6 enc Try.prog Try.f5 [] false) (Rows.fnExactStartSpec.post enc Try.prog Try.f5 false true false false) := by
  refine returnsInHanded_of_change (C := Try.checked) own_fnExactStart started (by kernel_rfl) Try.func5
    (ChangeSpec.witness6 (enc := enc) (C := Try.checked) (os := os) false ⟨#[], #[.agg #[.slice none 0 0, .slice none 0 0], .int .i64 0], []⟩ 8 (by kernel_rfl) (by kernel_rfl) (by kernel_rfl) (by kernel_rfl)) ?_
  intro W base args ds gs before hval hW _ _
  have hW' := hW
  obtain ⟨p, q, hA0, hV, rfl, hfz, hnd⟩ := hW
  have hA : DataW.TrodAll enc Try.prog W 0 (fun _ => true) true Try.f5.params.toList args.toList ds p := hA0
  rw [Try.params5] at hA hval
  obtain ⟨v0, v1, d0, d1, p0, p1, hargs, hds, hp, h0, h1⟩ := trodAll_two hA
  obtain rfl : args = #[v0, v1] := by cases args; simp_all
  obtain ⟨pd0, hpd0⟩ := open_prog (hval 0 _ v0 rfl rfl) h0
  obtain ⟨x1, rfl, -, -, -⟩ := open_int Try.underlying3 (hval 1 _ v1 rfl rfl) h1
  refine (exStart_walk v0 pd0 x1 W hpd0).mono fun e W' ⟨he, hb⟩ => ⟨_, he, ?_⟩
  refine law_post laidOut_fnExactStart (fun t ht => ?_) rfl (by kernel_rfl) Try.underlying4 (fun ds hds => ?_) hW' hb
  · rw [Try.params5] at ht
    simp at ht
    rcases ht with rfl | rfl
    all_goals exact ⟨by kernel_rfl, of_decide_eq_true (by kernel_rfl)⟩
  · rw [Try.params5] at hds
    match ds, hds with
    | [_, _], _ => exact ⟨rfl, rfl, rfl⟩

theorem fnExactStart_holds : Rows.FnExactStartSaid :=
  OpenClaim.holds_of_wide 5 Try.f5 rfl rfl rfl rfl rfl rfl rfl ⟨rfl, rfl, rfl, rfl, rfl⟩ rfl rfl rfl rfl rfl (by kernel_rfl) Try.func5 (by kernel_rfl)
    (of_decide_eq_true (by kernel_rfl)) (by unfold Func.isWrapper; first | (rw [if_pos (by decide +kernel)]; kernel_rfl) | (rw [if_neg (by decide +kernel)]; exact ⟨rfl, rfl⟩))
    (fun os started H enc _ => fnExactStart_lifted os started H enc)
#print axioms fnExactStart_holds
end Go.Proofs.Ytfkaacfeikmabaa
