/- FnExactQuiet: for every instruction, place and file, impl.Quiet answers as the model does, leaves its arguments as they were, and its answer owns its memory. No condition. -/
import Derived.Test.YtbchiiggfhdnkaaExQuietW
import Derived.Test.YtbchiiggfhdnkaaOpenFile
import Derived.Test.YtbchiiggfhdnkaaLift
namespace Go.Proofs.Ytbchiiggfhdnkaa
open Go.RowKit Go.Joins Go.ChangeShapes Go.WideShapes Go.ChangeAt Go.Deep

theorem cellsQ : Try.prog.cellsOf 66 = 6 := by kernel_rfl
theorem laidOutQ : laidOutB Try.prog = true := by kernel_rfl
theorem ownQ : ownKnob Try.prog.godebug = none := by kernel_rfl

set_option maxRecDepth 100000 in
theorem exQuiet_lifted (os : Os) (started : os.Started) (H : Type) (enc : TypeId × Value → H) :
    ReturnsInHanded {} Try.checked os 15 .any (Rows.fnExactQuietSpec.pre6 enc Try.prog Try.f15 [] false) (Rows.fnExactQuietSpec.post enc Try.prog Try.f15 false true false false) := by
  refine returnsInHanded_of_change (C := Try.checked) ownQ started (by kernel_rfl) Try.func15
    (ChangeSpec.witness6 (enc := enc) (C := Try.checked) (os := os) false ⟨#[], #[.agg #[.int .i64 0, .int .i64 0, .int .i64 0, .int .i64 0, .int .i64 0, .int .i64 0], .int .i64 0, .agg #[.slice none 0 0]], []⟩ 8 (by kernel_rfl) (by kernel_rfl) (by kernel_rfl) (by kernel_rfl)) ?_
  intro W base args ds gs before hval hW _ _
  have hW' := hW
  obtain ⟨p, q, hA0, hV, rfl, hfz, hnd⟩ := hW
  have hA : DataW.TrodAll enc Try.prog W 0 (fun _ => true) true Try.f15.params.toList args.toList ds p := hA0
  rw [Try.params15] at hA hval
  obtain ⟨v0, v1, v2, d0, d1, d2, p0, p1, p2, hargs, hds, hp, h0, h1, h2⟩ := trodAll_three hA
  obtain rfl : args = #[v0, v1, v2] := by cases args; simp_all
  obtain ⟨x1, rfl, e1, e1', w1⟩ := open_int Try.underlying3 (hval 1 _ v1 rfl rfl) h1
  obtain ⟨A, zs, c, rfl, hi⟩ := open_file (hval 2 _ v2 rfl rfl) h2
  obtain ⟨c0, c1, c2, c3, c4, c5, y0, y1, y2, y3, y4, y5, n, rfl, ed, ep, g0, g1, g2, g3, g4, g5⟩ := open_agg6 Try.underlying66 (by kernel_rfl) cellsQ (hval 0 _ v0 rfl rfl) h0
  obtain ⟨a0, t0, _, _⟩ := DataW.trod_int Try.underlying3 g0
  obtain ⟨a1, t1, _, _⟩ := DataW.trod_int Try.underlying3 g1
  obtain ⟨a2, t2, _, _⟩ := DataW.trod_int Try.underlying3 g2
  obtain ⟨a3, t3, _, _⟩ := DataW.trod_int Try.underlying3 g3
  obtain ⟨a4, t4, _, _⟩ := DataW.trod_int Try.underlying3 g4
  obtain ⟨a5, t5, _, _⟩ := DataW.trod_int Try.underlying3 g5
  simp only [List.cons.injEq, and_true] at t0 t1 t2 t3 t4 t5
  subst t0 t1 t2 t3 t4 t5
  refine (exQuiet_walk a0 a1 a2 a3 a4 a5 x1 A zs c W hi).mono fun e W' ⟨he, hb⟩ => ⟨_, he, ?_⟩
  refine law_post laidOutQ (fun t ht => ?_) rfl (by kernel_rfl) Try.underlying4 (fun ds hds => ?_) hW' hb
  · rw [Try.params15] at ht
    simp at ht
    rcases ht with rfl | rfl | rfl
    · exact ⟨by kernel_rfl, of_decide_eq_true (by kernel_rfl)⟩
    · exact ⟨by kernel_rfl, of_decide_eq_true (by kernel_rfl)⟩
    · exact ⟨by kernel_rfl, of_decide_eq_true (by kernel_rfl)⟩
  · rw [Try.params15] at hds
    match ds, hds with
    | [_, _, _], _ => exact ⟨rfl, rfl, rfl⟩

theorem exQuiet_holds : Rows.FnExactQuietSaid :=
  OpenClaim.holds_of_wide 15 Try.f15 rfl rfl rfl rfl rfl rfl rfl ⟨rfl, rfl, rfl, rfl, rfl⟩ rfl rfl rfl rfl rfl (by kernel_rfl) Try.func15 (by kernel_rfl)
    (of_decide_eq_true (by kernel_rfl)) (by unfold Func.isWrapper; first | (rw [if_pos (by decide +kernel)]; kernel_rfl) | (rw [if_neg (by decide +kernel)]; exact ⟨rfl, rfl⟩))
    (fun os started H enc _ => exQuiet_lifted os started H enc)
#print axioms exQuiet_holds
end Go.Proofs.Ytbchiiggfhdnkaa
