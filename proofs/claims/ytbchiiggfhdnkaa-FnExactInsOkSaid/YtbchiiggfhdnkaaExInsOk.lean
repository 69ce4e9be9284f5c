/- FnExactInsOk: for every instruction, place, number of cells and number of instructions, impl.InsOk answers as the model does. No condition. -/
import Derived.Test.YtbchiiggfhdnkaaInsOk
import Derived.Test.YtbchiiggfhdnkaaSInsOk
import Derived.Test.YtbchiiggfhdnkaaToIns
import Derived.ProofKit
import Derived.OpenShut
import Derived.Lib.SmallJoins
import Derived.Deep.Fields
import Derived.Test.YtbchiiggfhdnkaaLift
import Derived.Test.YtbchiiggfhdnkaaAgg
namespace Go.Proofs.Ytbchiiggfhdnkaa
open Go.RowKit Go.Joins Go.ChangeShapes Go.WideShapes Go.ChangeAt Go.Deep

set_option maxHeartbeats 800000 in
theorem exInsOk_walk (o r a b x n i cells m : Int) (w : World) (hc1 : -9223372036854775808 ≤ cells) (hc2 : cells ≤ 9223372036854775807) :
    Calls Try.prog 9 #[.agg #[.int .i64 o, .int .i64 r, .int .i64 a, .int .i64 b, .int .i64 x, .int .i64 n], .int .i64 i, .int .i64 cells, .int .i64 m] w fun e w' => e = .returned (.bool true) ∧ Below w.heap.size w w' := by
  have k1 := hide (fun w => sins_any o r a b x n i cells m w hc1 hc2)
  have k2 := hide (fun w => ins_any o r a b x n i cells m w hc1 hc2)
  clear hc1 hc2
  generalize insB o r a b x n i cells m = res at *
  cases res
  all_goals
    go_enter Try.func9, Try.ntmps9
    go_wp2_with fail
    refine (toIns_any _ _ _ _ _ _ _).mono ?_; rintro e w1 ⟨rfl, hb1⟩
    obtain ⟨hcl1, hfz1⟩ := bcell hb1; have hz1 := size_step hb1
    go_wp2_with fail
    refine (k1.out _).mono ?_; rintro e w2 ⟨rfl, hb2⟩
    obtain ⟨hcl2, hfz2⟩ := bcell hb2; have hz2 := Nat.lt_of_lt_of_le hz1 hb2.size
    go_wp2_with fail
    refine (toIns_any _ _ _ _ _ _ _).mono ?_; rintro e w3 ⟨rfl, hb3⟩
    go_wp2_with fail
    refine (k2.out _).mono ?_; rintro e w4 ⟨rfl, hb4⟩
    go_wp2_with fail
    go_ret
    exact ⟨rfl, below_then (below_then (below_then (below_step hb1) hb2) hb3) hb4⟩

theorem cellsA : Try.prog.cellsOf 66 = 6 := by kernel_rfl
theorem laidOut : laidOutB Try.prog = true := by kernel_rfl
theorem own : ownKnob Try.prog.godebug = none := by kernel_rfl

set_option maxRecDepth 100000 in
theorem exInsOk_lifted (os : Os) (started : os.Started) (H : Type) (enc : TypeId × Value → H) :
    ReturnsInHanded {} Try.checked os 9 .any (Rows.fnExactInsOkSpec.pre6 enc Try.prog Try.f9 [] false) (Rows.fnExactInsOkSpec.post enc Try.prog Try.f9 false true false false) := by
  refine returnsInHanded_of_change (C := Try.checked) own started (by kernel_rfl) Try.func9
    (ChangeSpec.witness6 (enc := enc) (C := Try.checked) (os := os) false ⟨#[], #[.agg #[.int .i64 0, .int .i64 0, .int .i64 0, .int .i64 0, .int .i64 0, .int .i64 0], .int .i64 0, .int .i64 0, .int .i64 0], []⟩ 8 (by kernel_rfl) (by kernel_rfl) (by kernel_rfl) (by kernel_rfl)) ?_
  intro W base args ds gs before hval hW _ _
  have hW' := hW
  obtain ⟨p, q, hA0, hV, rfl, hfz, hnd⟩ := hW
  have hA : DataW.TrodAll enc Try.prog W 0 (fun _ => true) true Try.f9.params.toList args.toList ds p := hA0
  rw [Try.params9] at hA hval
  obtain ⟨v0, v1, v2, v3, d0, d1, d2, d3, p0, p1, p2, p3, hargs, hds, hp, h0, h1, h2, h3⟩ := trodAll_four hA
  obtain rfl : args = #[v0, v1, v2, v3] := by cases args; simp_all
  obtain ⟨x1, rfl, e1, e1', w1⟩ := open_int Try.underlying3 (hval 1 _ v1 rfl rfl) h1
  obtain ⟨x2, rfl, e2, e2', w2⟩ := open_int Try.underlying3 (hval 2 _ v2 rfl rfl) h2
  obtain ⟨x3, rfl, e3, e3', w3⟩ := open_int Try.underlying3 (hval 3 _ v3 rfl rfl) h3
  obtain ⟨c0, c1, c2, c3, c4, c5, y0, y1, y2, y3, y4, y5, n, rfl, ed, ep, g0, g1, g2, g3, g4, g5⟩ := open_agg6 Try.underlying66 (by kernel_rfl) cellsA (hval 0 _ v0 rfl rfl) h0
  obtain ⟨a0, t0, _, _⟩ := DataW.trod_int Try.underlying3 g0
  obtain ⟨a1, t1, _, _⟩ := DataW.trod_int Try.underlying3 g1
  obtain ⟨a2, t2, _, _⟩ := DataW.trod_int Try.underlying3 g2
  obtain ⟨a3, t3, _, _⟩ := DataW.trod_int Try.underlying3 g3
  obtain ⟨a4, t4, _, _⟩ := DataW.trod_int Try.underlying3 g4
  obtain ⟨a5, t5, _, _⟩ := DataW.trod_int Try.underlying3 g5
  simp only [List.cons.injEq, and_true] at t0 t1 t2 t3 t4 t5
  subst t0 t1 t2 t3 t4 t5
  have hx2 : -9223372036854775808 ≤ x2 ∧ x2 ≤ 9223372036854775807 := by simpa [Lit.wf, IntKind.min, IntKind.max, IntKind.signed, IntKind.bits] using w2
  refine (exInsOk_walk a0 a1 a2 a3 a4 a5 x1 x2 x3 W hx2.1 hx2.2).mono fun e W' ⟨he, hb⟩ => ⟨_, he, ?_⟩
  refine law_post laidOut (fun t ht => ?_) rfl (by kernel_rfl) Try.underlying4 (fun ds hds => ?_) hW' hb
  · rw [Try.params9] at ht
    simp at ht
    rcases ht with rfl | rfl
    · exact ⟨by kernel_rfl, of_decide_eq_true (by kernel_rfl)⟩
    · exact ⟨by kernel_rfl, of_decide_eq_true (by kernel_rfl)⟩
  · rw [Try.params9] at hds
    match ds, hds with
    | [_, _, _, _], _ => exact ⟨rfl, rfl, rfl⟩

theorem exInsOk_holds : Rows.FnExactInsOkSaid :=
  OpenClaim.holds_of_wide 9 Try.f9 rfl rfl rfl rfl rfl rfl rfl ⟨rfl, rfl, rfl, rfl, rfl⟩ rfl rfl rfl rfl rfl (by kernel_rfl) Try.func9 (by kernel_rfl)
    (of_decide_eq_true (by kernel_rfl)) (by unfold Func.isWrapper; first | (rw [if_pos (by decide +kernel)]; kernel_rfl) | (rw [if_neg (by decide +kernel)]; exact ⟨rfl, rfl⟩))
    (fun os started H enc _ => exInsOk_lifted os started H enc)
#print axioms exInsOk_holds
end Go.Proofs.Ytbchiiggfhdnkaa
