/- FnExactPlay: for every pool and row of picks, Play answers as the model does, leaves its arguments as they were, and its answer owns its memory. No condition. -/
import Derived.Test.YtfnphnjadknoaaaMp0
import Derived.Test.YtfnphnjadknoaaaMp44
import Derived.Test.YtfnphnjadknoaaaMp45
namespace Go.Proofs.Ytfnphnjadknoaaa
open Go.RowKit Go.Joins Go.ChangeShapes Go.WideShapes Go.Deep

theorem cellsOfPickL : Try.prog.cellsOf 121 = 2 := by kernel_rfl
set_option maxRecDepth 100000 in
theorem open_picks {H : Type} {enc : TypeId × Value → H} {W : World} {r : Reach} {b0 : Nat} {spare : Nat → Bool} {held : Bool} {v : Value} {d : DataW H} {p : List MemPlace} (hv : Value.okWide Try.prog W r b0 73 v) (h : DataW.Trod enc Try.prog W 0 spare held 73 v d p) :
    ∃ A n c, v = .slice A n c ∧ n ≤ c ∧ n ≤ 9223372036854775807 ∧ (n ≤ 1048576 → ∃ zs : List Int, zs.length = n * 2 ∧ IntsAt W (Old W.heap.size) A zs) := by
  obtain ⟨a1, len, cap, rfl⟩ := okWide_slice Try.underlying73 hv
  obtain ⟨fuel, hf⟩ := h
  obtain ⟨A, n, c, e, hc, hn, hz⟩ := trod_flat Try.underlying73 Try.underlying121 (by kernel_rfl) cellsOfPickL (by omega) rfl (ti := 3) (fun i f hf => by
    rcases i with _ | _ | i
    · cases hf; rfl
    · cases hf; rfl
    · simp at hf) Try.underlying3 (by simpa [Value.cells] using hf)
  exact ⟨A, n, c, e, hc, hn, fun h => hz (by omega)⟩
end Go.Proofs.Ytfnphnjadknoaaa

namespace Go.Proofs.Ytfnphnjadknoaaa
open Go.RowKit Go.Joins Go.ChangeShapes Go.WideShapes Go.ChangeAt Go.Deep

theorem laidOut_fnExactPlay : laidOutB Try.prog = true := by kernel_rfl
theorem own_fnExactPlay : ownKnob Try.prog.godebug = none := by kernel_rfl

set_option maxRecDepth 100000 in
theorem fnExactPlay_lifted (os : Os) (started : os.Started) (H : Type) (enc : TypeId × Value → H) :
    ReturnsInHanded {} Try.checked os 14 .any (Rows.fnExactPlaySpec.pre6 enc Try.prog Try.f14 [] false) (Rows.fnExactPlaySpec.post enc Try.prog Try.f14 false true false false) := by
  refine returnsInHanded_of_change (C := Try.checked) own_fnExactPlay started (by kernel_rfl) Try.func14
    (ChangeSpec.witness6 (enc := enc) (C := Try.checked) (os := os) false ⟨#[], #[.agg #[.slice none 0 0, .slice none 0 0, .slice none 0 0, .slice none 0 0, .slice none 0 0, .slice none 0 0, .slice none 0 0], .slice none 0 0], []⟩ 8 (by kernel_rfl) (by kernel_rfl) (by kernel_rfl) (by kernel_rfl)) ?_
  intro W base args ds gs before hval hW _ _
  have hW' := hW
  obtain ⟨p, q, hA0, hV, rfl, hfz, hnd⟩ := hW
  have hA : DataW.TrodAll enc Try.prog W 0 (fun _ => true) true Try.f14.params.toList args.toList ds p := hA0
  rw [Try.params14] at hA hval
  obtain ⟨v0, v1, d0, d1, p0, p1, hargs, hds, hp, h0, h1⟩ := trodAll_two hA
  obtain rfl : args = #[v0, v1] := by cases args; simp_all
  obtain ⟨a0, po0, rfl, hi0⟩ := open_pool (hval 0 _ v0 rfl rfl) h0
  obtain ⟨A1, n1, c1, rfl, -, hn1, hA1⟩ := open_picks (hval 1 _ v1 rfl rfl) h1
  refine (exPlay_walk a0 po0 A1 n1 c1 W hi0 hn1 hA1).mono fun e W' ⟨he, hb⟩ => ⟨_, he, ?_⟩
  refine law_post laidOut_fnExactPlay (fun t ht => ?_) rfl (by kernel_rfl) Try.underlying4 (fun ds hds => ?_) hW' hb
  · rw [Try.params14] at ht
    simp at ht
    rcases ht with rfl | rfl
    all_goals exact ⟨by kernel_rfl, of_decide_eq_true (by kernel_rfl)⟩
  · rw [Try.params14] at hds
    match ds, hds with
    | [_, _], _ => exact ⟨rfl, rfl, rfl⟩

theorem fnExactPlay_holds : Rows.FnExactPlaySaid :=
  OpenClaim.holds_of_wide 14 Try.f14 rfl rfl rfl rfl rfl rfl rfl ⟨rfl, rfl, rfl, rfl, rfl⟩ rfl rfl rfl rfl rfl (by kernel_rfl) Try.func14 (by kernel_rfl)
    (of_decide_eq_true (by kernel_rfl)) (by unfold Func.isWrapper; first | (rw [if_pos (by decide +kernel)]; kernel_rfl) | (rw [if_neg (by decide +kernel)]; exact ⟨rfl, rfl⟩))
    (fun os started H enc _ => fnExactPlay_lifted os started H enc)
#print axioms fnExactPlay_holds
end Go.Proofs.Ytfnphnjadknoaaa
