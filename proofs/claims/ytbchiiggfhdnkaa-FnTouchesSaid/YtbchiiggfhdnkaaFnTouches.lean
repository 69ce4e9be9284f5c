/- FnTouches: for every code, what the drawn instruction does to the drawn cell is what the model says, and nothing where it is not about memory. No condition. -/
import Derived.Test.YtbchiiggfhdnkaaDTouch
import Derived.Test.YtbchiiggfhdnkaaProgs
namespace Go.Proofs.Ytbchiiggfhdnkaa
open Go.RowKit Go.ChangeShapes Go.WideShapes Go.ChangeAt

theorem touchD_range (o x n y : Int) : 0 ≤ touchD o x n y ∧ touchD o x n y ≤ 3 := by
  have := touch_pos o
  unfold touchD
  split <;> omega
theorem touchD_none {o : Int} (x n y : Int) (h : o < 7 ∨ 11 < o) : touchD o x n y = 0 := by
  unfold touchD touchN
  repeat' split
  all_goals omega

set_option maxRecDepth 100000 in
set_option maxHeartbeats 3200000 in
theorem fnTouches_walk (A : Option Addr) (n c : Nat) (w : World) (hn : n ≤ c) (ha : BytesAt w (Old w.heap.size) A n) :
    Calls Try.prog 4 #[.slice A n c] w fun e w' => e = .returned (.bool true) ∧ Below w.heap.size w w' := by
  go_enter Try.func4, Try.ntmps4
  go_wp2_with fail
  refine (drawTouches_any A n c _ hn ha).mono ?_
  rintro e w1 ⟨⟨o, r, a, b, x, nn⟩, y, rfl, hs, hy, hb1⟩
  simp only [InsD.val]
  unfold Small at hs
  simp only at hs
  have k1 := fun w => touch_any o r a b x nn y w (by omega) (by omega)
  have k2 := fun w => stouch_any o r a b x nn y w (by omega) (by omega)
  have ht := touchD_range o x nn y
  have hz := fun h => touchD_none (o := o) x nn y h
  generalize touchD o x nn y = T at *
  replace k1 := hide k1
  replace k2 := hide k2
  obtain ⟨ht0, ht3⟩ := ht
  clear hs hy
  have K := hide (Blk.new w1 24 #[.int .i64 o, .int .i64 r, .int .i64 a, .int .i64 b, .int .i64 x, .int .i64 nn])
  have hT : (o < 7 ∧ T = 0) ∨ (¬ o < 7 ∧ 11 < o ∧ T = 0) ∨ (¬ o < 7 ∧ ¬ 11 < o) := by
    by_cases h7 : o < 7
    · exact .inl ⟨h7, hz (.inl h7)⟩
    · by_cases h11 : 11 < o
      · exact .inr (.inl ⟨h7, h11, hz (.inr h11)⟩)
      · exact .inr (.inr ⟨h7, h11⟩)
  clear hz
  rcases hT with ⟨h7, rfl⟩ | ⟨h7, h11, rfl⟩ | ⟨h7, h11⟩
  all_goals
    go_wp2_with fail
    refine (k1.out _).mono ?_
    rintro e w2 ⟨rfl, hb2⟩
    have K2 := hide (K.out.below hb2 (by simp))
    obtain ⟨⟨e0, e1, e2, e3, e4, e5⟩, hl2⟩ := ins6 K2.out
    go_wp2_with fail
    refine (k2.out _).mono ?_
    rintro e w3 ⟨rfl, hb3⟩
    have K3 := hide (K2.out.below hb3 hl2)
    clear e0 e1 e2 e3 e4 e5
    obtain ⟨⟨e0, -⟩, -⟩ := ins6 K3.out
    go_wp2_with fail
    refine (progs_any _).mono ?_
    rintro e w4 ⟨rfl, hb4⟩
    go_wp2_with fail
    go_ret
    exact ⟨rfl, below_then (below_then (below_then hb1 (below_step hb2)) hb3) hb4⟩

-- LIFT (gen_law.py)
theorem laidOut_fnTouches : laidOutB Try.prog = true := by kernel_rfl
theorem own_fnTouches : ownKnob Try.prog.godebug = none := by kernel_rfl

set_option maxRecDepth 100000 in
theorem fnTouches_lifted (os : Os) (started : os.Started) (H : Type) (enc : TypeId × Value → H) :
    ReturnsInHanded {} Try.checked os 4 .any (Rows.fnTouchesSpec.pre6 enc Try.prog Try.f4 [] false) (Rows.fnTouchesSpec.post enc Try.prog Try.f4 false true false false) := by
  refine returnsInHanded_of_change (C := Try.checked) own_fnTouches started (by kernel_rfl) Try.func4
    (ChangeSpec.witness6 (enc := enc) (C := Try.checked) (os := os) false ⟨#[], #[.slice none 0 0], []⟩ 8 (by kernel_rfl) (by kernel_rfl) (by kernel_rfl) (by kernel_rfl)) ?_
  intro W base args ds gs before hval hW _ _
  have hW' := hW
  obtain ⟨p, q, hA0, hV, rfl, hfz, hnd⟩ := hW
  have hA : DataW.TrodAll enc Try.prog W 0 (fun _ => true) true Try.f4.params.toList args.toList ds p := hA0
  rw [Try.params4] at hA hval
  obtain ⟨v0, d0, rfl, rfl, h0⟩ := trodAll_one hA
  obtain ⟨A, n, c, rfl, hn, ha⟩ := open_code (hval 0 _ v0 rfl rfl) h0
  refine (fnTouches_walk A n c W hn ha).mono fun e W' ⟨he, hb⟩ => ⟨_, he, ?_⟩
  refine law_post laidOut_fnTouches (fun t ht => ?_) rfl (by kernel_rfl) Try.underlying4 (fun ds hds => ?_) hW' hb
  · rw [Try.params4] at ht
    simp at ht
    subst ht
    exact ⟨by kernel_rfl, of_decide_eq_true (by kernel_rfl)⟩
  · rw [Try.params4] at hds
    match ds, hds with
    | [_], _ => exact ⟨rfl, rfl, rfl⟩

theorem fnTouches_holds : Rows.FnTouchesSaid :=
  OpenClaim.holds_of_wide 4 Try.f4 rfl rfl rfl rfl rfl rfl rfl ⟨rfl, rfl, rfl, rfl, rfl⟩ rfl rfl rfl rfl rfl (by kernel_rfl) Try.func4 (by kernel_rfl)
    (of_decide_eq_true (by kernel_rfl)) (by unfold Func.isWrapper; first | (rw [if_pos (by decide +kernel)]; kernel_rfl) | (rw [if_neg (by decide +kernel)]; exact ⟨rfl, rfl⟩))
    (fun os started H enc _ => fnTouches_lifted os started H enc)
#print axioms fnTouches_holds
end Go.Proofs.Ytbchiiggfhdnkaa
