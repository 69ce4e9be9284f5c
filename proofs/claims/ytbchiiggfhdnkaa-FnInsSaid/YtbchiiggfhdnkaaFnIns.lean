/- FnIns: for every code, the drawn instruction is judged by impl.InsOk as by the model, and what may stand somewhere may stand further ahead and with more cells. No condition. -/
import Derived.Test.YtbchiiggfhdnkaaDIOk
import Derived.Test.YtbchiiggfhdnkaaProgs
import Derived.Test.YtbchiiggfhdnkaaSInsOk
import Derived.Test.YtbchiiggfhdnkaaOpenCode
namespace Go.Proofs.Ytbchiiggfhdnkaa
open Go.RowKit Go.ChangeShapes Go.WideShapes Go.ChangeAt

theorem insB_more {o r a b x n i cells m : Int} (h : insB o r a b x n i cells m = true) : insB o r a b x n i (cells + 1) (m + 1) = true := by
  unfold insB at h ⊢
  simp only [Bool.and_eq_true] at h ⊢
  refine ⟨⟨h.1.1, ?_⟩, ?_⟩
  · have h2 := h.1.2
    unfold cellsB at h2 ⊢
    simp only [decide_eq_true_eq] at h2 ⊢
    omega
  · have h2 := h.2
    unfold jumpB at h2 ⊢
    simp only [decide_eq_true_eq] at h2 ⊢
    omega
theorem insB_less {o r a b x n i cells m : Int} (h : insB o r a b x n i cells m = true) : insB o r a b x n (i - 1) cells m = true := by
  unfold insB at h ⊢
  simp only [Bool.and_eq_true] at h ⊢
  refine ⟨h.1, ?_⟩
  have h2 := h.2
  unfold jumpB at h2 ⊢
  simp only [decide_eq_true_eq] at h2 ⊢
  omega

set_option maxRecDepth 100000 in
set_option maxHeartbeats 3200000 in
theorem fnIns_walk (A : Option Addr) (n c : Nat) (w : World) (hn : n ≤ c) (ha : BytesAt w (Old w.heap.size) A n) :
    Calls Try.prog 3 #[.slice A n c] w fun e w' => e = .returned (.bool true) ∧ Below w.heap.size w w' := by
  go_enter Try.func3, Try.ntmps3
  go_wp2_with fail
  refine (drawIns_any A n c _ hn ha).mono ?_
  rintro e w1 ⟨⟨o, r, a, b, x, nn⟩, i, cells, m, rfl, hs, ⟨⟨hi0, hi1⟩, ⟨hc0, hc1⟩, hm0, hm1⟩, hb1⟩
  simp only [InsD.val]
  have k1 := fun w => ins_any o r a b x nn i cells m w (by omega) (by omega)
  have k2 := fun w => sins_any o r a b x nn i cells m w (by omega) (by omega)
  have k3 := fun w => ins_any o r a b x nn i (cells + 1) (m + 1) w (by omega) (by omega)
  have k4 := fun w => ins_any o r a b x nn (i - 1) cells m w (by omega) (by omega)
  have K := hide (Blk.new w1 24 #[.int .i64 o, .int .i64 r, .int .i64 a, .int .i64 b, .int .i64 x, .int .i64 nn])
  cases hres : insB o r a b x nn i cells m
  · rw [hres] at k1 k2
    replace k1 := hide k1
    replace k2 := hide k2
    clear k3 k4 hres
    go_wp2_with fail
    refine (k1.out _).mono ?_
    rintro e w2 ⟨rfl, hb2⟩
    have K2 := hide (K.out.below hb2 (by simp))
    obtain ⟨⟨e0, e1, e2, e3, e4, e5⟩, hl2⟩ := ins6 K2.out
    go_wp2_with fail
    refine (k2.out _).mono ?_
    rintro e w3 ⟨rfl, hb3⟩
    have K3 := hide (K2.out.below hb3 hl2)
    clear e0 e1 e2 e3 e4 e5
    obtain ⟨⟨e0, e1, e2, e3, e4, e5⟩, hl3⟩ := ins6 K3.out
    go_wp2_with fail
    refine (progs_any _).mono ?_
    rintro e w4 ⟨rfl, hb4⟩
    go_wp2_with fail
    go_ret
    exact ⟨rfl, below_then (below_then (below_then hb1 (below_step hb2)) hb3) hb4⟩
  · rw [insB_more hres] at k3
    rw [insB_less hres] at k4
    rw [hres] at k1 k2
    replace k1 := hide k1
    replace k2 := hide k2
    replace k3 := hide k3
    replace k4 := hide k4
    have hw1 : IntKind.i64.wrap (cells + 1) = cells + 1 := by rw [IntKind.wrap_i64]; omega
    have hw2 : IntKind.i64.wrap (m + 1) = m + 1 := by rw [IntKind.wrap_i64]; omega
    have hw3 : IntKind.i64.wrap (i - 1) = i - 1 := by rw [IntKind.wrap_i64]; omega
    clear hres
    go_wp2_with fail
    refine (k1.out _).mono ?_
    rintro e w2 ⟨rfl, hb2⟩
    have K2 := hide (K.out.below hb2 (by simp))
    obtain ⟨⟨e0, e1, e2, e3, e4, e5⟩, hl2⟩ := ins6 K2.out
    go_wp2_with fail
    refine (k2.out _).mono ?_
    rintro e w3 ⟨rfl, hb3⟩
    have K3 := hide (K2.out.below hb3 hl2)
    clear e0 e1 e2 e3 e4 e5
    obtain ⟨⟨e0, e1, e2, e3, e4, e5⟩, hl3⟩ := ins6 K3.out
    go_wp2_with fail
    refine (k3.out _).mono ?_
    rintro e w4 ⟨rfl, hb4⟩
    have K4 := hide (K3.out.below hb4 hl3)
    clear e0 e1 e2 e3 e4 e5
    obtain ⟨⟨e0, e1, e2, e3, e4, e5⟩, hl4⟩ := ins6 K4.out
    by_cases h0 : i = 0
    · subst h0
      go_wp2_with fail
      refine (progs_any _).mono ?_
      rintro e w5 ⟨rfl, hb5⟩
      go_wp2_with fail
      go_ret
      exact ⟨rfl, below_then (below_then (below_then (below_then hb1 (below_step hb2)) hb3) hb4) hb5⟩
    · go_wp2_with fail
      refine (k4.out _).mono ?_
      rintro e w5 ⟨rfl, hb5⟩
      go_wp2_with fail
      refine (progs_any _).mono ?_
      rintro e w6 ⟨rfl, hb6⟩
      go_wp2_with fail
      go_ret
      exact ⟨rfl, below_then (below_then (below_then (below_then (below_then hb1 (below_step hb2)) hb3) hb4) hb5) hb6⟩

theorem laidOut3 : laidOutB Try.prog = true := by kernel_rfl
theorem own3 : ownKnob Try.prog.godebug = none := by kernel_rfl

set_option maxRecDepth 100000 in
theorem fnIns_lifted (os : Os) (started : os.Started) (H : Type) (enc : TypeId × Value → H) :
    ReturnsInHanded {} Try.checked os 3 .any (Rows.fnInsSpec.pre6 enc Try.prog Try.f3 [] false) (Rows.fnInsSpec.post enc Try.prog Try.f3 false true false false) := by
  refine returnsInHanded_of_change (C := Try.checked) own3 started (by kernel_rfl) Try.func3
    (ChangeSpec.witness6 (enc := enc) (C := Try.checked) (os := os) false ⟨#[], #[.slice none 0 0], []⟩ 8 (by kernel_rfl) (by kernel_rfl) (by kernel_rfl) (by kernel_rfl)) ?_
  intro W base args ds gs before hval hW _ _
  have hW' := hW
  obtain ⟨p, q, hA0, hV, rfl, hfz, hnd⟩ := hW
  have hA : DataW.TrodAll enc Try.prog W 0 (fun _ => true) true Try.f3.params.toList args.toList ds p := hA0
  rw [Try.params3] at hA hval
  obtain ⟨v0, d0, rfl, rfl, h0⟩ := trodAll_one hA
  obtain ⟨A, n, c, rfl, hn, ha⟩ := open_code (hval 0 _ v0 rfl rfl) h0
  refine (fnIns_walk A n c W hn ha).mono fun e W' ⟨he, hb⟩ => ⟨_, he, ?_⟩
  refine law_post laidOut3 (fun t ht => ?_) rfl (by kernel_rfl) Try.underlying4 (fun ds hds => ?_) hW' hb
  · rw [Try.params3] at ht
    simp at ht
    subst ht
    exact ⟨by kernel_rfl, of_decide_eq_true (by kernel_rfl)⟩
  · rw [Try.params3] at hds
    match ds, hds with
    | [_], _ => exact ⟨rfl, rfl, rfl⟩

theorem fnIns_holds : Rows.FnInsSaid :=
  OpenClaim.holds_of_wide 3 Try.f3 rfl rfl rfl rfl rfl rfl rfl ⟨rfl, rfl, rfl, rfl, rfl⟩ rfl rfl rfl rfl rfl (by kernel_rfl) Try.func3 (by kernel_rfl)
    (of_decide_eq_true (by kernel_rfl)) (by unfold Func.isWrapper; first | (rw [if_pos (by decide +kernel)]; kernel_rfl) | (rw [if_neg (by decide +kernel)]; exact ⟨rfl, rfl⟩))
    (fun os started H enc _ => fnIns_lifted os started H enc)
#print axioms fnIns_holds
end Go.Proofs.Ytbchiiggfhdnkaa
