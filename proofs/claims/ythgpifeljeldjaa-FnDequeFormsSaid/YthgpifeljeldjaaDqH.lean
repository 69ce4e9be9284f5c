/- laws.deques: it answers true. The programs that DequeProg makes are right. -/
import Derived.Test.YthgpifeljeldjaaTkO
import Derived.Test.YthgpifeljeldjaaDqPi
import Derived.Test.YthgpifeljeldjaaSameI
import Derived.Test.YthgpifeljeldjaaIPok
import Derived.Test.YthgpifeljeldjaaPrI
namespace Go.Proofs.Ythgpifeljeldjaa
open Go.RowKit

theorem progB_init {a b : List Int} {ts : List (List InsD)} (h : a.length = b.length) : progB ⟨a, ts⟩ = progB ⟨b, ts⟩ := by
  unfold progB sizesB
  rw [show (⟨a, ts⟩ : ProgD).init.length = (⟨b, ts⟩ : ProgD).init.length from h]
/-- All of them, but for the numbers. -/
def dqAll : List (List Int × Int) := ([[], [1], [2], [1, 1], [1, 2], [2, 1], [2, 2]] : List (List Int)).flatMap fun zs => ([0, 1, 2, 3] : List Int).map fun f => (zs, f)
theorem dqAll_ok : (dqAll.all fun x => progB ⟨[0, 0, 0, 0, 0, 0], dqTs x.1 x.2 x.1.length⟩) = true := by kernel_rfl
theorem dqQ_ok {z f : Int} {zs : List Int} (h : okQ z zs f = true) : progB (dqQ z zs f) = true := by
  unfold okQ at h
  obtain ⟨h1, h2⟩ := (Bool.and_eq_true _ _).mp h
  obtain ⟨-, -, hl, hf0, hf3⟩ := of_decide_eq_true h1
  have hs := fun k (hk : k < zs.length) => of_decide_eq_true (allB_at h2 hk)
  unfold dqQ
  rw [progB_init (b := [0, 0, 0, 0, 0, 0]) (by rw [initI_len]; rfl)]
  have hf : f = 0 ∨ f = 1 ∨ f = 2 ∨ f = 3 := by omega
  clear h h1 h2
  have hm : (zs, f) ∈ dqAll := by
    match zs, hl, hs with
    | [], _, _ => rcases hf with rfl | rfl | rfl | rfl <;> simp [dqAll]
    | [a], _, hs =>
      have h0 := hs 0 (by simp)
      have e0 : geti [a] 0 = a := rfl
      rw [e0] at h0
      have ha : a = 1 ∨ a = 2 := by omega
      rcases ha with rfl | rfl <;> rcases hf with rfl | rfl | rfl | rfl <;> simp [dqAll]
    | [a, b], _, hs =>
      have h0 := hs 0 (by simp)
      have h1 := hs 1 (by simp)
      have e0 : geti [a, b] 0 = a := rfl
      have e1 : geti [a, b] 1 = b := rfl
      rw [e0] at h0
      rw [e1] at h1
      have ha : a = 1 ∨ a = 2 := by omega
      have hb : b = 1 ∨ b = 2 := by omega
      rcases ha with rfl | rfl <;> rcases hb with rfl | rfl <;> rcases hf with rfl | rfl | rfl | rfl <;> simp [dqAll]
  exact List.all_eq_true.1 dqAll_ok (zs, f) hm
theorem lit_ints {W : World} {n : Nat} {zs : List Int} {cs : Array Value} (hs : cs.toList = zs.map (Value.int .i64)) (hl : zs.length = n) (hn : n ≤ 1000) : RvI 3 (W.alloc (.cells cs 3)) W.heap.size (W.alloc (.cells cs 3)).heap.size (.slice (some ⟨W.heap.size, 0, none⟩) n n) n zs := by
  refine RvI.of (RvT.of_own (size := 1) ?_)
  rw [← hs]
  exact own_lit W W.heap.size 3 1 n cs (Nat.le_refl _) hn (by have := congrArg List.length hs; simp at this; omega)
set_option maxRecDepth 100000 in
set_option maxHeartbeats 6400000 in
theorem deques_any (w : World) : Calls Try.prog 18 #[] w fun e w' => e = .returned (.bool true) ∧ Below w.heap.size w w' := by
  have kQ := fun A' c' w (h : IntsAt w (Old w.heap.size) A' [1]) => pdeque_yes A' 1 1 [1] c' _ w (fun _ h => h) h (by decide)
  have kT := hide (fun w => ptake_yes 0 0 w (by decide))
  have kS := hide (fun w => psteal_yes 0 0 w (by decide))
  have kU := fun A' c' w (h : IntsAt w (Old w.heap.size) A' [12, 11, 9]) => taken_any A' [12, 11, 9] c' 3 _ w rfl (fun _ h => h) h (by omega)
  have kO := fun A' c' w (h : IntsAt w (Old w.heap.size) A' [12, 12]) => often_any A' [12, 12] c' 2 _ w rfl (fun _ h => h) h (by omega)
  rw [show uniqI (gotTo [12, 11, 9] 3) = [11, 12] from by rw [show gotTo [12, 11, 9] 3 = [12, 11] from by decide, ← takenTo_all]; decide, show ([11, 12] : List Int).length = 2 from rfl] at kU
  rw [show oftenB [12, 12] 2 = true from by unfold oftenB; rw [show gotTo [12, 12] 2 = [12, 12] from by decide, ← takenTo_all]; decide] at kO
  replace kQ := hide kQ
  replace kU := hide kU
  replace kO := hide kO
  have L1 := hide (lit_ints (W := w) (n := 1) (zs := [1]) (cs := #[.int .i64 1]) rfl rfl (by omega))
  have B1 := hide (below1 w (Obj.cells #[.int .i64 1] 3))
  obtain ⟨w1, hw1⟩ : ∃ y, y = w.alloc (Obj.cells #[.int .i64 1] 3) := ⟨_, rfl⟩
  rw [← hw1] at L1 B1
  go_enter Try.func18, Try.ntmps18
  go_wp2_with fail
  rw [← hw1]
  clear hw1
  refine (kQ.out _ _ _ (L1.out.src (by simp) rfl)).mono ?_
  rintro e w2 hr
  obtain ⟨A3, c3, A4, c4, vs, rfl, hp, hb2⟩ := hr.form
  rw [show (dqQ 1 [1] 1).init.length = 6 from rfl, show (dqQ 1 [1] 1).ts.length = 2 from rfl]
  have B2 := hide (B1.out.trans (hb2.mono B1.out.size))
  clear hr hp hb2 L1 B1 kQ
  have X2 := Blk.new w2 28 #[.slice A3 6 c3, .slice A4 2 c4]
  have B3 := hide (B2.out.alloc B2.out.size (Obj.cells #[.slice A3 6 c3, .slice A4 2 c4] 28))
  go_upto_region 2 with fail
  obtain ⟨w3, hw3⟩ : ∃ y, y = w2.alloc (Obj.cells #[.slice A3 6 c3, .slice A4 2 c4] 28) := ⟨_, rfl⟩
  rw [← hw3] at X2 B3 ⊢
  clear hw3 B2
  have x1 := X2.cell 1
  have lx := X2.lt
  simp only [List.getElem?_toArray, List.getElem?_cons_zero, List.getElem?_cons_succ] at x1
  go_wp2_with fail
  clear x1 lx X2
  refine (kT.out _).mono ?_
  rintro e w4 ⟨A5, c5, rfl, -, hb4⟩
  rw [show (takeI 0 (tkB 0)).length = 20 from rfl]
  have B4 := hide (B3.out.trans (hb4.mono B3.out.size))
  clear hb4 B3
  go_wp2_with fail
  refine (kS.out _).mono ?_
  rintro e w5 ⟨A6, c6, rfl, -, hb5⟩
  rw [show (stealI 0 (stB 0)).length = 11 from rfl]
  have B5 := hide (B4.out.trans (hb5.mono B4.out.size))
  clear hb5 B4
  have L6 := hide (lit_ints (W := w5) (n := 3) (zs := [12, 11, 9]) (cs := #[.int .i64 12, .int .i64 11, .int .i64 9]) rfl rfl (by omega))
  have B6 := hide (B5.out.alloc B5.out.size (Obj.cells #[.int .i64 12, .int .i64 11, .int .i64 9] 3))
  obtain ⟨w6, hw6⟩ : ∃ y, y = w5.alloc (Obj.cells #[.int .i64 12, .int .i64 11, .int .i64 9] 3) := ⟨_, rfl⟩
  rw [← hw6] at L6 B6
  go_wp2_with fail
  rw [← hw6]
  clear hw6 B5
  refine (kU.out _ _ _ (L6.out.src (by simp) rfl)).mono ?_
  rintro e w7 ⟨A7, c7, rfl, ho7, hb7⟩
  have U7 := RvI.of (RvT.of_own ho7)
  have B7 := hide (B6.out.trans (hb7.mono B6.out.size))
  have L8 := hide (lit_ints (W := w7) (n := 2) (zs := [11, 12]) (cs := #[.int .i64 11, .int .i64 12]) rfl rfl (by omega))
  have U8 := hide (U7.next (below1 w7 (Obj.cells #[.int .i64 11, .int .i64 12] 3)))
  have B8 := hide (B7.out.alloc B7.out.size (Obj.cells #[.int .i64 11, .int .i64 12] 3))
  obtain ⟨w8, hw8⟩ : ∃ y, y = w7.alloc (Obj.cells #[.int .i64 11, .int .i64 12] 3) := ⟨_, rfl⟩
  rw [← hw8] at L8 B8 U8
  clear ho7 hb7 U7 L6 B6
  go_wp2_with fail
  rw [← hw8]
  clear hw8 B7
  refine (sameIntsI (n := 2) (zs := [11, 12]) (by rfl) (by omega) U8.out L8.out).mono ?_
  rintro e w9 ⟨rfl, hb9⟩
  have B9 := hide (B8.out.trans (hb9.mono B8.out.size))
  clear hb9 B8 U8 L8
  have L10 := hide (lit_ints (W := w9) (n := 2) (zs := [12, 12]) (cs := #[.int .i64 12, .int .i64 12]) rfl rfl (by omega))
  have B10 := hide (B9.out.alloc B9.out.size (Obj.cells #[.int .i64 12, .int .i64 12] 3))
  obtain ⟨w10, hw10⟩ : ∃ y, y = w9.alloc (Obj.cells #[.int .i64 12, .int .i64 12] 3) := ⟨_, rfl⟩
  rw [← hw10] at L10 B10
  go_wp2_with fail
  rw [← hw10]
  clear hw10 B9
  refine (kO.out _ _ _ (L10.out.src (by simp) rfl)).mono ?_
  rintro e w11 ⟨rfl, hb11⟩
  have B11 := hide (B10.out.trans (hb11.mono B10.out.size))
  clear hb11 B10
  go_wp2_with fail
  go_ret
  exact ⟨rfl, B11.out⟩
end Go.Proofs.Ythgpifeljeldjaa
