/- The walk of FnExactDequeProg: it answers true and leaves its arguments. -/
import Derived.Test.YthgpifeljeldjaaDqPi
import Derived.Test.YthgpifeljeldjaaDqPs
import Derived.Test.YthgpifeljeldjaaPrI
import Derived.Test.YthgpifeljeldjaaMkI
import Derived.Test.YthgpifeljeldjaaIntTo
import Derived.Test.YthgpifeljeldjaaIntEq
namespace Go.Proofs.Ythgpifeljeldjaa
open Go.RowKit

theorem dq_insTo : ∀ (z : Int) (zs : List Int) (f : Int), okQ z zs f = true → progSize (dqQ z zs f) ≤ 1048576 := fun z zs f h => by
  unfold okQ at h
  obtain ⟨h1, -⟩ := (Bool.and_eq_true _ _).mp h
  have h2 := (of_decide_eq_true h1).2.2.1
  have h3 := insTo_bound (dqTs zs f zs.length) 24 (dqTs zs f zs.length).length (fun j hj => by
    rw [dqTs_len] at hj
    unfold dqTs thiefTs gett
    match j, hj with
    | 0, _ => show (takeI 0 (tkB f)).length ≤ 24; rw [takeI_len]; split <;> omega
    | j + 1, hj =>
      rw [List.getD_eq_getElem?_getD, List.getElem?_cons_succ, List.getElem?_map, List.getElem?_range (by omega)]
      exact thiefI_len _ _) (Nat.le_refl _)
  have h4 := insTo_all (dqTs zs f zs.length)
  rw [dqTs_len] at h3 h4
  show (initI z 4).length + tsSize (dqTs zs f zs.length) ≤ 1048576
  rw [initI_len]
  omega
theorem dqP_size (z : Int) (zs : List Int) (f : Int) : progSize (dqP z zs f) ≤ 1048576 := by
  unfold dqP
  cases h : okQ z zs f
  · show progSize ⟨[], []⟩ ≤ 1048576
    decide
  · exact dq_insTo z zs f h
theorem sdeque_any (A : Option Addr) (z f : Int) (zs : List Int) (c : Nat) (w : World) (ha : IntsAt w (Old w.heap.size) A zs) :
    Calls Try.prog 11 #[.int .i64 z, .slice A zs.length c, .int .i64 f] w fun e w' => FenR w w' e (dqP z zs f) (okQ z zs f) := by
  by_cases h : (1 ≤ z ∧ z ≤ 4) ∧ zs.length ≤ 2 ∧ 0 ≤ f ∧ f ≤ 3
  · exact sdeque_main A z f zs c _ w (fun _ h => h) ha h.1.1 h.1.2 h.2.1 h.2.2.1 h.2.2.2
  · have h1 : okQ z zs f = false := by
      unfold okQ
      rw [decide_eq_false (fun k => h ⟨⟨k.1, k.2.1⟩, k.2.2.1, k.2.2.2.1, k.2.2.2.2⟩), Bool.false_and]
    have h2 : dqP z zs f = ⟨[], []⟩ := by unfold dqP; rw [h1]; rfl
    rw [h1, h2]
    exact sdeque_no A z f zs c w ha.1 h
theorem pdeque_any (A : Option Addr) (z f : Int) (zs : List Int) (c : Nat) (w : World) (ha : IntsAt w (Old w.heap.size) A zs) :
    Calls Try.prog 10 #[.int .i64 z, .slice A zs.length c, .int .i64 f] w fun e w' => FenR w w' e (dqP z zs f) (okQ z zs f) := by
  cases h : okQ z zs f
  · rw [show dqP z zs f = ⟨[], []⟩ from by unfold dqP; rw [h]; rfl]
    exact pdeque_no A z f zs c _ w (fun _ h => h) ha h
  · rw [show dqP z zs f = dqQ z zs f from by unfold dqP; rw [h]; rfl]
    exact pdeque_yes A z f zs c _ w (fun _ h => h) ha h
/-- What the law's walk carries: the argument, the model's answer and its box. -/
structure DX (n b7 l0 h0 : Nat) (A A5 A6 : Option Addr) (c5 c6 : Nat) (zs : List Int) (qd : ProgD) (vs0 : List Value) (w0 w : World) : Prop where
  z : IntsAt w (Old n) A zs
  bl : Below n w0 w
  x : Blk w b7 28 #[.slice A5 qd.init.length c5, .slice A6 qd.ts.length c6]
  w0 : PrI w l0 h0 qd (.slice A5 qd.init.length c5) (.slice A6 qd.ts.length c6) vs0
  b : n ≤ l0 ∧ l0 ≤ h0 ∧ h0 ≤ b7
section
variable {n b7 l0 h0 : Nat} {A A5 A6 : Option Addr} {c5 c6 : Nat} {zs : List Int} {qd : ProgD} {vs0 : List Value} {w0 : World} {w w' : World}
theorem DX.nle (h : DX n b7 l0 h0 A A5 A6 c5 c6 zs qd vs0 w0 w) : n ≤ w.heap.size := by
  have h1 := h.x.lt
  have h2 := h.b
  omega
theorem DX.next (h : DX n b7 l0 h0 A A5 A6 c5 c6 zs qd vs0 w0 w) (hb : Below w.heap.size w w') : DX n b7 l0 h0 A A5 A6 c5 c6 zs qd vs0 w0 w' :=
  ⟨h.z.nextI hb h.nle, h.bl.trans (hb.mono h.nle), h.x.next hb, h.w0.next hb, h.b⟩
theorem DX.cells (h : DX n b7 l0 h0 A A5 A6 c5 c6 zs qd vs0 w0 w) : w.cell? ⟨b7, 0, none⟩ = some (.slice A5 qd.init.length c5) ∧ w.cell? ⟨b7, 1, none⟩ = some (.slice A6 qd.ts.length c6) := ⟨h.x.cell 0, h.x.cell 1⟩
theorem DX.inn {a b : Nat} (h : DX n b7 l0 h0 A A5 A6 c5 c6 zs qd vs0 w0 w) (hi' : Inn a b w w') (hn : n ≤ a) (hl : a ≤ w.heap.size) (h6 : b7 < a ∨ b ≤ b7) (h7 : h0 ≤ a ∨ b ≤ l0) : DX n b7 l0 h0 A A5 A6 c5 c6 zs qd vs0 w0 w' :=
  ⟨h.z.below (hi'.below hl) (fun _ k => Nat.lt_of_lt_of_le k hn), h.bl.trans ((hi'.below hl).mono hn), blk_inn h.x hi' h6, h.w0.inn hi' h7, h.b⟩
end
set_option maxRecDepth 100000 in
set_option maxHeartbeats 12800000 in
theorem exDqP_small (A : Option Addr) (z f : Int) (zs : List Int) (m c : Nat) (w : World) (hz : zs.length = m) (hm2 : m ≤ 1048576) (ha : IntsAt w (Old w.heap.size) A zs) :
    Calls Try.prog 6 #[.int .i64 z, .slice A m c, .int .i64 f] w fun e w' => e = .returned (.bool true) ∧ Below w.heap.size w w' := by
  have kS := fun A' c' w h => sdeque_any A' z f zs c' w h
  have kI := fun A' c' w h => pdeque_any A' z f zs c' w h
  have hqs := hide (dqP_size z zs f)
  obtain ⟨qd, hqd⟩ : ∃ q, q = dqP z zs f := ⟨_, rfl⟩
  obtain ⟨ok, hok⟩ : ∃ b, b = okQ z zs f := ⟨_, rfl⟩
  rw [← hqd, ← hok, hz] at kS kI
  rw [← hqd] at hqs
  clear hqd hok
  have hlen : decide ((1048576 : Int) < (m : Int)) = false := decide_eq_false (by omega)
  have hlen' : decide (1048576 < m) = false := decide_eq_false (by omega)
  have hxor : (ok != ok) = false := by simp
  replace kS := hide kS
  replace kI := hide kI
  replace hz := hide hz
  replace ha := hide ha
  go_enter Try.func6, Try.ntmps6
  go_wp2_with fail
  refine (toIntSI hz.out hm2 (old_lts (Nat.le_refl _)) ha.out).mono ?_
  rintro e w1 ⟨q1, rfl, hr1, hb1⟩
  have Z1 := hide (ha.out.nextI hb1 (Nat.le_refl _))
  have R1 := hide (hr1.src (by have := hz.out; omega) rfl)
  have B1 := hide hb1
  clear hr1 hb1 ha
  go_wp2_with fail
  refine (kS.out _ _ _ R1.out).mono ?_
  rintro e w2 hr2
  obtain ⟨A5, c5, A6, c6, vs0, rfl, hr2, hb2⟩ := hr2.form
  have hb3 := below1 w2 (Obj.cells #[.slice A5 qd.init.length c5, .slice A6 qd.ts.length c6] 28)
  have hb23 := below_then hb2 hb3
  have Z3 := hide (Z1.out.nextI hb23 B1.out.size)
  have B3 := hide (B1.out.trans (hb23.mono B1.out.size))
  have P3 := hide (hr2.next hb3)
  have X3 := hide (Blk.new w2 28 #[.slice A5 qd.init.length c5, .slice A6 qd.ts.length c6])
  have N3 := hide (show w.heap.size ≤ w1.heap.size ∧ w1.heap.size ≤ w2.heap.size from ⟨B1.out.size, hb2.size⟩)
  clear hr2 hb2 hb3 hb23 Z1 B1 R1
  go_upto_region 4 with fail
  obtain ⟨w3, hw3⟩ : ∃ wq, wq = w2.alloc (Obj.cells #[.slice A5 qd.init.length c5, .slice A6 qd.ts.length c6] 28) := ⟨_, rfl⟩
  rw [← hw3] at Z3 B3 P3 X3 ⊢
  obtain ⟨l0, hl0⟩ : ∃ x, x = w1.heap.size := ⟨_, rfl⟩
  rw [← hl0] at P3 N3
  obtain ⟨b7, hb7⟩ : ∃ x, x = w2.heap.size := ⟨_, rfl⟩
  rw [← hb7] at X3 P3 N3 ⊢
  obtain ⟨n, hn⟩ : ∃ x, x = w.heap.size := ⟨_, rfl⟩
  have H3 := hide (show DX n b7 l0 b7 A A5 A6 c5 c6 zs qd vs0 w w3 from ⟨by rw [hn]; exact Z3.out, by rw [hn]; exact B3.out, X3.out, P3.out, ⟨by rw [hn]; exact N3.out.1, N3.out.2, Nat.le_refl _⟩⟩)
  clear hw3 hl0 hb7 Z3 B3 P3 X3 N3
  obtain ⟨h0, hh0⟩ : ∃ x, x = b7 := ⟨_, rfl⟩
  have H4 := hide (show DX n b7 l0 h0 A A5 A6 c5 c6 zs qd vs0 w w3 from by rw [hh0]; exact H3.out)
  replace hn := hide hn
  clear hh0 H3
  go_wp2_with fail
  refine (toIntSI hz.out hm2 (old_lts H4.out.nle) H4.out.z).mono ?_
  rintro e w5 ⟨q5, rfl, hr5, hb5⟩
  have R5 := hide hr5
  have V5 := hide (show b7 < w3.heap.size from H4.out.x.lt)
  have AD := hide hb5.size
  have H5 := hide (H4.out.next hb5)
  clear hr5 hb5 H4
  obtain ⟨a1, ha1⟩ : ∃ x, x = w3.heap.size := ⟨_, rfl⟩
  obtain ⟨d1, hd1⟩ : ∃ x, x = w5.heap.size := ⟨_, rfl⟩
  rw [← ha1, ← hd1] at R5 AD
  rw [← ha1] at V5
  have U5 := hide (show d1 ≤ w5.heap.size from Nat.le_of_eq hd1)
  clear ha1 hd1
  go_wp2_with fail
  refine (kI.out _ _ _ (R5.out.src (by have := hz.out; omega) rfl)).mono ?_
  rintro e w6 hr6
  obtain ⟨A7, c7, A8, c8, vs1, rfl, hr6, hb6⟩ := hr6.form
  have hbn := below1 w6 (Obj.cells #[.slice A7 qd.init.length c7, .slice A8 qd.ts.length c8] 28)
  have hb67 := below_then hb6 hbn
  have W7 := hide hb6.size
  have G7 := hide (hr6.next hbn)
  have Y7 := hide (Blk.new w6 28 #[.slice A7 qd.init.length c7, .slice A8 qd.ts.length c8])
  clear hr6 hb6 hbn
  have H7 := hide (H5.out.next hb67)
  have R7 := hide (R5.out.next hb67)
  clear H5 R5 hb67
  go_upto_region 6 with fail
  obtain ⟨w7, hw7⟩ : ∃ wq, wq = w6.alloc (Obj.cells #[.slice A7 qd.init.length c7, .slice A8 qd.ts.length c8] 28) := ⟨_, rfl⟩
  rw [← hw7] at G7 Y7 R7 H7 ⊢
  obtain ⟨l1, hl1⟩ : ∃ x, x = w5.heap.size := ⟨_, rfl⟩
  rw [← hl1] at G7 U5 W7
  obtain ⟨b10, hb10⟩ : ∃ x, x = w6.heap.size := ⟨_, rfl⟩
  rw [← hb10] at G7 Y7 W7 ⊢
  clear hw7 hl1 hb10
  obtain ⟨h1, hh1⟩ : ∃ x, x = b10 := ⟨_, rfl⟩
  have K7 := hide (show PrI w7 l1 h1 qd (.slice A7 qd.init.length c7) (.slice A8 qd.ts.length c8) vs1 from by rw [hh1]; exact G7.out)
  have T7 := hide (show h1 ≤ b10 from Nat.le_of_eq hh1)
  have O := hide (show n ≤ l0 ∧ l0 ≤ h0 ∧ h0 ≤ b7 ∧ b7 < a1 ∧ a1 ≤ d1 ∧ d1 ≤ l1 ∧ l1 ≤ h1 ∧ h1 ≤ b10 from ⟨H7.out.b.1, H7.out.b.2.1, H7.out.b.2.2, V5.out, AD.out, U5.out, by have := W7.out; omega, T7.out⟩)
  clear hh1 G7 V5 AD U5 W7 T7
  have G7 := hide K7.out
  clear K7
  have ly := Y7.out.lt
  have y0 := Y7.out.cell 0
  have y1 := Y7.out.cell 1
  simp only [List.getElem?_toArray, List.getElem?_cons_zero, List.getElem?_cons_succ] at y0 y1
  have lx := H7.out.x.lt
  obtain ⟨x0, x1⟩ := H7.out.cells
  go_wp2_with fail
  clear ly y0 y1 lx x0 x1
  refine (G7.out.eq H7.out.w0).mono ?_
  rintro e w8 ⟨rfl, hb8⟩
  have H8 := hide (H7.out.next hb8)
  have R8 := hide (R7.out.next hb8)
  have G8 := hide (G7.out.next hb8)
  have Y8 := hide (Y7.out.next hb8)
  clear H7 R7 G7 Y7 hb8
  go_wp2_with fail
  refine (toIntSI hz.out hm2 (old_lts H8.out.nle) H8.out.z).mono ?_
  rintro e w9 ⟨q9, rfl, hr9, hb9⟩
  have K9 := hide hr9
  clear hr9
  have H9 := hide (H8.out.next hb9)
  have R9 := hide (R8.out.next hb9)
  have G9 := hide (G8.out.next hb9)
  have Y9 := hide (Y8.out.next hb9)
  clear H8 R8 G8 Y8 hb9
  go_wp2_with fail
  refine (eqIntSI hz.out (by omega) R9.out K9.out).mono ?_
  rintro e w10 ⟨rfl, hb10⟩
  clear K9
  have H10 := hide (H9.out.next hb10)
  have R10 := hide (R9.out.next hb10)
  have G10 := hide (G9.out.next hb10)
  have Y10 := hide (Y9.out.next hb10)
  clear H9 R9 G9 Y9 hb10
  go_wp2_with fail
  refine (markIntSI hz.out hm2 (by omega) (by omega) R10.out).mono ?_
  rintro e w11 ⟨rfl, hv11, hg11⟩
  have hi11 := inn_grown hg11 (fun x hx => ⟨(R10.out.1.own_lt hx).1, R10.out.2 x hx⟩)
  have hO := O.out
  have hll := Y10.out.lt
  have H11 := hide (H10.out.inn hi11 (by omega) (by omega) (by omega) (by omega))
  have G11 := hide (G10.out.inn hi11 (by omega))
  have Y11 := hide (blk_inn Y10.out hi11 (by omega))
  clear hi11 hv11 hg11 H10 R10 G10 Y10 hO hll
  obtain ⟨mz, hmz⟩ : ∃ mz, mz = markZ 1 m := ⟨_, rfl⟩
  have hmz0 : decide (mz < 0) = false := decide_eq_false (by rw [hmz]; exact markZ_nonneg (by omega))
  rw [← hmz]
  clear hmz
  have ly := Y11.out.lt
  have y0 := Y11.out.cell 0
  have y1 := Y11.out.cell 1
  simp only [List.getElem?_toArray, List.getElem?_cons_zero, List.getElem?_cons_succ] at y0 y1
  have lx := H11.out.x.lt
  obtain ⟨x0, x1⟩ := H11.out.cells
  go_wp2_with fail
  clear ly y0 y1 lx x0 x1
  refine (G11.out.eq H11.out.w0).mono ?_
  rintro e w12 ⟨rfl, hb12⟩
  have H12 := hide (H11.out.next hb12)
  have G12 := hide (G11.out.next hb12)
  have Y12 := hide (Y11.out.next hb12)
  clear H11 G11 Y11 hb12
  clear hmz0
  have ly := Y12.out.lt
  have y0 := Y12.out.cell 0
  have y1 := Y12.out.cell 1
  simp only [List.getElem?_toArray, List.getElem?_cons_zero, List.getElem?_cons_succ] at y0 y1
  go_wp2_with fail
  clear ly y0 y1
  refine (G12.out.mark hqs.out).mono ?_
  rintro e w13 ⟨rfl, hg13, hi13⟩
  have hO := O.out
  have hll := Y12.out.lt
  have H13 := hide (H12.out.inn hi13 (by omega) (by omega) (by omega) (by omega))
  have Y13 := hide (blk_inn Y12.out hi13 (by omega))
  have G13 := hide hg13
  clear hi13 hg13 H12 G12 Y12 hll hO
  obtain ⟨mz, hmz⟩ : ∃ mz : Int, mz = (markM qd : Int) := ⟨_, rfl⟩
  have hmz0 : decide (mz < 0) = false := decide_eq_false (by omega)
  have hmm : (mz != mz) = false := by simp
  rw [← hmz]
  replace hmz := hide hmz
  have ly := Y13.out.lt
  have y0 := Y13.out.cell 0
  have y1 := Y13.out.cell 1
  simp only [List.getElem?_toArray, List.getElem?_cons_zero, List.getElem?_cons_succ] at y0 y1
  go_wp2_with fail
  clear ly y0 y1
  have kh := G13.out.held hqs.out
  rw [← hmz.out] at kh
  refine kh.mono ?_
  rintro e w14 ⟨rfl, hb14⟩
  clear kh
  have H14 := hide (H13.out.next hb14)
  have G14 := hide (G13.out.next hb14)
  have Y14 := hide (Y13.out.next hb14)
  clear H13 G13 Y13 hb14
  go_wp2_with fail
  refine (toIntSI hz.out hm2 (old_lts H14.out.nle) H14.out.z).mono ?_
  rintro e w15 ⟨q15, rfl, hr15, hb15⟩
  have K15 := hide (hr15.src (by have := hz.out; omega) rfl)
  clear hr15
  have H15 := hide (H14.out.next hb15)
  have G15 := hide (G14.out.next hb15)
  have Y15 := hide (Y14.out.next hb15)
  clear H14 G14 Y14 hb15
  go_wp2_with fail
  refine (kI.out _ _ _ K15.out).mono ?_
  rintro e w16 hr16
  obtain ⟨A3, c3, A4, c4, vs2, rfl, hr16, hb16⟩ := hr16.form
  have hbn := below1 w16 (Obj.cells #[.slice A3 qd.init.length c3, .slice A4 qd.ts.length c4] 28)
  have hb17 := below_then hb16 hbn
  have J17 := hide (hr16.next hbn)
  have E17 := hide (Blk.new w16 28 #[.slice A3 qd.init.length c3, .slice A4 qd.ts.length c4])
  clear hr16 hb16 hbn K15
  have H17 := hide (H15.out.next hb17)
  have G17 := hide (G15.out.next hb17)
  have Y17 := hide (Y15.out.next hb17)
  clear H15 G15 Y15 hb17
  go_upto_region 23 with fail
  obtain ⟨w17, hw17⟩ : ∃ wq, wq = w16.alloc (Obj.cells #[.slice A3 qd.init.length c3, .slice A4 qd.ts.length c4] 28) := ⟨_, rfl⟩
  rw [← hw17] at J17 E17 H17 G17 Y17 ⊢
  obtain ⟨b15, hb15⟩ : ∃ x, x = w16.heap.size := ⟨_, rfl⟩
  rw [← hb15] at J17 E17 ⊢
  clear hw17 hb15
  have le := E17.out.lt
  have e0 := E17.out.cell 0
  have e1 := E17.out.cell 1
  simp only [List.getElem?_toArray, List.getElem?_cons_zero, List.getElem?_cons_succ] at e0 e1
  have lx := H17.out.x.lt
  obtain ⟨x0, x1⟩ := H17.out.cells
  go_wp2_with fail
  clear le e0 e1 lx x0 x1
  refine (J17.out.eq H17.out.w0).mono ?_
  rintro e w18 ⟨rfl, hb18⟩
  clear J17 E17
  have H18 := hide (H17.out.next hb18)
  have G18 := hide (G17.out.next hb18)
  have Y18 := hide (Y17.out.next hb18)
  clear H17 G17 Y17 hb18
  have ly := Y18.out.lt
  have y0 := Y18.out.cell 0
  have y1 := Y18.out.cell 1
  simp only [List.getElem?_toArray, List.getElem?_cons_zero, List.getElem?_cons_succ] at y0 y1
  go_wp2_with fail
  clear ly y0 y1
  have kh := G18.out.held hqs.out
  rw [← hmz.out] at kh
  refine kh.mono ?_
  rintro e w19 ⟨rfl, hb19⟩
  clear kh
  have H19 := hide (H18.out.next hb19)
  have G19 := hide (G18.out.next hb19)
  have Y19 := hide (Y18.out.next hb19)
  clear H18 G18 Y18 hb19
  go_wp2_with fail
  go_ret
  rw [← hn.out]
  exact ⟨rfl, H19.out.bl⟩
set_option maxHeartbeats 800000 in
theorem exDqP_big (A : Option Addr) (z f : Int) (m c : Nat) (w : World) (hm2 : 1048576 < m) :
    Calls Try.prog 6 #[.int .i64 z, .slice A m c, .int .i64 f] w fun e w' => e = .returned (.bool true) ∧ Below w.heap.size w w' := by
  have hlen : decide ((1048576 : Int) < (m : Int)) = true := decide_eq_true (by omega)
  have hlen' : decide (1048576 < m) = true := decide_eq_true (by omega)
  go_enter Try.func6, Try.ntmps6
  go_wp2_with fail
  go_ret
  exact ⟨rfl, Below.refl _ _⟩
theorem exDqP_walk (A : Option Addr) (z f : Int) (zs : List Int) (c : Nat) (w : World) (ha : IntsAt w (Old w.heap.size) A zs) :
    Calls Try.prog 6 #[.int .i64 z, .slice A zs.length c, .int .i64 f] w fun e w' => e = .returned (.bool true) ∧ Below w.heap.size w w' := by
  by_cases h : zs.length ≤ 1048576
  · exact exDqP_small A z f zs zs.length c w rfl h ha
  · exact exDqP_big A z f zs.length c w (by omega)
end Go.Proofs.Ythgpifeljeldjaa
