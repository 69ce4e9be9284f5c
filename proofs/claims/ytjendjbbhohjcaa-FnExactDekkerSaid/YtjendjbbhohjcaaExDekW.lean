/- The walk of FnExactDekker: it answers true. -/
import Derived.Test.YtjendjbbhohjcaaLkC
import Derived.Test.YtjendjbbhohjcaaPrI
import Derived.Test.YtjendjbbhohjcaaMkI
namespace Go.Proofs.Ytjendjbbhohjcaa
open Go.RowKit

/-- What the law's walk carries: the model's answer and its box. -/
structure LX (n b7 l0 h0 : Nat) (A5 A6 : Option Addr) (c5 c6 : Nat) (qd : ProgD) (vs0 : List Value) (w0 w : World) : Prop where
  bl : Below n w0 w
  x : Blk w b7 37 #[.slice A5 qd.init.length c5, .slice A6 qd.ts.length c6]
  w0 : PrI w l0 h0 qd (.slice A5 qd.init.length c5) (.slice A6 qd.ts.length c6) vs0
  b : n ≤ l0 ∧ l0 ≤ h0 ∧ h0 ≤ b7
section
variable {n b7 l0 h0 : Nat} {A5 A6 : Option Addr} {c5 c6 : Nat} {qd : ProgD} {vs0 : List Value} {w0 : World} {w w' : World}
theorem LX.nle (h : LX n b7 l0 h0 A5 A6 c5 c6 qd vs0 w0 w) : n ≤ w.heap.size := by
  have h1 := h.x.lt
  have h2 := h.b
  omega
theorem LX.next (h : LX n b7 l0 h0 A5 A6 c5 c6 qd vs0 w0 w) (hb : Below w.heap.size w w') : LX n b7 l0 h0 A5 A6 c5 c6 qd vs0 w0 w' :=
  ⟨h.bl.trans (hb.mono h.nle), h.x.next hb, h.w0.next hb, h.b⟩
theorem LX.cells (h : LX n b7 l0 h0 A5 A6 c5 c6 qd vs0 w0 w) : w.cell? ⟨b7, 0, none⟩ = some (.slice A5 qd.init.length c5) ∧ w.cell? ⟨b7, 1, none⟩ = some (.slice A6 qd.ts.length c6) := ⟨h.x.cell 0, h.x.cell 1⟩
theorem LX.inn {a b : Nat} (h : LX n b7 l0 h0 A5 A6 c5 c6 qd vs0 w0 w) (hi' : Inn a b w w') (hn : n ≤ a) (hl : a ≤ w.heap.size) (h6 : b7 < a ∨ b ≤ b7) (h7 : h0 ≤ a ∨ b ≤ l0) : LX n b7 l0 h0 A5 A6 c5 c6 qd vs0 w0 w' :=
  ⟨h.bl.trans ((hi'.below hl).mono hn), blk_inn h.x hi' h6, h.w0.inn hi' h7, h.b⟩
end
set_option maxRecDepth 100000 in
set_option maxHeartbeats 12800000 in
theorem exDek_walk (f : Bool) (w : World) :
    Calls Try.prog 10 #[.bool f] w fun e w' => e = .returned (.bool true) ∧ Below w.heap.size w w' := by
  have kS := fun w => sdek_any f w
  have kI := fun w => pdek_any f w
  have hqs := hide (dekP_size f)
  obtain ⟨qd, hqd⟩ : ∃ q, q = dekP f := ⟨_, rfl⟩
  rw [← hqd] at kS kI hqs
  clear hqd
  replace kS := hide kS
  replace kI := hide kI
  go_enter Try.func10, Try.ntmps10
  go_wp2_with fail
  refine (kS.out _).mono ?_
  rintro e w2 hr2
  obtain ⟨A5, c5, A6, c6, vs0, rfl, hr2, hb2⟩ := hr2.form
  have hb3 := below1 w2 (Obj.cells #[.slice A5 qd.init.length c5, .slice A6 qd.ts.length c6] 37)
  have hb23 := below_then hb2 hb3
  have B3 := hide hb23
  have P3 := hide (hr2.next hb3)
  have X3 := hide (Blk.new w2 37 #[.slice A5 qd.init.length c5, .slice A6 qd.ts.length c6])
  have N3 := hide hb2.size
  clear hr2 hb2 hb3 hb23
  go_upto_region 2 with fail
  obtain ⟨w3, hw3⟩ : ∃ wq, wq = w2.alloc (Obj.cells #[.slice A5 qd.init.length c5, .slice A6 qd.ts.length c6] 37) := ⟨_, rfl⟩
  rw [← hw3] at B3 P3 X3 ⊢
  obtain ⟨n, hn⟩ : ∃ x, x = w.heap.size := ⟨_, rfl⟩
  obtain ⟨l0, hl0⟩ : ∃ x, x = w.heap.size := ⟨_, rfl⟩
  rw [← hl0] at P3 N3
  obtain ⟨b7, hb7⟩ : ∃ x, x = w2.heap.size := ⟨_, rfl⟩
  rw [← hb7] at X3 P3 N3 ⊢
  have H3 := hide (show LX n b7 l0 b7 A5 A6 c5 c6 qd vs0 w w3 from ⟨by rw [hn]; exact B3.out, X3.out, P3.out, ⟨by rw [hn, hl0]; exact Nat.le_refl _, N3.out, Nat.le_refl _⟩⟩)
  clear hw3 hl0 hb7 B3 P3 X3 N3
  obtain ⟨h0, hh0⟩ : ∃ x, x = b7 := ⟨_, rfl⟩
  have H4 := hide (show LX n b7 l0 h0 A5 A6 c5 c6 qd vs0 w w3 from by rw [hh0]; exact H3.out)
  replace hn := hide hn
  clear hh0 H3
  have V5 := hide (show b7 < w3.heap.size from H4.out.x.lt)
  go_wp2_with fail
  refine (kI.out _).mono ?_
  rintro e w6 hr6
  obtain ⟨A7, c7, A8, c8, vs1, rfl, hr6, hb6⟩ := hr6.form
  have hbn := below1 w6 (Obj.cells #[.slice A7 qd.init.length c7, .slice A8 qd.ts.length c8] 37)
  have hb67 := below_then hb6 hbn
  have W7 := hide hb6.size
  have G7 := hide (hr6.next hbn)
  have Y7 := hide (Blk.new w6 37 #[.slice A7 qd.init.length c7, .slice A8 qd.ts.length c8])
  have H7 := hide (H4.out.next hb67)
  clear hr6 hb6 hbn H4 hb67
  go_upto_region 3 with fail
  obtain ⟨w7, hw7⟩ : ∃ wq, wq = w6.alloc (Obj.cells #[.slice A7 qd.init.length c7, .slice A8 qd.ts.length c8] 37) := ⟨_, rfl⟩
  rw [← hw7] at G7 Y7 H7 ⊢
  obtain ⟨l1, hl1⟩ : ∃ x, x = w3.heap.size := ⟨_, rfl⟩
  rw [← hl1] at G7 V5 W7
  obtain ⟨b10, hb10⟩ : ∃ x, x = w6.heap.size := ⟨_, rfl⟩
  rw [← hb10] at G7 Y7 W7 ⊢
  clear hw7 hl1 hb10
  obtain ⟨h1, hh1⟩ : ∃ x, x = b10 := ⟨_, rfl⟩
  have K7 := hide (show PrI w7 l1 h1 qd (.slice A7 qd.init.length c7) (.slice A8 qd.ts.length c8) vs1 from by rw [hh1]; exact G7.out)
  have T7 := hide (show h1 ≤ b10 from Nat.le_of_eq hh1)
  have O := hide (show n ≤ l0 ∧ l0 ≤ h0 ∧ h0 ≤ b7 ∧ b7 < l1 ∧ l1 ≤ h1 ∧ h1 ≤ b10 from ⟨H7.out.b.1, H7.out.b.2.1, H7.out.b.2.2, V5.out, by have := W7.out; omega, T7.out⟩)
  clear hh1 G7 V5 W7 T7
  have G7 := hide K7.out
  clear K7
  have ly := Y7.out.lt
  have y0 := Y7.out.cell 0
  have y1 := Y7.out.cell 1
  simp only [List.getElem?_toArray, List.getElem?_cons_zero, List.getElem?_cons_succ] at y0 y1
  have lx := H7.out.x.lt
  obtain ⟨x0, x1⟩ := H7.out.cells
  go_wp2_with fail
  clear ly y0 y1 lx x0 x1
  refine (G7.out.eq H7.out.w0).mono ?_
  rintro e w12 ⟨rfl, hb12⟩
  have H12 := hide (H7.out.next hb12)
  have G12 := hide (G7.out.next hb12)
  have Y12 := hide (Y7.out.next hb12)
  clear H7 G7 Y7 hb12
  have ly := Y12.out.lt
  have y0 := Y12.out.cell 0
  have y1 := Y12.out.cell 1
  simp only [List.getElem?_toArray, List.getElem?_cons_zero, List.getElem?_cons_succ] at y0 y1
  go_wp2_with fail
  clear ly y0 y1
  refine (G12.out.mark hqs.out).mono ?_
  rintro e w13 ⟨rfl, hg13, hi13⟩
  have hO := O.out
  have hll := Y12.out.lt
  have H13 := hide (H12.out.inn hi13 (by omega) (by omega) (by omega) (by omega))
  have Y13 := hide (blk_inn Y12.out hi13 (by omega))
  have G13 := hide hg13
  clear hi13 hg13 H12 G12 Y12 hll hO
  obtain ⟨mz, hmz⟩ : ∃ mz : Int, mz = (markM qd : Int) := ⟨_, rfl⟩
  have hmz0 : decide (mz < 0) = false := decide_eq_false (by omega)
  have hmm : (mz != mz) = false := by simp
  rw [← hmz]
  replace hmz := hide hmz
  have ly := Y13.out.lt
  have y0 := Y13.out.cell 0
  have y1 := Y13.out.cell 1
  simp only [List.getElem?_toArray, List.getElem?_cons_zero, List.getElem?_cons_succ] at y0 y1
  go_wp2_with fail
  clear ly y0 y1
  have kh := G13.out.held hqs.out
  rw [← hmz.out] at kh
  refine kh.mono ?_
  rintro e w14 ⟨rfl, hb14⟩
  clear kh
  have H14 := hide (H13.out.next hb14)
  have G14 := hide (G13.out.next hb14)
  have Y14 := hide (Y13.out.next hb14)
  clear H13 G13 Y13 hb14
  go_wp2_with fail
  refine (kI.out _).mono ?_
  rintro e w16 hr16
  obtain ⟨A3, c3, A4, c4, vs2, rfl, hr16, hb16⟩ := hr16.form
  have hbn := below1 w16 (Obj.cells #[.slice A3 qd.init.length c3, .slice A4 qd.ts.length c4] 37)
  have hb17 := below_then hb16 hbn
  have J17 := hide (hr16.next hbn)
  have E17 := hide (Blk.new w16 37 #[.slice A3 qd.init.length c3, .slice A4 qd.ts.length c4])
  clear hr16 hb16 hbn
  have H17 := hide (H14.out.next hb17)
  have G17 := hide (G14.out.next hb17)
  have Y17 := hide (Y14.out.next hb17)
  clear H14 G14 Y14 hb17
  go_upto_region 14 with fail
  obtain ⟨w17, hw17⟩ : ∃ wq, wq = w16.alloc (Obj.cells #[.slice A3 qd.init.length c3, .slice A4 qd.ts.length c4] 37) := ⟨_, rfl⟩
  rw [← hw17] at J17 E17 H17 G17 Y17 ⊢
  obtain ⟨b15, hb15⟩ : ∃ x, x = w16.heap.size := ⟨_, rfl⟩
  rw [← hb15] at J17 E17 ⊢
  clear hw17 hb15
  have le := E17.out.lt
  have e0 := E17.out.cell 0
  have e1 := E17.out.cell 1
  simp only [List.getElem?_toArray, List.getElem?_cons_zero, List.getElem?_cons_succ] at e0 e1
  have lx := H17.out.x.lt
  obtain ⟨x0, x1⟩ := H17.out.cells
  go_wp2_with fail
  clear le e0 e1 lx x0 x1
  refine (J17.out.eq H17.out.w0).mono ?_
  rintro e w18 ⟨rfl, hb18⟩
  clear J17 E17
  have H18 := hide (H17.out.next hb18)
  have G18 := hide (G17.out.next hb18)
  have Y18 := hide (Y17.out.next hb18)
  clear H17 G17 Y17 hb18
  have ly := Y18.out.lt
  have y0 := Y18.out.cell 0
  have y1 := Y18.out.cell 1
  simp only [List.getElem?_toArray, List.getElem?_cons_zero, List.getElem?_cons_succ] at y0 y1
  go_wp2_with fail
  clear ly y0 y1
  have kh := G18.out.held hqs.out
  rw [← hmz.out] at kh
  refine kh.mono ?_
  rintro e w19 ⟨rfl, hb19⟩
  clear kh
  have H19 := hide (H18.out.next hb19)
  have G19 := hide (G18.out.next hb19)
  have Y19 := hide (Y18.out.next hb19)
  clear H18 G18 Y18 hb19
  go_wp2_with fail
  go_ret
  rw [← hn.out]
  exact ⟨rfl, H19.out.bl⟩
end Go.Proofs.Ytjendjbbhohjcaa
