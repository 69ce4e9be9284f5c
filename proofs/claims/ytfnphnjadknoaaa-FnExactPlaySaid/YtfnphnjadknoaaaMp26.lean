/- The program's copy of a pool: it is a pool of its own. -/
import Derived.Test.YtfnphnjadknoaaaMp0
import Derived.Test.YtfnphnjadknoaaaMp23
import Derived.Test.YtfnphnjadknoaaaMp25
namespace Go.Proofs.Ytfnphnjadknoaaa
open Go.RowKit

set_option maxRecDepth 100000 in
set_option maxHeartbeats 12800000 in
theorem poolCopied_any (a : PA) (p : PoolD) (S : Nat → Prop) (w : World) (hz : poolSize p ≤ 1048576) (hS : ∀ b, S b → b < w.heap.size) (ha : Hid (PoolAt w S a p)) :
    Calls Try.prog 66 #[.agg (a.cells p)] w fun e w' => ∃ x f, e = .returned (.agg x.cells) ∧ PoolO w' f w.heap.size x p ∧ Below w.heap.size w w' ∧ ∀ b, b < w.heap.size → f b = 0 := by
  unfold PA.cells
  have hsz : (p.js.length ≤ 1048576 ∧ (∀ k, (getj p.js k).ks.length ≤ 1048576)) ∧ (p.dq.length ≤ 1048576 ∧ ∀ k, (getq p.dq k).length ≤ 1048576) ∧ p.ran.length ≤ 1048576 ∧ p.dn.length ≤ 1048576 ∧ p.lf.length ≤ 1048576 ∧ p.sm.length ≤ 1048576 ∧ p.vl.length ≤ 1048576 := by
    have h1 := fun k => sizeJ_kids (l := p.js) k
    have h2 := fun k => sizeQ_row (rs := p.dq) k
    have h3 : p.js.length ≤ sizeJ p.js := by unfold sizeJ; omega
    have h4 : p.dq.length ≤ sizeQ p.dq := by unfold sizeQ; omega
    unfold poolSize at hz
    exact ⟨⟨by omega, fun k => by have := h1 k; omega⟩, ⟨by omega, fun k => by have := h2 k; omega⟩, by omega, by omega, by omega, by omega, by omega⟩
  have hn := hide (show p.js.length ≤ 1048576 ∧ p.dq.length ≤ 1048576 ∧ p.ran.length ≤ 1048576 ∧ p.dn.length ≤ 1048576 ∧ p.lf.length ≤ 1048576 ∧ p.sm.length ≤ 1048576 ∧ p.vl.length ≤ 1048576 from ⟨hsz.1.1, hsz.2.1.1, hsz.2.2⟩)
  have hn0 := hide hsz.1.2
  have hn1 := hide hsz.2.1.2
  clear hsz hz
  have hb0 := below2 w (Obj.cells #[.slice a.A0 p.js.length a.c0, .slice a.A1 p.dq.length a.c1, .slice a.A2 p.ran.length a.c2, .slice a.A3 p.dn.length a.c3, .slice a.A4 p.lf.length a.c4, .slice a.A5 p.sm.length a.c5, .slice a.A6 p.vl.length a.c6] 28) (Obj.cells #[.slice none 0 0, .slice none 0 0, .slice none 0 0, .slice none 0 0, .slice none 0 0, .slice none 0 0, .slice none 0 0] 28)
  have X0 := (Blk.new w 28 #[.slice a.A0 p.js.length a.c0, .slice a.A1 p.dq.length a.c1, .slice a.A2 p.ran.length a.c2, .slice a.A3 p.dn.length a.c3, .slice a.A4 p.lf.length a.c4, .slice a.A5 p.sm.length a.c5, .slice a.A6 p.vl.length a.c6]).alloc (Obj.cells #[.slice none 0 0, .slice none 0 0, .slice none 0 0, .slice none 0 0, .slice none 0 0, .slice none 0 0, .slice none 0 0] 28)
  have R0 := Blk.new (w.alloc (Obj.cells #[.slice a.A0 p.js.length a.c0, .slice a.A1 p.dq.length a.c1, .slice a.A2 p.ran.length a.c2, .slice a.A3 p.dn.length a.c3, .slice a.A4 p.lf.length a.c4, .slice a.A5 p.sm.length a.c5, .slice a.A6 p.vl.length a.c6] 28)) 28 #[.slice none 0 0, .slice none 0 0, .slice none 0 0, .slice none 0 0, .slice none 0 0, .slice none 0 0, .slice none 0 0]
  simp only [World.size_alloc] at R0
  obtain ⟨w0, hw0⟩ : ∃ w0, w0 = (w.alloc (Obj.cells #[.slice a.A0 p.js.length a.c0, .slice a.A1 p.dq.length a.c1, .slice a.A2 p.ran.length a.c2, .slice a.A3 p.dn.length a.c3, .slice a.A4 p.lf.length a.c4, .slice a.A5 p.sm.length a.c5, .slice a.A6 p.vl.length a.c6] 28)).alloc (Obj.cells #[.slice none 0 0, .slice none 0 0, .slice none 0 0, .slice none 0 0, .slice none 0 0, .slice none 0 0, .slice none 0 0] 28) := ⟨_, rfl⟩
  rw [← hw0] at hb0 X0 R0
  obtain ⟨q, hq⟩ : ∃ q, q = w.heap.size := ⟨_, rfl⟩
  rw [← hq] at X0 R0
  have hX0 := hide X0
  have hR0 := hide R0
  have hBw0 := hide hb0
  have hs0 := hide (show q + 1 < w0.heap.size from R0.lt)
  have hz0 := hide (show (fun _ => 0 : Nat → Nat) q = 0 ∧ (fun _ => 0 : Nat → Nat) (q + 1) = 0 from ⟨rfl, rfl⟩)
  have hff0 := hide (show ∀ b, b < w.heap.size → (fun _ => 0 : Nat → Nat) b = 0 from fun _ _ => rfl)
  clear hb0 X0 R0
  go_enter Try.func66, Try.ntmps66
  go_upto_region 1 with fail
  rw [← hw0, ← hq]
  clear hw0
  replace hq := hide hq
  have hSz := hide (show ∀ wx, Below w0.heap.size w0 wx → w.heap.size ≤ wx.heap.size from fun wx h => Nat.le_trans hBw0.out.size h.size)
  have hAt := hide (show ∀ wx, Below w0.heap.size w0 wx → PoolAt wx S a p from fun wx h => (ha.out.below hBw0.out hS).below h (fun b hb => Nat.lt_of_lt_of_le (hS b hb) hBw0.out.size))
  have hX := hide (fun wx (h : Below w0.heap.size w0 wx) => hX0.out.below h hX0.out.lt)
  have hR := hide (fun wx (h : Below w0.heap.size w0 wx) => hR0.out.below h hR0.out.lt)
  refine wp_region_facts 7 (by kernel_rfl) (by kernel_rfl) (by kernel_rfl) (fun us => #[.agg #[.slice a.A0 p.js.length a.c0, .slice a.A1 p.dq.length a.c1, .slice a.A2 p.ran.length a.c2, .slice a.A3 p.dn.length a.c3, .slice a.A4 p.lf.length a.c4, .slice a.A5 p.sm.length a.c5, .slice a.A6 p.vl.length a.c6], .pointer (some ⟨q, 0, none⟩), .pointer (some ⟨q + 1, 0, none⟩), us 3, us 4, us 5, us 6, us 7, us 8, us 9, undef, undef, undef, undef, undef, undef, undef, undef, undef, undef, undef, undef, undef, undef, undef, undef, undef, undef, undef, undef, undef, undef]) (fun _ => undef) (fun _ => 0) rfl (fun i => match i with | 0 => 3 | 1 => 4 | 2 => 5 | 3 => 6 | 4 => 7 | 5 => 8 | _ => 9) ?_ (fun i v f w' => match i with | 0 => v = .pointer (some ⟨q, 0, none⟩) | 1 => v = .slice a.A0 p.js.length a.c0 | 2 => ∃ kv, JobsO w' f w.heap.size v p.js kv | 3 => v = .pointer (some ⟨q, 1, none⟩) | 4 => v = .slice a.A1 p.dq.length a.c1 | 5 => ∃ rv, RowsO w' f w.heap.size v p.dq rv | _ => v = .pointer (some ⟨q, 0, none⟩)) ?_ ?_ ?_
  · decide
  · intro i v f wx f2 wy hi hf hb h
    have hi2 : i = 0 ∨ i = 1 ∨ i = 2 ∨ i = 3 ∨ i = 4 ∨ i = 5 ∨ i = 6 := by omega
    rcases hi2 with rfl | rfl | rfl | rfl | rfl | rfl | rfl
    · exact h
    · exact h
    · exact h.elim fun u hk => ⟨u, (hk.relab hf).next hb⟩
    · exact h
    · exact h
    · exact h.elim fun u hk => ⟨u, (hk.relab hf).next hb⟩
    · exact h
  · intro i o hi ho us f wx hB hf hdep K hK
    have hi2 : i = 0 ∨ i = 1 ∨ i = 2 ∨ i = 3 ∨ i = 4 ∨ i = 5 ∨ i = 6 := by omega
    rcases hi2 with rfl | rfl | rfl | rfl | rfl | rfl | rfl
    · simp only [List.getElem?_toArray, List.getElem?_cons_zero, Option.some.injEq] at ho
      subst ho
      refine step_value (a := ⟨_, []⟩) (w' := wx) (v := ?_) ?_ ?_ ?_
      rotate_left
      · rfl
      · try dsimp only
        skip
        first | (go_simp; done) | (go_simp; with_reducible rfl)
      · exact hK _ f wx (fun _ _ => rfl) (Below.refl _ _) (by rfl)
    · simp only [List.getElem?_toArray, List.getElem?_cons_zero, List.getElem?_cons_succ, Option.some.injEq] at ho
      subst ho
      have e0 : (us 3) = .pointer (some ⟨q, 0, none⟩) := hdep ⟨0, .data⟩ (by simp) (by rfl)
      have hx := (hX.out wx hB).cell 0
      simp only [List.getElem?_toArray, List.getElem?_cons_zero] at hx
      refine step_value (a := ⟨_, []⟩) (w' := wx) (v := .slice a.A0 p.js.length a.c0) ?_ ?_ ?_
      · rfl
      · try dsimp only
        simp only [e0]
        first | (go_simp; done) | (go_simp; with_reducible rfl)
      · exact hK _ f wx (fun _ _ => rfl) (Below.refl _ _) (by rfl)
    · simp only [List.getElem?_toArray, List.getElem?_cons_zero, List.getElem?_cons_succ, Option.some.injEq] at ho
      subst ho
      have e1 : (us 4) = .slice a.A0 p.js.length a.c0 := hdep ⟨1, .data⟩ (by simp) (by rfl)
      refine step_call (a := ⟨_, []⟩) (g := 79) (args := #[.slice a.A0 p.js.length a.c0]) ?_ ?_ (eachJob_any f a.A0 p.js a.c0 S wx hn.out.1 hn0.out (hAt.out wx hB).jobs) ?_
      · rfl
      · try dsimp only
        simp only [e1]
        first | (go_simp; done) | (go_simp; with_reducible rfl)
      · rintro e wy ⟨v, f2, u, rfl, hJ, hb, hf2⟩
        exact ⟨v, rfl, hK v f2 wy hf2 hb (⟨u, hJ.base (hSz.out wx hB)⟩)⟩
    · simp only [List.getElem?_toArray, List.getElem?_cons_zero, List.getElem?_cons_succ, Option.some.injEq] at ho
      subst ho
      refine step_value (a := ⟨_, []⟩) (w' := wx) (v := ?_) ?_ ?_ ?_
      rotate_left
      · rfl
      · try dsimp only
        skip
        first | (go_simp; done) | (go_simp; with_reducible rfl)
      · exact hK _ f wx (fun _ _ => rfl) (Below.refl _ _) (by rfl)
    · simp only [List.getElem?_toArray, List.getElem?_cons_zero, List.getElem?_cons_succ, Option.some.injEq] at ho
      subst ho
      have e3 : (us 6) = .pointer (some ⟨q, 1, none⟩) := hdep ⟨3, .data⟩ (by simp) (by rfl)
      have hx := (hX.out wx hB).cell 1
      simp only [List.getElem?_toArray, List.getElem?_cons_zero, List.getElem?_cons_succ] at hx
      refine step_value (a := ⟨_, []⟩) (w' := wx) (v := .slice a.A1 p.dq.length a.c1) ?_ ?_ ?_
      · rfl
      · try dsimp only
        simp only [e3]
        first | (go_simp; done) | (go_simp; with_reducible rfl)
      · exact hK _ f wx (fun _ _ => rfl) (Below.refl _ _) (by rfl)
    · simp only [List.getElem?_toArray, List.getElem?_cons_zero, List.getElem?_cons_succ, Option.some.injEq] at ho
      subst ho
      have e4 : (us 7) = .slice a.A1 p.dq.length a.c1 := hdep ⟨4, .data⟩ (by simp) (by rfl)
      have e2 : ∃ kv, JobsO wx f w.heap.size (us 5) p.js kv := hdep ⟨2, .chain⟩ (by simp) (by rfl)
      refine step_call (a := ⟨_, []⟩) (g := 106) (args := #[.slice a.A1 p.dq.length a.c1]) ?_ ?_ (eachRow_any f a.A1 p.dq a.c1 S wx hn.out.2.1 hn1.out (hAt.out wx hB).rows) ?_
      · rfl
      · try dsimp only
        simp only [e4]
        first | (go_simp; done) | (go_simp; with_reducible rfl)
      · rintro e wy ⟨v, f2, u, rfl, hJ, hb, hf2⟩
        exact ⟨v, rfl, hK v f2 wy hf2 hb (⟨u, hJ.base (hSz.out wx hB)⟩)⟩
    · simp only [List.getElem?_toArray, List.getElem?_cons_zero, List.getElem?_cons_succ, Option.some.injEq] at ho
      subst ho
      have e0 : (us 3) = .pointer (some ⟨q, 0, none⟩) := hdep ⟨0, .phase⟩ (by simp) (by rfl)
      have e1 : (us 4) = .slice a.A0 p.js.length a.c0 := hdep ⟨1, .phase⟩ (by simp) (by rfl)
      have e2 : ∃ kv, JobsO wx f w.heap.size (us 5) p.js kv := hdep ⟨2, .phase⟩ (by simp) (by rfl)
      have e3 : (us 6) = .pointer (some ⟨q, 1, none⟩) := hdep ⟨3, .phase⟩ (by simp) (by rfl)
      have e4 : (us 7) = .slice a.A1 p.dq.length a.c1 := hdep ⟨4, .phase⟩ (by simp) (by rfl)
      refine step_value (a := ⟨_, []⟩) (w' := wx) (v := ?_) ?_ ?_ ?_
      rotate_left
      · rfl
      · try dsimp only
        skip
        first | (go_simp; done) | (go_simp; with_reducible rfl)
      · exact hK _ f wx (fun _ _ => rfl) (Below.refl _ _) (by rfl)
  · intro us f wx hB hf F
    have e0 : (us 3) = .pointer (some ⟨q, 0, none⟩) := F 0 (by omega)
    have e1 : (us 4) = .slice a.A0 p.js.length a.c0 := F 1 (by omega)
    have e2 : ∃ kv, JobsO wx f w.heap.size (us 5) p.js kv := F 2 (by omega)
    have e3 : (us 6) = .pointer (some ⟨q, 1, none⟩) := F 3 (by omega)
    have e4 : (us 7) = .slice a.A1 p.dq.length a.c1 := F 4 (by omega)
    have e5 : ∃ rv, RowsO wx f w.heap.size (us 8) p.dq rv := F 5 (by omega)
    have e6 : (us 9) = .pointer (some ⟨q, 0, none⟩) := F 6 (by omega)
    clear F
    simp only [List.drop_succ_cons, List.drop_zero]
    generalize us 3 = y3 at *
    generalize us 4 = y4 at *
    generalize us 5 = y5 at *
    generalize us 6 = y6 at *
    generalize us 7 = y7 at *
    generalize us 8 = y8 at *
    generalize us 9 = y9 at *
    clear e0
    clear e1
    obtain ⟨u0, P0⟩ := e2
    obtain ⟨B0, d0, hv0⟩ := P0.heads.form
    subst hv0
    clear e3
    clear e4
    obtain ⟨u1, P1⟩ := e5
    obtain ⟨B1, d1, hv1⟩ := P1.heads.form
    subst hv1
    subst e6
    have g0 : f q = 0 := (hf q (by have := hs0.out; omega)).trans hz0.out.1
    have g1 : f (q + 1) = 0 := (hf (q + 1) (by have := hs0.out; omega)).trans hz0.out.2
    have X1 := hX.out wx hB
    have R1 := hR.out wx hB
    have z0 := X1.frozen 0
    have z1 := X1.frozen 1
    obtain ⟨w1, hw1⟩ : ∃ w1, w1 = ((wx.setCell ⟨q, 0, none⟩ (.slice B0 p.js.length d0)).setCell ⟨q, 1, none⟩ (.slice B1 p.dq.length d1)) := ⟨_, rfl⟩
    have Q0 := hide (show JobsO w1 f w.heap.size (.slice B0 p.js.length d0) p.js u0 from by rw [hw1]; exact (P0.set0 g0 _).set0 g0 _)
    have Q1 := hide (show RowsO w1 f w.heap.size (.slice B1 p.dq.length d1) p.dq u1 from by rw [hw1]; exact (P1.set0 g0 _).set0 g0 _)
    have hX1 := hide (show Blk w1 q 28 #[.slice B0 p.js.length d0, .slice B1 p.dq.length d1, .slice a.A2 p.ran.length a.c2, .slice a.A3 p.dn.length a.c3, .slice a.A4 p.lf.length a.c4, .slice a.A5 p.sm.length a.c5, .slice a.A6 p.vl.length a.c6] from by rw [hw1]; exact ((X1.set_ 0 (.slice B0 p.js.length d0)).set_ 1 (.slice B1 p.dq.length d1)))
    have hR1 := hide (show Blk w1 (q + 1) 28 #[.slice none 0 0, .slice none 0 0, .slice none 0 0, .slice none 0 0, .slice none 0 0, .slice none 0 0, .slice none 0 0] from by rw [hw1]; exact ((R1.far (p := ⟨q, 0, none⟩) (by show q + 1 ≠ q; omega) (.slice B0 p.js.length d0)).far (p := ⟨q, 1, none⟩) (by show q + 1 ≠ q; omega) (.slice B1 p.dq.length d1)))
    have hb1 := below_then hBw0.out hB
    have hBw1 := hide (show Below w.heap.size w w1 from by rw [hw1]; exact (Below.setCell (Below.setCell hb1 (p := ⟨q, 0, none⟩) (by show w.heap.size ≤ q; rw [hq.out]; exact Nat.le_refl _) (.slice B0 p.js.length d0)) (p := ⟨q, 1, none⟩) (by show w.heap.size ≤ q; rw [hq.out]; exact Nat.le_refl _) (.slice B1 p.dq.length d1)))
    have hs1 := hide (show q + 1 < w1.heap.size from hR1.out.lt)
    have hz1 := hide (show f q = 0 ∧ f (q + 1) = 0 from ⟨g0, g1⟩)
    have hff1 := hide (show ∀ b, b < w.heap.size → f b = 0 from fun b hb => (hf b (Nat.lt_of_lt_of_le hb hBw0.out.size)).trans (hff0.out b hb))
    obtain ⟨⟨x0, x1, x2, x3, x4, x5, x6⟩, xl⟩ := box7 X1
    clear X1 R1 g0 g1 hX hR hAt hSz hf hB hb1 hs0 hz0 hff0 hBw0 hX0 hR0 P0 P1
    go_upto_region 2 with fail
    rw [← hw1]
    clear hw1 z0 z1 x0 x1 x2 x3 x4 x5 x6 xl
    have hSz := hide (show ∀ wx, Below w1.heap.size w1 wx → w.heap.size ≤ wx.heap.size from fun wx h => Nat.le_trans hBw1.out.size h.size)
    have hAt := hide (show ∀ wx, Below w1.heap.size w1 wx → PoolAt wx S a p from fun wx h => (ha.out.below hBw1.out hS).below h (fun b hb => Nat.lt_of_lt_of_le (hS b hb) hBw1.out.size))
    have hX := hide (fun wx (h : Below w1.heap.size w1 wx) => hX1.out.below h hX1.out.lt)
    have hR := hide (fun wx (h : Below w1.heap.size w1 wx) => hR1.out.below h hR1.out.lt)
    refine wp_region_facts 7 (by kernel_rfl) (by kernel_rfl) (by kernel_rfl) (fun us => #[.agg #[.slice a.A0 p.js.length a.c0, .slice a.A1 p.dq.length a.c1, .slice a.A2 p.ran.length a.c2, .slice a.A3 p.dn.length a.c3, .slice a.A4 p.lf.length a.c4, .slice a.A5 p.sm.length a.c5, .slice a.A6 p.vl.length a.c6], .pointer (some ⟨q, 0, none⟩), .pointer (some ⟨q + 1, 0, none⟩), y3, y4, .slice B0 p.js.length d0, y6, y7, .slice B1 p.dq.length d1, .pointer (some ⟨q, 0, none⟩), .pointer (some ⟨q, 1, none⟩), us 11, us 12, us 13, us 14, us 15, us 16, us 17, undef, undef, undef, undef, undef, undef, undef, undef, undef, undef, undef, undef, undef, undef]) (fun _ => undef) (f) rfl (fun i => match i with | 0 => 11 | 1 => 12 | 2 => 13 | 3 => 14 | 4 => 15 | 5 => 16 | _ => 17) ?_ (fun i v f w' => match i with | 0 => v = .pointer (some ⟨q, 2, none⟩) | 1 => v = .slice a.A2 p.ran.length a.c2 | 2 => Sl 4 1 w' f 3 w.heap.size v p.ran.length (gB p.ran) | 3 => v = .pointer (some ⟨q, 3, none⟩) | 4 => v = .slice a.A3 p.dn.length a.c3 | 5 => Sl 4 1 w' f 4 w.heap.size v p.dn.length (gB p.dn) | _ => v = .pointer (some ⟨q, 2, none⟩)) ?_ ?_ ?_
    · decide
    · intro i v f wx f2 wy hi hf hb h
      have hi2 : i = 0 ∨ i = 1 ∨ i = 2 ∨ i = 3 ∨ i = 4 ∨ i = 5 ∨ i = 6 := by omega
      rcases hi2 with rfl | rfl | rfl | rfl | rfl | rfl | rfl
      · exact h
      · exact h
      · exact (h.relab hf).next hb
      · exact h
      · exact h
      · exact (h.relab hf).next hb
      · exact h
    · intro i o hi ho us f wx hB hf hdep K hK
      have hi2 : i = 0 ∨ i = 1 ∨ i = 2 ∨ i = 3 ∨ i = 4 ∨ i = 5 ∨ i = 6 := by omega
      rcases hi2 with rfl | rfl | rfl | rfl | rfl | rfl | rfl
      · simp only [List.getElem?_toArray, List.getElem?_cons_zero, Option.some.injEq] at ho
        subst ho
        refine step_value (a := ⟨_, []⟩) (w' := wx) (v := ?_) ?_ ?_ ?_
        rotate_left
        · rfl
        · try dsimp only
          skip
          first | (go_simp; done) | (go_simp; with_reducible rfl)
        · exact hK _ f wx (fun _ _ => rfl) (Below.refl _ _) (by rfl)
      · simp only [List.getElem?_toArray, List.getElem?_cons_zero, List.getElem?_cons_succ, Option.some.injEq] at ho
        subst ho
        have e0 : (us 11) = .pointer (some ⟨q, 2, none⟩) := hdep ⟨0, .data⟩ (by simp) (by rfl)
        have hx := (hX.out wx hB).cell 2
        simp only [List.getElem?_toArray, List.getElem?_cons_zero, List.getElem?_cons_succ] at hx
        refine step_value (a := ⟨_, []⟩) (w' := wx) (v := .slice a.A2 p.ran.length a.c2) ?_ ?_ ?_
        · rfl
        · try dsimp only
          simp only [e0]
          first | (go_simp; done) | (go_simp; with_reducible rfl)
        · exact hK _ f wx (fun _ _ => rfl) (Below.refl _ _) (by rfl)
      · simp only [List.getElem?_toArray, List.getElem?_cons_zero, List.getElem?_cons_succ, Option.some.injEq] at ho
        subst ho
        have e1 : (us 12) = .slice a.A2 p.ran.length a.c2 := hdep ⟨1, .data⟩ (by simp) (by rfl)
        refine step_call (a := ⟨_, []⟩) (g := 107) (args := #[.slice a.A2 p.ran.length a.c2]) ?_ ?_ (cloneBool_sl 3 w.heap.size f a.A2 p.ran.length a.c2 (gB p.ran) wx hn.out.2.2.1 (hSz.out wx hB) (hAt.out wx hB).ran.cells) ?_
        · rfl
        · try dsimp only
          simp only [e1]
          first | (go_simp; done) | (go_simp; with_reducible rfl)
        · rintro e wy ⟨v, f2, rfl, hJ, hb, hf2⟩
          exact ⟨v, rfl, hK v f2 wy hf2 hb (hJ)⟩
      · simp only [List.getElem?_toArray, List.getElem?_cons_zero, List.getElem?_cons_succ, Option.some.injEq] at ho
        subst ho
        refine step_value (a := ⟨_, []⟩) (w' := wx) (v := ?_) ?_ ?_ ?_
        rotate_left
        · rfl
        · try dsimp only
          skip
          first | (go_simp; done) | (go_simp; with_reducible rfl)
        · exact hK _ f wx (fun _ _ => rfl) (Below.refl _ _) (by rfl)
      · simp only [List.getElem?_toArray, List.getElem?_cons_zero, List.getElem?_cons_succ, Option.some.injEq] at ho
        subst ho
        have e3 : (us 14) = .pointer (some ⟨q, 3, none⟩) := hdep ⟨3, .data⟩ (by simp) (by rfl)
        have hx := (hX.out wx hB).cell 3
        simp only [List.getElem?_toArray, List.getElem?_cons_zero, List.getElem?_cons_succ] at hx
        refine step_value (a := ⟨_, []⟩) (w' := wx) (v := .slice a.A3 p.dn.length a.c3) ?_ ?_ ?_
        · rfl
        · try dsimp only
          simp only [e3]
          first | (go_simp; done) | (go_simp; with_reducible rfl)
        · exact hK _ f wx (fun _ _ => rfl) (Below.refl _ _) (by rfl)
      · simp only [List.getElem?_toArray, List.getElem?_cons_zero, List.getElem?_cons_succ, Option.some.injEq] at ho
        subst ho
        have e4 : (us 15) = .slice a.A3 p.dn.length a.c3 := hdep ⟨4, .data⟩ (by simp) (by rfl)
        have e2 : Sl 4 1 wx f 3 w.heap.size (us 13) p.ran.length (gB p.ran) := hdep ⟨2, .chain⟩ (by simp) (by rfl)
        refine step_call (a := ⟨_, []⟩) (g := 107) (args := #[.slice a.A3 p.dn.length a.c3]) ?_ ?_ (cloneBool_sl 4 w.heap.size f a.A3 p.dn.length a.c3 (gB p.dn) wx hn.out.2.2.2.1 (hSz.out wx hB) (hAt.out wx hB).dn.cells) ?_
        · rfl
        · try dsimp only
          simp only [e4]
          first | (go_simp; done) | (go_simp; with_reducible rfl)
        · rintro e wy ⟨v, f2, rfl, hJ, hb, hf2⟩
          exact ⟨v, rfl, hK v f2 wy hf2 hb (hJ)⟩
      · simp only [List.getElem?_toArray, List.getElem?_cons_zero, List.getElem?_cons_succ, Option.some.injEq] at ho
        subst ho
        have e0 : (us 11) = .pointer (some ⟨q, 2, none⟩) := hdep ⟨0, .phase⟩ (by simp) (by rfl)
        have e1 : (us 12) = .slice a.A2 p.ran.length a.c2 := hdep ⟨1, .phase⟩ (by simp) (by rfl)
        have e2 : Sl 4 1 wx f 3 w.heap.size (us 13) p.ran.length (gB p.ran) := hdep ⟨2, .phase⟩ (by simp) (by rfl)
        have e3 : (us 14) = .pointer (some ⟨q, 3, none⟩) := hdep ⟨3, .phase⟩ (by simp) (by rfl)
        have e4 : (us 15) = .slice a.A3 p.dn.length a.c3 := hdep ⟨4, .phase⟩ (by simp) (by rfl)
        refine step_value (a := ⟨_, []⟩) (w' := wx) (v := ?_) ?_ ?_ ?_
        rotate_left
        · rfl
        · try dsimp only
          skip
          first | (go_simp; done) | (go_simp; with_reducible rfl)
        · exact hK _ f wx (fun _ _ => rfl) (Below.refl _ _) (by rfl)
    · intro us f wx hB hf F
      have e0 : (us 11) = .pointer (some ⟨q, 2, none⟩) := F 0 (by omega)
      have e1 : (us 12) = .slice a.A2 p.ran.length a.c2 := F 1 (by omega)
      have e2 : Sl 4 1 wx f 3 w.heap.size (us 13) p.ran.length (gB p.ran) := F 2 (by omega)
      have e3 : (us 14) = .pointer (some ⟨q, 3, none⟩) := F 3 (by omega)
      have e4 : (us 15) = .slice a.A3 p.dn.length a.c3 := F 4 (by omega)
      have e5 : Sl 4 1 wx f 4 w.heap.size (us 16) p.dn.length (gB p.dn) := F 5 (by omega)
      have e6 : (us 17) = .pointer (some ⟨q, 2, none⟩) := F 6 (by omega)
      clear F
      simp only [List.drop_succ_cons, List.drop_zero]
      generalize us 11 = y11 at *
      generalize us 12 = y12 at *
      generalize us 13 = y13 at *
      generalize us 14 = y14 at *
      generalize us 15 = y15 at *
      generalize us 16 = y16 at *
      generalize us 17 = y17 at *
      clear e0
      clear e1
      have P2 := e2
      clear e2
      obtain ⟨B2, d2, hv2⟩ := P2.form
      subst hv2
      clear e3
      clear e4
      have P3 := e5
      clear e5
      obtain ⟨B3, d3, hv3⟩ := P3.form
      subst hv3
      subst e6
      have g0 : f q = 0 := (hf q (by have := hs1.out; omega)).trans hz1.out.1
      have g1 : f (q + 1) = 0 := (hf (q + 1) (by have := hs1.out; omega)).trans hz1.out.2
      have X1 := hX.out wx hB
      have R1 := hR.out wx hB
      have z2 := X1.frozen 2
      have z3 := X1.frozen 3
      obtain ⟨w2, hw2⟩ : ∃ w2, w2 = ((wx.setCell ⟨q, 2, none⟩ (.slice B2 p.ran.length d2)).setCell ⟨q, 3, none⟩ (.slice B3 p.dn.length d3)) := ⟨_, rfl⟩
      have Q0 := hide (show JobsO w2 f w.heap.size (.slice B0 p.js.length d0) p.js u0 from by rw [hw2]; exact ((((Q0.out.relab hf).next hB)).set0 g0 _).set0 g0 _)
      have Q1 := hide (show RowsO w2 f w.heap.size (.slice B1 p.dq.length d1) p.dq u1 from by rw [hw2]; exact ((((Q1.out.relab hf).next hB)).set0 g0 _).set0 g0 _)
      have Q2 := hide (show Sl 4 1 w2 f 3 w.heap.size (.slice B2 p.ran.length d2) p.ran.length (gB p.ran) from by rw [hw2]; exact (P2.set0 (by omega) g0 _).set0 (by omega) g0 _)
      have Q3 := hide (show Sl 4 1 w2 f 4 w.heap.size (.slice B3 p.dn.length d3) p.dn.length (gB p.dn) from by rw [hw2]; exact (P3.set0 (by omega) g0 _).set0 (by omega) g0 _)
      have hX2 := hide (show Blk w2 q 28 #[.slice B0 p.js.length d0, .slice B1 p.dq.length d1, .slice B2 p.ran.length d2, .slice B3 p.dn.length d3, .slice a.A4 p.lf.length a.c4, .slice a.A5 p.sm.length a.c5, .slice a.A6 p.vl.length a.c6] from by rw [hw2]; exact ((X1.set_ 2 (.slice B2 p.ran.length d2)).set_ 3 (.slice B3 p.dn.length d3)))
      have hR2 := hide (show Blk w2 (q + 1) 28 #[.slice none 0 0, .slice none 0 0, .slice none 0 0, .slice none 0 0, .slice none 0 0, .slice none 0 0, .slice none 0 0] from by rw [hw2]; exact ((R1.far (p := ⟨q, 2, none⟩) (by show q + 1 ≠ q; omega) (.slice B2 p.ran.length d2)).far (p := ⟨q, 3, none⟩) (by show q + 1 ≠ q; omega) (.slice B3 p.dn.length d3)))
      have hb2 := below_then hBw1.out hB
      have hBw2 := hide (show Below w.heap.size w w2 from by rw [hw2]; exact (Below.setCell (Below.setCell hb2 (p := ⟨q, 2, none⟩) (by show w.heap.size ≤ q; rw [hq.out]; exact Nat.le_refl _) (.slice B2 p.ran.length d2)) (p := ⟨q, 3, none⟩) (by show w.heap.size ≤ q; rw [hq.out]; exact Nat.le_refl _) (.slice B3 p.dn.length d3)))
      have hs2 := hide (show q + 1 < w2.heap.size from hR2.out.lt)
      have hz2 := hide (show f q = 0 ∧ f (q + 1) = 0 from ⟨g0, g1⟩)
      have hff2 := hide (show ∀ b, b < w.heap.size → f b = 0 from fun b hb => (hf b (Nat.lt_of_lt_of_le hb hBw1.out.size)).trans (hff1.out b hb))
      obtain ⟨⟨x0, x1, x2, x3, x4, x5, x6⟩, xl⟩ := box7 X1
      clear X1 R1 g0 g1 hX hR hAt hSz hf hB hb2 hs1 hz1 hff1 hBw1 hX1 hR1 P2 P3
      go_upto_region 3 with fail
      rw [← hw2]
      clear hw2 z2 z3 x0 x1 x2 x3 x4 x5 x6 xl
      have hSz := hide (show ∀ wx, Below w2.heap.size w2 wx → w.heap.size ≤ wx.heap.size from fun wx h => Nat.le_trans hBw2.out.size h.size)
      have hAt := hide (show ∀ wx, Below w2.heap.size w2 wx → PoolAt wx S a p from fun wx h => (ha.out.below hBw2.out hS).below h (fun b hb => Nat.lt_of_lt_of_le (hS b hb) hBw2.out.size))
      have hX := hide (fun wx (h : Below w2.heap.size w2 wx) => hX2.out.below h hX2.out.lt)
      have hR := hide (fun wx (h : Below w2.heap.size w2 wx) => hR2.out.below h hR2.out.lt)
      refine wp_region_facts 10 (by kernel_rfl) (by kernel_rfl) (by kernel_rfl) (fun us => #[.agg #[.slice a.A0 p.js.length a.c0, .slice a.A1 p.dq.length a.c1, .slice a.A2 p.ran.length a.c2, .slice a.A3 p.dn.length a.c3, .slice a.A4 p.lf.length a.c4, .slice a.A5 p.sm.length a.c5, .slice a.A6 p.vl.length a.c6], .pointer (some ⟨q, 0, none⟩), .pointer (some ⟨q + 1, 0, none⟩), y3, y4, .slice B0 p.js.length d0, y6, y7, .slice B1 p.dq.length d1, .pointer (some ⟨q, 0, none⟩), .pointer (some ⟨q, 1, none⟩), y11, y12, .slice B2 p.ran.length d2, y14, y15, .slice B3 p.dn.length d3, .pointer (some ⟨q, 2, none⟩), .pointer (some ⟨q, 3, none⟩), us 19, us 20, us 21, us 22, us 23, us 24, us 25, us 26, us 27, us 28, undef, undef, undef]) (fun _ => undef) (f) rfl (fun i => match i with | 0 => 19 | 1 => 20 | 2 => 21 | 3 => 22 | 4 => 23 | 5 => 24 | 6 => 25 | 7 => 26 | 8 => 27 | _ => 28) ?_ (fun i v f w' => match i with | 0 => v = .pointer (some ⟨q, 4, none⟩) | 1 => v = .slice a.A4 p.lf.length a.c4 | 2 => Sl 3 1 w' f 5 w.heap.size v p.lf.length (gI p.lf) | 3 => v = .pointer (some ⟨q, 5, none⟩) | 4 => v = .slice a.A5 p.sm.length a.c5 | 5 => Sl 3 1 w' f 6 w.heap.size v p.sm.length (gI p.sm) | 6 => v = .pointer (some ⟨q, 6, none⟩) | 7 => v = .slice a.A6 p.vl.length a.c6 | 8 => Sl 3 1 w' f 7 w.heap.size v p.vl.length (gI p.vl) | _ => v = .pointer (some ⟨q, 4, none⟩)) ?_ ?_ ?_
      · decide
      · intro i v f wx f2 wy hi hf hb h
        have hi2 : i = 0 ∨ i = 1 ∨ i = 2 ∨ i = 3 ∨ i = 4 ∨ i = 5 ∨ i = 6 ∨ i = 7 ∨ i = 8 ∨ i = 9 := by omega
        rcases hi2 with rfl | rfl | rfl | rfl | rfl | rfl | rfl | rfl | rfl | rfl
        · exact h
        · exact h
        · exact (h.relab hf).next hb
        · exact h
        · exact h
        · exact (h.relab hf).next hb
        · exact h
        · exact h
        · exact (h.relab hf).next hb
        · exact h
      · intro i o hi ho us f wx hB hf hdep K hK
        have hi2 : i = 0 ∨ i = 1 ∨ i = 2 ∨ i = 3 ∨ i = 4 ∨ i = 5 ∨ i = 6 ∨ i = 7 ∨ i = 8 ∨ i = 9 := by omega
        rcases hi2 with rfl | rfl | rfl | rfl | rfl | rfl | rfl | rfl | rfl | rfl
        · simp only [List.getElem?_toArray, List.getElem?_cons_zero, Option.some.injEq] at ho
          subst ho
          refine step_value (a := ⟨_, []⟩) (w' := wx) (v := ?_) ?_ ?_ ?_
          rotate_left
          · rfl
          · try dsimp only
            skip
            first | (go_simp; done) | (go_simp; with_reducible rfl)
          · exact hK _ f wx (fun _ _ => rfl) (Below.refl _ _) (by rfl)
        · simp only [List.getElem?_toArray, List.getElem?_cons_zero, List.getElem?_cons_succ, Option.some.injEq] at ho
          subst ho
          have e0 : (us 19) = .pointer (some ⟨q, 4, none⟩) := hdep ⟨0, .data⟩ (by simp) (by rfl)
          have hx := (hX.out wx hB).cell 4
          simp only [List.getElem?_toArray, List.getElem?_cons_zero, List.getElem?_cons_succ] at hx
          refine step_value (a := ⟨_, []⟩) (w' := wx) (v := .slice a.A4 p.lf.length a.c4) ?_ ?_ ?_
          · rfl
          · try dsimp only
            simp only [e0]
            first | (go_simp; done) | (go_simp; with_reducible rfl)
          · exact hK _ f wx (fun _ _ => rfl) (Below.refl _ _) (by rfl)
        · simp only [List.getElem?_toArray, List.getElem?_cons_zero, List.getElem?_cons_succ, Option.some.injEq] at ho
          subst ho
          have e1 : (us 20) = .slice a.A4 p.lf.length a.c4 := hdep ⟨1, .data⟩ (by simp) (by rfl)
          refine step_call (a := ⟨_, []⟩) (g := 108) (args := #[.slice a.A4 p.lf.length a.c4]) ?_ ?_ (cloneInt_sl 5 w.heap.size f a.A4 p.lf.length a.c4 (gI p.lf) wx hn.out.2.2.2.2.1 (hSz.out wx hB) (hAt.out wx hB).lf.cells) ?_
          · rfl
          · try dsimp only
            simp only [e1]
            first | (go_simp; done) | (go_simp; with_reducible rfl)
          · rintro e wy ⟨v, f2, rfl, hJ, hb, hf2⟩
            exact ⟨v, rfl, hK v f2 wy hf2 hb (hJ)⟩
        · simp only [List.getElem?_toArray, List.getElem?_cons_zero, List.getElem?_cons_succ, Option.some.injEq] at ho
          subst ho
          refine step_value (a := ⟨_, []⟩) (w' := wx) (v := ?_) ?_ ?_ ?_
          rotate_left
          · rfl
          · try dsimp only
            skip
            first | (go_simp; done) | (go_simp; with_reducible rfl)
          · exact hK _ f wx (fun _ _ => rfl) (Below.refl _ _) (by rfl)
        · simp only [List.getElem?_toArray, List.getElem?_cons_zero, List.getElem?_cons_succ, Option.some.injEq] at ho
          subst ho
          have e3 : (us 22) = .pointer (some ⟨q, 5, none⟩) := hdep ⟨3, .data⟩ (by simp) (by rfl)
          have hx := (hX.out wx hB).cell 5
          simp only [List.getElem?_toArray, List.getElem?_cons_zero, List.getElem?_cons_succ] at hx
          refine step_value (a := ⟨_, []⟩) (w' := wx) (v := .slice a.A5 p.sm.length a.c5) ?_ ?_ ?_
          · rfl
          · try dsimp only
            simp only [e3]
            first | (go_simp; done) | (go_simp; with_reducible rfl)
          · exact hK _ f wx (fun _ _ => rfl) (Below.refl _ _) (by rfl)
        · simp only [List.getElem?_toArray, List.getElem?_cons_zero, List.getElem?_cons_succ, Option.some.injEq] at ho
          subst ho
          have e4 : (us 23) = .slice a.A5 p.sm.length a.c5 := hdep ⟨4, .data⟩ (by simp) (by rfl)
          have e2 : Sl 3 1 wx f 5 w.heap.size (us 21) p.lf.length (gI p.lf) := hdep ⟨2, .chain⟩ (by simp) (by rfl)
          refine step_call (a := ⟨_, []⟩) (g := 108) (args := #[.slice a.A5 p.sm.length a.c5]) ?_ ?_ (cloneInt_sl 6 w.heap.size f a.A5 p.sm.length a.c5 (gI p.sm) wx hn.out.2.2.2.2.2.1 (hSz.out wx hB) (hAt.out wx hB).sm.cells) ?_
          · rfl
          · try dsimp only
            simp only [e4]
            first | (go_simp; done) | (go_simp; with_reducible rfl)
          · rintro e wy ⟨v, f2, rfl, hJ, hb, hf2⟩
            exact ⟨v, rfl, hK v f2 wy hf2 hb (hJ)⟩
        · simp only [List.getElem?_toArray, List.getElem?_cons_zero, List.getElem?_cons_succ, Option.some.injEq] at ho
          subst ho
          refine step_value (a := ⟨_, []⟩) (w' := wx) (v := ?_) ?_ ?_ ?_
          rotate_left
          · rfl
          · try dsimp only
            skip
            first | (go_simp; done) | (go_simp; with_reducible rfl)
          · exact hK _ f wx (fun _ _ => rfl) (Below.refl _ _) (by rfl)
        · simp only [List.getElem?_toArray, List.getElem?_cons_zero, List.getElem?_cons_succ, Option.some.injEq] at ho
          subst ho
          have e6 : (us 25) = .pointer (some ⟨q, 6, none⟩) := hdep ⟨6, .data⟩ (by simp) (by rfl)
          have hx := (hX.out wx hB).cell 6
          simp only [List.getElem?_toArray, List.getElem?_cons_zero, List.getElem?_cons_succ] at hx
          refine step_value (a := ⟨_, []⟩) (w' := wx) (v := .slice a.A6 p.vl.length a.c6) ?_ ?_ ?_
          · rfl
          · try dsimp only
            simp only [e6]
            first | (go_simp; done) | (go_simp; with_reducible rfl)
          · exact hK _ f wx (fun _ _ => rfl) (Below.refl _ _) (by rfl)
        · simp only [List.getElem?_toArray, List.getElem?_cons_zero, List.getElem?_cons_succ, Option.some.injEq] at ho
          subst ho
          have e7 : (us 26) = .slice a.A6 p.vl.length a.c6 := hdep ⟨7, .data⟩ (by simp) (by rfl)
          have e5 : Sl 3 1 wx f 6 w.heap.size (us 24) p.sm.length (gI p.sm) := hdep ⟨5, .chain⟩ (by simp) (by rfl)
          refine step_call (a := ⟨_, []⟩) (g := 108) (args := #[.slice a.A6 p.vl.length a.c6]) ?_ ?_ (cloneInt_sl 7 w.heap.size f a.A6 p.vl.length a.c6 (gI p.vl) wx hn.out.2.2.2.2.2.2 (hSz.out wx hB) (hAt.out wx hB).vl.cells) ?_
          · rfl
          · try dsimp only
            simp only [e7]
            first | (go_simp; done) | (go_simp; with_reducible rfl)
          · rintro e wy ⟨v, f2, rfl, hJ, hb, hf2⟩
            exact ⟨v, rfl, hK v f2 wy hf2 hb (hJ)⟩
        · simp only [List.getElem?_toArray, List.getElem?_cons_zero, List.getElem?_cons_succ, Option.some.injEq] at ho
          subst ho
          have e0 : (us 19) = .pointer (some ⟨q, 4, none⟩) := hdep ⟨0, .phase⟩ (by simp) (by rfl)
          have e1 : (us 20) = .slice a.A4 p.lf.length a.c4 := hdep ⟨1, .phase⟩ (by simp) (by rfl)
          have e2 : Sl 3 1 wx f 5 w.heap.size (us 21) p.lf.length (gI p.lf) := hdep ⟨2, .phase⟩ (by simp) (by rfl)
          have e3 : (us 22) = .pointer (some ⟨q, 5, none⟩) := hdep ⟨3, .phase⟩ (by simp) (by rfl)
          have e4 : (us 23) = .slice a.A5 p.sm.length a.c5 := hdep ⟨4, .phase⟩ (by simp) (by rfl)
          have e6 : (us 25) = .pointer (some ⟨q, 6, none⟩) := hdep ⟨6, .phase⟩ (by simp) (by rfl)
          have e7 : (us 26) = .slice a.A6 p.vl.length a.c6 := hdep ⟨7, .phase⟩ (by simp) (by rfl)
          refine step_value (a := ⟨_, []⟩) (w' := wx) (v := ?_) ?_ ?_ ?_
          rotate_left
          · rfl
          · try dsimp only
            skip
            first | (go_simp; done) | (go_simp; with_reducible rfl)
          · exact hK _ f wx (fun _ _ => rfl) (Below.refl _ _) (by rfl)
      · intro us f wx hB hf F
        have e0 : (us 19) = .pointer (some ⟨q, 4, none⟩) := F 0 (by omega)
        have e1 : (us 20) = .slice a.A4 p.lf.length a.c4 := F 1 (by omega)
        have e2 : Sl 3 1 wx f 5 w.heap.size (us 21) p.lf.length (gI p.lf) := F 2 (by omega)
        have e3 : (us 22) = .pointer (some ⟨q, 5, none⟩) := F 3 (by omega)
        have e4 : (us 23) = .slice a.A5 p.sm.length a.c5 := F 4 (by omega)
        have e5 : Sl 3 1 wx f 6 w.heap.size (us 24) p.sm.length (gI p.sm) := F 5 (by omega)
        have e6 : (us 25) = .pointer (some ⟨q, 6, none⟩) := F 6 (by omega)
        have e7 : (us 26) = .slice a.A6 p.vl.length a.c6 := F 7 (by omega)
        have e8 : Sl 3 1 wx f 7 w.heap.size (us 27) p.vl.length (gI p.vl) := F 8 (by omega)
        have e9 : (us 28) = .pointer (some ⟨q, 4, none⟩) := F 9 (by omega)
        clear F
        simp only [List.drop_succ_cons, List.drop_zero]
        generalize us 19 = y19 at *
        generalize us 20 = y20 at *
        generalize us 21 = y21 at *
        generalize us 22 = y22 at *
        generalize us 23 = y23 at *
        generalize us 24 = y24 at *
        generalize us 25 = y25 at *
        generalize us 26 = y26 at *
        generalize us 27 = y27 at *
        generalize us 28 = y28 at *
        clear e0
        clear e1
        have P4 := e2
        clear e2
        obtain ⟨B4, d4, hv4⟩ := P4.form
        subst hv4
        clear e3
        clear e4
        have P5 := e5
        clear e5
        obtain ⟨B5, d5, hv5⟩ := P5.form
        subst hv5
        clear e6
        clear e7
        have P6 := e8
        clear e8
        obtain ⟨B6, d6, hv6⟩ := P6.form
        subst hv6
        subst e9
        have g0 : f q = 0 := (hf q (by have := hs2.out; omega)).trans hz2.out.1
        have g1 : f (q + 1) = 0 := (hf (q + 1) (by have := hs2.out; omega)).trans hz2.out.2
        have X1 := hX.out wx hB
        have R1 := hR.out wx hB
        have z4 := X1.frozen 4
        have z5 := X1.frozen 5
        have z6 := X1.frozen 6
        obtain ⟨w3, hw3⟩ : ∃ w3, w3 = (((wx.setCell ⟨q, 4, none⟩ (.slice B4 p.lf.length d4)).setCell ⟨q, 5, none⟩ (.slice B5 p.sm.length d5)).setCell ⟨q, 6, none⟩ (.slice B6 p.vl.length d6)) := ⟨_, rfl⟩
        have Q0 := hide (show JobsO w3 f w.heap.size (.slice B0 p.js.length d0) p.js u0 from by rw [hw3]; exact (((((Q0.out.relab hf).next hB)).set0 g0 _).set0 g0 _).set0 g0 _)
        have Q1 := hide (show RowsO w3 f w.heap.size (.slice B1 p.dq.length d1) p.dq u1 from by rw [hw3]; exact (((((Q1.out.relab hf).next hB)).set0 g0 _).set0 g0 _).set0 g0 _)
        have Q2 := hide (show Sl 4 1 w3 f 3 w.heap.size (.slice B2 p.ran.length d2) p.ran.length (gB p.ran) from by rw [hw3]; exact (((((Q2.out.relab hf).next hB)).set0 (by omega) g0 _).set0 (by omega) g0 _).set0 (by omega) g0 _)
        have Q3 := hide (show Sl 4 1 w3 f 4 w.heap.size (.slice B3 p.dn.length d3) p.dn.length (gB p.dn) from by rw [hw3]; exact (((((Q3.out.relab hf).next hB)).set0 (by omega) g0 _).set0 (by omega) g0 _).set0 (by omega) g0 _)
        have Q4 := hide (show Sl 3 1 w3 f 5 w.heap.size (.slice B4 p.lf.length d4) p.lf.length (gI p.lf) from by rw [hw3]; exact ((P4.set0 (by omega) g0 _).set0 (by omega) g0 _).set0 (by omega) g0 _)
        have Q5 := hide (show Sl 3 1 w3 f 6 w.heap.size (.slice B5 p.sm.length d5) p.sm.length (gI p.sm) from by rw [hw3]; exact ((P5.set0 (by omega) g0 _).set0 (by omega) g0 _).set0 (by omega) g0 _)
        have Q6 := hide (show Sl 3 1 w3 f 7 w.heap.size (.slice B6 p.vl.length d6) p.vl.length (gI p.vl) from by rw [hw3]; exact ((P6.set0 (by omega) g0 _).set0 (by omega) g0 _).set0 (by omega) g0 _)
        have hX3 := hide (show Blk w3 q 28 #[.slice B0 p.js.length d0, .slice B1 p.dq.length d1, .slice B2 p.ran.length d2, .slice B3 p.dn.length d3, .slice B4 p.lf.length d4, .slice B5 p.sm.length d5, .slice B6 p.vl.length d6] from by rw [hw3]; exact (((X1.set_ 4 (.slice B4 p.lf.length d4)).set_ 5 (.slice B5 p.sm.length d5)).set_ 6 (.slice B6 p.vl.length d6)))
        have hR3 := hide (show Blk w3 (q + 1) 28 #[.slice none 0 0, .slice none 0 0, .slice none 0 0, .slice none 0 0, .slice none 0 0, .slice none 0 0, .slice none 0 0] from by rw [hw3]; exact (((R1.far (p := ⟨q, 4, none⟩) (by show q + 1 ≠ q; omega) (.slice B4 p.lf.length d4)).far (p := ⟨q, 5, none⟩) (by show q + 1 ≠ q; omega) (.slice B5 p.sm.length d5)).far (p := ⟨q, 6, none⟩) (by show q + 1 ≠ q; omega) (.slice B6 p.vl.length d6)))
        have hb3 := below_then hBw2.out hB
        have hBw3 := hide (show Below w.heap.size w w3 from by rw [hw3]; exact (Below.setCell (Below.setCell (Below.setCell hb3 (p := ⟨q, 4, none⟩) (by show w.heap.size ≤ q; rw [hq.out]; exact Nat.le_refl _) (.slice B4 p.lf.length d4)) (p := ⟨q, 5, none⟩) (by show w.heap.size ≤ q; rw [hq.out]; exact Nat.le_refl _) (.slice B5 p.sm.length d5)) (p := ⟨q, 6, none⟩) (by show w.heap.size ≤ q; rw [hq.out]; exact Nat.le_refl _) (.slice B6 p.vl.length d6)))
        have hs3 := hide (show q + 1 < w3.heap.size from hR3.out.lt)
        have hz3 := hide (show f q = 0 ∧ f (q + 1) = 0 from ⟨g0, g1⟩)
        have hff3 := hide (show ∀ b, b < w.heap.size → f b = 0 from fun b hb => (hf b (Nat.lt_of_lt_of_le hb hBw2.out.size)).trans (hff2.out b hb))
        obtain ⟨⟨x0, x1, x2, x3, x4, x5, x6⟩, xl⟩ := box7 X1
        clear X1 R1 g0 g1 hX hR hAt hSz hf hB hb3 hs2 hz2 hff2 hBw2 hX2 hR2 P4 P5 P6
        go_upto_region 4 with fail
        rw [← hw3]
        clear hw3 z4 z5 z6 x0 x1 x2 x3 x4 x5 x6 xl
        obtain ⟨⟨x0, x1, x2, x3, x4, x5, x6⟩, xl⟩ := box7 hX3.out
        obtain ⟨⟨r0, r1, r2, r3, r4, r5, r6⟩, rl⟩ := box7 hR3.out
        obtain ⟨z0, z1, z2, z3, z4, z5, z6⟩ := froz7 hR3.out
        have hEnd := hide (show ∀ W, (∀ b, f b ≠ 0 → W.heap[b]? = w3.heap[b]?) → PoolO W f w.heap.size ⟨.slice B0 p.js.length d0, .slice B1 p.dq.length d1, .slice B2 p.ran.length d2, .slice B3 p.dn.length d3, .slice B4 p.lf.length d4, .slice B5 p.sm.length d5, .slice B6 p.vl.length d6, u0, u1⟩ p from fun W hW =>
          (PoolO.keep (x := ⟨.slice B0 p.js.length d0, .slice B1 p.dq.length d1, .slice B2 p.ran.length d2, .slice B3 p.dn.length d3, .slice B4 p.lf.length d4, .slice B5 p.sm.length d5, .slice B6 p.vl.length d6, u0, u1⟩) ⟨Q0.out, Q1.out, Q2.out, Q3.out, Q4.out, Q5.out, Q6.out⟩ (fun b hb _ _ => hW b hb)))
        clear Q0 Q1 Q2 Q3 Q4 Q5 Q6
        go_wp2_with fail
        refine bodyPost_ret (v := .agg #[.slice B0 p.js.length d0, .slice B1 p.dq.length d1, .slice B2 p.ran.length d2, .slice B3 p.dn.length d3, .slice B4 p.lf.length d4, .slice B5 p.sm.length d5, .slice B6 p.vl.length d6]) (by simp [results, Try.results66, go_sem, r0, r1, r2, r3, r4, r5, r6]; done) rfl ?_
        refine ⟨_, f, rfl, hEnd.out _ (fun b hb => ?_), ?_, hff3.out⟩
        · iterate 7 (refine (Below.heap_setCell _ _ _ _ (fun e => hb (by rw [e]; exact hz3.out.2))).trans ?_)
          rfl
        · iterate 7 (refine Below.setCell ?_ (by show w.heap.size ≤ q + 1; rw [hq.out]; omega) _)
          exact hBw3.out
end Go.Proofs.Ytfnphnjadknoaaa
