/- The model's copy of a pool. -/
import Derived.Test.YtfnphnjadknoaaaMp0
import Derived.Test.YtfnphnjadknoaaaMp32
namespace Go.Proofs.Ytfnphnjadknoaaa
open Go.RowKit

structure Rest (w : World) (f : Nat → Nat) (B : Nat) (L R N F M V : Value) (kv : Nat → Value) (p : PoolD) : Prop where
  jobs : JobsO w f B L p.js kv
  ran : Sl 4 1 w f 3 B R p.ran.length (gB p.ran)
  dn : Sl 4 1 w f 4 B N p.dn.length (gB p.dn)
  lf : Sl 3 1 w f 5 B F p.lf.length (gI p.lf)
  sm : Sl 3 1 w f 6 B M p.sm.length (gI p.sm)
  vl : Sl 3 1 w f 7 B V p.vl.length (gI p.vl)
section
variable {w w' : World} {f f' : Nat → Nat} {B : Nat} {L R N F M V : Value} {kv : Nat → Value} {p : PoolD}
theorem Rest.keep (h : Rest w f B L R N F M V kv p) (hk : ∀ b, f b ≠ 0 → f b ≠ 2 → ¬ (9 ≤ f b ∧ f b % 2 = 1) → B ≤ b → b < w.heap.size → w'.heap[b]? = w.heap[b]?) : Rest w' f B L R N F M V kv p :=
  ⟨h.jobs.keep (fun b hf => hk b (by omega) (by omega) (by omega)), h.ran.keep (fun b hf => hk b (by omega) (by omega) (by omega)), h.dn.keep (fun b hf => hk b (by omega) (by omega) (by omega)), h.lf.keep (fun b hf => hk b (by omega) (by omega) (by omega)), h.sm.keep (fun b hf => hk b (by omega) (by omega) (by omega)), h.vl.keep (fun b hf => hk b (by omega) (by omega) (by omega))⟩
theorem Rest.next (h : Rest w f B L R N F M V kv p) (hb : Below w.heap.size w w') : Rest w' f B L R N F M V kv p := h.keep (fun b _ _ _ _ hl => hb.block b hl)
theorem Rest.relab (h : Rest w f B L R N F M V kv p) (hf : ∀ b, b < w.heap.size → f' b = f b) : Rest w f' B L R N F M V kv p :=
  ⟨h.jobs.relab hf, h.ran.relab hf, h.dn.relab hf, h.lf.relab hf, h.sm.relab hf, h.vl.relab hf⟩
theorem Rest.set0 (h : Rest w f B L R N F M V kv p) {d : Addr} (hg : f d.block = 0) (u : Value) : Rest (w.setCell d u) f B L R N F M V kv p := h.keep (fun _ hb _ _ _ _ => unlab hg hb)
end
set_option maxRecDepth 100000 in
set_option maxHeartbeats 25600000 in
theorem sown_any (a : PA) (p : PoolD) (S : Nat → Prop) (w : World) (hz : poolSize p ≤ 1048576) (hS : ∀ b, S b → b < w.heap.size) (ha : Hid (PoolAt w S a p)) :
    Calls Try.prog 56 #[.agg (a.cells p)] w fun e w' => ∃ x f, e = .returned (.agg x.cells) ∧ PoolO w' f w.heap.size x p ∧ Below w.heap.size w w' ∧ ∀ b, b < w.heap.size → f b = 0 := by
  unfold PA.cells
  obtain ⟨i1, hi1, hy0, hy1, hy2⟩ := info_parts Try.infoInt
  obtain ⟨i2, hi2, hz0, hz1, hz2⟩ := info_parts Try.infoRowT
  obtain ⟨i3, hi3, hx0, hx1, hx2⟩ := info_parts Try.infoBoolB
  have hsz : (p.js.length ≤ 1048576 ∧ (∀ k, (getj p.js k).ks.length ≤ 1048576)) ∧ (p.dq.length ≤ 1048576 ∧ ∀ k, (getq p.dq k).length ≤ 1048576) ∧ p.ran.length ≤ 1048576 ∧ p.dn.length ≤ 1048576 ∧ p.lf.length ≤ 1048576 ∧ p.sm.length ≤ 1048576 ∧ p.vl.length ≤ 1048576 := by
    have h1 := fun k => sizeJ_kids (l := p.js) k
    have h2 := fun k => sizeQ_row (rs := p.dq) k
    have h3 : p.js.length ≤ sizeJ p.js := by unfold sizeJ; omega
    have h4 : p.dq.length ≤ sizeQ p.dq := by unfold sizeQ; omega
    unfold poolSize at hz
    exact ⟨⟨by omega, fun k => by have := h1 k; omega⟩, ⟨by omega, fun k => by have := h2 k; omega⟩, by omega, by omega, by omega, by omega, by omega⟩
  have hn := hide (show p.js.length ≤ 1048576 ∧ p.dq.length ≤ 1048576 ∧ p.ran.length ≤ 1048576 ∧ p.dn.length ≤ 1048576 ∧ p.lf.length ≤ 1048576 ∧ p.sm.length ≤ 1048576 ∧ p.vl.length ≤ 1048576 from ⟨hsz.1.1, hsz.2.1.1, hsz.2.2⟩)
  have hn0 := hide hsz.1.2
  have hn1 := hide hsz.2.1.2
  clear hsz hz
  have hb0 := below2 w (Obj.cells #[.slice a.A0 p.js.length a.c0, .slice a.A1 p.dq.length a.c1, .slice a.A2 p.ran.length a.c2, .slice a.A3 p.dn.length a.c3, .slice a.A4 p.lf.length a.c4, .slice a.A5 p.sm.length a.c5, .slice a.A6 p.vl.length a.c6] 28) (Obj.cells #[.slice none 0 0, .slice none 0 0, .slice none 0 0, .slice none 0 0, .slice none 0 0, .slice none 0 0, .slice none 0 0] 28)
  have X0 := (Blk.new w 28 #[.slice a.A0 p.js.length a.c0, .slice a.A1 p.dq.length a.c1, .slice a.A2 p.ran.length a.c2, .slice a.A3 p.dn.length a.c3, .slice a.A4 p.lf.length a.c4, .slice a.A5 p.sm.length a.c5, .slice a.A6 p.vl.length a.c6]).alloc (Obj.cells #[.slice none 0 0, .slice none 0 0, .slice none 0 0, .slice none 0 0, .slice none 0 0, .slice none 0 0, .slice none 0 0] 28)
  have R0 := Blk.new (w.alloc (Obj.cells #[.slice a.A0 p.js.length a.c0, .slice a.A1 p.dq.length a.c1, .slice a.A2 p.ran.length a.c2, .slice a.A3 p.dn.length a.c3, .slice a.A4 p.lf.length a.c4, .slice a.A5 p.sm.length a.c5, .slice a.A6 p.vl.length a.c6] 28)) 28 #[.slice none 0 0, .slice none 0 0, .slice none 0 0, .slice none 0 0, .slice none 0 0, .slice none 0 0, .slice none 0 0]
  simp only [World.size_alloc] at R0
  obtain ⟨w0, hw0⟩ : ∃ w0, w0 = (w.alloc (Obj.cells #[.slice a.A0 p.js.length a.c0, .slice a.A1 p.dq.length a.c1, .slice a.A2 p.ran.length a.c2, .slice a.A3 p.dn.length a.c3, .slice a.A4 p.lf.length a.c4, .slice a.A5 p.sm.length a.c5, .slice a.A6 p.vl.length a.c6] 28)).alloc (Obj.cells #[.slice none 0 0, .slice none 0 0, .slice none 0 0, .slice none 0 0, .slice none 0 0, .slice none 0 0, .slice none 0 0] 28) := ⟨_, rfl⟩
  rw [← hw0] at hb0 X0 R0
  obtain ⟨q, hq⟩ : ∃ q, q = w.heap.size := ⟨_, rfl⟩
  rw [← hq] at X0 R0
  have hX := hide (fun wx (h : Below w0.heap.size w0 wx) => X0.below h X0.lt)
  have hR := hide (fun wx (h : Below w0.heap.size w0 wx) => R0.below h R0.lt)
  have hBw0 := hide hb0
  have hs0 := hide (show q + 1 < w0.heap.size from R0.lt)
  have hSz := hide (show ∀ wx, Below w0.heap.size w0 wx → w.heap.size ≤ wx.heap.size from fun wx h => Nat.le_trans hb0.size h.size)
  have hSx := hide (show ∀ wx, Below w0.heap.size w0 wx → ∀ b, S b → b < wx.heap.size from fun wx h b hb => Nat.lt_of_lt_of_le (hS b hb) (Nat.le_trans hb0.size h.size))
  have hAt := hide (show ∀ wx, Below w0.heap.size w0 wx → PoolAt wx S a p from fun wx h => (ha.out.below hb0 hS).below h (fun b hb => Nat.lt_of_lt_of_le (hS b hb) hb0.size))
  clear hb0 X0 R0
  go_enter Try.func56, Try.ntmps56
  go_upto_region 1 with fail
  rw [← hw0, ← hq]
  clear hw0
  replace hq := hide hq
  refine wp_region_facts 25 (by kernel_rfl) (by kernel_rfl) (by kernel_rfl) (fun us => #[.agg #[.slice a.A0 p.js.length a.c0, .slice a.A1 p.dq.length a.c1, .slice a.A2 p.ran.length a.c2, .slice a.A3 p.dn.length a.c3, .slice a.A4 p.lf.length a.c4, .slice a.A5 p.sm.length a.c5, .slice a.A6 p.vl.length a.c6], .pointer (some ⟨q, 0, none⟩), .pointer (some ⟨q + 1, 0, none⟩), us 3, undef, us 5, us 6, us 7, us 8, us 9, us 10, us 11, us 12, us 13, us 14, us 15, us 16, us 17, us 18, us 19, us 20, us 21, us 22, us 23, us 24, us 25, us 26, us 27, us 28, undef, undef, undef, undef, undef, undef, undef, undef, undef, undef, undef, undef, undef, undef, undef, undef, undef, undef, undef, undef, undef, undef]) (fun _ => undef) (fun _ => 0) rfl (fun i => match i with | 0 => 5 | 1 => 6 | 2 => 7 | 3 => 8 | 4 => 9 | 5 => 10 | 6 => 11 | 7 => 12 | 8 => 13 | 9 => 14 | 10 => 15 | 11 => 16 | 12 => 17 | 13 => 18 | 14 => 19 | 15 => 20 | 16 => 21 | 17 => 22 | 18 => 23 | 19 => 24 | 20 => 25 | 21 => 26 | 22 => 27 | 23 => 28 | _ => 3) ?_ (fun i v f w' => match i with | 0 => v = .pointer (some ⟨q, 0, none⟩) | 1 => v = .slice a.A0 p.js.length a.c0 | 2 => ∃ kv, JobsO w' f w.heap.size v p.js kv | 3 => ∃ qf, v = .slice (some ⟨qf, 0, none⟩) 0 0 ∧ Blk w' qf 4 #[] ∧ f qf = 3 ∧ w.heap.size ≤ qf | 4 => v = .pointer (some ⟨q, 2, none⟩) | 5 => v = .slice a.A2 p.ran.length a.c2 | 6 => Sl 4 1 w' f 3 w.heap.size v p.ran.length (gB p.ran) | 7 => ∃ qf, v = .slice (some ⟨qf, 0, none⟩) 0 0 ∧ Blk w' qf 4 #[] ∧ f qf = 4 ∧ w.heap.size ≤ qf | 8 => v = .pointer (some ⟨q, 3, none⟩) | 9 => v = .slice a.A3 p.dn.length a.c3 | 10 => Sl 4 1 w' f 4 w.heap.size v p.dn.length (gB p.dn) | 11 => ∃ qf, v = .slice (some ⟨qf, 0, none⟩) 0 0 ∧ Blk w' qf 3 #[] ∧ f qf = 5 ∧ w.heap.size ≤ qf | 12 => v = .pointer (some ⟨q, 4, none⟩) | 13 => v = .slice a.A4 p.lf.length a.c4 | 14 => Sl 3 1 w' f 5 w.heap.size v p.lf.length (gI p.lf) | 15 => ∃ qf, v = .slice (some ⟨qf, 0, none⟩) 0 0 ∧ Blk w' qf 3 #[] ∧ f qf = 6 ∧ w.heap.size ≤ qf | 16 => v = .pointer (some ⟨q, 5, none⟩) | 17 => v = .slice a.A5 p.sm.length a.c5 | 18 => Sl 3 1 w' f 6 w.heap.size v p.sm.length (gI p.sm) | 19 => ∃ qf, v = .slice (some ⟨qf, 0, none⟩) 0 0 ∧ Blk w' qf 3 #[] ∧ f qf = 7 ∧ w.heap.size ≤ qf | 20 => v = .pointer (some ⟨q, 6, none⟩) | 21 => v = .slice a.A6 p.vl.length a.c6 | 22 => Sl 3 1 w' f 7 w.heap.size v p.vl.length (gI p.vl) | 23 => ∃ u0 kv u2 u3 u4 u5 u6, v = .agg #[u0, .slice none 0 0, u2, u3, u4, u5, u6] ∧ Rest w' f w.heap.size u0 u2 u3 u4 u5 u6 kv p | _ => ∃ q3, v = .pointer (some ⟨q3, 0, none⟩) ∧ Blk w' q3 28 #[.slice none 0 0, .slice none 0 0, .slice none 0 0, .slice none 0 0, .slice none 0 0, .slice none 0 0, .slice none 0 0] ∧ f q3 = 0 ∧ w0.heap.size ≤ q3) ?_ ?_ ?_
  · decide
  · intro i v f wx f2 wy hi hf hb h
    have hi2 : i = 0 ∨ i = 1 ∨ i = 2 ∨ i = 3 ∨ i = 4 ∨ i = 5 ∨ i = 6 ∨ i = 7 ∨ i = 8 ∨ i = 9 ∨ i = 10 ∨ i = 11 ∨ i = 12 ∨ i = 13 ∨ i = 14 ∨ i = 15 ∨ i = 16 ∨ i = 17 ∨ i = 18 ∨ i = 19 ∨ i = 20 ∨ i = 21 ∨ i = 22 ∨ i = 23 ∨ i = 24 := by omega
    rcases hi2 with rfl | rfl | rfl | rfl | rfl | rfl | rfl | rfl | rfl | rfl | rfl | rfl | rfl | rfl | rfl | rfl | rfl | rfl | rfl | rfl | rfl | rfl | rfl | rfl | rfl
    · exact h
    · exact h
    · exact h.elim fun u hk => ⟨u, (hk.relab hf).next hb⟩
    · exact h.elim fun q hq => ⟨q, hq.1, hq.2.1.below hb hq.2.1.lt, (hf q hq.2.1.lt).trans hq.2.2.1, hq.2.2.2⟩
    · exact h
    · exact h
    · exact (h.relab hf).next hb
    · exact h.elim fun q hq => ⟨q, hq.1, hq.2.1.below hb hq.2.1.lt, (hf q hq.2.1.lt).trans hq.2.2.1, hq.2.2.2⟩
    · exact h
    · exact h
    · exact (h.relab hf).next hb
    · exact h.elim fun q hq => ⟨q, hq.1, hq.2.1.below hb hq.2.1.lt, (hf q hq.2.1.lt).trans hq.2.2.1, hq.2.2.2⟩
    · exact h
    · exact h
    · exact (h.relab hf).next hb
    · exact h.elim fun q hq => ⟨q, hq.1, hq.2.1.below hb hq.2.1.lt, (hf q hq.2.1.lt).trans hq.2.2.1, hq.2.2.2⟩
    · exact h
    · exact h
    · exact (h.relab hf).next hb
    · exact h.elim fun q hq => ⟨q, hq.1, hq.2.1.below hb hq.2.1.lt, (hf q hq.2.1.lt).trans hq.2.2.1, hq.2.2.2⟩
    · exact h
    · exact h
    · exact (h.relab hf).next hb
    · exact h.elim fun u0 h => h.elim fun kv h => h.elim fun u2 h => h.elim fun u3 h => h.elim fun u4 h => h.elim fun u5 h => h.elim fun u6 h => ⟨u0, kv, u2, u3, u4, u5, u6, h.1, (h.2.relab hf).next hb⟩
    · exact h.elim fun q hq => ⟨q, hq.1, hq.2.1.below hb hq.2.1.lt, (hf q hq.2.1.lt).trans hq.2.2.1, hq.2.2.2⟩
  · intro i o hi ho us f wx hB hf hdep K hK
    have hi2 : i = 0 ∨ i = 1 ∨ i = 2 ∨ i = 3 ∨ i = 4 ∨ i = 5 ∨ i = 6 ∨ i = 7 ∨ i = 8 ∨ i = 9 ∨ i = 10 ∨ i = 11 ∨ i = 12 ∨ i = 13 ∨ i = 14 ∨ i = 15 ∨ i = 16 ∨ i = 17 ∨ i = 18 ∨ i = 19 ∨ i = 20 ∨ i = 21 ∨ i = 22 ∨ i = 23 ∨ i = 24 := by omega
    rcases hi2 with rfl | rfl | rfl | rfl | rfl | rfl | rfl | rfl | rfl | rfl | rfl | rfl | rfl | rfl | rfl | rfl | rfl | rfl | rfl | rfl | rfl | rfl | rfl | rfl | rfl
    · simp only [List.getElem?_toArray, List.getElem?_cons_zero, Option.some.injEq] at ho
      subst ho
      refine step_value (a := ⟨_, []⟩) (w' := wx) (v := ?_) ?_ ?_ ?_
      rotate_left
      · rfl
      · try dsimp only
        skip
        first | (go_simp; done) | (go_simp; with_reducible rfl)
      · exact hK _ f wx (fun _ _ => rfl) (Below.refl _ _) (by rfl)
    · simp only [List.getElem?_toArray, List.getElem?_cons_zero, List.getElem?_cons_succ, Option.some.injEq] at ho
      subst ho
      have e0 : (us 5) = .pointer (some ⟨q, 0, none⟩) := hdep ⟨0, .data⟩ (by simp) (by rfl)
      have hx := (hX.out wx hB).cell 0
      simp only [List.getElem?_toArray, List.getElem?_cons_zero] at hx
      refine step_value (a := ⟨_, []⟩) (w' := wx) (v := .slice a.A0 p.js.length a.c0) ?_ ?_ ?_
      · rfl
      · try dsimp only
        simp only [e0]
        first | (go_simp; done) | (go_simp; with_reducible rfl)
      · exact hK _ f wx (fun _ _ => rfl) (Below.refl _ _) (by rfl)
    · simp only [List.getElem?_toArray, List.getElem?_cons_zero, List.getElem?_cons_succ, Option.some.injEq] at ho
      subst ho
      have e1 : (us 6) = .slice a.A0 p.js.length a.c0 := hdep ⟨1, .data⟩ (by simp) (by rfl)
      refine step_call (a := ⟨_, []⟩) (g := 78) (args := #[.slice a.A0 p.js.length a.c0]) ?_ ?_ (sjobs_any f a.A0 p.js a.c0 S wx hn.out.1 hn0.out (hSx.out wx hB) (hAt.out wx hB).jobs) ?_
      · rfl
      · try dsimp only
        simp only [e1]
        first | (go_simp; done) | (go_simp; with_reducible rfl)
      · rintro e wy ⟨v, f2, u, rfl, hJ, hb, hf2⟩
        exact ⟨v, rfl, hK v f2 wy hf2 hb ⟨u, hJ.base (hSz.out wx hB)⟩⟩
    · simp only [List.getElem?_toArray, List.getElem?_cons_zero, List.getElem?_cons_succ, Option.some.injEq] at ho
      subst ho
      refine step_value (a := ⟨_, []⟩) (w' := wx.alloc (.cells #[] 4)) (v := .slice (some ⟨wx.heap.size, 0, none⟩) 0 0) ?_ ?_ ?_
      · rfl
      · try dsimp only
        first | (go_simp; done) | (go_simp; with_reducible rfl)
      · exact hK _ (lab f wx.heap.size 3) _ (fun b hb => lab_old hb) (below1 _ _) ⟨_, rfl, Blk.new wx _ _, lab_at _ _ _, hSz.out wx hB⟩
    · simp only [List.getElem?_toArray, List.getElem?_cons_zero, List.getElem?_cons_succ, Option.some.injEq] at ho
      subst ho
      refine step_value (a := ⟨_, []⟩) (w' := wx) (v := ?_) ?_ ?_ ?_
      rotate_left
      · rfl
      · try dsimp only
        skip
        first | (go_simp; done) | (go_simp; with_reducible rfl)
      · exact hK _ f wx (fun _ _ => rfl) (Below.refl _ _) (by rfl)
    · simp only [List.getElem?_toArray, List.getElem?_cons_zero, List.getElem?_cons_succ, Option.some.injEq] at ho
      subst ho
      have e4 : (us 9) = .pointer (some ⟨q, 2, none⟩) := hdep ⟨4, .data⟩ (by simp) (by rfl)
      have hx := (hX.out wx hB).cell 2
      simp only [List.getElem?_toArray, List.getElem?_cons_zero, List.getElem?_cons_succ] at hx
      refine step_value (a := ⟨_, []⟩) (w' := wx) (v := .slice a.A2 p.ran.length a.c2) ?_ ?_ ?_
      · rfl
      · try dsimp only
        simp only [e4]
        first | (go_simp; done) | (go_simp; with_reducible rfl)
      · exact hK _ f wx (fun _ _ => rfl) (Below.refl _ _) (by rfl)
    · simp only [List.getElem?_toArray, List.getElem?_cons_zero, List.getElem?_cons_succ, Option.some.injEq] at ho
      subst ho
      have e3 : ∃ qf, (us 8) = .slice (some ⟨qf, 0, none⟩) 0 0 ∧ Blk wx qf 4 #[] ∧ f qf = 3 ∧ w.heap.size ≤ qf := hdep ⟨3, .data⟩ (by simp) (by rfl)
      have e5 : (us 10) = .slice a.A2 p.ran.length a.c2 := hdep ⟨5, .data⟩ (by simp) (by rfl)
      have e2 : ∃ kv, JobsO wx f w.heap.size (us 7) p.js kv := hdep ⟨2, .chain⟩ (by simp) (by rfl)
      obtain ⟨q6, h6, h7, h8, h9⟩ := e3
      have hlen := hn.out.2.2.1
      obtain ⟨v', w2, f2, hr, hS2, hb2, hf2⟩ := run_append_empty (P := Try.prog) wx 25 25 4 i3 _ 1 1 Try.underlying25 hi3 hx0 hx1 hx2 rfl (by omega) q6 h7 h8 h9 a.A2 p.ran.length a.c2 (gB p.ran) (hAt.out wx hB).ran.cells (by have : maxLen = 9223372036854775807 := rfl; omega) (by omega)
      exact step_append (a := ⟨_, []⟩) wx _ _ 25 rfl rfl h6 e5 hr (hK v' f2 w2 hf2 hb2 hS2)
    · simp only [List.getElem?_toArray, List.getElem?_cons_zero, List.getElem?_cons_succ, Option.some.injEq] at ho
      subst ho
      refine step_value (a := ⟨_, []⟩) (w' := wx.alloc (.cells #[] 4)) (v := .slice (some ⟨wx.heap.size, 0, none⟩) 0 0) ?_ ?_ ?_
      · rfl
      · try dsimp only
        first | (go_simp; done) | (go_simp; with_reducible rfl)
      · exact hK _ (lab f wx.heap.size 4) _ (fun b hb => lab_old hb) (below1 _ _) ⟨_, rfl, Blk.new wx _ _, lab_at _ _ _, hSz.out wx hB⟩
    · simp only [List.getElem?_toArray, List.getElem?_cons_zero, List.getElem?_cons_succ, Option.some.injEq] at ho
      subst ho
      refine step_value (a := ⟨_, []⟩) (w' := wx) (v := ?_) ?_ ?_ ?_
      rotate_left
      · rfl
      · try dsimp only
        skip
        first | (go_simp; done) | (go_simp; with_reducible rfl)
      · exact hK _ f wx (fun _ _ => rfl) (Below.refl _ _) (by rfl)
    · simp only [List.getElem?_toArray, List.getElem?_cons_zero, List.getElem?_cons_succ, Option.some.injEq] at ho
      subst ho
      have e8 : (us 13) = .pointer (some ⟨q, 3, none⟩) := hdep ⟨8, .data⟩ (by simp) (by rfl)
      have hx := (hX.out wx hB).cell 3
      simp only [List.getElem?_toArray, List.getElem?_cons_zero, List.getElem?_cons_succ] at hx
      refine step_value (a := ⟨_, []⟩) (w' := wx) (v := .slice a.A3 p.dn.length a.c3) ?_ ?_ ?_
      · rfl
      · try dsimp only
        simp only [e8]
        first | (go_simp; done) | (go_simp; with_reducible rfl)
      · exact hK _ f wx (fun _ _ => rfl) (Below.refl _ _) (by rfl)
    · simp only [List.getElem?_toArray, List.getElem?_cons_zero, List.getElem?_cons_succ, Option.some.injEq] at ho
      subst ho
      have e7 : ∃ qf, (us 12) = .slice (some ⟨qf, 0, none⟩) 0 0 ∧ Blk wx qf 4 #[] ∧ f qf = 4 ∧ w.heap.size ≤ qf := hdep ⟨7, .data⟩ (by simp) (by rfl)
      have e9 : (us 14) = .slice a.A3 p.dn.length a.c3 := hdep ⟨9, .data⟩ (by simp) (by rfl)
      have e6 : Sl 4 1 wx f 3 w.heap.size (us 11) p.ran.length (gB p.ran) := hdep ⟨6, .chain⟩ (by simp) (by rfl)
      obtain ⟨q6, h6, h7, h8, h9⟩ := e7
      have hlen := hn.out.2.2.2.1
      obtain ⟨v', w2, f2, hr, hS2, hb2, hf2⟩ := run_append_empty (P := Try.prog) wx 25 25 4 i3 _ 1 1 Try.underlying25 hi3 hx0 hx1 hx2 rfl (by omega) q6 h7 h8 h9 a.A3 p.dn.length a.c3 (gB p.dn) (hAt.out wx hB).dn.cells (by have : maxLen = 9223372036854775807 := rfl; omega) (by omega)
      exact step_append (a := ⟨_, []⟩) wx _ _ 25 rfl rfl h6 e9 hr (hK v' f2 w2 hf2 hb2 hS2)
    · simp only [List.getElem?_toArray, List.getElem?_cons_zero, List.getElem?_cons_succ, Option.some.injEq] at ho
      subst ho
      refine step_value (a := ⟨_, []⟩) (w' := wx.alloc (.cells #[] 3)) (v := .slice (some ⟨wx.heap.size, 0, none⟩) 0 0) ?_ ?_ ?_
      · rfl
      · try dsimp only
        first | (go_simp; done) | (go_simp; with_reducible rfl)
      · exact hK _ (lab f wx.heap.size 5) _ (fun b hb => lab_old hb) (below1 _ _) ⟨_, rfl, Blk.new wx _ _, lab_at _ _ _, hSz.out wx hB⟩
    · simp only [List.getElem?_toArray, List.getElem?_cons_zero, List.getElem?_cons_succ, Option.some.injEq] at ho
      subst ho
      refine step_value (a := ⟨_, []⟩) (w' := wx) (v := ?_) ?_ ?_ ?_
      rotate_left
      · rfl
      · try dsimp only
        skip
        first | (go_simp; done) | (go_simp; with_reducible rfl)
      · exact hK _ f wx (fun _ _ => rfl) (Below.refl _ _) (by rfl)
    · simp only [List.getElem?_toArray, List.getElem?_cons_zero, List.getElem?_cons_succ, Option.some.injEq] at ho
      subst ho
      have e12 : (us 17) = .pointer (some ⟨q, 4, none⟩) := hdep ⟨12, .data⟩ (by simp) (by rfl)
      have hx := (hX.out wx hB).cell 4
      simp only [List.getElem?_toArray, List.getElem?_cons_zero, List.getElem?_cons_succ] at hx
      refine step_value (a := ⟨_, []⟩) (w' := wx) (v := .slice a.A4 p.lf.length a.c4) ?_ ?_ ?_
      · rfl
      · try dsimp only
        simp only [e12]
        first | (go_simp; done) | (go_simp; with_reducible rfl)
      · exact hK _ f wx (fun _ _ => rfl) (Below.refl _ _) (by rfl)
    · simp only [List.getElem?_toArray, List.getElem?_cons_zero, List.getElem?_cons_succ, Option.some.injEq] at ho
      subst ho
      have e11 : ∃ qf, (us 16) = .slice (some ⟨qf, 0, none⟩) 0 0 ∧ Blk wx qf 3 #[] ∧ f qf = 5 ∧ w.heap.size ≤ qf := hdep ⟨11, .data⟩ (by simp) (by rfl)
      have e13 : (us 18) = .slice a.A4 p.lf.length a.c4 := hdep ⟨13, .data⟩ (by simp) (by rfl)
      have e10 : Sl 4 1 wx f 4 w.heap.size (us 15) p.dn.length (gB p.dn) := hdep ⟨10, .chain⟩ (by simp) (by rfl)
      obtain ⟨q6, h6, h7, h8, h9⟩ := e11
      have hlen := hn.out.2.2.2.2.1
      obtain ⟨v', w2, f2, hr, hS2, hb2, hf2⟩ := run_append_empty (P := Try.prog) wx 26 26 3 i1 _ 1 8 Try.underlying26 hi1 hy0 hy1 hy2 rfl (by omega) q6 h7 h8 h9 a.A4 p.lf.length a.c4 (gI p.lf) (hAt.out wx hB).lf.cells (by have : maxLen = 9223372036854775807 := rfl; omega) (by omega)
      exact step_append (a := ⟨_, []⟩) wx _ _ 26 rfl rfl h6 e13 hr (hK v' f2 w2 hf2 hb2 hS2)
    · simp only [List.getElem?_toArray, List.getElem?_cons_zero, List.getElem?_cons_succ, Option.some.injEq] at ho
      subst ho
      refine step_value (a := ⟨_, []⟩) (w' := wx.alloc (.cells #[] 3)) (v := .slice (some ⟨wx.heap.size, 0, none⟩) 0 0) ?_ ?_ ?_
      · rfl
      · try dsimp only
        first | (go_simp; done) | (go_simp; with_reducible rfl)
      · exact hK _ (lab f wx.heap.size 6) _ (fun b hb => lab_old hb) (below1 _ _) ⟨_, rfl, Blk.new wx _ _, lab_at _ _ _, hSz.out wx hB⟩
    · simp only [List.getElem?_toArray, List.getElem?_cons_zero, List.getElem?_cons_succ, Option.some.injEq] at ho
      subst ho
      refine step_value (a := ⟨_, []⟩) (w' := wx) (v := ?_) ?_ ?_ ?_
      rotate_left
      · rfl
      · try dsimp only
        skip
        first | (go_simp; done) | (go_simp; with_reducible rfl)
      · exact hK _ f wx (fun _ _ => rfl) (Below.refl _ _) (by rfl)
    · simp only [List.getElem?_toArray, List.getElem?_cons_zero, List.getElem?_cons_succ, Option.some.injEq] at ho
      subst ho
      have e16 : (us 21) = .pointer (some ⟨q, 5, none⟩) := hdep ⟨16, .data⟩ (by simp) (by rfl)
      have hx := (hX.out wx hB).cell 5
      simp only [List.getElem?_toArray, List.getElem?_cons_zero, List.getElem?_cons_succ] at hx
      refine step_value (a := ⟨_, []⟩) (w' := wx) (v := .slice a.A5 p.sm.length a.c5) ?_ ?_ ?_
      · rfl
      · try dsimp only
        simp only [e16]
        first | (go_simp; done) | (go_simp; with_reducible rfl)
      · exact hK _ f wx (fun _ _ => rfl) (Below.refl _ _) (by rfl)
    · simp only [List.getElem?_toArray, List.getElem?_cons_zero, List.getElem?_cons_succ, Option.some.injEq] at ho
      subst ho
      have e15 : ∃ qf, (us 20) = .slice (some ⟨qf, 0, none⟩) 0 0 ∧ Blk wx qf 3 #[] ∧ f qf = 6 ∧ w.heap.size ≤ qf := hdep ⟨15, .data⟩ (by simp) (by rfl)
      have e17 : (us 22) = .slice a.A5 p.sm.length a.c5 := hdep ⟨17, .data⟩ (by simp) (by rfl)
      have e14 : Sl 3 1 wx f 5 w.heap.size (us 19) p.lf.length (gI p.lf) := hdep ⟨14, .chain⟩ (by simp) (by rfl)
      obtain ⟨q6, h6, h7, h8, h9⟩ := e15
      have hlen := hn.out.2.2.2.2.2.1
      obtain ⟨v', w2, f2, hr, hS2, hb2, hf2⟩ := run_append_empty (P := Try.prog) wx 26 26 3 i1 _ 1 8 Try.underlying26 hi1 hy0 hy1 hy2 rfl (by omega) q6 h7 h8 h9 a.A5 p.sm.length a.c5 (gI p.sm) (hAt.out wx hB).sm.cells (by have : maxLen = 9223372036854775807 := rfl; omega) (by omega)
      exact step_append (a := ⟨_, []⟩) wx _ _ 26 rfl rfl h6 e17 hr (hK v' f2 w2 hf2 hb2 hS2)
    · simp only [List.getElem?_toArray, List.getElem?_cons_zero, List.getElem?_cons_succ, Option.some.injEq] at ho
      subst ho
      refine step_value (a := ⟨_, []⟩) (w' := wx.alloc (.cells #[] 3)) (v := .slice (some ⟨wx.heap.size, 0, none⟩) 0 0) ?_ ?_ ?_
      · rfl
      · try dsimp only
        first | (go_simp; done) | (go_simp; with_reducible rfl)
      · exact hK _ (lab f wx.heap.size 7) _ (fun b hb => lab_old hb) (below1 _ _) ⟨_, rfl, Blk.new wx _ _, lab_at _ _ _, hSz.out wx hB⟩
    · simp only [List.getElem?_toArray, List.getElem?_cons_zero, List.getElem?_cons_succ, Option.some.injEq] at ho
      subst ho
      refine step_value (a := ⟨_, []⟩) (w' := wx) (v := ?_) ?_ ?_ ?_
      rotate_left
      · rfl
      · try dsimp only
        skip
        first | (go_simp; done) | (go_simp; with_reducible rfl)
      · exact hK _ f wx (fun _ _ => rfl) (Below.refl _ _) (by rfl)
    · simp only [List.getElem?_toArray, List.getElem?_cons_zero, List.getElem?_cons_succ, Option.some.injEq] at ho
      subst ho
      have e20 : (us 25) = .pointer (some ⟨q, 6, none⟩) := hdep ⟨20, .data⟩ (by simp) (by rfl)
      have hx := (hX.out wx hB).cell 6
      simp only [List.getElem?_toArray, List.getElem?_cons_zero, List.getElem?_cons_succ] at hx
      refine step_value (a := ⟨_, []⟩) (w' := wx) (v := .slice a.A6 p.vl.length a.c6) ?_ ?_ ?_
      · rfl
      · try dsimp only
        simp only [e20]
        first | (go_simp; done) | (go_simp; with_reducible rfl)
      · exact hK _ f wx (fun _ _ => rfl) (Below.refl _ _) (by rfl)
    · simp only [List.getElem?_toArray, List.getElem?_cons_zero, List.getElem?_cons_succ, Option.some.injEq] at ho
      subst ho
      have e19 : ∃ qf, (us 24) = .slice (some ⟨qf, 0, none⟩) 0 0 ∧ Blk wx qf 3 #[] ∧ f qf = 7 ∧ w.heap.size ≤ qf := hdep ⟨19, .data⟩ (by simp) (by rfl)
      have e21 : (us 26) = .slice a.A6 p.vl.length a.c6 := hdep ⟨21, .data⟩ (by simp) (by rfl)
      have e18 : Sl 3 1 wx f 6 w.heap.size (us 23) p.sm.length (gI p.sm) := hdep ⟨18, .chain⟩ (by simp) (by rfl)
      obtain ⟨q6, h6, h7, h8, h9⟩ := e19
      have hlen := hn.out.2.2.2.2.2.2
      obtain ⟨v', w2, f2, hr, hS2, hb2, hf2⟩ := run_append_empty (P := Try.prog) wx 26 26 3 i1 _ 1 8 Try.underlying26 hi1 hy0 hy1 hy2 rfl (by omega) q6 h7 h8 h9 a.A6 p.vl.length a.c6 (gI p.vl) (hAt.out wx hB).vl.cells (by have : maxLen = 9223372036854775807 := rfl; omega) (by omega)
      exact step_append (a := ⟨_, []⟩) wx _ _ 26 rfl rfl h6 e21 hr (hK v' f2 w2 hf2 hb2 hS2)
    · simp only [List.getElem?_toArray, List.getElem?_cons_zero, List.getElem?_cons_succ, Option.some.injEq] at ho
      subst ho
      have e2 : ∃ kv, JobsO wx f w.heap.size (us 7) p.js kv := hdep ⟨2, .data⟩ (by simp) (by rfl)
      have e6 : Sl 4 1 wx f 3 w.heap.size (us 11) p.ran.length (gB p.ran) := hdep ⟨6, .data⟩ (by simp) (by rfl)
      have e10 : Sl 4 1 wx f 4 w.heap.size (us 15) p.dn.length (gB p.dn) := hdep ⟨10, .data⟩ (by simp) (by rfl)
      have e14 : Sl 3 1 wx f 5 w.heap.size (us 19) p.lf.length (gI p.lf) := hdep ⟨14, .data⟩ (by simp) (by rfl)
      have e18 : Sl 3 1 wx f 6 w.heap.size (us 23) p.sm.length (gI p.sm) := hdep ⟨18, .data⟩ (by simp) (by rfl)
      have e22 : Sl 3 1 wx f 7 w.heap.size (us 27) p.vl.length (gI p.vl) := hdep ⟨22, .data⟩ (by simp) (by rfl)
      obtain ⟨kv, e2⟩ := e2
      obtain ⟨A0, c0, hu0⟩ := e2.form
      rw [hu0] at e2
      obtain ⟨A2, c2, hu2⟩ := e6.form
      rw [hu2] at e6
      obtain ⟨A3, c3, hu3⟩ := e10.form
      rw [hu3] at e10
      obtain ⟨A4, c4, hu4⟩ := e14.form
      rw [hu4] at e14
      obtain ⟨A5, c5, hu5⟩ := e18.form
      rw [hu5] at e18
      obtain ⟨A6, c6, hu6⟩ := e22.form
      rw [hu6] at e22
      refine step_value (a := ⟨_, []⟩) (w' := wx) (v := .agg #[.slice A0 p.js.length c0, .slice none 0 0, .slice A2 p.ran.length c2, .slice A3 p.dn.length c3, .slice A4 p.lf.length c4, .slice A5 p.sm.length c5, .slice A6 p.vl.length c6]) ?_ ?_ ?_
      · rfl
      · try dsimp only
        simp only [hu0, hu2, hu3, hu4, hu5, hu6]
        first | (go_simp; done) | (go_simp; with_reducible rfl)
      · exact hK _ f wx (fun _ _ => rfl) (Below.refl _ _) ⟨_, kv, _, _, _, _, _, rfl, ⟨e2, e6, e10, e14, e18, e22⟩⟩
    · simp only [List.getElem?_toArray, List.getElem?_cons_zero, List.getElem?_cons_succ, Option.some.injEq] at ho
      subst ho
      refine step_value (a := ⟨_, []⟩) (w' := wx.alloc (.cells #[.slice none 0 0, .slice none 0 0, .slice none 0 0, .slice none 0 0, .slice none 0 0, .slice none 0 0, .slice none 0 0] 28)) (v := .pointer (some ⟨wx.heap.size, 0, none⟩)) ?_ ?_ ?_
      · rfl
      · try dsimp only
        first | (go_simp; done) | (go_simp; with_reducible rfl)
      · exact hK _ (lab f wx.heap.size 0) _ (fun b hb => lab_old hb) (below1 _ _) ⟨_, rfl, Blk.new wx _ _, lab_at _ _ _, hB.size⟩
  · intro us f wx hB hf F
    have e0 : (us 5) = .pointer (some ⟨q, 0, none⟩) := F 0 (by omega)
    have e1 : (us 6) = .slice a.A0 p.js.length a.c0 := F 1 (by omega)
    have e2 : ∃ kv, JobsO wx f w.heap.size (us 7) p.js kv := F 2 (by omega)
    have e3 : ∃ qf, (us 8) = .slice (some ⟨qf, 0, none⟩) 0 0 ∧ Blk wx qf 4 #[] ∧ f qf = 3 ∧ w.heap.size ≤ qf := F 3 (by omega)
    have e4 : (us 9) = .pointer (some ⟨q, 2, none⟩) := F 4 (by omega)
    have e5 : (us 10) = .slice a.A2 p.ran.length a.c2 := F 5 (by omega)
    have e6 : Sl 4 1 wx f 3 w.heap.size (us 11) p.ran.length (gB p.ran) := F 6 (by omega)
    have e7 : ∃ qf, (us 12) = .slice (some ⟨qf, 0, none⟩) 0 0 ∧ Blk wx qf 4 #[] ∧ f qf = 4 ∧ w.heap.size ≤ qf := F 7 (by omega)
    have e8 : (us 13) = .pointer (some ⟨q, 3, none⟩) := F 8 (by omega)
    have e9 : (us 14) = .slice a.A3 p.dn.length a.c3 := F 9 (by omega)
    have e10 : Sl 4 1 wx f 4 w.heap.size (us 15) p.dn.length (gB p.dn) := F 10 (by omega)
    have e11 : ∃ qf, (us 16) = .slice (some ⟨qf, 0, none⟩) 0 0 ∧ Blk wx qf 3 #[] ∧ f qf = 5 ∧ w.heap.size ≤ qf := F 11 (by omega)
    have e12 : (us 17) = .pointer (some ⟨q, 4, none⟩) := F 12 (by omega)
    have e13 : (us 18) = .slice a.A4 p.lf.length a.c4 := F 13 (by omega)
    have e14 : Sl 3 1 wx f 5 w.heap.size (us 19) p.lf.length (gI p.lf) := F 14 (by omega)
    have e15 : ∃ qf, (us 20) = .slice (some ⟨qf, 0, none⟩) 0 0 ∧ Blk wx qf 3 #[] ∧ f qf = 6 ∧ w.heap.size ≤ qf := F 15 (by omega)
    have e16 : (us 21) = .pointer (some ⟨q, 5, none⟩) := F 16 (by omega)
    have e17 : (us 22) = .slice a.A5 p.sm.length a.c5 := F 17 (by omega)
    have e18 : Sl 3 1 wx f 6 w.heap.size (us 23) p.sm.length (gI p.sm) := F 18 (by omega)
    have e19 : ∃ qf, (us 24) = .slice (some ⟨qf, 0, none⟩) 0 0 ∧ Blk wx qf 3 #[] ∧ f qf = 7 ∧ w.heap.size ≤ qf := F 19 (by omega)
    have e20 : (us 25) = .pointer (some ⟨q, 6, none⟩) := F 20 (by omega)
    have e21 : (us 26) = .slice a.A6 p.vl.length a.c6 := F 21 (by omega)
    have e22 : Sl 3 1 wx f 7 w.heap.size (us 27) p.vl.length (gI p.vl) := F 22 (by omega)
    have e23 : ∃ u0 kv u2 u3 u4 u5 u6, (us 28) = .agg #[u0, .slice none 0 0, u2, u3, u4, u5, u6] ∧ Rest wx f w.heap.size u0 u2 u3 u4 u5 u6 kv p := F 23 (by omega)
    have e24 : ∃ q3, (us 3) = .pointer (some ⟨q3, 0, none⟩) ∧ Blk wx q3 28 #[.slice none 0 0, .slice none 0 0, .slice none 0 0, .slice none 0 0, .slice none 0 0, .slice none 0 0, .slice none 0 0] ∧ f q3 = 0 ∧ w0.heap.size ≤ q3 := F 24 (by omega)
    clear F
    simp only [List.drop_succ_cons, List.drop_zero]
    generalize us 5 = y5 at *
    generalize us 6 = y6 at *
    generalize us 7 = y7 at *
    generalize us 8 = y8 at *
    generalize us 9 = y9 at *
    generalize us 10 = y10 at *
    generalize us 11 = y11 at *
    generalize us 12 = y12 at *
    generalize us 13 = y13 at *
    generalize us 14 = y14 at *
    generalize us 15 = y15 at *
    generalize us 16 = y16 at *
    generalize us 17 = y17 at *
    generalize us 18 = y18 at *
    generalize us 19 = y19 at *
    generalize us 20 = y20 at *
    generalize us 21 = y21 at *
    generalize us 22 = y22 at *
    generalize us 23 = y23 at *
    generalize us 24 = y24 at *
    generalize us 25 = y25 at *
    generalize us 26 = y26 at *
    generalize us 27 = y27 at *
    generalize us 28 = y28 at *
    generalize us 3 = y3 at *
    obtain ⟨u0, kv, u2, u3, u4, u5, u6, h23, hRest⟩ := e23
    subst h23
    obtain ⟨q3, h24, hQ3, hq30, hq3W⟩ := e24
    subst h24
    clear e0 e1 e2 e3 e4 e5 e6 e7 e8 e9 e10 e11 e12 e13 e14 e15 e16 e17 e18 e19 e20 e21 e22
    obtain ⟨A0, c0, hu0⟩ := hRest.jobs.form
    subst hu0
    obtain ⟨A2, c2, hu2⟩ := hRest.ran.form
    subst hu2
    obtain ⟨A3, c3, hu3⟩ := hRest.dn.form
    subst hu3
    obtain ⟨A4, c4, hu4⟩ := hRest.lf.form
    subst hu4
    obtain ⟨A5, c5, hu5⟩ := hRest.sm.form
    subst hu5
    obtain ⟨A6, c6, hu6⟩ := hRest.vl.form
    subst hu6
    have hs3 := hs0.out
    have hq3n : q + 1 < q3 := by omega
    have hq3w : w.heap.size ≤ q3 := Nat.le_trans hBw0.out.size hq3W
    have hX1 := hX.out wx hB
    have hR1 := hR.out wx hB
    have z0 := hQ3.frozen 0
    have z1 := hQ3.frozen 1
    have z2 := hQ3.frozen 2
    have z3 := hQ3.frozen 3
    have z4 := hQ3.frozen 4
    have z5 := hQ3.frozen 5
    have z6 := hQ3.frozen 6
    obtain ⟨⟨r0, r1, r2, r3, r4, r5, r6⟩, rl⟩ := box7 hQ3
    obtain ⟨w1, hw1⟩ : ∃ w1, w1 = (((((((wx.setCell ⟨q3, 0, none⟩ (.slice A0 p.js.length c0)).setCell ⟨q3, 1, none⟩ (.slice none 0 0)).setCell ⟨q3, 2, none⟩ (.slice A2 p.ran.length c2)).setCell ⟨q3, 3, none⟩ (.slice A3 p.dn.length c3)).setCell ⟨q3, 4, none⟩ (.slice A4 p.lf.length c4)).setCell ⟨q3, 5, none⟩ (.slice A5 p.sm.length c5)).setCell ⟨q3, 6, none⟩ (.slice A6 p.vl.length c6)) := ⟨_, rfl⟩
    have hXA := hide (show Blk w1 q 28 #[.slice a.A0 p.js.length a.c0, .slice a.A1 p.dq.length a.c1, .slice a.A2 p.ran.length a.c2, .slice a.A3 p.dn.length a.c3, .slice a.A4 p.lf.length a.c4, .slice a.A5 p.sm.length a.c5, .slice a.A6 p.vl.length a.c6] from by rw [hw1]; exact (((((((hX1.far (p := ⟨q3, 0, none⟩) (by show q ≠ q3; omega) (.slice A0 p.js.length c0)).far (p := ⟨q3, 1, none⟩) (by show q ≠ q3; omega) (.slice none 0 0)).far (p := ⟨q3, 2, none⟩) (by show q ≠ q3; omega) (.slice A2 p.ran.length c2)).far (p := ⟨q3, 3, none⟩) (by show q ≠ q3; omega) (.slice A3 p.dn.length c3)).far (p := ⟨q3, 4, none⟩) (by show q ≠ q3; omega) (.slice A4 p.lf.length c4)).far (p := ⟨q3, 5, none⟩) (by show q ≠ q3; omega) (.slice A5 p.sm.length c5)).far (p := ⟨q3, 6, none⟩) (by show q ≠ q3; omega) (.slice A6 p.vl.length c6)))
    have hRA := hide (show Blk w1 (q + 1) 28 #[.slice none 0 0, .slice none 0 0, .slice none 0 0, .slice none 0 0, .slice none 0 0, .slice none 0 0, .slice none 0 0] from by rw [hw1]; exact (((((((hR1.far (p := ⟨q3, 0, none⟩) (by show q + 1 ≠ q3; omega) (.slice A0 p.js.length c0)).far (p := ⟨q3, 1, none⟩) (by show q + 1 ≠ q3; omega) (.slice none 0 0)).far (p := ⟨q3, 2, none⟩) (by show q + 1 ≠ q3; omega) (.slice A2 p.ran.length c2)).far (p := ⟨q3, 3, none⟩) (by show q + 1 ≠ q3; omega) (.slice A3 p.dn.length c3)).far (p := ⟨q3, 4, none⟩) (by show q + 1 ≠ q3; omega) (.slice A4 p.lf.length c4)).far (p := ⟨q3, 5, none⟩) (by show q + 1 ≠ q3; omega) (.slice A5 p.sm.length c5)).far (p := ⟨q3, 6, none⟩) (by show q + 1 ≠ q3; omega) (.slice A6 p.vl.length c6)))
    have hQA := hide (show Blk w1 q3 28 #[.slice A0 p.js.length c0, .slice none 0 0, .slice A2 p.ran.length c2, .slice A3 p.dn.length c3, .slice A4 p.lf.length c4, .slice A5 p.sm.length c5, .slice A6 p.vl.length c6] from by rw [hw1]; exact (((((((hQ3.set_ 0 (.slice A0 p.js.length c0)).set_ 1 (.slice none 0 0)).set_ 2 (.slice A2 p.ran.length c2)).set_ 3 (.slice A3 p.dn.length c3)).set_ 4 (.slice A4 p.lf.length c4)).set_ 5 (.slice A5 p.sm.length c5)).set_ 6 (.slice A6 p.vl.length c6)))
    have hBA := hide (show Below w.heap.size w w1 from by rw [hw1]; exact (Below.setCell (Below.setCell (Below.setCell (Below.setCell (Below.setCell (Below.setCell (Below.setCell (below_then hBw0.out hB) (p := ⟨q3, 0, none⟩) hq3w (.slice A0 p.js.length c0)) (p := ⟨q3, 1, none⟩) hq3w (.slice none 0 0)) (p := ⟨q3, 2, none⟩) hq3w (.slice A2 p.ran.length c2)) (p := ⟨q3, 3, none⟩) hq3w (.slice A3 p.dn.length c3)) (p := ⟨q3, 4, none⟩) hq3w (.slice A4 p.lf.length c4)) (p := ⟨q3, 5, none⟩) hq3w (.slice A5 p.sm.length c5)) (p := ⟨q3, 6, none⟩) hq3w (.slice A6 p.vl.length c6)))
    have hSA := hide (show Rest w1 f w.heap.size (.slice A0 p.js.length c0) (.slice A2 p.ran.length c2) (.slice A3 p.dn.length c3) (.slice A4 p.lf.length c4) (.slice A5 p.sm.length c5) (.slice A6 p.vl.length c6) kv p from by rw [hw1]; exact (((((((hRest.set0 (d := ⟨q3, 0, none⟩) hq30 (.slice A0 p.js.length c0)).set0 (d := ⟨q3, 1, none⟩) hq30 (.slice none 0 0)).set0 (d := ⟨q3, 2, none⟩) hq30 (.slice A2 p.ran.length c2)).set0 (d := ⟨q3, 3, none⟩) hq30 (.slice A3 p.dn.length c3)).set0 (d := ⟨q3, 4, none⟩) hq30 (.slice A4 p.lf.length c4)).set0 (d := ⟨q3, 5, none⟩) hq30 (.slice A5 p.sm.length c5)).set0 (d := ⟨q3, 6, none⟩) hq30 (.slice A6 p.vl.length c6)))
    have hff := hide (show (∀ b, b < w0.heap.size → f b = 0) ∧ f q3 = 0 ∧ w0.heap.size ≤ w1.heap.size from ⟨fun b hb => hf b hb, hq30, by rw [hw1]; simpa using hB.size⟩)
    clear hX1 hR1 hQ3 hRest hB hf hX hR hAt hSz hSx hq30 hs3 hq3W
    go_wp2_with fail
    rw [← hw1]
    clear hw1 z0 z1 z2 z3 z4 z5 z6 r0 r1 r2 r3 r4 r5 r6 rl
    go_loopw [4] (fun iv wr => ∃ (k : Nat) (ov : Value) (rv : Nat → Value) (f : Nat → Nat), k ≤ p.dq.length ∧ iv = .int .i64 k ∧ Hid (Blk wr q 28 #[.slice a.A0 p.js.length a.c0, .slice a.A1 p.dq.length a.c1, .slice a.A2 p.ran.length a.c2, .slice a.A3 p.dn.length a.c3, .slice a.A4 p.lf.length a.c4, .slice a.A5 p.sm.length a.c5, .slice a.A6 p.vl.length a.c6]) ∧ Hid (Blk wr (q + 1) 28 #[.slice none 0 0, .slice none 0 0, .slice none 0 0, .slice none 0 0, .slice none 0 0, .slice none 0 0, .slice none 0 0]) ∧ Hid (Blk wr q3 28 #[.slice A0 p.js.length c0, ov, .slice A2 p.ran.length c2, .slice A3 p.dn.length c3, .slice A4 p.lf.length c4, .slice A5 p.sm.length c5, .slice A6 p.vl.length c6]) ∧ Hid (Below w.heap.size w wr) ∧ Hid (Rest wr f w.heap.size (.slice A0 p.js.length c0) (.slice A2 p.ran.length c2) (.slice A3 p.dn.length c3) (.slice A4 p.lf.length c4) (.slice A5 p.sm.length c5) (.slice A6 p.vl.length c6) kv p) ∧ Hid (Sl 35 1 wr f 2 w.heap.size ov k rv) ∧ Hid (∀ j, j < k → Sl 3 1 wr f (9 + j * 2) w.heap.size (rv j) (getq p.dq j).length (gI (getq p.dq j))) ∧ Hid ((∀ b, b < w0.heap.size → f b = 0) ∧ f q3 = 0 ∧ w0.heap.size ≤ wr.heap.size)) (fun iv _ => p.dq.length - (intOf iv).toNat)
    case atStart => exact ⟨0, .slice none 0 0, fun _ => .slice none 0 0, f, Nat.zero_le _, rfl, hXA, hRA, hQA, hBA, hSA, hide (Sl.nil _ _ _ _ _ _ _), hide (fun j hj => by omega), hff⟩
    case round =>
      clear hXA hRA hQA hBA hSA hff
      obtain ⟨k, ov, rv, f, hk, rfl, hXr, hRr, hQr, hbw, hSr, hH, hE, hF⟩ := hrel
      by_cases hlt : k < p.dq.length
      · have hlt2 : (k : Int) < p.dq.length := by omega
        obtain ⟨b, off, eA1, hbS, A', c', hcell, hcap, hin0⟩ := (ha.out.below hbw.out hS).rows.at_ hlt
        have hblt : b < wr.heap.size := Nat.lt_of_lt_of_le (hS b hbS) hbw.out.size
        have hck := hide (fun wx (h : Below wr.heap.size wr wx) => (show wx.cell? ⟨b, off + k, none⟩ = some (.slice A' (getq p.dq k).length c') from (h.cell (p := ⟨b, off + k, none⟩) hblt).trans hcell))
        have hin := hide (fun wx (h : Below wr.heap.size wr wx) => hin0.below h (fun b hb => Nat.lt_of_lt_of_le (hS b hb) hbw.out.size))
        have hXx := hide (fun wx (h : Below wr.heap.size wr wx) => hXr.out.below h hXr.out.lt)
        have hRx := hide (fun wx (h : Below wr.heap.size wr wx) => hRr.out.below h hRr.out.lt)
        have hQx := hide (fun wx (h : Below wr.heap.size wr wx) => hQr.out.below h hQr.out.lt)
        obtain ⟨⟨x0, x1, x2, x3, x4, x5, x6⟩, xl⟩ := box7 hXr.out
        replace eA1 := hide eA1
        clear hcell hin0
        go_upto_region 5 with fail
        clear x0 x1 x2 x3 x4 x5 x6 xl
        refine wp_region_facts 12 (by kernel_rfl) (by kernel_rfl) (by kernel_rfl) (fun us => #[.agg #[.slice a.A0 p.js.length a.c0, .slice a.A1 p.dq.length a.c1, .slice a.A2 p.ran.length a.c2, .slice a.A3 p.dn.length a.c3, .slice a.A4 p.lf.length a.c4, .slice a.A5 p.sm.length a.c5, .slice a.A6 p.vl.length a.c6], .pointer (some ⟨q, 0, none⟩), .pointer (some ⟨q + 1, 0, none⟩), .pointer (some ⟨q3, 0, none⟩), .int .i64 (k : Int), y5, y6, y7, y8, y9, y10, y11, y12, y13, y14, y15, y16, y17, y18, y19, y20, y21, y22, y23, y24, y25, y26, y27, .agg #[.slice A0 p.js.length c0, .slice none 0 0, .slice A2 p.ran.length c2, .slice A3 p.dn.length c3, .slice A4 p.lf.length c4, .slice A5 p.sm.length c5, .slice A6 p.vl.length c6], .int .i64 (k : Int), .pointer (some ⟨q, 1, none⟩), .slice a.A1 p.dq.length a.c1, .int .i64 (p.dq.length : Int), .bool true, u34, u35, us 36, us 37, us 38, us 39, us 40, us 41, us 42, us 43, us 44, us 45, us 46, us 47, u48, u49, undef]) (fun j => match j with | 36 => u36 | 37 => u37 | 38 => u38 | 39 => u39 | 40 => u40 | 41 => u41 | 42 => u42 | 43 => u43 | 44 => u44 | 45 => u45 | 46 => u46 | 47 => u47 | _ => undef) (f) rfl (fun i => match i with | 0 => 36 | 1 => 37 | 2 => 38 | 3 => 39 | 4 => 40 | 5 => 41 | 6 => 42 | 7 => 43 | 8 => 44 | 9 => 45 | 10 => 46 | _ => 47) ?_ (fun i v f w' => match i with | 0 => v = .pointer (some ⟨q3, 1, none⟩) | 1 => v = ov | 2 => ∃ qf, v = .slice (some ⟨qf, 0, none⟩) 0 0 ∧ Blk w' qf 3 #[] ∧ f qf = (9 + k * 2) ∧ w.heap.size ≤ qf | 3 => v = .pointer (some ⟨q, 1, none⟩) | 4 => v = .slice a.A1 p.dq.length a.c1 | 5 => v = .int .i64 (k : Int) | 6 => v = .pointer (some ⟨b, off + k, none⟩) | 7 => v = .pointer (some ⟨b, off + k, none⟩) | 8 => v = .slice A' (getq p.dq k).length c' | 9 => Sl 3 1 w' f (9 + k * 2) w.heap.size v (getq p.dq k).length (gI (getq p.dq k)) | 10 => ∃ u, v = .agg #[u] ∧ Sl 3 1 w' f (9 + k * 2) w.heap.size u (getq p.dq k).length (gI (getq p.dq k)) | _ => ∃ qn u, v = .slice (some ⟨qn, 0, none⟩) 1 1 ∧ Blk w' qn 35 #[u] ∧ Sl 3 1 w' f (9 + k * 2) w.heap.size u (getq p.dq k).length (gI (getq p.dq k))) ?_ ?_ ?_
        · decide
        · intro i v f wx f2 wy hi hf hb h
          have hi2 : i = 0 ∨ i = 1 ∨ i = 2 ∨ i = 3 ∨ i = 4 ∨ i = 5 ∨ i = 6 ∨ i = 7 ∨ i = 8 ∨ i = 9 ∨ i = 10 ∨ i = 11 := by omega
          rcases hi2 with rfl | rfl | rfl | rfl | rfl | rfl | rfl | rfl | rfl | rfl | rfl | rfl
          · exact h
          · exact h
          · exact h.elim fun q hq => ⟨q, hq.1, hq.2.1.below hb hq.2.1.lt, (hf q hq.2.1.lt).trans hq.2.2.1, hq.2.2.2⟩
          · exact h
          · exact h
          · exact h
          · exact h
          · exact h
          · exact h
          · exact (h.relab hf).next hb
          · exact h.elim fun u hk2 => ⟨u, hk2.1, (hk2.2.relab hf).next hb⟩
          · exact h.elim fun q h => h.elim fun u hk2 => ⟨q, u, hk2.1, hk2.2.1.below hb hk2.2.1.lt, (hk2.2.2.relab hf).next hb⟩
        · intro i o hi ho us f wx hB hf hdep K hK
          have hi2 : i = 0 ∨ i = 1 ∨ i = 2 ∨ i = 3 ∨ i = 4 ∨ i = 5 ∨ i = 6 ∨ i = 7 ∨ i = 8 ∨ i = 9 ∨ i = 10 ∨ i = 11 := by omega
          rcases hi2 with rfl | rfl | rfl | rfl | rfl | rfl | rfl | rfl | rfl | rfl | rfl | rfl
          · simp only [List.getElem?_toArray, List.getElem?_cons_zero, Option.some.injEq] at ho
            subst ho
            refine step_value (a := ⟨_, []⟩) (w' := wx) (v := ?_) ?_ ?_ ?_
            rotate_left
            · rfl
            · try dsimp only
              skip
              first | (go_simp; done) | (go_simp; with_reducible rfl)
            · exact hK _ f wx (fun _ _ => rfl) (Below.refl _ _) (by rfl)
          · simp only [List.getElem?_toArray, List.getElem?_cons_zero, List.getElem?_cons_succ, Option.some.injEq] at ho
            subst ho
            have e0 : (us 36) = .pointer (some ⟨q3, 1, none⟩) := hdep ⟨0, .data⟩ (by simp) (by rfl)
            have hx := (hQx.out wx hB).cell 1
            simp only [List.getElem?_toArray, List.getElem?_cons_zero, List.getElem?_cons_succ] at hx
            refine step_value (a := ⟨_, []⟩) (w' := wx) (v := ov) ?_ ?_ ?_
            · rfl
            · try dsimp only
              simp only [e0]
              first | (go_simp; done) | (go_simp; with_reducible rfl)
            · exact hK _ f wx (fun _ _ => rfl) (Below.refl _ _) (by rfl)
          · simp only [List.getElem?_toArray, List.getElem?_cons_zero, List.getElem?_cons_succ, Option.some.injEq] at ho
            subst ho
            refine step_value (a := ⟨_, []⟩) (w' := wx.alloc (.cells #[] 3)) (v := .slice (some ⟨wx.heap.size, 0, none⟩) 0 0) ?_ ?_ ?_
            · rfl
            · try dsimp only
              first | (go_simp; done) | (go_simp; with_reducible rfl)
            · exact hK _ (lab f wx.heap.size (9 + k * 2)) _ (fun b hb => lab_old hb) (below1 _ _) ⟨_, rfl, Blk.new wx _ _, lab_at _ _ _, Nat.le_trans hbw.out.size hB.size⟩
          · simp only [List.getElem?_toArray, List.getElem?_cons_zero, List.getElem?_cons_succ, Option.some.injEq] at ho
            subst ho
            refine step_value (a := ⟨_, []⟩) (w' := wx) (v := ?_) ?_ ?_ ?_
            rotate_left
            · rfl
            · try dsimp only
              skip
              first | (go_simp; done) | (go_simp; with_reducible rfl)
            · exact hK _ f wx (fun _ _ => rfl) (Below.refl _ _) (by rfl)
          · simp only [List.getElem?_toArray, List.getElem?_cons_zero, List.getElem?_cons_succ, Option.some.injEq] at ho
            subst ho
            have e3 : (us 39) = .pointer (some ⟨q, 1, none⟩) := hdep ⟨3, .data⟩ (by simp) (by rfl)
            have hx := (hXx.out wx hB).cell 1
            simp only [List.getElem?_toArray, List.getElem?_cons_zero, List.getElem?_cons_succ] at hx
            refine step_value (a := ⟨_, []⟩) (w' := wx) (v := .slice a.A1 p.dq.length a.c1) ?_ ?_ ?_
            · rfl
            · try dsimp only
              simp only [e3]
              first | (go_simp; done) | (go_simp; with_reducible rfl)
            · exact hK _ f wx (fun _ _ => rfl) (Below.refl _ _) (by rfl)
          · simp only [List.getElem?_toArray, List.getElem?_cons_zero, List.getElem?_cons_succ, Option.some.injEq] at ho
            subst ho
            refine step_value (a := ⟨_, []⟩) (w' := wx) (v := ?_) ?_ ?_ ?_
            rotate_left
            · rfl
            · try dsimp only
              skip
              first | (go_simp; done) | (go_simp; with_reducible rfl)
            · exact hK _ f wx (fun _ _ => rfl) (Below.refl _ _) (by rfl)
          · simp only [List.getElem?_toArray, List.getElem?_cons_zero, List.getElem?_cons_succ, Option.some.injEq] at ho
            subst ho
            have e4 : (us 40) = .slice a.A1 p.dq.length a.c1 := hdep ⟨4, .data⟩ (by simp) (by rfl)
            have e5 : (us 41) = .int .i64 (k : Int) := hdep ⟨5, .data⟩ (by simp) (by rfl)
            refine step_value (a := ⟨_, []⟩) (w' := wx) (v := .pointer (some ⟨b, off + k, none⟩)) ?_ ?_ ?_
            · rfl
            · try dsimp only
              simp only [e4, e5, eA1.out]
              first | (go_simp; done) | (go_simp; with_reducible rfl)
            · exact hK _ f wx (fun _ _ => rfl) (Below.refl _ _) (by rfl)
          · simp only [List.getElem?_toArray, List.getElem?_cons_zero, List.getElem?_cons_succ, Option.some.injEq] at ho
            subst ho
            have e6 : (us 42) = .pointer (some ⟨b, off + k, none⟩) := hdep ⟨6, .data⟩ (by simp) (by rfl)
            refine step_value (a := ⟨_, []⟩) (w' := wx) (v := ?_) ?_ ?_ ?_
            rotate_left
            · rfl
            · try dsimp only
              simp only [e6]
              first | (go_simp; done) | (go_simp; with_reducible rfl)
            · exact hK _ f wx (fun _ _ => rfl) (Below.refl _ _) (by rfl)
          · simp only [List.getElem?_toArray, List.getElem?_cons_zero, List.getElem?_cons_succ, Option.some.injEq] at ho
            subst ho
            have e7 : (us 43) = .pointer (some ⟨b, off + k, none⟩) := hdep ⟨7, .data⟩ (by simp) (by rfl)
            have hx := hck.out wx hB
            refine step_value (a := ⟨_, []⟩) (w' := wx) (v := (.slice A' (getq p.dq k).length c')) ?_ ?_ ?_
            · rfl
            · try dsimp only
              simp only [e7]
              first | (go_simp; done) | (go_simp; with_reducible rfl)
            · exact hK _ f wx (fun _ _ => rfl) (Below.refl _ _) (by rfl)
          · simp only [List.getElem?_toArray, List.getElem?_cons_zero, List.getElem?_cons_succ, Option.some.injEq] at ho
            subst ho
            have e2 : ∃ qf, (us 38) = .slice (some ⟨qf, 0, none⟩) 0 0 ∧ Blk wx qf 3 #[] ∧ f qf = (9 + k * 2) ∧ w.heap.size ≤ qf := hdep ⟨2, .data⟩ (by simp) (by rfl)
            have e8 : (us 44) = .slice A' (getq p.dq k).length c' := hdep ⟨8, .data⟩ (by simp) (by rfl)
            obtain ⟨q6, h6, h7, h8, h9⟩ := e2
            obtain ⟨v', w2, f2, hr, hS2, hb2, hf2⟩ := run_append_empty (P := Try.prog) wx 26 26 3 i1 _ 1 8 Try.underlying26 hi1 hy0 hy1 hy2 rfl (by omega) q6 h7 h8 h9 A' (getq p.dq k).length c' (gI (getq p.dq k)) (hin.out wx hB).cells (by have := hn1.out k; have : maxLen = 9223372036854775807 := rfl; omega) (by have := hn1.out k; omega)
            exact step_append (a := ⟨_, []⟩) wx _ _ 26 rfl rfl h6 e8 hr (hK v' f2 w2 hf2 hb2 hS2)
          · simp only [List.getElem?_toArray, List.getElem?_cons_zero, List.getElem?_cons_succ, Option.some.injEq] at ho
            subst ho
            have e9 : Sl 3 1 wx f (9 + k * 2) w.heap.size (us 45) (getq p.dq k).length (gI (getq p.dq k)) := hdep ⟨9, .data⟩ (by simp) (by rfl)
            obtain ⟨Au, cu, hu⟩ := e9.form
            rw [hu] at e9
            refine step_value (a := ⟨_, []⟩) (w' := wx) (v := .agg #[.slice Au (getq p.dq k).length cu]) ?_ ?_ ?_
            · rfl
            · try dsimp only
              simp only [hu]
              first | (go_simp; done) | (go_simp; with_reducible rfl)
            · exact hK _ f wx (fun _ _ => rfl) (Below.refl _ _) ⟨_, rfl, e9⟩
          · simp only [List.getElem?_toArray, List.getElem?_cons_zero, List.getElem?_cons_succ, Option.some.injEq] at ho
            subst ho
            have e10 : ∃ u, (us 46) = .agg #[u] ∧ Sl 3 1 wx f (9 + k * 2) w.heap.size u (getq p.dq k).length (gI (getq p.dq k)) := hdep ⟨10, .data⟩ (by simp) (by rfl)
            obtain ⟨u, hu, hS⟩ := e10
            refine step_value (a := ⟨_, []⟩) (w' := wx.alloc (.cells #[u] 35)) (v := .slice (some ⟨wx.heap.size, 0, none⟩) 1 1) ?_ ?_ ?_
            · rfl
            · try dsimp only
              simp only [hu]
              first | (go_simp; done) | (go_simp; with_reducible rfl)
            · exact hK _ f _ (fun _ _ => rfl) (below1 _ _) ⟨_, u, rfl, Blk.new wx _ _, hS.next (below1 _ _)⟩
        · intro us f wx hB hf F
          have e0 : (us 36) = .pointer (some ⟨q3, 1, none⟩) := F 0 (by omega)
          have e1 : (us 37) = ov := F 1 (by omega)
          have e2 : ∃ qf, (us 38) = .slice (some ⟨qf, 0, none⟩) 0 0 ∧ Blk wx qf 3 #[] ∧ f qf = (9 + k * 2) ∧ w.heap.size ≤ qf := F 2 (by omega)
          have e3 : (us 39) = .pointer (some ⟨q, 1, none⟩) := F 3 (by omega)
          have e4 : (us 40) = .slice a.A1 p.dq.length a.c1 := F 4 (by omega)
          have e5 : (us 41) = .int .i64 (k : Int) := F 5 (by omega)
          have e6 : (us 42) = .pointer (some ⟨b, off + k, none⟩) := F 6 (by omega)
          have e7 : (us 43) = .pointer (some ⟨b, off + k, none⟩) := F 7 (by omega)
          have e8 : (us 44) = .slice A' (getq p.dq k).length c' := F 8 (by omega)
          have e9 : Sl 3 1 wx f (9 + k * 2) w.heap.size (us 45) (getq p.dq k).length (gI (getq p.dq k)) := F 9 (by omega)
          have e10 : ∃ u, (us 46) = .agg #[u] ∧ Sl 3 1 wx f (9 + k * 2) w.heap.size u (getq p.dq k).length (gI (getq p.dq k)) := F 10 (by omega)
          have e11 : ∃ qn u, (us 47) = .slice (some ⟨qn, 0, none⟩) 1 1 ∧ Blk wx qn 35 #[u] ∧ Sl 3 1 wx f (9 + k * 2) w.heap.size u (getq p.dq k).length (gI (getq p.dq k)) := F 11 (by omega)
          clear F
          simp only [List.drop_succ_cons, List.drop_zero]
          generalize us 36 = v36 at *
          generalize us 37 = v37 at *
          generalize us 38 = v38 at *
          generalize us 39 = v39 at *
          generalize us 40 = v40 at *
          generalize us 41 = v41 at *
          generalize us 42 = v42 at *
          generalize us 43 = v43 at *
          generalize us 44 = v44 at *
          generalize us 45 = v45 at *
          generalize us 46 = v46 at *
          generalize us 47 = v47 at *
          subst e0
          subst e1
          obtain ⟨qn, u, h47, hQn, hSu⟩ := e11
          subst h47
          clear e2 e3 e4 e5 e6 e7 e8 e9 e10
          obtain ⟨Au, cu, hu⟩ := hSu.form
          subst hu
          have hHx := (hH.out.relab hf).next hB
          have hEx := fun j hj => ((hE.out j hj).relab hf).next hB
          have hSx := (hSr.out.relab hf).next hB
          have hcs : CellsAt wx (some ⟨qn, 0, none⟩) (1 * 1) (fun _ => .slice Au (getq p.dq k).length cu) := by
            refine ⟨fun j hj => rfl, fun _ => ⟨qn, 0, rfl, fun j hj => ?_⟩⟩
            have h2 : j = 0 := by omega
            subst h2
            simpa using hQn.cell 0
          have hWx : w.heap.size ≤ wx.heap.size := Nat.le_trans hbw.out.size hB.size
          have hbx := (below_then hbw.out hB)
          have hq3f : f q3 = 0 := (hf _ hQr.out.lt).trans hF.out.2.1
          have hfx : ∀ b, b < w0.heap.size → f b = 0 := fun b hb => (hf b (Nat.lt_of_lt_of_le hb hF.out.2.2)).trans (hF.out.1 b hb)
          have hq0 : f q = 0 := hfx q (by have := hs0.out; omega)
          have hq1 : f (q + 1) = 0 := hfx (q + 1) hs0.out
          have hX2 := hXx.out wx hB
          have hR2 := hRx.out wx hB
          have hQ2 := hQx.out wx hB
          have hws : w0.heap.size ≤ wx.heap.size := Nat.le_trans hF.out.2.2 hB.size
          replace hHx := hide hHx
          replace hEx := hide hEx
          replace hSx := hide hSx
          replace hSu := hide hSu
          replace hbx := hide hbx
          replace hfx := hide hfx
          replace hWx := hide hWx
          replace hcs := hide hcs
          replace hX2 := hide hX2
          replace hR2 := hide hR2
          replace hQ2 := hide hQ2
          replace hq0 := hide hq0
          replace hq1 := hide hq1
          replace hq3f := hide hq3f
          replace hws := hide hws
          clear hQn hB hf hH hE hSr hbw hF hck hin hXx hRx hQx hXr hRr hQr
          refine wpList_append_slv _ rfl _ _ _ rfl 35 i2 _ 1 24 Try.underlying24 hi2 hz0 hz1 hz2 rfl (by omega) v37 k rv rfl hHx.out (some ⟨qn, 0, none⟩) 1 1 _ rfl hcs.out (by have := hn.out.2.1; have : maxLen = 9223372036854775807 := rfl; omega) (by have := hn.out.2.1; omega) hWx.out ?_
          intro v2 w2 f2 hv2 hL2 hf2
          have hv3 := hv2.congr (g' := (updV rv k (.slice Au (getq p.dq k).length cu))) (fun j hj => by
            by_cases e : j = k
            · rw [e, updV_at, gThen_hi (by omega)]
            · rw [updV_far e, gThen_lo (by omega)])
          obtain ⟨Av, cv, hv⟩ := hv3.form
          subst hv
          have hkeep : ∀ {n m : Nat} {v : Value} {g : Nat → Value}, m ≠ 2 → m ≠ 0 → Sl 3 1 wx f m w.heap.size v n g → Sl 3 1 w2 f2 m w.heap.size v n g := fun hm _ h => (h.relab hf2).keep (fun b hb _ hl => hL2.block b hl (fun e => hm (by rw [← hb, hf2 b hl]; exact e.1)))
          have hX3 := hL2.blk hX2.out (by rw [hq0.out]; omega)
          have hR3 := hL2.blk hR2.out (by rw [hq1.out]; omega)
          have hQ3b := hL2.blk hQ2.out (by rw [hq3f.out]; omega)
          have hg3 : f2 q3 = 0 := (hf2 _ hQ2.out.lt).trans hq3f.out
          have hS3 : Rest w2 f2 w.heap.size (.slice A0 p.js.length c0) (.slice A2 p.ran.length c2) (.slice A3 p.dn.length c3) (.slice A4 p.lf.length c4) (.slice A5 p.sm.length c5) (.slice A6 p.vl.length c6) kv p := (hSx.out.relab hf2).keep (fun b _ h2 _ _ hl => hL2.block b hl (fun e => h2 (by rw [hf2 b hl]; exact e.1)))
          have z1 := hQ3b.frozen 1
          obtain ⟨⟨r0, r1, r2, r3, r4, r5, r6⟩, rl⟩ := box7 hQ3b
          obtain ⟨wn, hwn⟩ : ∃ wn, wn = w2.setCell ⟨q3, 1, none⟩ (.slice Av (k + 1) cv) := ⟨_, rfl⟩
          have hXn := hide (show Blk wn q 28 #[.slice a.A0 p.js.length a.c0, .slice a.A1 p.dq.length a.c1, .slice a.A2 p.ran.length a.c2, .slice a.A3 p.dn.length a.c3, .slice a.A4 p.lf.length a.c4, .slice a.A5 p.sm.length a.c5, .slice a.A6 p.vl.length a.c6] from by rw [hwn]; exact hX3.far (p := ⟨q3, 1, none⟩) (by show q ≠ q3; omega) _)
          have hRn := hide (show Blk wn (q + 1) 28 #[.slice none 0 0, .slice none 0 0, .slice none 0 0, .slice none 0 0, .slice none 0 0, .slice none 0 0, .slice none 0 0] from by rw [hwn]; exact hR3.far (p := ⟨q3, 1, none⟩) (by show q + 1 ≠ q3; omega) _)
          have hQn := hide (show Blk wn q3 28 #[.slice A0 p.js.length c0, .slice Av (k + 1) cv, .slice A2 p.ran.length c2, .slice A3 p.dn.length c3, .slice A4 p.lf.length c4, .slice A5 p.sm.length c5, .slice A6 p.vl.length c6] from by rw [hwn]; exact hQ3b.set_ 1 _)
          have hSn := hide (show Rest wn f2 w.heap.size (.slice A0 p.js.length c0) (.slice A2 p.ran.length c2) (.slice A3 p.dn.length c3) (.slice A4 p.lf.length c4) (.slice A5 p.sm.length c5) (.slice A6 p.vl.length c6) kv p from by rw [hwn]; exact hS3.set0 (d := ⟨q3, 1, none⟩) hg3 _)
          have hHn := hide (show Sl 35 1 wn f2 2 w.heap.size (.slice Av (k + 1) cv) (k + 1) (updV rv k (.slice Au (getq p.dq k).length cu)) from by rw [hwn]; exact hv3.set0 (by omega) (p := ⟨q3, 1, none⟩) hg3 _)
          have hEn := hide (show ∀ j, j < k + 1 → Sl 3 1 wn f2 (9 + j * 2) w.heap.size ((updV rv k (.slice Au (getq p.dq k).length cu)) j) (getq p.dq j).length (gI (getq p.dq j)) from fun j hj => by
            rw [hwn]
            refine Sl.set0 ?_ (by omega) (p := ⟨q3, 1, none⟩) hg3 _
            by_cases e : j = k
            · subst e
              rw [updV_at]
              exact hkeep (by omega) (by omega) hSu.out
            · rw [updV_far e]
              exact hkeep (by omega) (by omega) (hEx.out j (by omega)))
          have hbn := hide (show Below w.heap.size w wn from by rw [hwn]; exact (hbx.out.trans (hL2.below hWx.out)).setCell (p := ⟨q3, 1, none⟩) hq3w _)
          have hFn := hide (show (∀ b, b < w0.heap.size → f2 b = 0) ∧ f2 q3 = 0 ∧ w0.heap.size ≤ wn.heap.size from ⟨fun b hb => (hf2 b (Nat.lt_of_lt_of_le hb hws.out)).trans (hfx.out b hb), hg3, by rw [hwn]; simpa using Nat.le_trans hws.out hL2.size⟩)
          clear hv2 hv3 hL2 hf2 hkeep hX3 hR3 hQ3b hS3 hHx hEx hSx hSu hbx hfx hcs hWx hX2 hR2 hQ2 hq0 hq1 hq3f hws hg3
          have hdl := hn.out.2.1
          go_wp2_with fail
          rw [← hwn]
          clear hwn z1 r0 r1 r2 r3 r4 r5 r6 rl
          go_roundw
          case rel => exact ⟨k + 1, _, _, f2, by omega, by go_num, hXn, hRn, hQn, hbn, hSn, hHn, hEn, hFn⟩
          case measure => simp [intOf]; omega
      · obtain rfl : k = p.dq.length := by omega
        obtain ⟨⟨x0, x1, x2, x3, x4, x5, x6⟩, xl⟩ := box7 hXr.out
        obtain ⟨⟨y0, y1, y2, y3, y4, y5, y6⟩, yl⟩ := box7 hQr.out
        obtain ⟨⟨r0, r1, r2, r3, r4, r5, r6⟩, rl⟩ := box7 hRr.out
        obtain ⟨z0, z1, z2, z3, z4, z5, z6⟩ := froz7 hRr.out
        obtain ⟨A1, c1, hov⟩ := hH.out.form
        subst hov
        have hrz : f (q + 1) = 0 := hF.out.1 _ hs0.out
        have hEnd := hide (show ∀ W, (∀ b, f b ≠ 0 → W.heap[b]? = wr.heap[b]?) → PoolO W f w.heap.size ⟨.slice A0 p.js.length c0, .slice A1 p.dq.length c1, .slice A2 p.ran.length c2, .slice A3 p.dn.length c3, .slice A4 p.lf.length c4, .slice A5 p.sm.length c5, .slice A6 p.vl.length c6, kv, rv⟩ p from fun W hW =>
          (PoolO.keep (x := ⟨.slice A0 p.js.length c0, .slice A1 p.dq.length c1, .slice A2 p.ran.length c2, .slice A3 p.dn.length c3, .slice A4 p.lf.length c4, .slice A5 p.sm.length c5, .slice A6 p.vl.length c6, kv, rv⟩) ⟨hSr.out.jobs, ⟨hH.out, hE.out⟩, hSr.out.ran, hSr.out.dn, hSr.out.lf, hSr.out.sm, hSr.out.vl⟩ (fun b hb _ _ => hW b hb)))
        go_wp2_with fail
        refine bodyPost_ret (v := .agg #[.slice A0 p.js.length c0, .slice A1 p.dq.length c1, .slice A2 p.ran.length c2, .slice A3 p.dn.length c3, .slice A4 p.lf.length c4, .slice A5 p.sm.length c5, .slice A6 p.vl.length c6]) (by simp [results, Try.results56, go_sem, r0, r1, r2, r3, r4, r5, r6]; done) rfl ?_
        refine ⟨⟨.slice A0 p.js.length c0, .slice A1 p.dq.length c1, .slice A2 p.ran.length c2, .slice A3 p.dn.length c3, .slice A4 p.lf.length c4, .slice A5 p.sm.length c5, .slice A6 p.vl.length c6, kv, rv⟩, f, rfl, hEnd.out _ (fun b hb => ?_), ?_, fun b hb => hF.out.1 b (Nat.lt_of_lt_of_le hb hBw0.out.size)⟩
        · iterate 7 (refine (Below.heap_setCell _ _ _ _ (fun e => hb (by rw [e]; exact hrz))).trans ?_)
          rfl
        · iterate 7 (refine Below.setCell ?_ (by show w.heap.size ≤ q + 1; rw [hq.out]; omega) _)
          exact hbw.out
end Go.Proofs.Ytfnphnjadknoaaa
