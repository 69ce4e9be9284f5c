/- laws' helpers on pools: toPool, markPool, heldPool. -/
import Derived.Test.YtfnphnjadknoaaaMp0
import Derived.Test.YtfnphnjadknoaaaMp8
import Derived.Deep.Cut
namespace Go.Proofs.Ytfnphnjadknoaaa
open Go.RowKit

section
variable {t : TypeId} {sz : Nat} {w w' : World} {f f' : Nat → Nat} {l B n : Nat} {v : Value} {g : Nat → Value} {js : List JobD} {rs : List (List Int)} {kv rv : Nat → Value}
theorem unlab {p : Addr} {u : Value} (hg : f' p.block = 0) {b : Nat} (hb : f' b ≠ 0) : (w'.setCell p u).heap[b]? = w'.heap[b]? := Below.heap_setCell w' p u b (fun e => hb (by rw [e]; exact hg))
theorem Sl.go (h : Sl t sz w f l B v n g) (hl : l ≠ 0) (hb : Below w.heap.size w w') (hf : ∀ b, b < w.heap.size → f' b = f b) {p : Addr} (hg : f' p.block = 0) (u : Value) : Sl t sz (w'.setCell p u) f' l B v n g :=
  ((h.relab hf).next hb).keep (fun _ hfb _ _ => unlab hg (by omega))
theorem JobsO.go (h : JobsO w f B v js kv) (hb : Below w.heap.size w w') (hf : ∀ b, b < w.heap.size → f' b = f b) {p : Addr} (hg : f' p.block = 0) (u : Value) : JobsO (w'.setCell p u) f' B v js kv :=
  ((h.relab hf).next hb).keep (fun _ hfb _ _ => unlab hg (by omega))
theorem RowsO.go (h : RowsO w f B v rs rv) (hb : Below w.heap.size w w') (hf : ∀ b, b < w.heap.size → f' b = f b) {p : Addr} (hg : f' p.block = 0) (u : Value) : RowsO (w'.setCell p u) f' B v rs rv :=
  ((h.relab hf).next hb).keep (fun _ hfb _ _ => unlab hg (by omega))
theorem Sl.set0 (h : Sl t sz w f l B v n g) (hl : l ≠ 0) {p : Addr} (hg : f p.block = 0) (u : Value) : Sl t sz (w.setCell p u) f l B v n g := h.keep (fun _ hfb _ _ => unlab hg (by omega))
theorem JobsO.set0 (h : JobsO w f B v js kv) {p : Addr} (hg : f p.block = 0) (u : Value) : JobsO (w.setCell p u) f B v js kv := h.keep (fun _ hfb _ _ => unlab hg (by omega))
theorem RowsO.set0 (h : RowsO w f B v rs rv) {p : Addr} (hg : f p.block = 0) (u : Value) : RowsO (w.setCell p u) f B v rs rv := h.keep (fun _ hfb _ _ => unlab hg (by omega))
end
theorem toBoolS_sl (l B : Nat) (f0 : Nat → Nat) (A : Option Addr) (zs : List Bool) (c : Nat) (S : Nat → Prop) (w : World) (hn : zs.length ≤ 1048576) (hB : B ≤ w.heap.size) (hS : ∀ b, S b → b < w.heap.size) (ha : BlsAt w S A zs) :
    Calls Try.prog 94 #[.slice A zs.length c] w fun e w' => ∃ v f, e = .returned v ∧ Sl 4 1 w' f l B v zs.length (gB zs) ∧ Below w.heap.size w w' ∧ ∀ b, b < w.heap.size → f b = f0 b :=
  (toBoolS_row A zs c S w hn hS ha).mono fun _ _ h => by
    obtain ⟨rfl, ⟨cs, h1, h2, h3⟩, hb⟩ := h
    exact ⟨_, lab f0 w.heap.size l, rfl, .new h1 (lab_at _ _ _) hB (by omega) (by omega) (fun k hk => h3 k (by omega)), hb, fun b hb2 => lab_old hb2⟩
theorem toIntS_sl (l B : Nat) (f0 : Nat → Nat) (A : Option Addr) (zs : List Int) (c : Nat) (S : Nat → Prop) (w : World) (hn : zs.length ≤ 1048576) (hB : B ≤ w.heap.size) (hS : ∀ b, S b → b < w.heap.size) (ha : IntsAt w S A zs) :
    Calls Try.prog 95 #[.slice A zs.length c] w fun e w' => ∃ v f, e = .returned v ∧ Sl 3 1 w' f l B v zs.length (gI zs) ∧ Below w.heap.size w w' ∧ ∀ b, b < w.heap.size → f b = f0 b :=
  (toIntS_row A zs c S w hn hS ha).mono fun _ _ h => by
    obtain ⟨rfl, h1, hb⟩ := h
    exact ⟨_, lab f0 w.heap.size l, rfl, .of_rowB h1 (lab_at _ _ _) hB (by omega), hb, fun b hb2 => lab_old hb2⟩

set_option maxRecDepth 100000 in
set_option maxHeartbeats 12800000 in
theorem toPool_any (a : PA) (p : PoolD) (S : Nat → Prop) (w : World) (hz : poolSize p ≤ 1048576) (hS : ∀ b, S b → b < w.heap.size) (ha : PoolAt w S a p) :
    Calls Try.prog 45 #[.agg (a.cells p)] w fun e w' => ∃ x f, e = .returned (.agg x.cells) ∧ PoolO w' f w.heap.size x p ∧ Below w.heap.size w w' ∧ ∀ b, b < w.heap.size → f b = 0 := by
  unfold PA.cells
  have hsz : (p.js.length ≤ 1048576 ∧ (∀ k, (getj p.js k).ks.length ≤ 1048576)) ∧ (p.dq.length ≤ 1048576 ∧ ∀ k, (getq p.dq k).length ≤ 1048576) ∧ p.ran.length ≤ 1048576 ∧ p.dn.length ≤ 1048576 ∧ p.lf.length ≤ 1048576 ∧ p.sm.length ≤ 1048576 ∧ p.vl.length ≤ 1048576 := by
    have h1 := fun k => sizeJ_kids (l := p.js) k
    have h2 := fun k => sizeQ_row (rs := p.dq) k
    have h3 : p.js.length ≤ sizeJ p.js := by unfold sizeJ; omega
    have h4 : p.dq.length ≤ sizeQ p.dq := by unfold sizeQ; omega
    unfold poolSize at hz
    exact ⟨⟨by omega, fun k => by have := h1 k; omega⟩, ⟨by omega, fun k => by have := h2 k; omega⟩, by omega, by omega, by omega, by omega, by omega⟩
  obtain ⟨⟨n0, m0⟩, ⟨n1, m1⟩, n2, n3, n4, n5, n6⟩ := hsz
  replace m0 := hide m0
  replace m1 := hide m1
  have hb0 := (below2 w (Obj.cells #[.slice a.A0 p.js.length a.c0, .slice a.A1 p.dq.length a.c1, .slice a.A2 p.ran.length a.c2, .slice a.A3 p.dn.length a.c3, .slice a.A4 p.lf.length a.c4, .slice a.A5 p.sm.length a.c5, .slice a.A6 p.vl.length a.c6] 67) (Obj.cells #[.slice none 0 0, .slice none 0 0, .slice none 0 0, .slice none 0 0, .slice none 0 0, .slice none 0 0, .slice none 0 0] 28)).alloc (by simp; omega) (Obj.cells #[.slice none 0 0, .slice none 0 0, .slice none 0 0, .slice none 0 0, .slice none 0 0, .slice none 0 0, .slice none 0 0] 28)
  have X0 := ((Blk.new w 67 #[.slice a.A0 p.js.length a.c0, .slice a.A1 p.dq.length a.c1, .slice a.A2 p.ran.length a.c2, .slice a.A3 p.dn.length a.c3, .slice a.A4 p.lf.length a.c4, .slice a.A5 p.sm.length a.c5, .slice a.A6 p.vl.length a.c6]).alloc (Obj.cells #[.slice none 0 0, .slice none 0 0, .slice none 0 0, .slice none 0 0, .slice none 0 0, .slice none 0 0, .slice none 0 0] 28)).alloc (Obj.cells #[.slice none 0 0, .slice none 0 0, .slice none 0 0, .slice none 0 0, .slice none 0 0, .slice none 0 0, .slice none 0 0] 28)
  have R0 := (Blk.new (w.alloc (Obj.cells #[.slice a.A0 p.js.length a.c0, .slice a.A1 p.dq.length a.c1, .slice a.A2 p.ran.length a.c2, .slice a.A3 p.dn.length a.c3, .slice a.A4 p.lf.length a.c4, .slice a.A5 p.sm.length a.c5, .slice a.A6 p.vl.length a.c6] 67)) 28 #[.slice none 0 0, .slice none 0 0, .slice none 0 0, .slice none 0 0, .slice none 0 0, .slice none 0 0, .slice none 0 0]).alloc (Obj.cells #[.slice none 0 0, .slice none 0 0, .slice none 0 0, .slice none 0 0, .slice none 0 0, .slice none 0 0, .slice none 0 0] 28)
  have O0 := Blk.new ((w.alloc (Obj.cells #[.slice a.A0 p.js.length a.c0, .slice a.A1 p.dq.length a.c1, .slice a.A2 p.ran.length a.c2, .slice a.A3 p.dn.length a.c3, .slice a.A4 p.lf.length a.c4, .slice a.A5 p.sm.length a.c5, .slice a.A6 p.vl.length a.c6] 67)).alloc (Obj.cells #[.slice none 0 0, .slice none 0 0, .slice none 0 0, .slice none 0 0, .slice none 0 0, .slice none 0 0, .slice none 0 0] 28)) 28 #[.slice none 0 0, .slice none 0 0, .slice none 0 0, .slice none 0 0, .slice none 0 0, .slice none 0 0, .slice none 0 0]
  simp only [World.size_alloc] at R0 O0
  obtain ⟨w0, hw0⟩ : ∃ w0, w0 = ((w.alloc (Obj.cells #[.slice a.A0 p.js.length a.c0, .slice a.A1 p.dq.length a.c1, .slice a.A2 p.ran.length a.c2, .slice a.A3 p.dn.length a.c3, .slice a.A4 p.lf.length a.c4, .slice a.A5 p.sm.length a.c5, .slice a.A6 p.vl.length a.c6] 67)).alloc (Obj.cells #[.slice none 0 0, .slice none 0 0, .slice none 0 0, .slice none 0 0, .slice none 0 0, .slice none 0 0, .slice none 0 0] 28)).alloc (Obj.cells #[.slice none 0 0, .slice none 0 0, .slice none 0 0, .slice none 0 0, .slice none 0 0, .slice none 0 0, .slice none 0 0] 28) := ⟨_, rfl⟩
  rw [← hw0] at hb0 X0 R0 O0
  obtain ⟨q, hq⟩ : ∃ q, q = w.heap.size := ⟨_, rfl⟩
  rw [← hq] at X0 R0 O0
  have l0 := hide (show q + 2 < w0.heap.size from O0.lt)
  replace X0 := hide X0
  replace R0 := hide R0
  replace O0 := hide O0
  have H0 := hide (ha.below hb0 hS)
  have B0 := hide hb0
  obtain ⟨f0, hf0⟩ : ∃ f0 : Nat → Nat, ∀ b, f0 b = 0 := ⟨fun _ => 0, fun _ => rfl⟩
  have F0 := hide (show ∀ b, b < q + 3 → f0 b = 0 from fun b _ => hf0 b)
  clear hf0
  clear ha hb0 hz
  go_enter Try.func45, Try.ntmps45
  go_upto_region 2 with fail
  rw [← hw0, ← hq]
  clear hw0
  replace hq := hide hq
  obtain ⟨⟨x0, x1, x2, x3, x4, x5, x6⟩, xl⟩ := box7 X0.out
  have kc := hide (toJobS_any f0 a.A0 p.js a.c0 S _ n0 m0.out (fun b h => Nat.lt_of_lt_of_le (hS b h) B0.out.size) H0.out.jobs)
  go_upto_region 3 with (go_at_call 36; refine kc.out.mono ?_; rintro e w1 ⟨v, f1, kv, rfl, hO, hb, hf⟩; obtain ⟨V0, d0, hv⟩ := hO.form; subst hv; have ol := (O0.out.below hb O0.out.lt).lt; have oc := (O0.out.below hb O0.out.lt).cell 0; have oz := (O0.out.below hb O0.out.lt).frozen 0; simp only [List.getElem?_toArray, List.getElem?_cons_zero] at oc)
  have e0 : f1 (q + 2) = 0 := (hf _ l0.out).trans (F0.out _ (by omega))
  have hlq := hq.out
  have P0 := hide ((hO.base B0.out.size).set0 (p := ⟨q + 2, 0, none⟩) e0 (.slice V0 p.js.length d0))
  have X1 := hide ((X0.out.below hb X0.out.lt).far (p := ⟨q + 2, 0, none⟩) (by show q ≠ q + 2; omega) (.slice V0 p.js.length d0))
  have R1 := hide ((R0.out.below hb R0.out.lt).far (p := ⟨q + 2, 0, none⟩) (by show q + 1 ≠ q + 2; omega) (.slice V0 p.js.length d0))
  have O1 := hide (show Blk (w1.setCell ⟨q + 2, 0, none⟩ (.slice V0 p.js.length d0)) (q + 2) 28 #[.slice V0 p.js.length d0, .slice none 0 0, .slice none 0 0, .slice none 0 0, .slice none 0 0, .slice none 0 0, .slice none 0 0] from (O0.out.below hb O0.out.lt).set_ 0 (.slice V0 p.js.length d0))
  have B1 := hide ((below_next B0.out hb B0.out.size).setCell (p := ⟨q + 2, 0, none⟩) (by show w.heap.size ≤ q + 2; omega) (.slice V0 p.js.length d0))
  have H1 := hide ((H0.out.below hb (fun b h => Nat.lt_of_lt_of_le (hS b h) B0.out.size)).below (Below.setCell (p := ⟨q + 2, 0, none⟩) (Below.refl w.heap.size w1) (by show w.heap.size ≤ q + 2; omega) (.slice V0 p.js.length d0)) hS)
  have F1 := hide (show ∀ b, b < q + 3 → f1 b = 0 from fun b hb2 => (hf b (by have := l0.out; omega)).trans (F0.out b hb2))
  have l1 := hide (show q + 2 < (w1.setCell ⟨q + 2, 0, none⟩ (.slice V0 p.js.length d0)).heap.size from O1.out.lt)
  clear X0 R0 O0 B0 H0 F0 l0 hb hf hO kc x0 x1 x2 x3 x4 x5 x6 xl ol oc oz e0 hlq
  generalize w1.setCell ⟨q + 2, 0, none⟩ (.slice V0 p.js.length d0) = y1 at *
  obtain ⟨⟨x0, x1, x2, x3, x4, x5, x6⟩, xl⟩ := box7 X1.out
  have kc := hide (toRowS_any f1 a.A1 p.dq a.c1 S _ n1 m1.out (fun b h => Nat.lt_of_lt_of_le (hS b h) B1.out.size) H1.out.rows)
  go_upto_region 4 with (go_at_call 93; refine kc.out.mono ?_; rintro e w2 ⟨v, f2, rv, rfl, hO, hb, hf⟩; obtain ⟨V1, d1, hv⟩ := hO.heads.form; subst hv; have ol := (O1.out.below hb O1.out.lt).lt; have oc := (O1.out.below hb O1.out.lt).cell 1; have oz := (O1.out.below hb O1.out.lt).frozen 1; simp only [List.getElem?_toArray, List.getElem?_cons_zero, List.getElem?_cons_succ] at oc)
  have e0 : f2 (q + 2) = 0 := (hf _ l1.out).trans (F1.out _ (by omega))
  have hlq := hq.out
  have P0 := hide (P0.out.go hb hf (p := ⟨q + 2, 1, none⟩) e0 (.slice V1 p.dq.length d1))
  have P1 := hide ((hO.base B1.out.size).set0 (p := ⟨q + 2, 1, none⟩) e0 (.slice V1 p.dq.length d1))
  have X2 := hide ((X1.out.below hb X1.out.lt).far (p := ⟨q + 2, 1, none⟩) (by show q ≠ q + 2; omega) (.slice V1 p.dq.length d1))
  have R2 := hide ((R1.out.below hb R1.out.lt).far (p := ⟨q + 2, 1, none⟩) (by show q + 1 ≠ q + 2; omega) (.slice V1 p.dq.length d1))
  have O2 := hide (show Blk (w2.setCell ⟨q + 2, 1, none⟩ (.slice V1 p.dq.length d1)) (q + 2) 28 #[.slice V0 p.js.length d0, .slice V1 p.dq.length d1, .slice none 0 0, .slice none 0 0, .slice none 0 0, .slice none 0 0, .slice none 0 0] from (O1.out.below hb O1.out.lt).set_ 1 (.slice V1 p.dq.length d1))
  have B2 := hide ((below_next B1.out hb B1.out.size).setCell (p := ⟨q + 2, 1, none⟩) (by show w.heap.size ≤ q + 2; omega) (.slice V1 p.dq.length d1))
  have H2 := hide ((H1.out.below hb (fun b h => Nat.lt_of_lt_of_le (hS b h) B1.out.size)).below (Below.setCell (p := ⟨q + 2, 1, none⟩) (Below.refl w.heap.size w2) (by show w.heap.size ≤ q + 2; omega) (.slice V1 p.dq.length d1)) hS)
  have F2 := hide (show ∀ b, b < q + 3 → f2 b = 0 from fun b hb2 => (hf b (by have := l1.out; omega)).trans (F1.out b hb2))
  have l2 := hide (show q + 2 < (w2.setCell ⟨q + 2, 1, none⟩ (.slice V1 p.dq.length d1)).heap.size from O2.out.lt)
  clear X1 R1 O1 B1 H1 F1 l1 hb hf hO kc x0 x1 x2 x3 x4 x5 x6 xl ol oc oz e0 hlq
  generalize w2.setCell ⟨q + 2, 1, none⟩ (.slice V1 p.dq.length d1) = y2 at *
  obtain ⟨⟨x0, x1, x2, x3, x4, x5, x6⟩, xl⟩ := box7 X2.out
  have kc := hide (toBoolS_sl 3 w.heap.size f2 a.A2 p.ran a.c2 S _ n2 B2.out.size (fun b h => Nat.lt_of_lt_of_le (hS b h) B2.out.size) H2.out.ran)
  go_upto_region 5 with (go_at_call 94; refine kc.out.mono ?_; rintro e w3 ⟨v, f3, rfl, hO, hb, hf⟩; obtain ⟨V2, d2, hv⟩ := hO.form; subst hv; have ol := (O2.out.below hb O2.out.lt).lt; have oc := (O2.out.below hb O2.out.lt).cell 2; have oz := (O2.out.below hb O2.out.lt).frozen 2; simp only [List.getElem?_toArray, List.getElem?_cons_zero, List.getElem?_cons_succ] at oc)
  have e0 : f3 (q + 2) = 0 := (hf _ l2.out).trans (F2.out _ (by omega))
  have hlq := hq.out
  have P0 := hide (P0.out.go hb hf (p := ⟨q + 2, 2, none⟩) e0 (.slice V2 p.ran.length d2))
  have P1 := hide (P1.out.go hb hf (p := ⟨q + 2, 2, none⟩) e0 (.slice V2 p.ran.length d2))
  have P2 := hide ((hO).set0 (by omega) (p := ⟨q + 2, 2, none⟩) e0 (.slice V2 p.ran.length d2))
  have X3 := hide ((X2.out.below hb X2.out.lt).far (p := ⟨q + 2, 2, none⟩) (by show q ≠ q + 2; omega) (.slice V2 p.ran.length d2))
  have R3 := hide ((R2.out.below hb R2.out.lt).far (p := ⟨q + 2, 2, none⟩) (by show q + 1 ≠ q + 2; omega) (.slice V2 p.ran.length d2))
  have O3 := hide (show Blk (w3.setCell ⟨q + 2, 2, none⟩ (.slice V2 p.ran.length d2)) (q + 2) 28 #[.slice V0 p.js.length d0, .slice V1 p.dq.length d1, .slice V2 p.ran.length d2, .slice none 0 0, .slice none 0 0, .slice none 0 0, .slice none 0 0] from (O2.out.below hb O2.out.lt).set_ 2 (.slice V2 p.ran.length d2))
  have B3 := hide ((below_next B2.out hb B2.out.size).setCell (p := ⟨q + 2, 2, none⟩) (by show w.heap.size ≤ q + 2; omega) (.slice V2 p.ran.length d2))
  have H3 := hide ((H2.out.below hb (fun b h => Nat.lt_of_lt_of_le (hS b h) B2.out.size)).below (Below.setCell (p := ⟨q + 2, 2, none⟩) (Below.refl w.heap.size w3) (by show w.heap.size ≤ q + 2; omega) (.slice V2 p.ran.length d2)) hS)
  have F3 := hide (show ∀ b, b < q + 3 → f3 b = 0 from fun b hb2 => (hf b (by have := l2.out; omega)).trans (F2.out b hb2))
  have l3 := hide (show q + 2 < (w3.setCell ⟨q + 2, 2, none⟩ (.slice V2 p.ran.length d2)).heap.size from O3.out.lt)
  clear X2 R2 O2 B2 H2 F2 l2 hb hf hO kc x0 x1 x2 x3 x4 x5 x6 xl ol oc oz e0 hlq
  generalize w3.setCell ⟨q + 2, 2, none⟩ (.slice V2 p.ran.length d2) = y3 at *
  obtain ⟨⟨x0, x1, x2, x3, x4, x5, x6⟩, xl⟩ := box7 X3.out
  have kc := hide (toBoolS_sl 4 w.heap.size f3 a.A3 p.dn a.c3 S _ n3 B3.out.size (fun b h => Nat.lt_of_lt_of_le (hS b h) B3.out.size) H3.out.dn)
  go_upto_region 6 with (go_at_call 94; refine kc.out.mono ?_; rintro e w4 ⟨v, f4, rfl, hO, hb, hf⟩; obtain ⟨V3, d3, hv⟩ := hO.form; subst hv; have ol := (O3.out.below hb O3.out.lt).lt; have oc := (O3.out.below hb O3.out.lt).cell 3; have oz := (O3.out.below hb O3.out.lt).frozen 3; simp only [List.getElem?_toArray, List.getElem?_cons_zero, List.getElem?_cons_succ] at oc)
  have e0 : f4 (q + 2) = 0 := (hf _ l3.out).trans (F3.out _ (by omega))
  have hlq := hq.out
  have P0 := hide (P0.out.go hb hf (p := ⟨q + 2, 3, none⟩) e0 (.slice V3 p.dn.length d3))
  have P1 := hide (P1.out.go hb hf (p := ⟨q + 2, 3, none⟩) e0 (.slice V3 p.dn.length d3))
  have P2 := hide (P2.out.go (by omega) hb hf (p := ⟨q + 2, 3, none⟩) e0 (.slice V3 p.dn.length d3))
  have P3 := hide ((hO).set0 (by omega) (p := ⟨q + 2, 3, none⟩) e0 (.slice V3 p.dn.length d3))
  have X4 := hide ((X3.out.below hb X3.out.lt).far (p := ⟨q + 2, 3, none⟩) (by show q ≠ q + 2; omega) (.slice V3 p.dn.length d3))
  have R4 := hide ((R3.out.below hb R3.out.lt).far (p := ⟨q + 2, 3, none⟩) (by show q + 1 ≠ q + 2; omega) (.slice V3 p.dn.length d3))
  have O4 := hide (show Blk (w4.setCell ⟨q + 2, 3, none⟩ (.slice V3 p.dn.length d3)) (q + 2) 28 #[.slice V0 p.js.length d0, .slice V1 p.dq.length d1, .slice V2 p.ran.length d2, .slice V3 p.dn.length d3, .slice none 0 0, .slice none 0 0, .slice none 0 0] from (O3.out.below hb O3.out.lt).set_ 3 (.slice V3 p.dn.length d3))
  have B4 := hide ((below_next B3.out hb B3.out.size).setCell (p := ⟨q + 2, 3, none⟩) (by show w.heap.size ≤ q + 2; omega) (.slice V3 p.dn.length d3))
  have H4 := hide ((H3.out.below hb (fun b h => Nat.lt_of_lt_of_le (hS b h) B3.out.size)).below (Below.setCell (p := ⟨q + 2, 3, none⟩) (Below.refl w.heap.size w4) (by show w.heap.size ≤ q + 2; omega) (.slice V3 p.dn.length d3)) hS)
  have F4 := hide (show ∀ b, b < q + 3 → f4 b = 0 from fun b hb2 => (hf b (by have := l3.out; omega)).trans (F3.out b hb2))
  have l4 := hide (show q + 2 < (w4.setCell ⟨q + 2, 3, none⟩ (.slice V3 p.dn.length d3)).heap.size from O4.out.lt)
  clear X3 R3 O3 B3 H3 F3 l3 hb hf hO kc x0 x1 x2 x3 x4 x5 x6 xl ol oc oz e0 hlq
  generalize w4.setCell ⟨q + 2, 3, none⟩ (.slice V3 p.dn.length d3) = y4 at *
  obtain ⟨⟨x0, x1, x2, x3, x4, x5, x6⟩, xl⟩ := box7 X4.out
  have kc := hide (toIntS_sl 5 w.heap.size f4 a.A4 p.lf a.c4 S _ n4 B4.out.size (fun b h => Nat.lt_of_lt_of_le (hS b h) B4.out.size) H4.out.lf)
  go_upto_region 7 with (go_at_call 95; refine kc.out.mono ?_; rintro e w5 ⟨v, f5, rfl, hO, hb, hf⟩; obtain ⟨V4, d4, hv⟩ := hO.form; subst hv; have ol := (O4.out.below hb O4.out.lt).lt; have oc := (O4.out.below hb O4.out.lt).cell 4; have oz := (O4.out.below hb O4.out.lt).frozen 4; simp only [List.getElem?_toArray, List.getElem?_cons_zero, List.getElem?_cons_succ] at oc)
  have e0 : f5 (q + 2) = 0 := (hf _ l4.out).trans (F4.out _ (by omega))
  have hlq := hq.out
  have P0 := hide (P0.out.go hb hf (p := ⟨q + 2, 4, none⟩) e0 (.slice V4 p.lf.length d4))
  have P1 := hide (P1.out.go hb hf (p := ⟨q + 2, 4, none⟩) e0 (.slice V4 p.lf.length d4))
  have P2 := hide (P2.out.go (by omega) hb hf (p := ⟨q + 2, 4, none⟩) e0 (.slice V4 p.lf.length d4))
  have P3 := hide (P3.out.go (by omega) hb hf (p := ⟨q + 2, 4, none⟩) e0 (.slice V4 p.lf.length d4))
  have P4 := hide ((hO).set0 (by omega) (p := ⟨q + 2, 4, none⟩) e0 (.slice V4 p.lf.length d4))
  have X5 := hide ((X4.out.below hb X4.out.lt).far (p := ⟨q + 2, 4, none⟩) (by show q ≠ q + 2; omega) (.slice V4 p.lf.length d4))
  have R5 := hide ((R4.out.below hb R4.out.lt).far (p := ⟨q + 2, 4, none⟩) (by show q + 1 ≠ q + 2; omega) (.slice V4 p.lf.length d4))
  have O5 := hide (show Blk (w5.setCell ⟨q + 2, 4, none⟩ (.slice V4 p.lf.length d4)) (q + 2) 28 #[.slice V0 p.js.length d0, .slice V1 p.dq.length d1, .slice V2 p.ran.length d2, .slice V3 p.dn.length d3, .slice V4 p.lf.length d4, .slice none 0 0, .slice none 0 0] from (O4.out.below hb O4.out.lt).set_ 4 (.slice V4 p.lf.length d4))
  have B5 := hide ((below_next B4.out hb B4.out.size).setCell (p := ⟨q + 2, 4, none⟩) (by show w.heap.size ≤ q + 2; omega) (.slice V4 p.lf.length d4))
  have H5 := hide ((H4.out.below hb (fun b h => Nat.lt_of_lt_of_le (hS b h) B4.out.size)).below (Below.setCell (p := ⟨q + 2, 4, none⟩) (Below.refl w.heap.size w5) (by show w.heap.size ≤ q + 2; omega) (.slice V4 p.lf.length d4)) hS)
  have F5 := hide (show ∀ b, b < q + 3 → f5 b = 0 from fun b hb2 => (hf b (by have := l4.out; omega)).trans (F4.out b hb2))
  have l5 := hide (show q + 2 < (w5.setCell ⟨q + 2, 4, none⟩ (.slice V4 p.lf.length d4)).heap.size from O5.out.lt)
  clear X4 R4 O4 B4 H4 F4 l4 hb hf hO kc x0 x1 x2 x3 x4 x5 x6 xl ol oc oz e0 hlq
  generalize w5.setCell ⟨q + 2, 4, none⟩ (.slice V4 p.lf.length d4) = y5 at *
  obtain ⟨⟨x0, x1, x2, x3, x4, x5, x6⟩, xl⟩ := box7 X5.out
  have kc := hide (toIntS_sl 6 w.heap.size f5 a.A5 p.sm a.c5 S _ n5 B5.out.size (fun b h => Nat.lt_of_lt_of_le (hS b h) B5.out.size) H5.out.sm)
  go_upto_region 8 with (go_at_call 95; refine kc.out.mono ?_; rintro e w6 ⟨v, f6, rfl, hO, hb, hf⟩; obtain ⟨V5, d5, hv⟩ := hO.form; subst hv; have ol := (O5.out.below hb O5.out.lt).lt; have oc := (O5.out.below hb O5.out.lt).cell 5; have oz := (O5.out.below hb O5.out.lt).frozen 5; simp only [List.getElem?_toArray, List.getElem?_cons_zero, List.getElem?_cons_succ] at oc)
  have e0 : f6 (q + 2) = 0 := (hf _ l5.out).trans (F5.out _ (by omega))
  have hlq := hq.out
  have P0 := hide (P0.out.go hb hf (p := ⟨q + 2, 5, none⟩) e0 (.slice V5 p.sm.length d5))
  have P1 := hide (P1.out.go hb hf (p := ⟨q + 2, 5, none⟩) e0 (.slice V5 p.sm.length d5))
  have P2 := hide (P2.out.go (by omega) hb hf (p := ⟨q + 2, 5, none⟩) e0 (.slice V5 p.sm.length d5))
  have P3 := hide (P3.out.go (by omega) hb hf (p := ⟨q + 2, 5, none⟩) e0 (.slice V5 p.sm.length d5))
  have P4 := hide (P4.out.go (by omega) hb hf (p := ⟨q + 2, 5, none⟩) e0 (.slice V5 p.sm.length d5))
  have P5 := hide ((hO).set0 (by omega) (p := ⟨q + 2, 5, none⟩) e0 (.slice V5 p.sm.length d5))
  have X6 := hide ((X5.out.below hb X5.out.lt).far (p := ⟨q + 2, 5, none⟩) (by show q ≠ q + 2; omega) (.slice V5 p.sm.length d5))
  have R6 := hide ((R5.out.below hb R5.out.lt).far (p := ⟨q + 2, 5, none⟩) (by show q + 1 ≠ q + 2; omega) (.slice V5 p.sm.length d5))
  have O6 := hide (show Blk (w6.setCell ⟨q + 2, 5, none⟩ (.slice V5 p.sm.length d5)) (q + 2) 28 #[.slice V0 p.js.length d0, .slice V1 p.dq.length d1, .slice V2 p.ran.length d2, .slice V3 p.dn.length d3, .slice V4 p.lf.length d4, .slice V5 p.sm.length d5, .slice none 0 0] from (O5.out.below hb O5.out.lt).set_ 5 (.slice V5 p.sm.length d5))
  have B6 := hide ((below_next B5.out hb B5.out.size).setCell (p := ⟨q + 2, 5, none⟩) (by show w.heap.size ≤ q + 2; omega) (.slice V5 p.sm.length d5))
  have H6 := hide ((H5.out.below hb (fun b h => Nat.lt_of_lt_of_le (hS b h) B5.out.size)).below (Below.setCell (p := ⟨q + 2, 5, none⟩) (Below.refl w.heap.size w6) (by show w.heap.size ≤ q + 2; omega) (.slice V5 p.sm.length d5)) hS)
  have F6 := hide (show ∀ b, b < q + 3 → f6 b = 0 from fun b hb2 => (hf b (by have := l5.out; omega)).trans (F5.out b hb2))
  have l6 := hide (show q + 2 < (w6.setCell ⟨q + 2, 5, none⟩ (.slice V5 p.sm.length d5)).heap.size from O6.out.lt)
  clear X5 R5 O5 B5 H5 F5 l5 hb hf hO kc x0 x1 x2 x3 x4 x5 x6 xl ol oc oz e0 hlq
  generalize w6.setCell ⟨q + 2, 5, none⟩ (.slice V5 p.sm.length d5) = y6 at *
  obtain ⟨⟨x0, x1, x2, x3, x4, x5, x6⟩, xl⟩ := box7 X6.out
  have kc := hide (toIntS_sl 7 w.heap.size f6 a.A6 p.vl a.c6 S _ n6 B6.out.size (fun b h => Nat.lt_of_lt_of_le (hS b h) B6.out.size) H6.out.vl)
  go_upto_region 9 with (go_at_call 95; refine kc.out.mono ?_; rintro e w7 ⟨v, f7, rfl, hO, hb, hf⟩; obtain ⟨V6, d6, hv⟩ := hO.form; subst hv; have ol := (O6.out.below hb O6.out.lt).lt; have oc := (O6.out.below hb O6.out.lt).cell 6; have oz := (O6.out.below hb O6.out.lt).frozen 6; simp only [List.getElem?_toArray, List.getElem?_cons_zero, List.getElem?_cons_succ] at oc)
  have e0 : f7 (q + 2) = 0 := (hf _ l6.out).trans (F6.out _ (by omega))
  have hlq := hq.out
  have P0 := hide (P0.out.go hb hf (p := ⟨q + 2, 6, none⟩) e0 (.slice V6 p.vl.length d6))
  have P1 := hide (P1.out.go hb hf (p := ⟨q + 2, 6, none⟩) e0 (.slice V6 p.vl.length d6))
  have P2 := hide (P2.out.go (by omega) hb hf (p := ⟨q + 2, 6, none⟩) e0 (.slice V6 p.vl.length d6))
  have P3 := hide (P3.out.go (by omega) hb hf (p := ⟨q + 2, 6, none⟩) e0 (.slice V6 p.vl.length d6))
  have P4 := hide (P4.out.go (by omega) hb hf (p := ⟨q + 2, 6, none⟩) e0 (.slice V6 p.vl.length d6))
  have P5 := hide (P5.out.go (by omega) hb hf (p := ⟨q + 2, 6, none⟩) e0 (.slice V6 p.vl.length d6))
  have P6 := hide ((hO).set0 (by omega) (p := ⟨q + 2, 6, none⟩) e0 (.slice V6 p.vl.length d6))
  have X7 := hide ((X6.out.below hb X6.out.lt).far (p := ⟨q + 2, 6, none⟩) (by show q ≠ q + 2; omega) (.slice V6 p.vl.length d6))
  have R7 := hide ((R6.out.below hb R6.out.lt).far (p := ⟨q + 2, 6, none⟩) (by show q + 1 ≠ q + 2; omega) (.slice V6 p.vl.length d6))
  have O7 := hide (show Blk (w7.setCell ⟨q + 2, 6, none⟩ (.slice V6 p.vl.length d6)) (q + 2) 28 #[.slice V0 p.js.length d0, .slice V1 p.dq.length d1, .slice V2 p.ran.length d2, .slice V3 p.dn.length d3, .slice V4 p.lf.length d4, .slice V5 p.sm.length d5, .slice V6 p.vl.length d6] from (O6.out.below hb O6.out.lt).set_ 6 (.slice V6 p.vl.length d6))
  have B7 := hide ((below_next B6.out hb B6.out.size).setCell (p := ⟨q + 2, 6, none⟩) (by show w.heap.size ≤ q + 2; omega) (.slice V6 p.vl.length d6))
  have H7 := hide ((H6.out.below hb (fun b h => Nat.lt_of_lt_of_le (hS b h) B6.out.size)).below (Below.setCell (p := ⟨q + 2, 6, none⟩) (Below.refl w.heap.size w7) (by show w.heap.size ≤ q + 2; omega) (.slice V6 p.vl.length d6)) hS)
  have F7 := hide (show ∀ b, b < q + 3 → f7 b = 0 from fun b hb2 => (hf b (by have := l6.out; omega)).trans (F6.out b hb2))
  have l7 := hide (show q + 2 < (w7.setCell ⟨q + 2, 6, none⟩ (.slice V6 p.vl.length d6)).heap.size from O7.out.lt)
  clear X6 R6 O6 B6 H6 F6 l6 hb hf hO kc x0 x1 x2 x3 x4 x5 x6 xl ol oc oz e0 hlq
  generalize w7.setCell ⟨q + 2, 6, none⟩ (.slice V6 p.vl.length d6) = y7 at *
  obtain ⟨⟨x0, x1, x2, x3, x4, x5, x6⟩, xl⟩ := box7 O7.out
  obtain ⟨⟨r0, r1, r2, r3, r4, r5, r6⟩, rl⟩ := box7 R7.out
  obtain ⟨z0, z1, z2, z3, z4, z5, z6⟩ := froz7 R7.out
  have hEnd := hide (show ∀ W, (∀ b, f7 b ≠ 0 → W.heap[b]? = y7.heap[b]?) → PoolO W f7 w.heap.size ⟨.slice V0 p.js.length d0, .slice V1 p.dq.length d1, .slice V2 p.ran.length d2, .slice V3 p.dn.length d3, .slice V4 p.lf.length d4, .slice V5 p.sm.length d5, .slice V6 p.vl.length d6, kv, rv⟩ p from fun W hW =>
    (PoolO.keep (x := ⟨.slice V0 p.js.length d0, .slice V1 p.dq.length d1, .slice V2 p.ran.length d2, .slice V3 p.dn.length d3, .slice V4 p.lf.length d4, .slice V5 p.sm.length d5, .slice V6 p.vl.length d6, kv, rv⟩) ⟨P0.out, P1.out, P2.out, P3.out, P4.out, P5.out, P6.out⟩ (fun b hb _ _ => hW b hb)))
  clear P0 P1 P2 P3 P4 P5 P6 X7
  go_wp2_with fail
  refine bodyPost_ret (v := .agg #[.slice V0 p.js.length d0, .slice V1 p.dq.length d1, .slice V2 p.ran.length d2, .slice V3 p.dn.length d3, .slice V4 p.lf.length d4, .slice V5 p.sm.length d5, .slice V6 p.vl.length d6]) (by simp [results, Try.results45, go_sem, r0, r1, r2, r3, r4, r5, r6]; done) rfl ?_
  have hlq := hq.out
  have e1 : f7 (q + 1) = 0 := F7.out _ (by omega)
  refine ⟨_, f7, rfl, hEnd.out _ (fun b hb => ?_), ?_, fun b hb => F7.out b (by omega)⟩
  · iterate 7 (refine (Below.heap_setCell _ _ _ _ (fun e => hb (by rw [e]; exact e1))).trans ?_)
    rfl
  · iterate 7 (refine Below.setCell ?_ (by show w.heap.size ≤ q + 1; omega) _)
    exact B7.out
end Go.Proofs.Ytfnphnjadknoaaa
