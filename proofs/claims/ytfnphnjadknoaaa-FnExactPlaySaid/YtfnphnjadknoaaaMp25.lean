/- The program's copies of a row of jobs, of a row of rows. -/
import Derived.Test.YtfnphnjadknoaaaMp0
import Derived.Test.YtfnphnjadknoaaaMp10
import Derived.Test.YtfnphnjadknoaaaMp24
import Derived.Deep.Cut
namespace Go.Proofs.Ytfnphnjadknoaaa
open Go.RowKit

set_option maxRecDepth 100000 in
set_option maxHeartbeats 1600000 in
theorem rowCopied_any (l B : Nat) (hl : l ≠ 0) (f0 : Nat → Nat) (A : Option Addr) (n c : Nat) (g : Nat → Value) (w : World) (hn : n ≤ 1048576) (hB : B ≤ w.heap.size) (ha : CellsAt w A (n * 1) g) :
    Calls Try.prog 147 #[.agg #[.slice A n c]] w fun e w' => ∃ v f, e = .returned (.agg #[v]) ∧ Sl 3 1 w' f l B v n g ∧ Below w.heap.size w w' ∧ ∀ b, b < w.heap.size → f b = f0 b := by
  have hb0 := below2 w (Obj.cells #[.slice A n c] 35) (Obj.cells #[.slice none 0 0] 35)
  have X0 := (Blk.new w 35 #[.slice A n c]).alloc (Obj.cells #[.slice none 0 0] 35)
  have R0 := Blk.new (w.alloc (Obj.cells #[.slice A n c] 35)) 35 #[.slice none 0 0]
  simp only [World.size_alloc] at R0
  obtain ⟨w0, hw0⟩ : ∃ w0, w0 = (w.alloc (Obj.cells #[.slice A n c] 35)).alloc (Obj.cells #[.slice none 0 0] 35) := ⟨_, rfl⟩
  have hs0 : w0.heap.size = w.heap.size + 1 + 1 := by rw [hw0]; simp
  rw [← hw0] at hb0 X0 R0
  have kC := hide (cloneInt_sl l B (fun b => if b < w.heap.size then f0 b else 0) A n c g w0 hn (by omega) (ha.next hb0))
  have x0 := X0.cell 0
  simp only [List.getElem?_toArray, List.getElem?_cons_zero] at x0
  replace R0 := hide R0
  replace hb0 := hide hb0
  replace hs0 := hide hs0
  clear ha X0
  go_enter Try.func147, Try.ntmps147
  go_upto_region 1 with fail
  rw [← hw0]
  clear hw0
  go_wp2_with (go_at_call 108; refine kC.out.mono ?_; rintro e w1 ⟨v, f, rfl, hS, hb1, hf⟩; have hR1 := R0.out.below hb1 R0.out.lt; have r0 := hR1.cell 0; have z0 := hR1.frozen 0; simp only [List.getElem?_toArray, List.getElem?_cons_zero] at r0; obtain ⟨Av, cv, ev⟩ := hS.form; subst ev; replace hS := hide hS; replace hb1 := hide hb1; replace hf := hide hf; clear hR1)
  refine bodyPost_ret (v := .agg #[.slice Av n cv]) (by simp [results, Try.results147, go_sem, r0]; done) rfl ⟨_, f, rfl, hS.out.set0 hl ?_ _, (below_then hb0.out hb1.out).setCell (by show w.heap.size ≤ w.heap.size + 1; omega) _, fun b hb => ?_⟩
  · show f (w.heap.size + 1) = 0
    rw [hf.out _ (by have := hs0.out; omega)]
    exact if_neg (by omega)
  · rw [hf.out b (by have := hs0.out; omega)]
    exact if_pos hb

set_option maxRecDepth 100000 in
set_option maxHeartbeats 1600000 in
theorem jobCopied_any (l B : Nat) (hl : l ≠ 0) (f0 : Nat → Nat) (z : Int) (A : Option Addr) (n c : Nat) (g : Nat → Value) (w : World) (hn : n ≤ 1048576) (hB : B ≤ w.heap.size) (ha : CellsAt w A (n * 1) g) :
    Calls Try.prog 148 #[.agg #[.int .i64 z, .slice A n c]] w fun e w' => ∃ v f, e = .returned (.agg #[.int .i64 z, v]) ∧ Sl 3 1 w' f l B v n g ∧ Below w.heap.size w w' ∧ ∀ b, b < w.heap.size → f b = f0 b := by
  have hb0 := below2 w (Obj.cells #[.int .i64 z, .slice A n c] 42) (Obj.cells #[.int .i64 0, .slice none 0 0] 42)
  have X0 := (Blk.new w 42 #[.int .i64 z, .slice A n c]).alloc (Obj.cells #[.int .i64 0, .slice none 0 0] 42)
  have R0 := Blk.new (w.alloc (Obj.cells #[.int .i64 z, .slice A n c] 42)) 42 #[.int .i64 0, .slice none 0 0]
  simp only [World.size_alloc] at R0
  obtain ⟨w0, hw0⟩ : ∃ w0, w0 = (w.alloc (Obj.cells #[.int .i64 z, .slice A n c] 42)).alloc (Obj.cells #[.int .i64 0, .slice none 0 0] 42) := ⟨_, rfl⟩
  have hs0 : w0.heap.size = w.heap.size + 1 + 1 := by rw [hw0]; simp
  rw [← hw0] at hb0 X0 R0
  have kC := hide (cloneInt_sl l B (fun b => if b < w.heap.size then f0 b else 0) A n c g w0 hn (by omega) (ha.next hb0))
  have x1 := X0.cell 1
  simp only [List.getElem?_toArray, List.getElem?_cons_zero, List.getElem?_cons_succ] at x1
  replace R0 := hide R0
  replace X0 := hide X0
  replace hb0 := hide hb0
  replace hs0 := hide hs0
  clear ha
  go_enter Try.func148, Try.ntmps148
  go_upto_region 1 with fail
  rw [← hw0]
  clear hw0
  go_wp2_with (go_at_call 108; refine kC.out.mono ?_; rintro e w1 ⟨v, f, rfl, hS, hb1, hf⟩; have hR1 := R0.out.below hb1 R0.out.lt; have hX1 := X0.out.below hb1 X0.out.lt; have r0 := hR1.cell 0; have r1 := hR1.cell 1; have z0 := hR1.frozen 0; have z1 := hR1.frozen 1; have y0 := hX1.cell 0; have y1 := hX1.cell 1; have u1 := hX1.frozen 1; simp only [List.getElem?_toArray, List.getElem?_cons_zero, List.getElem?_cons_succ] at r0 r1 y0 y1; obtain ⟨Av, cv, ev⟩ := hS.form; subst ev; replace hS := hide hS; replace hb1 := hide hb1; replace hf := hide hf; clear hR1 hX1)
  have hf1 : f (w.heap.size + 1) = 0 := by
    rw [hf.out _ (by have := hs0.out; omega)]
    exact if_neg (by omega)
  have hf2 : f w.heap.size = 0 := by
    rw [hf.out _ (by have := hs0.out; omega)]
    exact if_neg (by omega)
  refine bodyPost_ret (v := .agg #[.int .i64 z, .slice Av n cv]) (by simp [results, Try.results148, go_sem, r0, r1]; done) rfl ⟨_, f, rfl, ?_, ?_, fun b hb => ?_⟩
  · iterate 3 (refine Sl.set0 ?_ hl (by first | exact hf1 | exact hf2) _)
    exact hS.out
  · iterate 3 (refine Below.setCell ?_ (by first | (show w.heap.size ≤ w.heap.size + 1; omega) | (show w.heap.size ≤ w.heap.size; omega)) _)
    exact below_then hb0.out hb1.out
  · rw [hf.out b (by have := hs0.out; omega)]
    exact if_pos hb
end Go.Proofs.Ytfnphnjadknoaaa

namespace Go.Proofs.Ytfnphnjadknoaaa
open Go.RowKit

def mixV (kv kv0 : Nat → Value) (k : Nat) : Nat → Value := fun i => if i < k then kv i else kv0 i
theorem mixV_zero (kv kv0 : Nat → Value) : mixV kv kv0 0 = kv0 := by
  funext i
  unfold mixV
  rw [if_neg (by omega)]
theorem mixV_at {kv kv0 : Nat → Value} {k : Nat} : mixV kv kv0 k k = kv0 k := if_neg (by omega)
theorem mixV_succ {kv kv0 : Nat → Value} {k j : Nat} {u : Value} : mixV (updV kv k u) kv0 (k + 1) j = if j = k then u else mixV kv kv0 k j := by
  unfold mixV
  by_cases h1 : j = k
  · rw [if_pos h1, if_pos (by omega), h1, updV_at]
  · rw [if_neg h1]
    by_cases h3 : j < k
    · rw [if_pos h3, if_pos (by omega), updV_far h1]
    · rw [if_neg h3, if_neg (by omega)]
theorem gJob_mix {l : List JobD} {kv kv0 : Nat → Value} {k j : Nat} {u : Value} : gJob l (mixV (updV kv k u) kv0 (k + 1)) j = if j = k * 2 + 1 then u else if j = k * 2 then .int .i64 (getj l k).v else gJob l (mixV kv kv0 k) j := by
  by_cases h1 : j = k * 2 + 1
  · rw [if_pos h1, h1, gJob_k, mixV_succ, if_pos rfl]
  · rw [if_neg h1]
    by_cases h2 : j = k * 2
    · rw [if_pos h2, h2, gJob_v]
    · rw [if_neg h2]
      unfold gJob
      by_cases h4 : j % 2 = 0
      · rw [if_pos h4, if_pos h4]
      · rw [if_neg h4, if_neg h4, mixV_succ, if_neg (by omega)]

set_option maxRecDepth 100000 in
set_option maxHeartbeats 3200000 in
theorem eachJob_any (f0 : Nat → Nat) (A : Option Addr) (l : List JobD) (c : Nat) (S : Nat → Prop) (w : World) (hn2 : l.length ≤ 1048576) (hsz : ∀ k, (getj l k).ks.length ≤ 1048576) (ha : JobsAt w S A l) :
    Calls Try.prog 79 #[.slice A l.length c] w fun e w' => ∃ v f kv, e = .returned v ∧ JobsO w' f w.heap.size v l kv ∧ Below w.heap.size w w' ∧ ∀ b, b < w.heap.size → f b = f0 b := by
  obtain ⟨A0, c0, hcs, hin⟩ := ha.cells
  obtain ⟨kv0, hkv⟩ : ∃ kv0 : Nat → Value, kv0 = fun k => .slice (A0 k) (getj l k).ks.length (c0 k) := ⟨_, rfl⟩
  have hkvk : ∀ k, kv0 k = .slice (A0 k) (getj l k).ks.length (c0 k) := fun k => by rw [hkv]
  rw [← hkv] at hcs
  have kC := hide (cloneJob_sl 1 w.heap.size f0 A l.length c _ w hn2 (Nat.le_refl _) hcs)
  replace hin := hide hin
  clear hcs hkv ha
  go_enter Try.func79, Try.ntmps79
  go_upto_region 2 with (go_at_call 116; refine kC.out.mono ?_; rintro e w1 ⟨v, f1, rfl, hS1, hb1, hf1⟩)
  obtain ⟨Av, cv, rfl⟩ := hS1.form
  replace hS1 := hide hS1
  replace hb1 := hide hb1
  replace hf1 := hide hf1
  go_wp2_with fail
  go_loopw [10] (fun i wr => ∃ (k : Nat) (kv : Nat → Value) (f : Nat → Nat), k ≤ l.length ∧ i = .int .i64 k ∧ Hid (Sl 42 2 wr f 1 w.heap.size (.slice Av l.length cv) l.length (gJob l (mixV kv kv0 k))) ∧ Hid (∀ j, j < k → Sl 3 1 wr f (8 + j * 2) w.heap.size (kv j) (getj l j).ks.length (gI (getj l j).ks)) ∧ Hid (Below w.heap.size w wr) ∧ Hid (∀ b, b < w.heap.size → f b = f0 b)) (fun i _ => l.length - (intOf i).toNat)
  case atStart => exact ⟨0, kv0, f1, Nat.zero_le _, rfl, hide (by rw [mixV_zero]; exact hS1.out), hide (fun j hj => by omega), hb1, hf1⟩
  case round =>
    clear hS1 hb1 hf1
    obtain ⟨k, kv, f, hk, rfl, hH, hE, hb, hf⟩ := hrel
    by_cases hlt : k < l.length
    · obtain ⟨q, off, c1, e1, hl0, hBq, hqlt, hcl⟩ := hH.out.at_ (k := k * 2) (by omega)
      cases e1
      have hkv0 := hkvk k
      have g0 := (hcl (k * 2) (by omega)).1
      have g1 := (hcl (k * 2 + 1) (by omega)).1
      rw [gJob_v] at g0
      rw [gJob_k, mixV_at, ← Nat.add_assoc, hkv0] at g1
      clear hcl
      have hsk := hsz k
      have hlt2 : (k : Int) < l.length := by omega
      have hbw := hb.out.size
      have hb0 := below1 wr (Obj.cells #[.int .i64 (getj l k).v, .slice (A0 k) (getj l k).ks.length (c0 k)] 42)
      have X0 := Blk.new wr 42 #[.int .i64 (getj l k).v, .slice (A0 k) (getj l k).ks.length (c0 k)]
      obtain ⟨w0, hw0⟩ : ∃ w0, w0 = wr.alloc (Obj.cells #[.int .i64 (getj l k).v, .slice (A0 k) (getj l k).ks.length (c0 k)] 42) := ⟨_, rfl⟩
      rw [← hw0] at hb0 X0
      have hs0 : wr.heap.size ≤ w0.heap.size := hb0.size
      have kT := hide (jobCopied_any (8 + k * 2) w.heap.size (by omega) f (getj l k).v (A0 k) (getj l k).ks.length (c0 k) (gI (getj l k).ks) w0 hsk (by omega) (((hin.out k hlt).cells.next hb.out).next hb0))
      have y0 := X0.cell 0
      have y1 := X0.cell 1
      simp only [List.getElem?_toArray, List.getElem?_cons_zero, List.getElem?_cons_succ] at y0 y1
      replace hb0 := hide hb0
      replace hs0 := hide hs0
      replace hkv0 := hide hkv0
      clear X0
      go_upto_region 5 with fail
      rw [← hw0]
      clear hw0
      have hm : ∀ (v : Value) (w : World), (method 277 42 v "loop.example/g00713/impl.copied").run Try.prog w = .ok (148, v) w := fun _ _ => by kernel_rfl
      go_wp2_with (go_at_call 148; refine kT.out.mono ?_; rintro e w1 ⟨v, f1, rfl, hS1, hb1, hf1⟩; obtain ⟨Bv, dv, ev⟩ := hS1.form; subst ev; have hbb := below_then hb0.out hb1; have hH1 := (hH.out.relab (f' := f1) (fun b hb2 => hf1 b (by have := hs0.out; omega))).next hbb; obtain ⟨q2, off2, c2, e2, hl1, hBq1, hqlt1, hcl1⟩ := hH1.at_ (k := k * 2) (by omega); cases e2; have d0 := (hcl1 (k * 2) (by omega)).1; have d1 := (hcl1 (k * 2 + 1) (by omega)).1; have z0 := (hcl1 (k * 2) (by omega)).2; have z1 := (hcl1 (k * 2 + 1) (by omega)).2; rw [← Nat.add_assoc] at d1 z1; replace hS1 := hide hS1; replace hb1 := hide hb1; replace hf1 := hide hf1; replace hH1 := hide hH1; replace hbb := hide hbb; clear hcl1)
      have hE1 := fun j (hj : j < k) => ((hE.out j hj).relab (f' := f1) (fun b hb2 => hf1.out b (by have := hs0.out; omega))).next hbb.out
      have hH2 := hH1.out.set_ (k := k * 2) rfl (by omega) (.int .i64 (getj l k).v)
      have hH3 := hH2.set_ (k := k * 2 + 1) rfl (by omega) (.slice Bv (getj l k).ks.length dv)
      rw [← Nat.add_assoc] at hH3
      have L1 : Lab f1 1 w.heap.size w1 ((w1.setCell ⟨q, off + k * 2, none⟩ (.int .i64 (getj l k).v)).setCell ⟨q, off + k * 2 + 1, none⟩ (.slice Bv (getj l k).ks.length dv)) := (Lab.set_ (p := ⟨q, off + k * 2, none⟩) ⟨hl1, hBq⟩ _).trans (Lab.set_ (p := ⟨q, off + k * 2 + 1, none⟩) ⟨hl1, hBq⟩ _)
      have hN := hide (show Sl 42 2 ((w1.setCell ⟨q, off + k * 2, none⟩ (.int .i64 (getj l k).v)).setCell ⟨q, off + k * 2 + 1, none⟩ (.slice Bv (getj l k).ks.length dv)) f1 1 w.heap.size (.slice (some ⟨q, off, none⟩) l.length cv) l.length (gJob l (mixV (updV kv k (.slice Bv (getj l k).ks.length dv)) kv0 (k + 1))) from
        hH3.congr (fun j _ => gJob_mix))
      have hNE := hide (show ∀ j, j < k + 1 → Sl 3 1 ((w1.setCell ⟨q, off + k * 2, none⟩ (.int .i64 (getj l k).v)).setCell ⟨q, off + k * 2 + 1, none⟩ (.slice Bv (getj l k).ks.length dv)) f1 (8 + j * 2) w.heap.size (updV kv k (.slice Bv (getj l k).ks.length dv) j) (getj l j).ks.length (gI (getj l j).ks) from fun j hj => by
        by_cases e : j = k
        · subst e
          rw [updV_at]
          exact hS1.out.other L1 (by omega)
        · rw [updV_far e]
          exact (hE1 j (by omega)).other L1 (by omega))
      have hNb := hide (((below_then hb.out (hbb.out)).setCell (p := ⟨q, off + k * 2, none⟩) hBq (.int .i64 (getj l k).v)).setCell (p := ⟨q, off + k * 2 + 1, none⟩) hBq (.slice Bv (getj l k).ks.length dv))
      have hNf := hide (show ∀ b, b < w.heap.size → f1 b = f0 b from fun b hb2 => (hf1.out b (by have := hs0.out; omega)).trans (hf.out b hb2))
      clear hH hE hb hf hH1 hE1 hS1 hH3 L1 hb1 hbb hf1 hH2
      go_wp2_with fail
      go_roundw
      case rel => exact ⟨k + 1, _, _, by omega, by go_num, hN, hNE, hNb, hNf⟩
      case measure => simp [intOf]; omega
    · obtain rfl : k = l.length := by omega
      have hR := hide (show JobsO wr f w.heap.size (.slice Av l.length cv) l kv from
        ⟨hH.out.congr (fun j hj => by
          unfold gJob
          by_cases e : j % 2 = 0
          · rw [if_pos e, if_pos e]
          · rw [if_neg e, if_neg e]
            unfold mixV
            rw [if_pos (by omega)]), hE.out⟩)
      go_wp2
      go_ret
      exact ⟨_, f, kv, rfl, hR.out, hb.out, hf.out⟩

set_option maxRecDepth 100000 in
set_option maxHeartbeats 3200000 in
theorem eachRow_any (f0 : Nat → Nat) (A : Option Addr) (l : List (List Int)) (c : Nat) (S : Nat → Prop) (w : World) (hn2 : l.length ≤ 1048576) (hsz : ∀ k, (getq l k).length ≤ 1048576) (ha : DqAt w S A l) :
    Calls Try.prog 106 #[.slice A l.length c] w fun e w' => ∃ v f kv, e = .returned v ∧ RowsO w' f w.heap.size v l kv ∧ Below w.heap.size w w' ∧ ∀ b, b < w.heap.size → f b = f0 b := by
  obtain ⟨A0, c0, hcs, hin⟩ := ha.cells
  obtain ⟨kv0, hkv⟩ : ∃ kv0 : Nat → Value, kv0 = fun k => .slice (A0 k) (getq l k).length (c0 k) := ⟨_, rfl⟩
  have hkvk : ∀ k, kv0 k = .slice (A0 k) (getq l k).length (c0 k) := fun k => by rw [hkv]
  rw [← hkv] at hcs
  have kC := hide (cloneRow_sl 2 w.heap.size f0 A l.length c _ w hn2 (Nat.le_refl _) hcs)
  replace hin := hide hin
  clear hcs hkv ha
  go_enter Try.func106, Try.ntmps106
  go_upto_region 2 with (go_at_call 122; refine kC.out.mono ?_; rintro e w1 ⟨v, f1, rfl, hS1, hb1, hf1⟩)
  obtain ⟨Av, cv, rfl⟩ := hS1.form
  replace hS1 := hide hS1
  replace hb1 := hide hb1
  replace hf1 := hide hf1
  go_wp2_with fail
  go_loopw [10] (fun i wr => ∃ (k : Nat) (kv : Nat → Value) (f : Nat → Nat), k ≤ l.length ∧ i = .int .i64 k ∧ Hid (Sl 35 1 wr f 2 w.heap.size (.slice Av l.length cv) l.length (mixV kv kv0 k)) ∧ Hid (∀ j, j < k → Sl 3 1 wr f (9 + j * 2) w.heap.size (kv j) (getq l j).length (gI (getq l j))) ∧ Hid (Below w.heap.size w wr) ∧ Hid (∀ b, b < w.heap.size → f b = f0 b)) (fun i _ => l.length - (intOf i).toNat)
  case atStart => exact ⟨0, kv0, f1, Nat.zero_le _, rfl, hide (by rw [mixV_zero]; exact hS1.out), hide (fun j hj => by omega), hb1, hf1⟩
  case round =>
    clear hS1 hb1 hf1
    obtain ⟨k, kv, f, hk, rfl, hH, hE, hb, hf⟩ := hrel
    by_cases hlt : k < l.length
    · obtain ⟨q, off, c1, e1, hl0, hBq, hqlt, hcl⟩ := hH.out.at_ (k := k * 1) (by omega)
      cases e1
      have hkv0 := hkvk k
      have g0 := (hcl k (by omega)).1
      rw [mixV_at, hkv0] at g0
      clear hcl
      have hsk := hsz k
      have hlt2 : (k : Int) < l.length := by omega
      have hbw := hb.out.size
      have hb0 := below1 wr (Obj.cells #[.slice (A0 k) (getq l k).length (c0 k)] 35)
      have X0 := Blk.new wr 35 #[.slice (A0 k) (getq l k).length (c0 k)]
      obtain ⟨w0, hw0⟩ : ∃ w0, w0 = wr.alloc (Obj.cells #[.slice (A0 k) (getq l k).length (c0 k)] 35) := ⟨_, rfl⟩
      rw [← hw0] at hb0 X0
      have hs0 : wr.heap.size ≤ w0.heap.size := hb0.size
      have kT := hide (rowCopied_any (9 + k * 2) w.heap.size (by omega) f (A0 k) (getq l k).length (c0 k) (gI (getq l k)) w0 hsk (by omega) (((hin.out k hlt).cells.next hb.out).next hb0))
      have y0 := X0.cell 0
      simp only [List.getElem?_toArray, List.getElem?_cons_zero] at y0
      replace hb0 := hide hb0
      replace hs0 := hide hs0
      replace hkv0 := hide hkv0
      clear X0
      go_upto_region 5 with fail
      rw [← hw0]
      clear hw0
      have hm : ∀ (v : Value) (w : World), (method 277 35 v "loop.example/g00713/impl.copied").run Try.prog w = .ok (147, v) w := fun _ _ => by kernel_rfl
      go_wp2_with (go_at_call 147; refine kT.out.mono ?_; rintro e w1 ⟨v, f1, rfl, hS1, hb1, hf1⟩; obtain ⟨Bv, dv, ev⟩ := hS1.form; subst ev; have hbb := below_then hb0.out hb1; have hH1 := (hH.out.relab (f' := f1) (fun b hb2 => hf1 b (by have := hs0.out; omega))).next hbb; obtain ⟨q2, off2, c2, e2, hl1, hBq1, hqlt1, hcl1⟩ := hH1.at_ (k := k * 1) (by omega); cases e2; have d0 := (hcl1 k (by omega)).1; have z0 := (hcl1 k (by omega)).2; replace hS1 := hide hS1; replace hb1 := hide hb1; replace hf1 := hide hf1; replace hH1 := hide hH1; replace hbb := hide hbb; clear hcl1)
      have hE1 := fun j (hj : j < k) => ((hE.out j hj).relab (f' := f1) (fun b hb2 => hf1.out b (by have := hs0.out; omega))).next hbb.out
      have hH3 := hH1.out.set_ (k := k) rfl (by omega) (.slice Bv (getq l k).length dv)
      have L1 : Lab f1 2 w.heap.size w1 (w1.setCell ⟨q, off + k, none⟩ (.slice Bv (getq l k).length dv)) := Lab.set_ (p := ⟨q, off + k, none⟩) ⟨hl1, hBq⟩ _
      have hN := hide (show Sl 35 1 (w1.setCell ⟨q, off + k, none⟩ (.slice Bv (getq l k).length dv)) f1 2 w.heap.size (.slice (some ⟨q, off, none⟩) l.length cv) l.length (mixV (updV kv k (.slice Bv (getq l k).length dv)) kv0 (k + 1)) from
        hH3.congr (fun j _ => mixV_succ))
      have hNE := hide (show ∀ j, j < k + 1 → Sl 3 1 (w1.setCell ⟨q, off + k, none⟩ (.slice Bv (getq l k).length dv)) f1 (9 + j * 2) w.heap.size (updV kv k (.slice Bv (getq l k).length dv) j) (getq l j).length (gI (getq l j)) from fun j hj => by
        by_cases e : j = k
        · subst e
          rw [updV_at]
          exact hS1.out.other L1 (by omega)
        · rw [updV_far e]
          exact (hE1 j (by omega)).other L1 (by omega))
      have hNb := hide ((below_then hb.out (hbb.out)).setCell (p := ⟨q, off + k, none⟩) hBq (.slice Bv (getq l k).length dv))
      have hNf := hide (show ∀ b, b < w.heap.size → f1 b = f0 b from fun b hb2 => (hf1.out b (by have := hs0.out; omega)).trans (hf.out b hb2))
      clear hH hE hb hf hH1 hE1 hS1 hH3 L1 hb1 hbb hf1
      go_wp2_with fail
      go_roundw
      case rel => exact ⟨k + 1, _, _, by omega, by go_num, hN, hNE, hNb, hNf⟩
      case measure => simp [intOf]; omega
    · obtain rfl : k = l.length := by omega
      have hR := hide (show RowsO wr f w.heap.size (.slice Av l.length cv) l kv from
        ⟨hH.out.congr (fun j hj => by
          unfold mixV
          rw [if_pos (by omega)]), hE.out⟩)
      go_wp2
      go_ret
      exact ⟨_, f, kv, rfl, hR.out, hb.out, hf.out⟩
end Go.Proofs.Ytfnphnjadknoaaa
