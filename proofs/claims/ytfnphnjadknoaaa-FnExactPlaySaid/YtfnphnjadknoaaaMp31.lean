/- The program's playOne, Take, Steal. -/
import Derived.Test.YtfnphnjadknoaaaMp0
import Derived.Test.YtfnphnjadknoaaaMp12
import Derived.Test.YtfnphnjadknoaaaMp30
namespace Go.Proofs.Ytfnphnjadknoaaa
open Go.RowKit

set_option maxRecDepth 100000 in
set_option maxHeartbeats 3200000 in
theorem playOne_any (a : PA) (p : PoolD) (W V : Int) (w : World) (hz : poolSize p ≤ 1048576) (ha : Hid (PoolAt w (Old w.heap.size) a p)) :
    Calls Try.prog 54 #[.agg (a.cells p), .agg #[.int .i64 W, .int .i64 V]] w fun e w' => ∃ x f, e = .returned (.tuple #[.agg x.cells, .bool (oneP p W V).2]) ∧ PoolO w' f w.heap.size x (oneP p W V).1 ∧ Below w.heap.size w w' := by
  unfold PA.cells
  have hb0 := (below2 w (Obj.cells #[.slice a.A0 p.js.length a.c0, .slice a.A1 p.dq.length a.c1, .slice a.A2 p.ran.length a.c2, .slice a.A3 p.dn.length a.c3, .slice a.A4 p.lf.length a.c4, .slice a.A5 p.sm.length a.c5, .slice a.A6 p.vl.length a.c6] 28) (Obj.cells #[.int .i64 W, .int .i64 V] 48)).alloc (by simp; omega) (Obj.cells #[.slice none 0 0, .slice none 0 0, .slice none 0 0, .slice none 0 0, .slice none 0 0, .slice none 0 0, .slice none 0 0] 28)
  have X0 := ((Blk.new w 28 #[.slice a.A0 p.js.length a.c0, .slice a.A1 p.dq.length a.c1, .slice a.A2 p.ran.length a.c2, .slice a.A3 p.dn.length a.c3, .slice a.A4 p.lf.length a.c4, .slice a.A5 p.sm.length a.c5, .slice a.A6 p.vl.length a.c6]).alloc (Obj.cells #[.int .i64 W, .int .i64 V] 48)).alloc (Obj.cells #[.slice none 0 0, .slice none 0 0, .slice none 0 0, .slice none 0 0, .slice none 0 0, .slice none 0 0, .slice none 0 0] 28)
  have K0 := (Blk.new (w.alloc (Obj.cells #[.slice a.A0 p.js.length a.c0, .slice a.A1 p.dq.length a.c1, .slice a.A2 p.ran.length a.c2, .slice a.A3 p.dn.length a.c3, .slice a.A4 p.lf.length a.c4, .slice a.A5 p.sm.length a.c5, .slice a.A6 p.vl.length a.c6] 28)) 48 #[.int .i64 W, .int .i64 V]).alloc (Obj.cells #[.slice none 0 0, .slice none 0 0, .slice none 0 0, .slice none 0 0, .slice none 0 0, .slice none 0 0, .slice none 0 0] 28)
  have R0 := Blk.new ((w.alloc (Obj.cells #[.slice a.A0 p.js.length a.c0, .slice a.A1 p.dq.length a.c1, .slice a.A2 p.ran.length a.c2, .slice a.A3 p.dn.length a.c3, .slice a.A4 p.lf.length a.c4, .slice a.A5 p.sm.length a.c5, .slice a.A6 p.vl.length a.c6] 28)).alloc (Obj.cells #[.int .i64 W, .int .i64 V] 48)) 28 #[.slice none 0 0, .slice none 0 0, .slice none 0 0, .slice none 0 0, .slice none 0 0, .slice none 0 0, .slice none 0 0]
  simp only [World.size_alloc] at K0 R0
  obtain ⟨w0, hw0⟩ : ∃ w0, w0 = ((w.alloc (Obj.cells #[.slice a.A0 p.js.length a.c0, .slice a.A1 p.dq.length a.c1, .slice a.A2 p.ran.length a.c2, .slice a.A3 p.dn.length a.c3, .slice a.A4 p.lf.length a.c4, .slice a.A5 p.sm.length a.c5, .slice a.A6 p.vl.length a.c6] 28)).alloc (Obj.cells #[.int .i64 W, .int .i64 V] 48)).alloc (Obj.cells #[.slice none 0 0, .slice none 0 0, .slice none 0 0, .slice none 0 0, .slice none 0 0, .slice none 0 0, .slice none 0 0] 28) := ⟨_, rfl⟩
  rw [← hw0] at hb0 X0 K0 R0
  obtain ⟨q, hq⟩ : ∃ q, q = w.heap.size := ⟨_, rfl⟩
  rw [← hq] at X0 K0 R0
  have hb1 := below1 w0 (Obj.cells #[.int .i64 W, .int .i64 V] 48)
  have hI1 : IntsAt (w0.alloc (Obj.cells #[.int .i64 W, .int .i64 V] 48)) (Old (w0.heap.size + 1)) (some ⟨w0.heap.size, 0, none⟩) [W, V] := by
    refine ⟨by simp, fun _ => ⟨w0.heap.size, 0, rfl, by show w0.heap.size < w0.heap.size + 1; omega, fun k hk => ?_⟩⟩
    have h2 : k = 0 ∨ k = 1 := by have : k < 2 := hk; omega
    rcases h2 with rfl | rfl
    · simp [geti]
    · simp [geti]
  obtain ⟨⟨x0, x1, x2, x3, x4, x5, x6⟩, xl⟩ := box7 X0
  have y0 := K0.cell 0
  have y1 := K0.cell 1
  simp only [List.getElem?_toArray, List.getElem?_cons_zero, List.getElem?_cons_succ] at y0 y1
  have ha1 := (ha.out.below hb0 (fun _ h => h)).below hb1 (fun b h => Nat.lt_of_lt_of_le h hb0.size)
  have kP := hide (play_any a p (some ⟨w0.heap.size, 0, none⟩) [W, V] 1 1 (w0.alloc (Obj.cells #[.int .i64 W, .int .i64 V] 48)) hz rfl (by omega) (hide (ha1.more (fun b (h : b < w.heap.size) => show b < (w0.alloc _).heap.size from Nat.lt_of_lt_of_le h (Nat.le_trans hb0.size hb1.size)))) (hide (hI1.more (fun b (h : b < w0.heap.size + 1) => show b < (w0.alloc _).heap.size from by simpa using h))))
  unfold PA.cells at kP
  rw [playR_one] at kP
  have hR1 := hide (R0.below hb1 R0.lt)
  have hbb := hide (below_then hb0 hb1)
  have hs := hide (show q + 1 + 1 < w0.heap.size ∧ w.heap.size ≤ w0.heap.size ∧ ∀ w2, Below (w0.alloc (Obj.cells #[.int .i64 W, .int .i64 V] 48)).heap.size (w0.alloc (Obj.cells #[.int .i64 W, .int .i64 V] 48)) w2 → w0.heap.size < w2.heap.size from ⟨R0.lt, hb0.size, fun w2 h => Nat.lt_of_lt_of_le (by simp) h.size⟩)
  obtain ⟨pr, hpr⟩ : ∃ pr, pr = oneP p W V := ⟨_, rfl⟩
  rw [← hpr]
  replace hpr := hide hpr
  obtain ⟨ok, hok⟩ : ∃ ok, ok = poolB p := ⟨_, rfl⟩
  rw [← hok] at kP
  replace hok := hide hok
  clear hb0 hb1 hI1 ha1 X0 K0 R0
  obtain ⟨m, hm⟩ : ∃ m, m = mayP p W V := ⟨_, rfl⟩
  rw [← hm] at kP
  replace hm := hide hm
  cases ok
  · have hE := hide (show pr = (pool0, false) from by rw [hpr.out]; exact oneP_no (.inl hok.out.symm))
    rw [if_neg (by simp)] at kP
    clear hpr
    go_enter Try.func54, Try.ntmps54
    go_upto_region 1 with fail
    rw [← hw0, ← hq]
    clear hw0
    replace hq := hide hq
    go_wp2_with (go_at_call 25; refine kP.out.mono ?_; rintro e w2 ⟨⟨L, D, R, N, F, M, V', kv, rv⟩, f, rfl, hP, hb2⟩; obtain ⟨A0', c0', e0⟩ := hP.jobs.form; obtain ⟨A1', c1', e1⟩ := hP.rows.heads.form; obtain ⟨A2', c2', e2⟩ := hP.ran.form; obtain ⟨A3', c3', e3⟩ := hP.dn.form; obtain ⟨A4', c4', e4⟩ := hP.lf.form; obtain ⟨A5', c5', e5⟩ := hP.sm.form; obtain ⟨A6', c6', e6⟩ := hP.vl.form; dsimp only at e0 e1 e2 e3 e4 e5 e6; subst e0 e1 e2 e3 e4 e5 e6; have R2 := hR1.out.below hb2 hR1.out.lt; obtain ⟨z0, z1, z2, z3, z4, z5, z6⟩ := froz7 R2; obtain ⟨⟨r0, r1, r2, r3, r4, r5, r6⟩, rl⟩ := box7 R2; clear R2; replace hP := hide hP; replace hb2 := hide hb2; unfold PV.cells; dsimp only)
    have hs0 := hs.out.2.2 _ hb2.out
    have hs1 := hs.out.1
    have hs2 := hs.out.2.1
    refine bodyPost_ret (v := .tuple #[.agg pv0.cells, .bool false]) (by simp [results, Try.results54, go_sem, pv0, PV.cells, r0, r1, r2, r3, r4, r5, r6, rl]; done) rfl ?_
    rw [hE.out]
    refine ⟨pv0, rfl, ⟨fun _ => 0, PoolO.zero _ _ _⟩, ?_⟩
    refine Below.alloc ?_ (by simp; omega) _
    iterate 7 (refine Below.setCell ?_ (by show w.heap.size ≤ q + 1 + 1; rw [hq.out]; omega) _)
    exact below_then hbb.out hb2.out
  · rw [if_pos rfl] at kP
    cases m
    · have hE := hide (show pr = (pool0, false) from by rw [hpr.out]; exact oneP_no (.inr hm.out.symm))
      clear hpr
      go_enter Try.func54, Try.ntmps54
      go_upto_region 1 with fail
      rw [← hw0, ← hq]
      clear hw0
      replace hq := hide hq
      go_wp2_with (go_at_call 25; refine kP.out.mono ?_; rintro e w2 ⟨⟨L, D, R, N, F, M, V', kv, rv⟩, f, rfl, hP, hb2⟩; obtain ⟨A0', c0', e0⟩ := hP.jobs.form; obtain ⟨A1', c1', e1⟩ := hP.rows.heads.form; obtain ⟨A2', c2', e2⟩ := hP.ran.form; obtain ⟨A3', c3', e3⟩ := hP.dn.form; obtain ⟨A4', c4', e4⟩ := hP.lf.form; obtain ⟨A5', c5', e5⟩ := hP.sm.form; obtain ⟨A6', c6', e6⟩ := hP.vl.form; dsimp only at e0 e1 e2 e3 e4 e5 e6; subst e0 e1 e2 e3 e4 e5 e6; have R2 := hR1.out.below hb2 hR1.out.lt; obtain ⟨z0, z1, z2, z3, z4, z5, z6⟩ := froz7 R2; obtain ⟨⟨r0, r1, r2, r3, r4, r5, r6⟩, rl⟩ := box7 R2; clear R2; replace hP := hide hP; replace hb2 := hide hb2; unfold PV.cells; dsimp only)
      have hs0 := hs.out.2.2 _ hb2.out
      have hs1 := hs.out.1
      have hs2 := hs.out.2.1
      refine bodyPost_ret (v := .tuple #[.agg pv0.cells, .bool false]) (by simp [results, Try.results54, go_sem, pv0, PV.cells, r0, r1, r2, r3, r4, r5, r6, rl]; done) rfl ?_
      rw [hE.out]
      refine ⟨pv0, rfl, ⟨fun _ => 0, PoolO.zero _ _ _⟩, ?_⟩
      refine Below.alloc ?_ (by simp; omega) _
      iterate 7 (refine Below.setCell ?_ (by show w.heap.size ≤ q + 1 + 1; rw [hq.out]; omega) _)
      exact below_then hbb.out hb2.out
    · have hE := hide (show pr = (pickP p W V, true) from by rw [hpr.out]; exact oneP_yes hok.out.symm hm.out.symm)
      clear hpr
      go_enter Try.func54, Try.ntmps54
      go_upto_region 1 with fail
      rw [← hw0, ← hq]
      clear hw0
      replace hq := hide hq
      go_wp2_with (go_at_call 25; refine kP.out.mono ?_; rintro e w2 ⟨⟨L, D, R, N, F, M, V', kv, rv⟩, f, rfl, hP, hb2⟩; obtain ⟨A0', c0', e0⟩ := hP.jobs.form; obtain ⟨A1', c1', e1⟩ := hP.rows.heads.form; obtain ⟨A2', c2', e2⟩ := hP.ran.form; obtain ⟨A3', c3', e3⟩ := hP.dn.form; obtain ⟨A4', c4', e4⟩ := hP.lf.form; obtain ⟨A5', c5', e5⟩ := hP.sm.form; obtain ⟨A6', c6', e6⟩ := hP.vl.form; dsimp only at e0 e1 e2 e3 e4 e5 e6; subst e0 e1 e2 e3 e4 e5 e6; have R2 := hR1.out.below hb2 hR1.out.lt; obtain ⟨z0, z1, z2, z3, z4, z5, z6⟩ := froz7 R2; obtain ⟨⟨r0, r1, r2, r3, r4, r5, r6⟩, rl⟩ := box7 R2; clear R2; replace hP := hide hP; replace hb2 := hide hb2; unfold PV.cells; dsimp only)
      have hEnd := hide (show ∀ WW, (∀ b, w0.heap.size < b → b < w2.heap.size → WW.heap[b]? = w2.heap[b]?) → PoolO WW f w.heap.size ⟨.slice A0' (pickP p W V).js.length c0', .slice A1' (pickP p W V).dq.length c1', .slice A2' (pickP p W V).ran.length c2', .slice A3' (pickP p W V).dn.length c3', .slice A4' (pickP p W V).lf.length c4', .slice A5' (pickP p W V).sm.length c5', .slice A6' (pickP p W V).vl.length c6', kv, rv⟩ (pickP p W V) from fun WW hW => (hP.out.keep (fun b _ hb hl => hW b (Nat.lt_of_lt_of_le (by simp) hb) hl)).base hbb.out.size)
      have hs0 := hs.out.2.2 _ hb2.out
      have hs1 := hs.out.1
      have hs2 := hs.out.2.1
      refine bodyPost_ret (v := .tuple #[.agg #[.slice A0' (pickP p W V).js.length c0', .slice A1' (pickP p W V).dq.length c1', .slice A2' (pickP p W V).ran.length c2', .slice A3' (pickP p W V).dn.length c3', .slice A4' (pickP p W V).lf.length c4', .slice A5' (pickP p W V).sm.length c5', .slice A6' (pickP p W V).vl.length c6'], .bool true]) (by simp [results, Try.results54, go_sem, r0, r1, r2, r3, r4, r5, r6, rl]; done) rfl ?_
      rw [hE.out]
      refine ⟨⟨.slice A0' (pickP p W V).js.length c0', .slice A1' (pickP p W V).dq.length c1', .slice A2' (pickP p W V).ran.length c2', .slice A3' (pickP p W V).dn.length c3', .slice A4' (pickP p W V).lf.length c4', .slice A5' (pickP p W V).sm.length c5', .slice A6' (pickP p W V).vl.length c6', kv, rv⟩, rfl, ⟨f, hEnd.out _ (fun b hb hl => ?_)⟩, ?_⟩
      · refine (Below.heap_alloc _ _ _ (by simpa using hl)).trans ?_
        iterate 7 (refine (Below.heap_setCell _ _ _ _ (fun e => by have e2 : b = q + 1 + 1 := e; omega)).trans ?_)
        rfl
      · refine Below.alloc ?_ (by simp; omega) _
        iterate 7 (refine Below.setCell ?_ (by show w.heap.size ≤ q + 1 + 1; rw [hq.out]; omega) _)
        exact below_then hbb.out hb2.out

theorem PoolO.slices {w : World} {f : Nat → Nat} {B : Nat} {x : PV} {p : PoolD} (h : PoolO w f B x p) : ∃ A0 A1 A2 A3 A4 A5 A6 c0 c1 c2 c3 c4 c5 c6, x = ⟨.slice A0 p.js.length c0, .slice A1 p.dq.length c1, .slice A2 p.ran.length c2, .slice A3 p.dn.length c3, .slice A4 p.lf.length c4, .slice A5 p.sm.length c5, .slice A6 p.vl.length c6, x.kv, x.rv⟩ := by
  obtain ⟨L, D, R, N, F, M, V, kv, rv⟩ := x
  obtain ⟨A0, c0, e0⟩ := h.jobs.form
  obtain ⟨A1, c1, e1⟩ := h.rows.heads.form
  obtain ⟨A2, c2, e2⟩ := h.ran.form
  obtain ⟨A3, c3, e3⟩ := h.dn.form
  obtain ⟨A4, c4, e4⟩ := h.lf.form
  obtain ⟨A5, c5, e5⟩ := h.sm.form
  obtain ⟨A6, c6, e6⟩ := h.vl.form
  dsimp only at e0 e1 e2 e3 e4 e5 e6
  subst e0 e1 e2 e3 e4 e5 e6
  exact ⟨_, _, _, _, _, _, _, _, _, _, _, _, _, _, rfl⟩

set_option maxRecDepth 100000 in
set_option maxHeartbeats 3200000 in
theorem TakeI_any (a : PA) (p : PoolD) (W : Int) (w : World) (hz : poolSize p ≤ 1048576) (ha : Hid (PoolAt w (Old w.heap.size) a p)) :
    Calls Try.prog 22 #[.agg (a.cells p), .int .i64 W] w fun e w' => ∃ x f, e = .returned (.tuple #[.agg x.cells, .bool (oneP p W W).2]) ∧ PoolO w' f w.heap.size x (oneP p W W).1 ∧ Below w.heap.size w w' := by
  unfold PA.cells
  have hb0 := below2 w (Obj.cells #[.slice a.A0 p.js.length a.c0, .slice a.A1 p.dq.length a.c1, .slice a.A2 p.ran.length a.c2, .slice a.A3 p.dn.length a.c3, .slice a.A4 p.lf.length a.c4, .slice a.A5 p.sm.length a.c5, .slice a.A6 p.vl.length a.c6] 28) (Obj.cells #[.slice none 0 0, .slice none 0 0, .slice none 0 0, .slice none 0 0, .slice none 0 0, .slice none 0 0, .slice none 0 0] 28)
  have X0 := (Blk.new w 28 #[.slice a.A0 p.js.length a.c0, .slice a.A1 p.dq.length a.c1, .slice a.A2 p.ran.length a.c2, .slice a.A3 p.dn.length a.c3, .slice a.A4 p.lf.length a.c4, .slice a.A5 p.sm.length a.c5, .slice a.A6 p.vl.length a.c6]).alloc (Obj.cells #[.slice none 0 0, .slice none 0 0, .slice none 0 0, .slice none 0 0, .slice none 0 0, .slice none 0 0, .slice none 0 0] 28)
  have R0 := Blk.new (w.alloc (Obj.cells #[.slice a.A0 p.js.length a.c0, .slice a.A1 p.dq.length a.c1, .slice a.A2 p.ran.length a.c2, .slice a.A3 p.dn.length a.c3, .slice a.A4 p.lf.length a.c4, .slice a.A5 p.sm.length a.c5, .slice a.A6 p.vl.length a.c6] 28)) 28 #[.slice none 0 0, .slice none 0 0, .slice none 0 0, .slice none 0 0, .slice none 0 0, .slice none 0 0, .slice none 0 0]
  simp only [World.size_alloc] at R0
  obtain ⟨w0, hw0⟩ : ∃ w0, w0 = (w.alloc (Obj.cells #[.slice a.A0 p.js.length a.c0, .slice a.A1 p.dq.length a.c1, .slice a.A2 p.ran.length a.c2, .slice a.A3 p.dn.length a.c3, .slice a.A4 p.lf.length a.c4, .slice a.A5 p.sm.length a.c5, .slice a.A6 p.vl.length a.c6] 28)).alloc (Obj.cells #[.slice none 0 0, .slice none 0 0, .slice none 0 0, .slice none 0 0, .slice none 0 0, .slice none 0 0, .slice none 0 0] 28) := ⟨_, rfl⟩
  rw [← hw0] at hb0 X0 R0
  obtain ⟨q, hq⟩ : ∃ q, q = w.heap.size := ⟨_, rfl⟩
  rw [← hq] at X0 R0
  obtain ⟨⟨x0, x1, x2, x3, x4, x5, x6⟩, xl⟩ := box7 X0
  have ha0 := ha.out.below hb0 (fun _ h => h)
  have kP := hide (playOne_any a p W W w0 hz (hide (ha0.more (fun b (h : b < w.heap.size) => show b < w0.heap.size from Nat.lt_of_lt_of_le h hb0.size))))
  unfold PA.cells at kP
  have hs := hide (show q + 1 < w0.heap.size ∧ w.heap.size ≤ w0.heap.size from ⟨R0.lt, hb0.size⟩)
  have hR1 := hide R0
  have hbb := hide hb0
  clear hb0 ha0 X0 R0
  obtain ⟨pr, hpr⟩ : ∃ pr, pr = oneP p W W := ⟨_, rfl⟩
  rw [← hpr] at kP
  rw [← hpr]
  clear hpr
  go_enter Try.func22, Try.ntmps22
  go_upto_region 1 with fail
  rw [← hw0, ← hq]
  clear hw0
  replace hq := hide hq
  go_wp2_with (go_at_call 54; refine kP.out.mono ?_; rintro e w2 ⟨x, f, rfl, hP, hb2⟩; obtain ⟨A0', A1', A2', A3', A4', A5', A6', c0', c1', c2', c3', c4', c5', c6', hx⟩ := hP.slices; obtain ⟨kv, hkv⟩ : ∃ kv, kv = x.kv := ⟨_, rfl⟩; obtain ⟨rv, hrv⟩ : ∃ rv, rv = x.rv := ⟨_, rfl⟩; rw [← hkv, ← hrv] at hx; subst hx; clear hkv hrv; have R2 := hR1.out.below hb2 hR1.out.lt; obtain ⟨z0, z1, z2, z3, z4, z5, z6⟩ := froz7 R2; obtain ⟨⟨r0, r1, r2, r3, r4, r5, r6⟩, rl⟩ := box7 R2; clear R2; replace hP := hide hP; replace hb2 := hide hb2; unfold PV.cells; dsimp only)
  have hs1 := hs.out.1
  refine bodyPost_ret (v := .tuple #[.agg #[.slice A0' pr.1.js.length c0', .slice A1' pr.1.dq.length c1', .slice A2' pr.1.ran.length c2', .slice A3' pr.1.dn.length c3', .slice A4' pr.1.lf.length c4', .slice A5' pr.1.sm.length c5', .slice A6' pr.1.vl.length c6'], .bool pr.2]) (by simp [results, Try.results22, go_sem, r0, r1, r2, r3, r4, r5, r6]; done) rfl ?_
  refine ⟨⟨.slice A0' pr.1.js.length c0', .slice A1' pr.1.dq.length c1', .slice A2' pr.1.ran.length c2', .slice A3' pr.1.dn.length c3', .slice A4' pr.1.lf.length c4', .slice A5' pr.1.sm.length c5', .slice A6' pr.1.vl.length c6', kv, rv⟩, f, rfl, (hP.out.keep (fun b _ hb _ => ?_)).base hs.out.2, ?_⟩
  · iterate 7 (refine (Below.heap_setCell _ _ _ _ (fun e => by have e2 : b = q + 1 := e; omega)).trans ?_)
    rfl
  · iterate 7 (refine Below.setCell ?_ (by show w.heap.size ≤ q + 1; rw [hq.out]; omega) _)
    exact below_then hbb.out hb2.out

set_option maxRecDepth 100000 in
set_option maxHeartbeats 3200000 in
theorem StealI_any (a : PA) (p : PoolD) (W V : Int) (w : World) (hz : poolSize p ≤ 1048576) (ha : Hid (PoolAt w (Old w.heap.size) a p)) :
    Calls Try.prog 17 #[.agg (a.cells p), .int .i64 W, .int .i64 V] w fun e w' => ∃ x f, e = .returned (.tuple #[.agg x.cells, .bool (stealR p W V).2]) ∧ PoolO w' f w.heap.size x (stealR p W V).1 ∧ Below w.heap.size w w' := by
  unfold PA.cells
  have hb0 := below2 w (Obj.cells #[.slice a.A0 p.js.length a.c0, .slice a.A1 p.dq.length a.c1, .slice a.A2 p.ran.length a.c2, .slice a.A3 p.dn.length a.c3, .slice a.A4 p.lf.length a.c4, .slice a.A5 p.sm.length a.c5, .slice a.A6 p.vl.length a.c6] 28) (Obj.cells #[.slice none 0 0, .slice none 0 0, .slice none 0 0, .slice none 0 0, .slice none 0 0, .slice none 0 0, .slice none 0 0] 28)
  have X0 := (Blk.new w 28 #[.slice a.A0 p.js.length a.c0, .slice a.A1 p.dq.length a.c1, .slice a.A2 p.ran.length a.c2, .slice a.A3 p.dn.length a.c3, .slice a.A4 p.lf.length a.c4, .slice a.A5 p.sm.length a.c5, .slice a.A6 p.vl.length a.c6]).alloc (Obj.cells #[.slice none 0 0, .slice none 0 0, .slice none 0 0, .slice none 0 0, .slice none 0 0, .slice none 0 0, .slice none 0 0] 28)
  have R0 := Blk.new (w.alloc (Obj.cells #[.slice a.A0 p.js.length a.c0, .slice a.A1 p.dq.length a.c1, .slice a.A2 p.ran.length a.c2, .slice a.A3 p.dn.length a.c3, .slice a.A4 p.lf.length a.c4, .slice a.A5 p.sm.length a.c5, .slice a.A6 p.vl.length a.c6] 28)) 28 #[.slice none 0 0, .slice none 0 0, .slice none 0 0, .slice none 0 0, .slice none 0 0, .slice none 0 0, .slice none 0 0]
  simp only [World.size_alloc] at R0
  obtain ⟨w0, hw0⟩ : ∃ w0, w0 = (w.alloc (Obj.cells #[.slice a.A0 p.js.length a.c0, .slice a.A1 p.dq.length a.c1, .slice a.A2 p.ran.length a.c2, .slice a.A3 p.dn.length a.c3, .slice a.A4 p.lf.length a.c4, .slice a.A5 p.sm.length a.c5, .slice a.A6 p.vl.length a.c6] 28)).alloc (Obj.cells #[.slice none 0 0, .slice none 0 0, .slice none 0 0, .slice none 0 0, .slice none 0 0, .slice none 0 0, .slice none 0 0] 28) := ⟨_, rfl⟩
  rw [← hw0] at hb0 X0 R0
  obtain ⟨q, hq⟩ : ∃ q, q = w.heap.size := ⟨_, rfl⟩
  rw [← hq] at X0 R0
  obtain ⟨⟨x0, x1, x2, x3, x4, x5, x6⟩, xl⟩ := box7 X0
  have ha0 := ha.out.below hb0 (fun _ h => h)
  have kP := hide (playOne_any a p W V w0 hz (hide (ha0.more (fun b (h : b < w.heap.size) => show b < w0.heap.size from Nat.lt_of_lt_of_le h hb0.size))))
  unfold PA.cells at kP
  have hs := hide (show q + 1 < w0.heap.size ∧ w.heap.size ≤ w0.heap.size from ⟨R0.lt, hb0.size⟩)
  have hR1 := hide R0
  have hbb := hide hb0
  clear hb0 ha0 X0 R0
  by_cases hWV : W = V
  · have hE : stealR p W V = (pool0, false) := if_pos hWV
    have hbe : (W == V) = true := by simp [hWV]
    rw [hE]
    obtain ⟨z0, z1, z2, z3, z4, z5, z6⟩ := froz7 hR1.out
    obtain ⟨⟨r0, r1, r2, r3, r4, r5, r6⟩, rl⟩ := box7 hR1.out
    clear hWV kP hE
    go_enter Try.func17, Try.ntmps17
    go_upto_region 1 with fail
    rw [← hw0, ← hq]
    clear hw0
    replace hq := hide hq
    go_wp2_with fail
    refine bodyPost_ret (v := .tuple #[.agg pv0.cells, .bool false]) (by simp [results, Try.results17, go_sem, pv0, PV.cells, r0, r1, r2, r3, r4, r5, r6]; done) rfl ?_
    refine ⟨pv0, fun _ => 0, rfl, PoolO.zero _ _ _, ?_⟩
    iterate 7 (refine Below.setCell ?_ (by show w.heap.size ≤ q + 1; rw [hq.out]; omega) _)
    exact hbb.out
  · have hE : stealR p W V = oneP p W V := if_neg hWV
    have hbe : (W == V) = false := beq_eq_false_iff_ne.2 hWV
    clear hWV
    obtain ⟨pr, hpr⟩ : ∃ pr, pr = oneP p W V := ⟨_, rfl⟩
    rw [← hpr] at kP
    rw [hE, ← hpr]
    clear hE
    clear hpr
    go_enter Try.func17, Try.ntmps17
    go_upto_region 1 with fail
    rw [← hw0, ← hq]
    clear hw0
    replace hq := hide hq
    go_wp2_with (go_at_call 54; refine kP.out.mono ?_; rintro e w2 ⟨x, f, rfl, hP, hb2⟩; obtain ⟨A0', A1', A2', A3', A4', A5', A6', c0', c1', c2', c3', c4', c5', c6', hx⟩ := hP.slices; obtain ⟨kv, hkv⟩ : ∃ kv, kv = x.kv := ⟨_, rfl⟩; obtain ⟨rv, hrv⟩ : ∃ rv, rv = x.rv := ⟨_, rfl⟩; rw [← hkv, ← hrv] at hx; subst hx; clear hkv hrv; have R2 := hR1.out.below hb2 hR1.out.lt; obtain ⟨z0, z1, z2, z3, z4, z5, z6⟩ := froz7 R2; obtain ⟨⟨r0, r1, r2, r3, r4, r5, r6⟩, rl⟩ := box7 R2; clear R2; replace hP := hide hP; replace hb2 := hide hb2; unfold PV.cells; dsimp only)
    have hs1 := hs.out.1
    refine bodyPost_ret (v := .tuple #[.agg #[.slice A0' pr.1.js.length c0', .slice A1' pr.1.dq.length c1', .slice A2' pr.1.ran.length c2', .slice A3' pr.1.dn.length c3', .slice A4' pr.1.lf.length c4', .slice A5' pr.1.sm.length c5', .slice A6' pr.1.vl.length c6'], .bool pr.2]) (by simp [results, Try.results17, go_sem, r0, r1, r2, r3, r4, r5, r6]; done) rfl ?_
    refine ⟨⟨.slice A0' pr.1.js.length c0', .slice A1' pr.1.dq.length c1', .slice A2' pr.1.ran.length c2', .slice A3' pr.1.dn.length c3', .slice A4' pr.1.lf.length c4', .slice A5' pr.1.sm.length c5', .slice A6' pr.1.vl.length c6', kv, rv⟩, f, rfl, (hP.out.keep (fun b _ hb _ => ?_)).base hs.out.2, ?_⟩
    · iterate 7 (refine (Below.heap_setCell _ _ _ _ (fun e => by have e2 : b = q + 1 := e; omega)).trans ?_)
      rfl
    · iterate 7 (refine Below.setCell ?_ (by show w.heap.size ≤ q + 1; rw [hq.out]; omega) _)
      exact below_then hbb.out hb2.out
end Go.Proofs.Ytfnphnjadknoaaa
