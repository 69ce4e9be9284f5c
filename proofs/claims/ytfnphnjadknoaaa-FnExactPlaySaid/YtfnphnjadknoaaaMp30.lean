/- The program's Play. -/
import Derived.Test.YtfnphnjadknoaaaMp0
import Derived.Test.YtfnphnjadknoaaaMp11
import Derived.Test.YtfnphnjadknoaaaMp12
import Derived.Test.YtfnphnjadknoaaaMp22
import Derived.Test.YtfnphnjadknoaaaMp26
import Derived.Test.YtfnphnjadknoaaaMp29
namespace Go.Proofs.Ytfnphnjadknoaaa
open Go.RowKit

set_option maxHeartbeats 3200000 in
theorem crewOf_own (f : Nat → Nat) (B : Nat) (x : PV) (p : PoolD) (w : World) (hJ : jobsB p.js = true) (hsz : ∀ k, (getj p.js k).ks.length ≤ 1048576) (h : PoolO w f B x p) :
    Calls Try.prog 60 #[.agg x.cells] w fun e w' => ∃ g qp f', e = .returned (.tuple #[.pointer (some ⟨g, 0, none⟩), .bool true]) ∧ CrewO w' f' B g qp x p ∧ Below w.heap.size w w' ∧ ∀ b, b < w.heap.size → f' b = f b := by
  obtain ⟨a, ex, ha⟩ := h.at_
  rw [ex]
  unfold PA.cells
  have hb0 := below1 w (Obj.cells (a.cells p) 28)
  have X0 := Blk.new w 28 (a.cells p)
  unfold PA.cells at hb0 X0
  obtain ⟨w0, hw0⟩ : ∃ w0, w0 = w.alloc (Obj.cells #[.slice a.A0 p.js.length a.c0, .slice a.A1 p.dq.length a.c1, .slice a.A2 p.ran.length a.c2, .slice a.A3 p.dn.length a.c3, .slice a.A4 p.lf.length a.c4, .slice a.A5 p.sm.length a.c5, .slice a.A6 p.vl.length a.c6] 28) := ⟨_, rfl⟩
  rw [← hw0] at hb0 X0
  have hS : ∀ b, (B ≤ b ∧ b < w.heap.size) → b < w.heap.size := fun b h => h.2
  have ha0 := ha.below hb0 hS
  have hS0 : ∀ b, (B ≤ b ∧ b < w.heap.size) → b < w0.heap.size := fun b h => Nat.lt_of_lt_of_le (hS b h) hb0.size
  have kP := hide (parentsOf_any a.A0 p.js a.c0 _ w0 hsz hS0 ha0.jobs)
  obtain ⟨⟨x0, -, -, -, -, -, -⟩, xl⟩ := box7 X0
  obtain ⟨q, hq⟩ : ∃ q, q = w.heap.size := ⟨_, rfl⟩
  rw [← hq] at X0 x0 xl
  replace X0 := hide X0
  replace hb0 := hide hb0
  replace h := hide h
  replace ex := hide ex
  clear ha ha0
  go_enter Try.func60, Try.ntmps60
  go_upto_region 1 with fail
  rw [← hw0, ← hq]
  clear hw0
  replace hq := hide hq
  go_upto_region 2 with (go_at_call 74; refine kP.out.mono ?_; rintro e w1 ⟨hc, hb⟩; obtain ⟨qp, rfl, hF, hqp⟩ : ∃ qp, e = .returned (.tuple #[.slice (some ⟨qp, 0, none⟩) p.js.length p.js.length, .bool true]) ∧ FnAt w1 qp p.js.length (fun m => parI p.js p.js.length (m : Int)) ∧ w0.heap.size ≤ qp := by rcases hc with ⟨hE, qp, h1, h2, h3⟩ | ⟨hE, _⟩; exact ⟨qp, h1, h2, h3⟩; rw [hE] at hJ; cases hJ)
  obtain ⟨⟨y0, y1, y2, y3, y4, y5, y6⟩, yl⟩ := box7 (X0.out.below hb xl)
  have hs1 := hb0.out.size
  have hs2 := hb.size
  have hbb := below_then hb0.out hb
  have hC : CrewO (w1.alloc (Obj.cells (crewCells a p qp) 98)) (fun b => if b < w.heap.size then f b else 0) B w1.heap.size qp x p := by
    refine ⟨?_, if_neg (by omega), hF.next (below1 _ _), if_neg (by omega), ((h.out.relab (fun b hb => if_pos hb)).next hbb).next (below1 _ _)⟩
    have := Blk.new w1 98 (crewCells a p qp)
    have e2 := ex.out
    unfold PV.cells PA.cells at e2
    simp only [Array.mk.injEq, List.cons.injEq, and_true] at e2
    obtain ⟨e3, e4, e5, e6, e7, e8, e9⟩ := e2
    rw [e3, e4, e5, e6, e7, e8, e9]
    exact this
  unfold crewCells at hC
  replace hC := hide hC
  replace hb := hide hb
  replace hbb := hide hbb
  clear hF x0 hs1 hs2 hqp
  go_wp2_with fail
  refine bodyPost_ret (v := .tuple #[.pointer (some ⟨w1.heap.size, 0, none⟩), .bool true]) (by simp [results, Try.results60, go_sem]; done) rfl ?_
  exact ⟨_, qp, _, rfl, hC.out, hbb.out.alloc hbb.out.size _, fun b hb => if_pos hb⟩
theorem OwnC.below {f : Nat → Nat} {B W : Nat} {w w' : World} (h : OwnC f B w w') (hB : W ≤ B) (hW : W ≤ w.heap.size) : Below W w w' :=
  ⟨h.os, h.tape, h.output, h.size, fun k hk => h.block k (Nat.lt_of_lt_of_le hk hW) (fun e => by omega)⟩
set_option maxRecDepth 100000 in
set_option maxHeartbeats 6400000 in
theorem play_any (a : PA) (p : PoolD) (AL : Option Addr) (zs : List Int) (n cL : Nat) (w : World) (hz : poolSize p ≤ 1048576) (hzs : zs.length = n * 2) (hn : n ≤ 9223372036854775807) (ha : Hid (PoolAt w (Old w.heap.size) a p)) (hL : Hid (IntsAt w (Old w.heap.size) AL zs)) :
    Calls Try.prog 25 #[.agg (a.cells p), .slice AL n cL] w fun e w' => ∃ x f, e = .returned (.tuple #[.agg x.cells, .int .i64 ((playR p zs n).2 : Nat)]) ∧ PoolO w' f w.heap.size x (playR p zs n).1 ∧ Below w.heap.size w w' := by
  unfold PA.cells
  have hzz := poolSize_le hz
  have hb0 := below2 w (Obj.cells #[.slice a.A0 p.js.length a.c0, .slice a.A1 p.dq.length a.c1, .slice a.A2 p.ran.length a.c2, .slice a.A3 p.dn.length a.c3, .slice a.A4 p.lf.length a.c4, .slice a.A5 p.sm.length a.c5, .slice a.A6 p.vl.length a.c6] 28) (Obj.cells #[.slice none 0 0, .slice none 0 0, .slice none 0 0, .slice none 0 0, .slice none 0 0, .slice none 0 0, .slice none 0 0] 28)
  have X0 := (Blk.new w 28 #[.slice a.A0 p.js.length a.c0, .slice a.A1 p.dq.length a.c1, .slice a.A2 p.ran.length a.c2, .slice a.A3 p.dn.length a.c3, .slice a.A4 p.lf.length a.c4, .slice a.A5 p.sm.length a.c5, .slice a.A6 p.vl.length a.c6]).alloc (Obj.cells #[.slice none 0 0, .slice none 0 0, .slice none 0 0, .slice none 0 0, .slice none 0 0, .slice none 0 0, .slice none 0 0] 28)
  have R0 := Blk.new (w.alloc (Obj.cells #[.slice a.A0 p.js.length a.c0, .slice a.A1 p.dq.length a.c1, .slice a.A2 p.ran.length a.c2, .slice a.A3 p.dn.length a.c3, .slice a.A4 p.lf.length a.c4, .slice a.A5 p.sm.length a.c5, .slice a.A6 p.vl.length a.c6] 28)) 28 #[.slice none 0 0, .slice none 0 0, .slice none 0 0, .slice none 0 0, .slice none 0 0, .slice none 0 0, .slice none 0 0]
  simp only [World.size_alloc] at R0
  obtain ⟨w0, hw0⟩ : ∃ w0, w0 = (w.alloc (Obj.cells #[.slice a.A0 p.js.length a.c0, .slice a.A1 p.dq.length a.c1, .slice a.A2 p.ran.length a.c2, .slice a.A3 p.dn.length a.c3, .slice a.A4 p.lf.length a.c4, .slice a.A5 p.sm.length a.c5, .slice a.A6 p.vl.length a.c6] 28)).alloc (Obj.cells #[.slice none 0 0, .slice none 0 0, .slice none 0 0, .slice none 0 0, .slice none 0 0, .slice none 0 0, .slice none 0 0] 28) := ⟨_, rfl⟩
  rw [← hw0] at hb0 X0 R0
  have ha0 := ha.out.below hb0 (fun _ h => h)
  have hS0 : ∀ b, Old w.heap.size b → b < w0.heap.size := fun b h => Nat.lt_of_lt_of_le h hb0.size
  obtain ⟨⟨x0, x1, x2, x3, x4, x5, x6⟩, xl⟩ := box7 X0
  obtain ⟨q, hq⟩ : ∃ q, q = w.heap.size := ⟨_, rfl⟩
  rw [← hq] at X0 R0 x0 x1 x2 x3 x4 x5 x6 xl
  have kO := hide (poolOk_any a p _ w0 (hide hzz.1) (hide hzz.2) hS0 ha0)
  unfold PA.cells at kO
  replace X0 := hide X0
  replace R0 := hide R0
  replace hb0 := hide hb0
  replace ha0 := hide ha0
  replace hS0 := hide hS0
  obtain ⟨ok, hok⟩ : ∃ ok, ok = poolB p := ⟨_, rfl⟩
  rw [← hok] at kO
  replace hok := hide hok
  obtain ⟨pr, hpr⟩ : ∃ pr, pr = playR p zs n := ⟨_, rfl⟩
  rw [← hpr]
  replace hpr := hide hpr
  replace hzz := hide hzz
  go_enter Try.func25, Try.ntmps25
  go_upto_region 1 with fail
  rw [← hw0, ← hq]
  clear hw0
  replace hq := hide hq
  cases ok
  · -- no pool
    have hE := hide (show pr = (pool0, 0) from by rw [hpr.out]; exact playR_no (.inl hok.out.symm))
    clear hpr
    go_upto_region 2 with (go_at_call 20; refine kO.out.mono ?_; rintro e w1 ⟨rfl, hb1⟩)
    obtain ⟨⟨r0, r1, r2, r3, r4, r5, r6⟩, rl⟩ := box7 (R0.out.below hb1 R0.out.lt)
    obtain ⟨z0, z1, z2, z3, z4, z5, z6⟩ := froz7 (R0.out.below hb1 R0.out.lt)
    replace hb1 := hide hb1
    clear x0 x1 x2 x3 x4 x5 x6
    go_wp2_with fail
    refine bodyPost_ret (v := .tuple #[.agg pv0.cells, .int .i64 0]) (by simp [results, Try.results25, go_sem, pv0, PV.cells, r0, r1, r2, r3, r4, r5, r6]; done) rfl ?_
    rw [hE.out]
    refine ⟨pv0, fun _ => 0, rfl, PoolO.zero _ _ _, ?_⟩
    iterate 7 (refine Below.setCell ?_ (by show w.heap.size ≤ q + 1; rw [hq.out]; omega) _)
    exact below_then hb0.out hb1.out
  · by_cases hl : n ≤ 2000
    · have hl2 : ¬ (2000 : Int) < n := by omega
      have hnp : (n : Int) ≤ 2000 := by omega
      have hprE := hide (show pr = playK p zs n from by rw [hpr.out]; exact playR_yes hok.out.symm hl)
      have hI := hide (poolB_inv hok.out.symm)
      have hsz := hide hzz.out.1
      clear hpr
      go_upto_region 3 with (go_at_call 20; refine kO.out.mono ?_; rintro e w1 ⟨rfl, hb1⟩)
      obtain ⟨⟨y0, y1, y2, y3, y4, y5, y6⟩, yl⟩ := box7 (X0.out.below hb1 X0.out.lt)
      have R1 := hide (R0.out.below hb1 R0.out.lt)
      have hb01 := hide (below_then hb0.out hb1)
      have kC := hide (poolCopied_any a p (Old w.heap.size) w1 hz (fun b h => Nat.lt_of_lt_of_le (hS0.out b h) hb1.size) (hide (ha0.out.below hb1 hS0.out)))
      unfold PA.cells at kC
      have kW := fun x f w2 (hP : PoolO w2 f w1.heap.size x p) => crewOf_own f w1.heap.size x p w2 (jobsB_yes hI.out.tree) hsz.out hP
      replace kW := hide kW
      clear x0 x1 x2 x3 x4 x5 x6 hb1
      go_upto_region 4 with (first | (go_at_call 66; refine kC.out.mono ?_; rintro e w2 ⟨x, f, rfl, hP, hb2, hf2⟩) | (go_at_call 60; refine (kW.out _ _ _ hP).mono ?_; rintro e w3 ⟨g, qp, f3, rfl, hC, hb3, hf3⟩))
      have hb13 := below_then hb2 hb3
      have hbw3 := hide (below_then hb01.out hb13)
      have R3 := hide (R1.out.below hb13 R1.out.lt)
      have hL3 := hide (hL.out.below hbw3.out (fun _ h => h))
      have hBB := hide (show w.heap.size ≤ w1.heap.size ∧ w1.heap.size ≤ w3.heap.size from ⟨hb01.out.size, hb13.size⟩)
      have hzr := hide (show f3 (q + 1) = 0 from (hf3 _ (Nat.lt_of_lt_of_le R1.out.lt hb2.size)).trans (hf2 _ R1.out.lt))
      replace hC := hide hC
      clear hP hb2 hf2 hb3 hf3 hb13 y0 y1 y2 y3 y4 y5 y6 R1
      go_wp2_with fail
      go_loopw [8, 28] (fun cv iv wr => ∃ (k : Nat) (x' : PV) (f' : Nat → Nat), k ≤ n ∧ iv = .int .i64 k ∧ cv = .int .i64 ((playK p zs k).2 : Nat) ∧ Hid (CrewO wr f' w1.heap.size g qp x' (playK p zs k).1) ∧ Hid (Below w.heap.size w wr) ∧ Hid (w1.heap.size ≤ wr.heap.size) ∧ Hid (Blk wr (q + 1) 28 #[.slice none 0 0, .slice none 0 0, .slice none 0 0, .slice none 0 0, .slice none 0 0, .slice none 0 0, .slice none 0 0] ∧ f' (q + 1) = 0)) (fun _ iv _ => n - (intOf iv).toNat)
      case atStart => exact ⟨0, x, f3, Nat.zero_le _, rfl, rfl, hC, hbw3, hide hBB.out.2, hide ⟨R3.out, hzr.out⟩⟩
      case round =>
        clear hC hbw3 R3 hzr hL3
        obtain ⟨k, x', f', hk, rfl, rfl, hC, hbw, hBs, hRz⟩ := hrel
        by_cases hlt : k < n
        · obtain ⟨bL, oL, eL, -, g0, g1⟩ := (hL.out.below hbw.out (fun _ h => h)).two hzs hlt
          subst eL
          obtain ⟨hIk, hjk⟩ := playK_inv zs k hI.out hsz.out
          have hsk := hide (show ∀ i, (getj (playK p zs k).1.js i).ks.length ≤ 1048576 from by rw [hjk]; exact hsz.out)
          have hcle := playK_le p zs k
          have hS := hide (playK_succ p zs k)
          obtain ⟨pk, hpk⟩ : ∃ pk, pk = (playK p zs k).1 := ⟨_, rfl⟩
          obtain ⟨ck, hck⟩ : ∃ ck, ck = (playK p zs k).2 := ⟨_, rfl⟩
          obtain ⟨zW, hzW⟩ : ∃ z, z = geti zs (k * 2) := ⟨_, rfl⟩
          obtain ⟨zV, hzV⟩ : ∃ z, z = geti zs (k * 2 + 1) := ⟨_, rfl⟩
          rw [← hpk, ← hck, ← hzW, ← hzV] at hS
          rw [← hpk] at hC hIk hsk
          rw [← hck] at hcle ⊢
          rw [← hzW] at g0
          rw [← hzV] at g1
          have hb1 := below1 wr (Obj.cells #[.int .i64 zW, .int .i64 zV] 48)
          have hK1 := Blk.new wr 48 #[.int .i64 zW, .int .i64 zV]
          have hC1 := hC.out.alloc (Obj.cells #[.int .i64 zW, .int .i64 zV] 48)
          have kD := hide (does_any f' w1.heap.size g qp x' pk zW zV (wr.alloc (Obj.cells #[.int .i64 zW, .int .i64 zV] 48)) (hide hIk) hsk (Nat.le_trans hBs.out hb1.size) hC1)
          have kk0 := hK1.cell 0
          have kk1 := hK1.cell 1
          simp only [List.getElem?_toArray, List.getElem?_cons_zero, List.getElem?_cons_succ] at kk0 kk1
          have hRk := hide (hRz.out.1.below hb1 hRz.out.1.lt)
          have hbk := hide (hbw.out.alloc hbw.out.size (Obj.cells #[.int .i64 zW, .int .i64 zV] 48))
          have hBk := hide (Nat.le_trans hBs.out hb1.size)
          obtain ⟨wk, hwk⟩ : ∃ wk, wk = wr.alloc (Obj.cells #[.int .i64 zW, .int .i64 zV] 48) := ⟨_, rfl⟩
          rw [← hwk] at kD kk0 kk1 hRk hbk hBk
          obtain ⟨b, hb⟩ : ∃ b, b = mayP pk zW zV := ⟨_, rfl⟩
          rw [← hb] at kD hS
          obtain ⟨pn, hpn⟩ : ∃ pn, pn = pickP pk zW zV := ⟨_, rfl⟩
          rw [← hpn] at kD hS
          replace hwk := hide hwk
          replace hRz := hide hRz.out.2
          have hlt2 : (k : Int) < n := by omega
          clear hK1 hC1 hb1 hC hbw hBs hIk hjk hsk hpk hck hzW hzV hb hpn
          go_upto_region 8 with fail
          rw [← hwk.out]
          cases b
          · go_wp2_with (go_at_call 67; refine kD.out.mono ?_; rintro e w5 ⟨rfl, f5, rv, hC5, hO5, hf5⟩; replace hC5 := hide hC5; replace hO5 := hide hO5; replace hf5 := hide hf5)
            have hR5 := hide (hRk.out.chg hO5.out (fun e => e.1 hRz.out))
            have hb5 := hide (hbk.out.trans (hO5.out.below hBB.out.1 hbk.out.size))
            have hs5 := hide (Nat.le_trans hBk.out hO5.out.size)
            have hz5 := hide (show f5 (q + 1) = 0 from (hf5.out _ hRk.out.lt).trans hRz.out)
            have hP5 := hide (show (playK p zs (k + 1)).1 = pn ∧ (playK p zs (k + 1)).2 = ck from by rw [hS.out]; exact ⟨rfl, rfl⟩)
            have hC6 := hide (show CrewO w5 f5 w1.heap.size g qp { x' with rv := rv } (playK p zs (k + 1)).1 from by rw [hP5.out.1]; exact hC5.out)
            go_roundw
            case rel => exact ⟨k + 1, _, f5, by omega, by go_num, by rw [hP5.out.2], hC6, hb5, hs5, hide ⟨hR5.out, hz5.out⟩⟩
            case measure => simp [intOf]; omega
          · have hcn : wrap64 ((ck : Int) + 1) = ((ck + 1 : Nat) : Int) := by unfold wrap64; omega
            go_wp2_with (go_at_call 67; refine kD.out.mono ?_; rintro e w5 ⟨rfl, f5, rv, hC5, hO5, hf5⟩; replace hC5 := hide hC5; replace hO5 := hide hO5; replace hf5 := hide hf5)
            have hR5 := hide (hRk.out.chg hO5.out (fun e => e.1 hRz.out))
            have hb5 := hide (hbk.out.trans (hO5.out.below hBB.out.1 hbk.out.size))
            have hs5 := hide (Nat.le_trans hBk.out hO5.out.size)
            have hz5 := hide (show f5 (q + 1) = 0 from (hf5.out _ hRk.out.lt).trans hRz.out)
            have hP5 := hide (show (playK p zs (k + 1)).1 = pn ∧ (playK p zs (k + 1)).2 = ck + 1 from by rw [hS.out]; exact ⟨rfl, rfl⟩)
            have hC6 := hide (show CrewO w5 f5 w1.heap.size g qp { x' with rv := rv } (playK p zs (k + 1)).1 from by rw [hP5.out.1]; exact hC5.out)
            go_roundw
            case rel => exact ⟨k + 1, _, f5, by omega, by go_num, by rw [hP5.out.2]; simp, hC6, hb5, hs5, hide ⟨hR5.out, hz5.out⟩⟩
            case measure => simp [intOf]; omega
        · obtain rfl : k = n := by omega
          obtain ⟨L, D, R, N, F, M, V, kv, rv⟩ := x'
          obtain ⟨A0', c0', e0⟩ := hC.out.pool.jobs.form
          obtain ⟨A1', c1', e1⟩ := hC.out.pool.rows.heads.form
          obtain ⟨A2', c2', e2⟩ := hC.out.pool.ran.form
          obtain ⟨A3', c3', e3⟩ := hC.out.pool.dn.form
          obtain ⟨A4', c4', e4⟩ := hC.out.pool.lf.form
          obtain ⟨A5', c5', e5⟩ := hC.out.pool.sm.form
          obtain ⟨A6', c6', e6⟩ := hC.out.pool.vl.form
          dsimp only at e0 e1 e2 e3 e4 e5 e6
          subst e0 e1 e2 e3 e4 e5 e6
          obtain ⟨⟨u0, u1, u2, u3, u4, u5, u6, -⟩, ul⟩ := box8 hC.out.box
          dsimp only at u0 u1 u2 u3 u4 u5 u6
          obtain ⟨⟨r0, r1, r2, r3, r4, r5, r6⟩, rl⟩ := box7 hRz.out.1
          obtain ⟨z0, z1, z2, z3, z4, z5, z6⟩ := froz7 hRz.out.1
          obtain ⟨pk, hpk⟩ : ∃ pk, pk = (playK p zs k).1 := ⟨_, rfl⟩
          obtain ⟨ck, hck⟩ : ∃ ck, ck = (playK p zs k).2 := ⟨_, rfl⟩
          have hpr2 := hide (show pr.1 = pk ∧ pr.2 = ck from by rw [hprE.out, hpk, hck]; exact ⟨rfl, rfl⟩)
          rw [← hpk] at hC u0 u1 u2 u3 u4 u5 u6
          rw [← hck]
          have hEnd := hide (show ∀ W, (∀ b, f' b ≠ 0 → W.heap[b]? = wr.heap[b]?) → PoolO W f' w1.heap.size ⟨.slice A0' pk.js.length c0', .slice A1' pk.dq.length c1', .slice A2' pk.ran.length c2', .slice A3' pk.dn.length c3', .slice A4' pk.lf.length c4', .slice A5' pk.sm.length c5', .slice A6' pk.vl.length c6', kv, rv⟩ pk from fun W hW => hC.out.pool.keep (fun b hb _ _ => hW b hb))
          clear hpk hck hC
          go_wp2_with fail
          refine bodyPost_ret (v := .tuple #[.agg #[.slice A0' pk.js.length c0', .slice A1' pk.dq.length c1', .slice A2' pk.ran.length c2', .slice A3' pk.dn.length c3', .slice A4' pk.lf.length c4', .slice A5' pk.sm.length c5', .slice A6' pk.vl.length c6'], .int .i64 (ck : Nat)]) (by simp [results, Try.results25, go_sem, r0, r1, r2, r3, r4, r5, r6]; done) rfl ?_
          rw [hpr2.out.1, hpr2.out.2]
          refine ⟨⟨.slice A0' pk.js.length c0', .slice A1' pk.dq.length c1', .slice A2' pk.ran.length c2', .slice A3' pk.dn.length c3', .slice A4' pk.lf.length c4', .slice A5' pk.sm.length c5', .slice A6' pk.vl.length c6', kv, rv⟩, f', rfl, (hEnd.out _ (fun b hb => ?_)).base hBB.out.1, ?_⟩
          · iterate 7 (refine (Below.heap_setCell _ _ _ _ (fun e => hb (by rw [e]; exact hRz.out.2))).trans ?_)
            rfl
          · iterate 7 (refine Below.setCell ?_ (by show w.heap.size ≤ q + 1; rw [hq.out]; omega) _)
            exact hbw.out
    · have hl2 : (2000 : Int) < n := by omega
      have hE := hide (show pr = (pool0, 0) from by rw [hpr.out]; exact playR_no (.inr hl))
      clear hpr
      go_upto_region 2 with (go_at_call 20; refine kO.out.mono ?_; rintro e w1 ⟨rfl, hb1⟩)
      obtain ⟨⟨r0, r1, r2, r3, r4, r5, r6⟩, rl⟩ := box7 (R0.out.below hb1 R0.out.lt)
      obtain ⟨z0, z1, z2, z3, z4, z5, z6⟩ := froz7 (R0.out.below hb1 R0.out.lt)
      replace hb1 := hide hb1
      clear x0 x1 x2 x3 x4 x5 x6
      go_wp2_with fail
      refine bodyPost_ret (v := .tuple #[.agg pv0.cells, .int .i64 0]) (by simp [results, Try.results25, go_sem, pv0, PV.cells, r0, r1, r2, r3, r4, r5, r6]; done) rfl ?_
      rw [hE.out]
      refine ⟨pv0, fun _ => 0, rfl, PoolO.zero _ _ _, ?_⟩
      iterate 7 (refine Below.setCell ?_ (by show w.heap.size ≤ q + 1; rw [hq.out]; omega) _)
      exact below_then hb0.out hb1.out
end Go.Proofs.Ytfnphnjadknoaaa
