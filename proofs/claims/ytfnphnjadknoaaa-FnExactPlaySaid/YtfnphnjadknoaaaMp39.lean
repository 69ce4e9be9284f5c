/- The model's Take. -/
import Derived.Test.YtfnphnjadknoaaaMp0
import Derived.Test.YtfnphnjadknoaaaMp31
import Derived.Test.YtfnphnjadknoaaaMp33
import Derived.Test.YtfnphnjadknoaaaMp35
import Derived.Test.YtfnphnjadknoaaaMp36
import Derived.Test.YtfnphnjadknoaaaMp38
namespace Go.Proofs.Ytfnphnjadknoaaa
open Go.RowKit

theorem OwnC.of_below {f : Nat → Nat} {B : Nat} {w w' : World} (h : Below w.heap.size w w') : OwnC f B w w' :=
  ⟨h.os, h.tape, h.output, h.size, fun k hk _ => h.block k hk⟩
def busyB (p : PoolD) (W : Nat) : Bool := decide (0 < (getq p.dq W).length)
theorem ltake_all (f : Nat → Nat) (B g : Nat) (x : PV) (p : PoolD) (W : Nat) (w : World) (hI : Hid (PInv p (-1))) (hsz : Hid (∀ k, (getj p.js k).ks.length ≤ 1048576)) (hW : W < p.dq.length) (hB : B ≤ w.heap.size) (h : BoxO w f B g x p) :
    Calls Try.prog 64 #[.pointer (some ⟨g, 0, none⟩), .int .i64 W] w fun e w' => e = .returned (.bool (busyB p W)) ∧ ∃ f' rv, BoxO w' f' B g { x with rv := rv } (if busyB p W then takeP p W else p) ∧ OwnC f B w w' ∧ ∀ b, b < w.heap.size → f' b = f b := by
  by_cases hn : 0 < (getq p.dq W).length
  · have hb : busyB p W = true := decide_eq_true hn
    rw [hb, if_pos rfl]
    exact ltake_any f B g x p W w hI hsz hW hn hB h
  · have hb : busyB p W = false := decide_eq_false hn
    rw [hb, if_neg (by simp)]
    refine (ltake_no f B g x p W w hW (by omega) h).mono ?_
    rintro e w' ⟨rfl, hb⟩
    exact ⟨rfl, f, x.rv, h.next hb, .of_below hb, fun _ _ => rfl⟩
def isWk (p : PoolD) (W : Int) : Bool := decide (0 ≤ W ∧ W < p.dq.length)
theorem mayP_eq (p : PoolD) (W V : Int) : mayP p W V = (isWk p W && (isWk p V && busyB p V.toNat)) := by
  unfold mayP isWk busyB
  rw [Bool.eq_iff_iff]
  simp only [Bool.and_eq_true, decide_eq_true_eq]
  constructor
  · rintro ⟨⟨⟨⟨h1, h2⟩, h3⟩, h4⟩, h5⟩
    exact ⟨⟨h1, h2⟩, ⟨h3, h4⟩, h5⟩
  · rintro ⟨⟨h1, h2⟩, ⟨h3, h4⟩, h5⟩
    exact ⟨⟨⟨⟨h1, h2⟩, h3⟩, h4⟩, h5⟩
theorem pickP_take {p : PoolD} {W : Int} (h : isWk p W = true) (hb : busyB p W.toNat = true) : pickP p W W = takeP p W.toNat := by
  unfold pickP
  rw [mayP_eq, h, hb, if_pos (by rfl), if_pos rfl]
theorem pickP_steal {p : PoolD} {W V : Int} (h : isWk p W = true) (h2 : isWk p V = true) (hb : busyB p V.toNat = true) (hn : W ≠ V) : pickP p W V = stealP p W.toNat V.toNat := by
  unfold pickP
  rw [mayP_eq, h, h2, hb, if_pos (by rfl), if_neg hn]
theorem BoxO.made {w : World} {f : Nat → Nat} {B : Nat} {x : PV} {p : PoolD} (h : PoolO w f B x p) :
    BoxO (w.alloc (.cells #[x.L, x.D, x.R, x.N, x.F, x.M, x.V] 28)) (fun b => if b < w.heap.size then f b else 0) B w.heap.size x p := by
  refine ⟨Blk.new _ _ _, if_neg (Nat.lt_irrefl _), (h.relab (fun b hb => if_pos hb)).next (below1 _ _)⟩
theorem poolSize_parts {p : PoolD} (hz : poolSize p ≤ 1048576) : (∀ k, (getj p.js k).ks.length ≤ 1048576) ∧ sizeQ p.dq ≤ 1048576 := by
  have h1 := fun k => sizeJ_kids (l := p.js) k
  unfold poolSize at hz
  exact ⟨fun k => by have := h1 k; omega, by omega⟩
set_option maxRecDepth 100000 in
set_option maxHeartbeats 12800000 in
theorem sTake_any (a : PA) (p : PoolD) (W : Int) (w : World) (hz : poolSize p ≤ 1048576) (ha : Hid (PoolAt w (Old w.heap.size) a p)) :
    Calls Try.prog 23 #[.agg (a.cells p), .int .i64 W] w fun e w' => ∃ x f, e = .returned (.tuple #[.agg x.cells, .bool (oneP p W W).2]) ∧ PoolO w' f w.heap.size x (oneP p W W).1 ∧ Below w.heap.size w w' := by
  unfold PA.cells
  obtain ⟨hsz, hzQ⟩ := poolSize_parts hz
  replace hsz := hide hsz
  replace hzQ := hide hzQ
  have hb0 := below2 w (Obj.cells #[.slice a.A0 p.js.length a.c0, .slice a.A1 p.dq.length a.c1, .slice a.A2 p.ran.length a.c2, .slice a.A3 p.dn.length a.c3, .slice a.A4 p.lf.length a.c4, .slice a.A5 p.sm.length a.c5, .slice a.A6 p.vl.length a.c6] 28) (Obj.cells #[.slice none 0 0, .slice none 0 0, .slice none 0 0, .slice none 0 0, .slice none 0 0, .slice none 0 0, .slice none 0 0] 28)
  have X0 := (Blk.new w 28 #[.slice a.A0 p.js.length a.c0, .slice a.A1 p.dq.length a.c1, .slice a.A2 p.ran.length a.c2, .slice a.A3 p.dn.length a.c3, .slice a.A4 p.lf.length a.c4, .slice a.A5 p.sm.length a.c5, .slice a.A6 p.vl.length a.c6]).alloc (Obj.cells #[.slice none 0 0, .slice none 0 0, .slice none 0 0, .slice none 0 0, .slice none 0 0, .slice none 0 0, .slice none 0 0] 28)
  have R0 := Blk.new (w.alloc (Obj.cells #[.slice a.A0 p.js.length a.c0, .slice a.A1 p.dq.length a.c1, .slice a.A2 p.ran.length a.c2, .slice a.A3 p.dn.length a.c3, .slice a.A4 p.lf.length a.c4, .slice a.A5 p.sm.length a.c5, .slice a.A6 p.vl.length a.c6] 28)) 28 #[.slice none 0 0, .slice none 0 0, .slice none 0 0, .slice none 0 0, .slice none 0 0, .slice none 0 0, .slice none 0 0]
  simp only [World.size_alloc] at R0
  obtain ⟨w0, hw0⟩ : ∃ w0, w0 = (w.alloc (Obj.cells #[.slice a.A0 p.js.length a.c0, .slice a.A1 p.dq.length a.c1, .slice a.A2 p.ran.length a.c2, .slice a.A3 p.dn.length a.c3, .slice a.A4 p.lf.length a.c4, .slice a.A5 p.sm.length a.c5, .slice a.A6 p.vl.length a.c6] 28)).alloc (Obj.cells #[.slice none 0 0, .slice none 0 0, .slice none 0 0, .slice none 0 0, .slice none 0 0, .slice none 0 0, .slice none 0 0] 28) := ⟨_, rfl⟩
  rw [← hw0] at hb0 X0 R0
  obtain ⟨q, hq⟩ : ∃ q, q = w.heap.size := ⟨_, rfl⟩
  rw [← hq] at X0 R0
  have ha0 := (ha.out.below hb0 (fun _ h => h)).more (fun b (h : b < w.heap.size) => show b < w0.heap.size from Nat.lt_of_lt_of_le h hb0.size)
  have kP := hide (spoolOk_any a p (Old w0.heap.size) w0 hsz hzQ (fun _ h => h) ha0)
  unfold PA.cells at kP
  have hs := hide (show q + 1 < w0.heap.size ∧ w.heap.size ≤ w0.heap.size from ⟨R0.lt, hb0.size⟩)
  have hR := hide R0
  have hX := hide X0
  have hbb := hide hb0
  have haa := hide ha0
  clear hb0 ha0 X0 R0
  go_enter Try.func23, Try.ntmps23
  go_upto_region 1 with fail
  rw [← hw0, ← hq]
  clear hw0
  replace hq := hide hq
  obtain ⟨⟨x0, x1, x2, x3, x4, x5, x6⟩, xl⟩ := box7 hX.out
  go_wp2_with fail
  refine kP.out.mono ?_
  rintro e w1 ⟨rfl, hb1⟩
  clear x0 x1 x2 x3 x4 x5 x6 xl
  have B1 := hide (below_then hbb.out hb1)
  have X1 := hide (hX.out.below hb1 hX.out.lt)
  have R1 := hide (hR.out.below hb1 hR.out.lt)
  have a1 := hide ((haa.out.below hb1 (fun _ h => h)).more (fun b (h : b < w0.heap.size) => show b < w1.heap.size from Nat.lt_of_lt_of_le h hb1.size))
  have S1 := hide (show q + 1 < w1.heap.size ∧ w.heap.size ≤ w1.heap.size from ⟨Nat.lt_of_lt_of_le hs.out.1 hb1.size, Nat.le_trans hs.out.2 hb1.size⟩)
  clear hb1 hbb hX hR haa hs kP
  obtain ⟨ok, hok⟩ : ∃ ok, ok = poolB p := ⟨_, rfl⟩
  rw [← hok]
  replace hok := hide hok
  cases ok
  · obtain ⟨z0, z1, z2, z3, z4, z5, z6⟩ := froz7 R1.out
    obtain ⟨⟨r0, r1, r2, r3, r4, r5, r6⟩, rl⟩ := box7 R1.out
    go_wp2_with fail
    refine bodyPost_ret (v := .tuple #[.agg pv0.cells, .bool false]) (by simp [results, Try.results23, go_sem, pv0, PV.cells, r0, r1, r2, r3, r4, r5, r6]; done) rfl ?_
    rw [(oneP_no (.inl hok.out.symm))]
    refine ⟨pv0, fun _ => 0, rfl, PoolO.zero _ _ _, ?_⟩
    iterate 7 (refine Below.setCell ?_ (by show w.heap.size ≤ q + 1; rw [hq.out]; omega) _)
    exact B1.out
  · have x1 := (box7 X1.out).1.2.1
    go_wp2_with fail
    clear x1
    refine (lworker_any q p.dq.length a.c1 a.A1 W w1 (box7 X1.out).1.2.1).mono ?_
    rintro e w2 ⟨rfl, hb2⟩
    have B2 := hide (B1.out.trans (hb2.mono S1.out.2))
    have X2 := hide (X1.out.below hb2 X1.out.lt)
    have R2 := hide (R1.out.below hb2 R1.out.lt)
    have a2 := hide ((a1.out.below hb2 (fun _ h => h)).more (fun b (h : b < w1.heap.size) => show b < w2.heap.size from Nat.lt_of_lt_of_le h hb2.size))
    have S2 := hide (show q + 1 < w2.heap.size ∧ w.heap.size ≤ w2.heap.size from ⟨Nat.lt_of_lt_of_le S1.out.1 hb2.size, Nat.le_trans S1.out.2 hb2.size⟩)
    clear hb2 B1 X1 R1 a1 S1
    obtain ⟨m2, hm2⟩ : ∃ m, m = isWk p W := ⟨_, rfl⟩
    rw [show decide (0 ≤ W ∧ W < ((p.dq.length : Nat) : Int)) = m2 from by rw [hm2]; rfl]
    replace hm2 := hide hm2
    cases m2
    · obtain ⟨z0, z1, z2, z3, z4, z5, z6⟩ := froz7 R2.out
      obtain ⟨⟨r0, r1, r2, r3, r4, r5, r6⟩, rl⟩ := box7 R2.out
      go_wp2_with fail
      refine bodyPost_ret (v := .tuple #[.agg pv0.cells, .bool false]) (by simp [results, Try.results23, go_sem, pv0, PV.cells, r0, r1, r2, r3, r4, r5, r6]; done) rfl ?_
      rw [(show oneP p W W = (pool0, false) from oneP_no (.inr (by rw [mayP_eq, ← hm2.out]; rfl)))]
      refine ⟨pv0, fun _ => 0, rfl, PoolO.zero _ _ _, ?_⟩
      iterate 7 (refine Below.setCell ?_ (by show w.heap.size ≤ q + 1; rw [hq.out]; omega) _)
      exact B2.out
    · obtain ⟨⟨x0, x1, x2, x3, x4, x5, x6⟩, xl⟩ := box7 X2.out
      have kO := hide (sown_any a p (Old w2.heap.size) w2 hz (fun _ h => h) a2)
      unfold PA.cells at kO
      go_wp2_with fail
      clear x0 x1 x2 x3 x4 x5 x6 xl
      refine kO.out.mono ?_
      rintro e w5 ⟨x, f, rfl, hP, hb5, hf5⟩
      obtain ⟨A0', A1', A2', A3', A4', A5', A6', c0', c1', c2', c3', c4', c5', c6', hx⟩ := hP.slices
      obtain ⟨kv, hkv⟩ : ∃ kv, kv = x.kv := ⟨_, rfl⟩
      obtain ⟨rv, hrv⟩ : ∃ rv, rv = x.rv := ⟨_, rfl⟩
      rw [← hkv, ← hrv] at hx
      subst hx
      clear hkv hrv kO
      have G6 := BoxO.made hP
      have hb6 := below_then hb5 (below1 w5 (Obj.cells #[.slice A0' p.js.length c0', .slice A1' p.dq.length c1', .slice A2' p.ran.length c2', .slice A3' p.dn.length c3', .slice A4' p.lf.length c4', .slice A5' p.sm.length c5', .slice A6' p.vl.length c6'] 28))
      obtain ⟨w6, hw6⟩ : ∃ w6, w6 = w5.alloc (Obj.cells #[.slice A0' p.js.length c0', .slice A1' p.dq.length c1', .slice A2' p.ran.length c2', .slice A3' p.dn.length c3', .slice A4' p.lf.length c4', .slice A5' p.sm.length c5', .slice A6' p.vl.length c6'] 28) := ⟨_, rfl⟩
      have hg5 : w5.heap.size < w6.heap.size := by rw [hw6]; simp
      obtain ⟨f6, hf6⟩ : ∃ f6 : Nat → Nat, f6 = fun b => if b < w5.heap.size then f b else 0 := ⟨_, rfl⟩
      dsimp only at G6
      rw [← hw6, ← hf6] at G6
      rw [← hw6] at hb6
      have L6 := hide (show ∀ b, b < w2.heap.size → f6 b = 0 from fun b hb => by
        have h5 := hb5.size
        rw [hf6]
        show (if b < w5.heap.size then f b else 0) = 0
        rw [if_pos (by omega)]
        exact hf5 b hb)
      unfold PV.cells
      dsimp only
      go_upto_region 4 with fail
      rw [← hw6]
      obtain ⟨g, hg⟩ : ∃ g, g = w5.heap.size := ⟨_, rfl⟩
      rw [← hg] at G6 hg5
      try rw [← hg]
      have B6 := hide (B2.out.trans (hb6.mono S2.out.2))
      have R6 := hide (R2.out.below hb6 R2.out.lt)
      have S6 := hide (show q + 1 < w2.heap.size ∧ w.heap.size ≤ w2.heap.size ∧ w2.heap.size ≤ w6.heap.size from ⟨S2.out.1, S2.out.2, hb6.size⟩)
      replace G6 := hide G6
      clear hw6 hf6 hb6 hb5 hP hf5 hg hg5 B2 X2 R2 a2 S2
      have hwW := of_decide_eq_true hm2.out.symm
      obtain ⟨n, hn⟩ : ∃ n : Nat, n = W.toNat := ⟨_, rfl⟩
      obtain rfl : W = (n : Int) := by omega
      have hnD : n < p.dq.length := by omega
      clear hn hwW
      go_wp2_with fail
      refine (ltake_all f6 w2.heap.size g _ p n w6 (hide (poolB_inv hok.out.symm)) hsz hnD S6.out.2.2 G6.out).mono ?_
      rintro e w7 ⟨rfl, f7, rv7, G7, C7, hf7⟩
      dsimp only at G7
      have R7 := hide (show Blk w7 (q + 1) 28 #[.slice none 0 0, .slice none 0 0, .slice none 0 0, .slice none 0 0, .slice none 0 0, .slice none 0 0, .slice none 0 0] from (C7.block (q + 1) (Nat.lt_of_lt_of_le S6.out.1 S6.out.2.2) (fun e => e.1 (L6.out _ S6.out.1))).trans R6.out)
      have B7 := hide (show Below w.heap.size w w7 from B6.out.trans (C7.below S6.out.2.1 (Nat.le_trans S6.out.2.1 S6.out.2.2)))
      have S7 := hide (show w.heap.size ≤ w2.heap.size ∧ q + 1 < w2.heap.size from ⟨S6.out.2.1, S6.out.1⟩)
      replace G7 := hide G7
      clear C7 hf7 G6 B6 R6 S6 L6
      obtain ⟨b7, hb7⟩ : ∃ b, b = busyB p n := ⟨_, rfl⟩
      rw [← hb7] at G7
      rw [← hb7]
      replace hb7 := hide hb7
      cases b7
      · obtain ⟨z0, z1, z2, z3, z4, z5, z6⟩ := froz7 R7.out
        obtain ⟨⟨r0, r1, r2, r3, r4, r5, r6⟩, rl⟩ := box7 R7.out
        go_wp2_with fail
        refine bodyPost_ret (v := .tuple #[.agg pv0.cells, .bool false]) (by simp [results, Try.results23, go_sem, pv0, PV.cells, r0, r1, r2, r3, r4, r5, r6]; done) rfl ?_
        rw [(show oneP p (n : Int) (n : Int) = (pool0, false) from oneP_no (.inr (by rw [mayP_eq, ← hm2.out, show busyB p ((n : Int)).toNat = false from hb7.out.symm]; rfl)))]
        refine ⟨pv0, fun _ => 0, rfl, PoolO.zero _ _ _, ?_⟩
        iterate 7 (refine Below.setCell ?_ (by show w.heap.size ≤ q + 1; rw [hq.out]; omega) _)
        exact B7.out
      · have hE := hide (show oneP p (n : Int) (n : Int) = (takeP p n, true) from by 
          have hn2 : busyB p ((n : Int)).toNat = true := hb7.out.symm
          rw [oneP_yes hok.out.symm (by rw [mayP_eq, ← hm2.out, hn2]; rfl), pickP_take hm2.out.symm hn2]
          rfl)
        rw [if_pos rfl] at G7
        obtain ⟨p7, hp7⟩ : ∃ p7, p7 = takeP p n := ⟨_, rfl⟩
        rw [← hp7] at G7 hE
        clear hp7
        obtain ⟨⟨x0, x1, x2, x3, x4, x5, x6⟩, xl⟩ := box7 G7.out.box
        dsimp only at x0 x1 x2 x3 x4 x5 x6
        obtain ⟨z0, z1, z2, z3, z4, z5, z6⟩ := froz7 R7.out
        obtain ⟨⟨r0, r1, r2, r3, r4, r5, r6⟩, rl⟩ := box7 R7.out
        have hs1 := S7.out.2
        go_wp2_with fail
        refine bodyPost_ret (v := .tuple #[.agg #[.slice A0' p.js.length c0', .slice A1' p.dq.length c1', .slice A2' p.ran.length c2', .slice A3' p.dn.length c3', .slice A4' p.lf.length c4', .slice A5' p.sm.length c5', .slice A6' p.vl.length c6'], .bool true]) (by simp [results, Try.results23, go_sem, r0, r1, r2, r3, r4, r5, r6]; done) rfl ?_
        rw [hE.out]
        refine ⟨⟨.slice A0' p.js.length c0', .slice A1' p.dq.length c1', .slice A2' p.ran.length c2', .slice A3' p.dn.length c3', .slice A4' p.lf.length c4', .slice A5' p.sm.length c5', .slice A6' p.vl.length c6', kv, rv7⟩, f7, rfl, (G7.out.pool.keep (fun b _ hb _ => ?_)).base S7.out.1, ?_⟩
        · iterate 7 (refine (Below.heap_setCell _ _ _ _ (fun e => by have e2 : b = q + 1 := e; omega)).trans ?_)
          rfl
        · iterate 7 (refine Below.setCell ?_ (by show w.heap.size ≤ q + 1; rw [hq.out]; omega) _)
          exact B7.out
end Go.Proofs.Ytfnphnjadknoaaa
