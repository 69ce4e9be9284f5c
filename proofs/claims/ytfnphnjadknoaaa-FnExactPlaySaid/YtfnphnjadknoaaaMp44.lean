/- The walk of laws.FnExactPlay: it answers true and leaves its arguments. -/
import Derived.Test.YtfnphnjadknoaaaMp0
import Derived.Test.YtfnphnjadknoaaaMp13
import Derived.Test.YtfnphnjadknoaaaMp42
import Derived.Test.YtfnphnjadknoaaaMp43
import Derived.Deep.RegionHeld3
namespace Go.Proofs.Ytfnphnjadknoaaa
open Go.RowKit

structure PkA (n : Nat) (AL : Option Addr) (zs : List Int) (w : World) : Prop where
  at_ : IntsAt w (Old n) AL zs
  le : n ≤ w.heap.size
theorem PkA.next {n : Nat} {AL : Option Addr} {zs : List Int} {w w' : World} (h : PkA n AL zs w) (hb : Below w.heap.size w w') : PkA n AL zs w' :=
  ⟨h.at_.below hb (fun _ k => Nat.lt_of_lt_of_le k h.le), Nat.le_trans h.le hb.size⟩
theorem PkA.inn {n lo hi : Nat} {AL : Option Addr} {zs : List Int} {w w' : World} (h : PkA n AL zs w) (hI : Inn lo hi w w') (hn : n < lo) : PkA n AL zs w' := by
  have hb : Below n w w' := ⟨hI.os, hI.tape, hI.output, hI.size, fun k hk => hI.block k (Nat.lt_of_lt_of_le hk h.le) (by omega)⟩
  exact ⟨h.at_.below hb (fun _ hbn => hbn), Nat.le_trans h.le hI.size⟩
theorem specPlay_i {w : World} {lo hi l2 h2 q : Nat} {x : PV} {p : PoolD} {zs : List Int} {m : Nat} (hz : poolSize p ≤ 1048576) (hzs : zs.length = m * 2) (hn : m ≤ 1048576) (h : PoolI w lo hi x p) (k : RvI 48 w l2 h2 (.slice (some ⟨q, 0, none⟩) m m) m zs) :
    Calls Try.prog 47 #[.agg #[x.L, x.D, x.R, x.N, x.F, x.M, x.V], .slice (some ⟨q, 0, none⟩) m m] w fun e w' => ∃ x, e = .returned (.tuple #[.agg #[x.L, x.D, x.R, x.N, x.F, x.M, x.V], .int .i64 ((playR p zs m).2 : Nat)]) ∧ PoolI w' w.heap.size w'.heap.size x (playR p zs m).1 ∧ Below w.heap.size w w' := by
  obtain ⟨a, ea, ha⟩ := h.at_
  rw [show #[x.L, x.D, x.R, x.N, x.F, x.M, x.V] = a.cells p from ea]
  refine (sPlay_any a p _ zs m m w hz hzs hn (hide ha) (hide (k.src (by omega) rfl))).mono ?_
  rintro e w' ⟨y, f, rfl, hP, hb⟩
  exact ⟨y, rfl, .of hP, hb⟩
theorem implPlay_i {w : World} {lo hi l2 h2 q : Nat} {x : PV} {p : PoolD} {zs : List Int} {m : Nat} (hz : poolSize p ≤ 1048576) (hzs : zs.length = m * 2) (hn : m ≤ 1048576) (h : PoolI w lo hi x p) (k : RvI 48 w l2 h2 (.slice (some ⟨q, 0, none⟩) m m) m zs) :
    Calls Try.prog 25 #[.agg #[x.L, x.D, x.R, x.N, x.F, x.M, x.V], .slice (some ⟨q, 0, none⟩) m m] w fun e w' => ∃ x, e = .returned (.tuple #[.agg #[x.L, x.D, x.R, x.N, x.F, x.M, x.V], .int .i64 ((playR p zs m).2 : Nat)]) ∧ PoolI w' w.heap.size w'.heap.size x (playR p zs m).1 ∧ Below w.heap.size w w' := by
  obtain ⟨a, ea, ha⟩ := h.at_
  rw [show #[x.L, x.D, x.R, x.N, x.F, x.M, x.V] = a.cells p from ea]
  refine (play_any a p _ zs m m w hz hzs (by omega) (hide ha) (hide (k.src (by omega) rfl))).mono ?_
  rintro e w' ⟨y, f, rfl, hP, hb⟩
  exact ⟨y, rfl, .of hP, hb⟩
set_option maxRecDepth 100000 in
set_option maxHeartbeats 12800000 in
theorem exPlay_walk (a : PA) (p : PoolD) (AL : Option Addr) (m cL : Nat) (w : World) (ha : PoolAt w (Old w.heap.size) a p) (hm63 : m ≤ 9223372036854775807) (hAL : m ≤ 1048576 → ∃ zs : List Int, zs.length = m * 2 ∧ IntsAt w (Old w.heap.size) AL zs) :
    Calls Try.prog 14 #[.agg #[.slice a.A0 p.js.length a.c0, .slice a.A1 p.dq.length a.c1, .slice a.A2 p.ran.length a.c2, .slice a.A3 p.dn.length a.c3, .slice a.A4 p.lf.length a.c4, .slice a.A5 p.sm.length a.c5, .slice a.A6 p.vl.length a.c6], .slice AL m cL] w fun e w' => e = .returned (.bool true) ∧ Below w.heap.size w w' := by
  have hb0 := below1 w (Obj.cells #[.slice a.A0 p.js.length a.c0, .slice a.A1 p.dq.length a.c1, .slice a.A2 p.ran.length a.c2, .slice a.A3 p.dn.length a.c3, .slice a.A4 p.lf.length a.c4, .slice a.A5 p.sm.length a.c5, .slice a.A6 p.vl.length a.c6] 67)
  have E := hide (show ArgP w.heap.size w a p (w.alloc (Obj.cells #[.slice a.A0 p.js.length a.c0, .slice a.A1 p.dq.length a.c1, .slice a.A2 p.ran.length a.c2, .slice a.A3 p.dn.length a.c3, .slice a.A4 p.lf.length a.c4, .slice a.A5 p.sm.length a.c5, .slice a.A6 p.vl.length a.c6] 67)) from ⟨ha.below hb0 (fun _ h => h), Blk.new _ _ _, hb0⟩)
  obtain ⟨w0, hw0⟩ : ∃ w0, w0 = w.alloc (Obj.cells #[.slice a.A0 p.js.length a.c0, .slice a.A1 p.dq.length a.c1, .slice a.A2 p.ran.length a.c2, .slice a.A3 p.dn.length a.c3, .slice a.A4 p.lf.length a.c4, .slice a.A5 p.sm.length a.c5, .slice a.A6 p.vl.length a.c6] 67) := ⟨_, rfl⟩
  rw [← hw0] at E hb0
  have ks := szPool_any a p (Old w.heap.size) 1048576 w0 (by omega) (by omega) E.out.sub.2 E.out.at_
  unfold PA.cells at ks
  have hAL0 : m ≤ 1048576 → ∃ zs : List Int, zs.length = m * 2 ∧ PkA w.heap.size AL zs w0 := fun h => by
    obtain ⟨zs, h1, h2⟩ := hAL h
    exact ⟨zs, h1, h2.below hb0 (fun _ k => k), hb0.size⟩
  obtain ⟨n, hn⟩ : ∃ n, n = w.heap.size := ⟨_, rfl⟩
  rw [← hn] at E hAL0
  have hfin := hide (show ∀ w', Below n w w' → Below w.heap.size w w' from fun w' h => by rw [← hn]; exact h)
  clear hb0
  by_cases hz : poolSize p ≤ 1048576
  · rw [szR_pos (by omega)] at ks
    obtain ⟨s, hs2⟩ : ∃ s, s = 1048576 - (poolSize p : Int) := ⟨_, rfl⟩
    have hs : ¬ s < 0 := by omega
    rw [← hs2] at ks
    replace ks := hide ks
    have kz := fun w => szPickS_any AL m cL s w hm63 (by omega)
    by_cases hms : (m : Int) ≤ s
    · have hm6 : m ≤ 1048576 := by omega
      obtain ⟨zs, hzs, hK⟩ := hAL0 hm6
      have KK := hide hK
      have kz2 := hide (show ∀ w, Calls Try.prog 46 #[.slice AL m cL, .int .i64 s] w fun e w' => e = .returned (.int .i64 (s - (m : Int))) ∧ w = w' from fun w => by
        have h := kz w
        unfold szR at h
        rwa [if_neg (by omega)] at h)
      obtain ⟨s2, hs3⟩ : ∃ s2, s2 = s - (m : Int) := ⟨_, rfl⟩
      have hs4 : ¬ s2 < 0 := by omega
      rw [← hs3] at kz2
      have kT := hide (fun w' (h : ArgP n w a p w') => toPool_i hz h)
      have kQ := hide (fun w' (h : PkA n AL zs w') => toPickI (c := cL) hzs hm6 (fun b (hb : Old n b) => Nat.lt_of_lt_of_le hb h.le) h.at_)
      have kS := hide (fun w' lo hi l2 h2 q x (h : PoolI w' lo hi x p) (k : RvI 48 w' l2 h2 (.slice (some ⟨q, 0, none⟩) m m) m zs) => specPlay_i (w := w') (lo := lo) (hi := hi) (l2 := l2) (h2 := h2) (q := q) (x := x) hz hzs hm6 h k)
      have kI := hide (fun w' lo hi l2 h2 q x (h : PoolI w' lo hi x p) (k : RvI 48 w' l2 h2 (.slice (some ⟨q, 0, none⟩) m m) m zs) => implPlay_i (w := w') (lo := lo) (hi := hi) (l2 := l2) (h2 := h2) (q := q) (x := x) hz hzs hm6 h k)
      obtain ⟨z, hz9⟩ : ∃ z : Int, z = ((1 + poolMarks p : Nat) : Int) := ⟨_, rfl⟩
      have hzle : 0 ≤ z ∧ z ≤ 1048577 := by have := poolMarks_le p; omega
      have kM := hide (show ∀ w' lo hi x, hi ≤ w'.heap.size → PoolI w' lo hi x p → Calls Try.prog 42 #[.agg #[x.L, x.D, x.R, x.N, x.F, x.M, x.V], .int .i64 1] w' fun e w2 => e = .returned (.int .i64 z) ∧ Inn lo hi w' w2 from fun w' lo hi x hh h => by
        rw [hz9]
        exact (markPool_z hz hh h).mono (fun e w2 k => ⟨k.1, k.2.2⟩))
      obtain ⟨zz, hzz9⟩ : ∃ zz, zz = markZ z (m * 2) := ⟨_, rfl⟩
      have kN := hide (show ∀ w' lo hi q, RvI 48 w' lo hi (.slice (some ⟨q, 0, none⟩) m m) m zs → Calls Try.prog 50 #[.slice (some ⟨q, 0, none⟩) m m, .int .i64 z] w' fun e w2 => e = .returned (.int .i64 zz) ∧ Inn lo hi w' w2 from fun w' lo hi q h => by
        rw [hzz9]
        exact (markPickI hzs hm6 hzle.1 (by omega) h).mono (fun e w2 k => ⟨k.1, inn_grown k.2.2 (fun x hx => ⟨(h.1.own_lt hx).1, h.2 x hx⟩)⟩))
      have hz0 : ¬ zz < 0 := by rw [hzz9]; exact markZ_nonneg hzle.1
      have hpz := hide (playR_small hz zs m)
      obtain ⟨pr, hpr⟩ : ∃ pr, pr = (playR p zs m).1 := ⟨_, rfl⟩
      obtain ⟨ok, hok⟩ : ∃ ok : Int, ok = ((playR p zs m).2 : Nat) := ⟨_, rfl⟩
      rw [← hpr, ← hok] at kS kI
      rw [← hpr] at hpz
      obtain ⟨mm, hm9⟩ : ∃ z : Int, z = ((1 + poolMarks pr : Nat) : Int) := ⟨_, rfl⟩
      have hH := hide (show ∀ w' lo hi x, PoolI w' lo hi x (markP 1 pr) → Calls Try.prog 43 #[.agg #[x.L, x.D, x.R, x.N, x.F, x.M, x.V], .int .i64 1] w' fun e w2 => e = .returned (.int .i64 mm) ∧ Below w'.heap.size w' w2 from fun w' lo hi x h => by rw [hm9]; exact heldPool_z (by have := hpz.out; omega) h)
      have kP := hide (show ∀ w' lo hi x, hi ≤ w'.heap.size → PoolI w' lo hi x pr → Calls Try.prog 42 #[.agg #[x.L, x.D, x.R, x.N, x.F, x.M, x.V], .int .i64 1] w' fun e w2 => e = .returned (.int .i64 mm) ∧ PoolI w2 lo hi x (markP 1 pr) ∧ Inn lo hi w' w2 from fun w' lo hi x hh h => by rw [hm9]; exact markPool_z (by have := hpz.out; omega) hh h)
      have hm0 : ¬ mm < 0 := by omega
      have hne : (ok != ok) = false := by simp
      have hzs := hide hzs
      have hn6 := hide hm6
      clear hs2 ha hpr hok hz hz9 hm9 hpz hzz9 hzle hs3 hK hAL0 hAL kz hms hm6 hm63
      go_enter Try.func14, Try.ntmps14
      go_upto_region 2 with fail
      rw [← hw0, ← hn]
      clear hw0 hn
      obtain ⟨⟨a0, a1, a2, a3, a4, a5, a6⟩, al⟩ := E.out.cells
      go_upto_region 5 with (go_at_call 44; refine ks.out.mono ?_; rintro e w1 ⟨rfl, hb⟩; replace E := hide (E.out.next hb); replace KK := hide (KK.out.next hb); clear hb)
      clear a0 a1 a2 a3 a4 a5 a6 al
      go_upto_region 8 with (go_at_call 46; refine (kz2.out _).mono ?_; rintro e w1b ⟨rfl, rfl⟩)
      obtain ⟨⟨a0, a1, a2, a3, a4, a5, a6⟩, al⟩ := E.out.cells
      go_upto_region 9 with (first | (go_at_call 45; refine (kT.out _ E.out).mono ?_; rintro e wt ⟨xv, rfl, hV, hb⟩; replace E := hide (E.out.next hb); replace KK := hide (KK.out.next hb); replace hV := hide hV; clear hb) | (go_at_call 48; refine (kQ.out _ KK.out).mono ?_; rintro e wp ⟨hQq, rfl, hQ, hb⟩; replace E := hide (E.out.next hb); replace KK := hide (KK.out.next hb); replace hV := hide (hV.out.next hb); replace hQ := hide hQ; clear hb) | (go_at_call 47; refine (kS.out _ _ _ _ _ _ _ hV.out hQ.out).mono ?_; rintro e w3 ⟨x, rfl, hP, hb⟩; have hlo := hide (show n < wp.heap.size from E.out.cells.2); replace E := hide (E.out.next hb); replace KK := hide (KK.out.next hb); obtain ⟨s0, s1, s2, s3, s4, s5, s6, sc0, sc1, sc2, sc3, sc4, sc5, sc6, hx⟩ := hP.slices; obtain ⟨skv, hkv⟩ : ∃ kv, kv = x.kv := ⟨_, rfl⟩; obtain ⟨srv, hrv⟩ : ∃ rv, rv = x.rv := ⟨_, rfl⟩; rw [← hkv, ← hrv] at hx; subst hx; clear hkv hrv; replace hP := hide hP; have hsz := hide hb.size; clear hb; dsimp only))
      clear hV hQ
      clear a0 a1 a2 a3 a4 a5 a6 al
      have hb := below1 w3 (Obj.cells #[.slice s0 pr.js.length sc0, .slice s1 pr.dq.length sc1, .slice s2 pr.ran.length sc2, .slice s3 pr.dn.length sc3, .slice s4 pr.lf.length sc4, .slice s5 pr.sm.length sc5, .slice s6 pr.vl.length sc6] 28)
      have S := hide (show BoxI w3.heap.size wp.heap.size w3.heap.size ⟨.slice s0 pr.js.length sc0, .slice s1 pr.dq.length sc1, .slice s2 pr.ran.length sc2, .slice s3 pr.dn.length sc3, .slice s4 pr.lf.length sc4, .slice s5 pr.sm.length sc5, .slice s6 pr.vl.length sc6, skv, srv⟩ pr (w3.alloc (Obj.cells #[.slice s0 pr.js.length sc0, .slice s1 pr.dq.length sc1, .slice s2 pr.ran.length sc2, .slice s3 pr.dn.length sc3, .slice s4 pr.lf.length sc4, .slice s5 pr.sm.length sc5, .slice s6 pr.vl.length sc6] 28)) from ⟨Blk.new _ _ _, hP.out.next hb⟩)
      replace E := hide (E.out.next hb)
      replace KK := hide (KK.out.next hb)
      clear hP hb
      generalize hw : w3.alloc (Obj.cells #[.slice s0 pr.js.length sc0, .slice s1 pr.dq.length sc1, .slice s2 pr.ran.length sc2, .slice s3 pr.dn.length sc3, .slice s4 pr.lf.length sc4, .slice s5 pr.sm.length sc5, .slice s6 pr.vl.length sc6] 28) = w4 at *
      obtain ⟨Sb, hb9⟩ : ∃ b, b = w3.heap.size := ⟨_, rfl⟩
      rw [← hb9] at S hsz ⊢
      obtain ⟨Sl, hl9⟩ : ∃ b, b = wp.heap.size := ⟨_, rfl⟩
      rw [← hl9] at S hsz hlo
      have So := hide (show n < Sl ∧ Sl ≤ Sb ∧ Sb < w4.heap.size from ⟨hlo.out, hsz.out, S.out.cells.2⟩)
      clear hw hb9 hl9 hsz hlo
      obtain ⟨⟨a0, a1, a2, a3, a4, a5, a6⟩, al⟩ := E.out.cells
      go_upto_region 10 with (go_at_call 45; refine (kT.out _ E.out).mono ?_; rintro e w5 ⟨x, rfl, hP, hb⟩; have hlo := hide (show n < w4.heap.size from E.out.cells.2); replace E := hide (E.out.next hb); replace KK := hide (KK.out.next hb); replace S := hide (S.out.next hb); obtain ⟨j0, j1, j2, j3, j4, j5, j6, jc0, jc1, jc2, jc3, jc4, jc5, jc6, hx⟩ := hP.slices; obtain ⟨jkv, hkv⟩ : ∃ kv, kv = x.kv := ⟨_, rfl⟩; obtain ⟨jrv, hrv⟩ : ∃ rv, rv = x.rv := ⟨_, rfl⟩; rw [← hkv, ← hrv] at hx; subst hx; clear hkv hrv; replace hP := hide hP; have hsz := hide hb.size; clear hb; dsimp only)
      have hSw := hide (show Sb < w4.heap.size from So.out.2.2)
      clear a0 a1 a2 a3 a4 a5 a6 al
      have hb := below1 w5 (Obj.cells #[.slice j0 p.js.length jc0, .slice j1 p.dq.length jc1, .slice j2 p.ran.length jc2, .slice j3 p.dn.length jc3, .slice j4 p.lf.length jc4, .slice j5 p.sm.length jc5, .slice j6 p.vl.length jc6] 28)
      have J := hide (show BoxI w5.heap.size w4.heap.size w5.heap.size ⟨.slice j0 p.js.length jc0, .slice j1 p.dq.length jc1, .slice j2 p.ran.length jc2, .slice j3 p.dn.length jc3, .slice j4 p.lf.length jc4, .slice j5 p.sm.length jc5, .slice j6 p.vl.length jc6, jkv, jrv⟩ p (w5.alloc (Obj.cells #[.slice j0 p.js.length jc0, .slice j1 p.dq.length jc1, .slice j2 p.ran.length jc2, .slice j3 p.dn.length jc3, .slice j4 p.lf.length jc4, .slice j5 p.sm.length jc5, .slice j6 p.vl.length jc6] 28)) from ⟨Blk.new _ _ _, hP.out.next hb⟩)
      replace E := hide (E.out.next hb)
      replace KK := hide (KK.out.next hb)
      replace S := hide (S.out.next hb)
      clear hP hb
      generalize hw : w5.alloc (Obj.cells #[.slice j0 p.js.length jc0, .slice j1 p.dq.length jc1, .slice j2 p.ran.length jc2, .slice j3 p.dn.length jc3, .slice j4 p.lf.length jc4, .slice j5 p.sm.length jc5, .slice j6 p.vl.length jc6] 28) = w5b at *
      obtain ⟨Jb, hb9⟩ : ∃ b, b = w5.heap.size := ⟨_, rfl⟩
      rw [← hb9] at J hsz ⊢
      obtain ⟨Jl, hl9⟩ : ∃ b, b = w4.heap.size := ⟨_, rfl⟩
      rw [← hl9] at J hsz hlo hSw
      have Jo := hide (show n < Jl ∧ Jl ≤ Jb ∧ Jb < w5b.heap.size from ⟨hlo.out, hsz.out, J.out.cells.2⟩)
      clear hw hb9 hl9 hsz hlo
      go_upto_region 11 with (go_at_call 48; refine (kQ.out _ KK.out).mono ?_; rintro e w5c ⟨Qq, rfl, Q, hb⟩; replace E := hide (E.out.next hb); replace KK := hide (KK.out.next hb); replace S := hide (S.out.next hb); replace J := hide (J.out.next hb); replace Q := hide Q; have hQs := hide hb.size; clear hb)
      have hJw := hide (show Jb < w5b.heap.size from Jo.out.2.2)
      obtain ⟨Ql, hl9⟩ : ∃ x, x = w5b.heap.size := ⟨_, rfl⟩
      rw [← hl9] at Q hQs hJw
      clear hl9
      obtain ⟨Qh, hl9⟩ : ∃ x, x = w5c.heap.size := ⟨_, rfl⟩
      rw [← hl9] at Q hQs
      have hQw := hide (Nat.le_of_eq hl9)
      clear hl9
      obtain ⟨⟨y0, y1, y2, y3, y4, y5, y6⟩, yl⟩ := J.out.cells
      dsimp only at y0 y1 y2 y3 y4 y5 y6
      go_upto_region 12 with (go_at_call 25; refine (kI.out _ _ _ _ _ _ _ J.out.pool Q.out).mono ?_; rintro e w6 ⟨x, rfl, hP, hb⟩; have hlo := hide (show n < w5c.heap.size from E.out.cells.2); replace E := hide (E.out.next hb); replace KK := hide (KK.out.next hb); replace S := hide (S.out.next hb); replace J := hide (J.out.next hb); replace Q := hide (Q.out.next hb); obtain ⟨i0, i1, i2, i3, i4, i5, i6, ic0, ic1, ic2, ic3, ic4, ic5, ic6, hx⟩ := hP.slices; obtain ⟨ikv, hkv⟩ : ∃ kv, kv = x.kv := ⟨_, rfl⟩; obtain ⟨irv, hrv⟩ : ∃ rv, rv = x.rv := ⟨_, rfl⟩; rw [← hkv, ← hrv] at hx; subst hx; clear hkv hrv; replace hP := hide hP; have hsz := hide hb.size; clear hb; dsimp only)
      clear y0 y1 y2 y3 y4 y5 y6 yl
      have hb := below1 w6 (Obj.cells #[.slice i0 pr.js.length ic0, .slice i1 pr.dq.length ic1, .slice i2 pr.ran.length ic2, .slice i3 pr.dn.length ic3, .slice i4 pr.lf.length ic4, .slice i5 pr.sm.length ic5, .slice i6 pr.vl.length ic6] 28)
      have I := hide (show BoxI w6.heap.size w5c.heap.size w6.heap.size ⟨.slice i0 pr.js.length ic0, .slice i1 pr.dq.length ic1, .slice i2 pr.ran.length ic2, .slice i3 pr.dn.length ic3, .slice i4 pr.lf.length ic4, .slice i5 pr.sm.length ic5, .slice i6 pr.vl.length ic6, ikv, irv⟩ pr (w6.alloc (Obj.cells #[.slice i0 pr.js.length ic0, .slice i1 pr.dq.length ic1, .slice i2 pr.ran.length ic2, .slice i3 pr.dn.length ic3, .slice i4 pr.lf.length ic4, .slice i5 pr.sm.length ic5, .slice i6 pr.vl.length ic6] 28)) from ⟨Blk.new _ _ _, hP.out.next hb⟩)
      replace E := hide (E.out.next hb)
      replace KK := hide (KK.out.next hb)
      replace S := hide (S.out.next hb)
      replace J := hide (J.out.next hb)
      replace Q := hide (Q.out.next hb)
      clear hP hb
      generalize hw : w6.alloc (Obj.cells #[.slice i0 pr.js.length ic0, .slice i1 pr.dq.length ic1, .slice i2 pr.ran.length ic2, .slice i3 pr.dn.length ic3, .slice i4 pr.lf.length ic4, .slice i5 pr.sm.length ic5, .slice i6 pr.vl.length ic6] 28) = w7 at *
      obtain ⟨Ib, hb9⟩ : ∃ b, b = w6.heap.size := ⟨_, rfl⟩
      rw [← hb9] at I hsz ⊢
      obtain ⟨Il, hl9⟩ : ∃ b, b = w5c.heap.size := ⟨_, rfl⟩
      rw [← hl9] at I hsz hlo hQw
      have Io := hide (show n < Il ∧ Il ≤ Ib ∧ Ib < w7.heap.size from ⟨hlo.out, hsz.out, I.out.cells.2⟩)
      clear hw hb9 hl9 hsz hlo
      have O := hide (show n < Sl ∧ Sl ≤ Sb ∧ Sb < Jl ∧ Jl ≤ Jb ∧ Jb < Ql ∧ Ql ≤ Qh ∧ Qh ≤ Il ∧ Il ≤ Ib from ⟨So.out.1, So.out.2.1, hSw.out, Jo.out.2.1, hJw.out, hQs.out, hQw.out, Io.out.2.1⟩)
      clear hSw hJw hQs hQw
      obtain ⟨⟨x0, x1, x2, x3, x4, x5, x6⟩, xl⟩ := S.out.cells
      dsimp only at x0 x1 x2 x3 x4 x5 x6
      obtain ⟨⟨y0, y1, y2, y3, y4, y5, y6⟩, yl⟩ := I.out.cells
      dsimp only at y0 y1 y2 y3 y4 y5 y6
      go_upto_region 14 with (go_at_call 40; refine (eqPool_i I.out.pool S.out.pool).mono ?_; rintro e w8 ⟨rfl, hb⟩; replace E := hide (E.out.next hb); replace KK := hide (KK.out.next hb); replace S := hide (S.out.next hb); replace I := hide (I.out.next hb); replace J := hide (J.out.next hb); replace Q := hide (Q.out.next hb); clear hb)
      clear x0 x1 x2 x3 x4 x5 x6 xl
      clear y0 y1 y2 y3 y4 y5 y6 yl
      replace E := hide (E.out.next (Below.refl _ w8).drew)
      replace KK := hide (KK.out.next (Below.refl _ w8).drew)
      replace S := hide (S.out.next (Below.refl _ w8).drew)
      replace I := hide (I.out.next (Below.refl _ w8).drew)
      replace J := hide (J.out.next (Below.refl _ w8).drew)
      replace Q := hide (Q.out.next (Below.refl _ w8).drew)
      refine wp_region_held_drew (S := (fun w' => w'.cell? ⟨Jb, 0, none⟩ = some (.slice j0 p.js.length jc0) ∧ w'.cell? ⟨Jb, 1, none⟩ = some (.slice j1 p.dq.length jc1) ∧ w'.cell? ⟨Jb, 2, none⟩ = some (.slice j2 p.ran.length jc2) ∧ w'.cell? ⟨Jb, 3, none⟩ = some (.slice j3 p.dn.length jc3) ∧ w'.cell? ⟨Jb, 4, none⟩ = some (.slice j4 p.lf.length jc4) ∧ w'.cell? ⟨Jb, 5, none⟩ = some (.slice j5 p.sm.length jc5) ∧ w'.cell? ⟨Jb, 6, none⟩ = some (.slice j6 p.vl.length jc6) ∧ w'.cell? ⟨n, 0, none⟩ = some (.slice a.A0 p.js.length a.c0) ∧ w'.cell? ⟨n, 1, none⟩ = some (.slice a.A1 p.dq.length a.c1) ∧ w'.cell? ⟨n, 2, none⟩ = some (.slice a.A2 p.ran.length a.c2) ∧ w'.cell? ⟨n, 3, none⟩ = some (.slice a.A3 p.dn.length a.c3) ∧ w'.cell? ⟨n, 4, none⟩ = some (.slice a.A4 p.lf.length a.c4) ∧ w'.cell? ⟨n, 5, none⟩ = some (.slice a.A5 p.sm.length a.c5) ∧ w'.cell? ⟨n, 6, none⟩ = some (.slice a.A6 p.vl.length a.c6))) (by kernel_rfl) ?_ (fun hHeld => ?_)
      · exact two7 J.out.box E.out.box
      refine wpAnyH_take (i := 0) (oi := { dst := some 54, op := Op.load 28 (.tmp 8), type := 28, pos := "exact.go:3239", after := #[], guard := none }) (v := ?_) rfl (by kernel_rfl) (by kernel_rfl) (by kernel_rfl) (fun _ _ _ h => h) (Or.inl ⟨by rfl, ?_⟩) hHeld ?_
      rotate_left
      · (intro wq hSw; (try dsimp only at hSw); first | (go_simp; done) | (go_simp; with_reducible rfl))
      try simp only [Act.put, qa, qb, qc]
      refine wpAnyH_take (i := 1) (oi := { dst := some 55, op := Op.load 67 (.tmp 2), type := 67, pos := "exact.go:3239", after := #[], guard := none }) (v := ?_) rfl (by kernel_rfl) (by kernel_rfl) (by kernel_rfl) (fun _ _ _ h => h) (Or.inl ⟨by rfl, ?_⟩) hHeld ?_
      rotate_left
      · (intro wq hSw; (try dsimp only at hSw); first | (go_simp; done) | (go_simp; with_reducible rfl))
      try simp only [Act.put, qa, qb, qc]
      refine wpAnyH_ready (rs := [2]) (by kernel_rfl) (by simp) ?_
      refine AllReadyH.cons (o := { dst := some 56, op := Op.call { callee := Callee.value (.func 45), args := #[.tmp 55], argTypes := #[67] }, type := 28, pos := "exact.go:3239", after := #[⟨1, .data⟩], guard := none }) rfl (fun K hK => ?_) AllReadyH.nil
      go_simp
      go_at_call 45; refine (kT.out _ E.out).mono ?_; rintro e wt ⟨xv, rfl, hV, hb⟩; replace E := hide (E.out.next hb); replace KK := hide (KK.out.next hb); replace S := hide (S.out.next hb); replace I := hide (I.out.next hb); replace J := hide (J.out.next hb); replace Q := hide (Q.out.next hb); replace hV := hide hV; clear hb
      refine hK.out _ _ ?_ (fun hHeldN => ?_)
      · exact two7 J.out.box E.out.box
      clear hK K hHeld
      have hHeld := hHeldN
      clear hHeldN
      try simp only [Act.put, qa, qb, qc]
      refine wpAnyH_ready (rs := [3]) (by kernel_rfl) (by simp) ?_
      refine AllReadyH.cons (o := { dst := some 57, op := Op.call { callee := Callee.value (.func 40), args := #[.tmp 54, .tmp 56], argTypes := #[28, 28] }, type := 4, pos := "exact.go:3239", after := #[⟨0, .data⟩, ⟨2, .data⟩, ⟨2, .chain⟩], guard := none }) rfl (fun K hK => ?_) AllReadyH.nil
      go_simp
      go_at_call 40; refine (eqPool_i J.out.pool hV.out).mono ?_; rintro e w9 ⟨rfl, hb⟩; replace E := hide (E.out.next hb); replace KK := hide (KK.out.next hb); replace S := hide (S.out.next hb); replace I := hide (I.out.next hb); replace J := hide (J.out.next hb); replace Q := hide (Q.out.next hb); clear hb hV
      refine hK.out _ _ ?_ (fun hHeldN => ?_)
      · exact two7 J.out.box E.out.box
      clear hK K hHeld
      have hHeld := hHeldN
      clear hHeldN
      try simp only [Act.put, qa, qb, qc]
      refine wpAnyH_take (i := 4) (oi := { dst := some 58, op := Op.unOp UnOp.not 4 (.tmp 57), type := 4, pos := "exact.go:3239", after := #[⟨3, .data⟩], guard := none }) (v := ?_) rfl (by kernel_rfl) (by kernel_rfl) (by kernel_rfl) (fun _ _ _ h => h) (Or.inl ⟨by rfl, ?_⟩) hHeld ?_
      rotate_left
      · (intro wq hSw; (try dsimp only at hSw); first | (go_simp; done) | (go_simp; with_reducible rfl))
      try simp only [Act.put, qa, qb, qc]
      refine wpAnyH_done (by kernel_rfl) ?_ _
      clear hHeld
      go_upto_region 16 with fail
      go_upto_region 18 with (first | (go_at_call 48; refine (kQ.out _ KK.out).mono ?_; rintro e wp ⟨hQq, rfl, hQ, hb⟩; replace E := hide (E.out.next hb); replace KK := hide (KK.out.next hb); replace S := hide (S.out.next hb); replace I := hide (I.out.next hb); replace J := hide (J.out.next hb); replace Q := hide (Q.out.next hb); replace hQ := hide hQ; clear hb) | (go_at_call 49; refine (eqPickI hzs.out (by have := hn6.out; omega) Q.out hQ.out).mono ?_; rintro e w9b ⟨rfl, hb⟩; replace E := hide (E.out.next hb); replace KK := hide (KK.out.next hb); replace S := hide (S.out.next hb); replace I := hide (I.out.next hb); replace J := hide (J.out.next hb); replace Q := hide (Q.out.next hb); clear hb hQ))
      go_upto_region 19 with fail
      obtain ⟨⟨y0, y1, y2, y3, y4, y5, y6⟩, yl⟩ := J.out.cells
      dsimp only at y0 y1 y2 y3 y4 y5 y6
      go_upto_region 20 with (go_at_call 42; refine (kM.out _ _ _ _ (by have := J.out.cells.2; have := O.out; omega) J.out.pool).mono ?_; rintro e w10 ⟨rfl, hI⟩; have hq := O.out; replace E := hide (E.out.inn hI (by omega)); replace KK := hide (KK.out.inn hI (by omega)); replace S := hide (S.out.inn hI (by omega) (by omega)); replace I := hide (I.out.inn hI (by omega) (by omega)); replace Q := hide (Q.out.inn hI (by omega)); clear hI J hq)
      clear y0 y1 y2 y3 y4 y5 y6 yl
      go_upto_region 21 with (go_at_call 50; refine (kN.out _ _ _ _ Q.out).mono ?_; rintro e w10b ⟨rfl, hI⟩; have hq := O.out; replace E := hide (E.out.inn hI (by omega)); replace KK := hide (KK.out.inn hI (by omega)); replace S := hide (S.out.inn hI (by omega) (by omega)); replace I := hide (I.out.inn hI (by omega) (by omega)); clear hI Q hq)
      obtain ⟨⟨x0, x1, x2, x3, x4, x5, x6⟩, xl⟩ := S.out.cells
      dsimp only at x0 x1 x2 x3 x4 x5 x6
      obtain ⟨⟨y0, y1, y2, y3, y4, y5, y6⟩, yl⟩ := I.out.cells
      dsimp only at y0 y1 y2 y3 y4 y5 y6
      go_upto_region 24 with (go_at_call 40; refine (eqPool_i I.out.pool S.out.pool).mono ?_; rintro e w11 ⟨rfl, hb⟩; replace E := hide (E.out.next hb); replace KK := hide (KK.out.next hb); replace S := hide (S.out.next hb); replace I := hide (I.out.next hb); clear hb)
      clear x0 x1 x2 x3 x4 x5 x6 xl
      clear y0 y1 y2 y3 y4 y5 y6 yl
      obtain ⟨⟨y0, y1, y2, y3, y4, y5, y6⟩, yl⟩ := I.out.cells
      dsimp only at y0 y1 y2 y3 y4 y5 y6
      go_upto_region 26 with (go_at_call 42; refine (kP.out _ _ _ _ (by have := I.out.cells.2; have := O.out; omega) I.out.pool).mono ?_; rintro e w12 ⟨rfl, hM, hI⟩; have hq := O.out; replace E := hide (E.out.inn hI (by omega)); replace KK := hide (KK.out.inn hI (by omega)); replace S := hide (S.out.inn hI (by omega) (by omega)); have I2 := hide (show BoxI Ib Il Ib _ (markP 1 pr) w12 from ⟨(hI.block Ib I.out.box.lt (by omega)).trans I.out.box, hM⟩); clear hI hM I hq)
      clear y0 y1 y2 y3 y4 y5 y6 yl
      obtain ⟨⟨y0, y1, y2, y3, y4, y5, y6⟩, yl⟩ := I2.out.cells
      dsimp only at y0 y1 y2 y3 y4 y5 y6
      go_upto_region 31 with (go_at_call 43; refine (hH.out _ _ _ _ I2.out.pool).mono ?_; rintro e w13 ⟨rfl, hb⟩; replace E := hide (E.out.next hb); replace KK := hide (KK.out.next hb); replace S := hide (S.out.next hb); replace I2 := hide (I2.out.next hb); clear hb)
      clear y0 y1 y2 y3 y4 y5 y6 yl
      obtain ⟨⟨a0, a1, a2, a3, a4, a5, a6⟩, al⟩ := E.out.cells
      go_upto_region 32 with (first | (go_at_call 45; refine (kT.out _ E.out).mono ?_; rintro e wt ⟨xv, rfl, hV, hb⟩; replace E := hide (E.out.next hb); replace KK := hide (KK.out.next hb); replace S := hide (S.out.next hb); replace I2 := hide (I2.out.next hb); replace hV := hide hV; clear hb) | (go_at_call 48; refine (kQ.out _ KK.out).mono ?_; rintro e wp ⟨hQq, rfl, hQ, hb⟩; replace E := hide (E.out.next hb); replace KK := hide (KK.out.next hb); replace S := hide (S.out.next hb); replace I2 := hide (I2.out.next hb); replace hV := hide (hV.out.next hb); replace hQ := hide hQ; clear hb) | (go_at_call 25; refine (kI.out _ _ _ _ _ _ _ hV.out hQ.out).mono ?_; rintro e w14 ⟨x, rfl, hP, hb⟩; have hlo := hide (show n < wp.heap.size from E.out.cells.2); replace E := hide (E.out.next hb); replace KK := hide (KK.out.next hb); replace S := hide (S.out.next hb); replace I2 := hide (I2.out.next hb); obtain ⟨h0, h1, h2, h3, h4, h5, h6, hc0, hc1, hc2, hc3, hc4, hc5, hc6, hx⟩ := hP.slices; obtain ⟨hkv, hkv⟩ : ∃ kv, kv = x.kv := ⟨_, rfl⟩; obtain ⟨hrv, hrv⟩ : ∃ rv, rv = x.rv := ⟨_, rfl⟩; rw [← hkv, ← hrv] at hx; subst hx; clear hkv hrv; replace hP := hide hP; have hsz := hide hb.size; clear hb; dsimp only))
      clear hV hQ
      clear a0 a1 a2 a3 a4 a5 a6 al
      have hb := below1 w14 (Obj.cells #[.slice h0 pr.js.length hc0, .slice h1 pr.dq.length hc1, .slice h2 pr.ran.length hc2, .slice h3 pr.dn.length hc3, .slice h4 pr.lf.length hc4, .slice h5 pr.sm.length hc5, .slice h6 pr.vl.length hc6] 28)
      have H := hide (show BoxI w14.heap.size wp.heap.size w14.heap.size ⟨.slice h0 pr.js.length hc0, .slice h1 pr.dq.length hc1, .slice h2 pr.ran.length hc2, .slice h3 pr.dn.length hc3, .slice h4 pr.lf.length hc4, .slice h5 pr.sm.length hc5, .slice h6 pr.vl.length hc6, hkv, hrv⟩ pr (w14.alloc (Obj.cells #[.slice h0 pr.js.length hc0, .slice h1 pr.dq.length hc1, .slice h2 pr.ran.length hc2, .slice h3 pr.dn.length hc3, .slice h4 pr.lf.length hc4, .slice h5 pr.sm.length hc5, .slice h6 pr.vl.length hc6] 28)) from ⟨Blk.new _ _ _, hP.out.next hb⟩)
      replace E := hide (E.out.next hb)
      replace KK := hide (KK.out.next hb)
      replace S := hide (S.out.next hb)
      replace I2 := hide (I2.out.next hb)
      clear hP hb
      generalize hw : w14.alloc (Obj.cells #[.slice h0 pr.js.length hc0, .slice h1 pr.dq.length hc1, .slice h2 pr.ran.length hc2, .slice h3 pr.dn.length hc3, .slice h4 pr.lf.length hc4, .slice h5 pr.sm.length hc5, .slice h6 pr.vl.length hc6] 28) = w15 at *
      obtain ⟨Hb, hb9⟩ : ∃ b, b = w14.heap.size := ⟨_, rfl⟩
      rw [← hb9] at H hsz ⊢
      obtain ⟨Hl, hl9⟩ : ∃ b, b = wp.heap.size := ⟨_, rfl⟩
      rw [← hl9] at H hsz hlo
      have Ho := hide (show n < Hl ∧ Hl ≤ Hb ∧ Hb < w15.heap.size from ⟨hlo.out, hsz.out, H.out.cells.2⟩)
      clear hw hb9 hl9 hsz hlo
      obtain ⟨⟨x0, x1, x2, x3, x4, x5, x6⟩, xl⟩ := S.out.cells
      dsimp only at x0 x1 x2 x3 x4 x5 x6
      obtain ⟨⟨y0, y1, y2, y3, y4, y5, y6⟩, yl⟩ := H.out.cells
      dsimp only at y0 y1 y2 y3 y4 y5 y6
      go_upto_region 35 with (go_at_call 40; refine (eqPool_i H.out.pool S.out.pool).mono ?_; rintro e w16 ⟨rfl, hb⟩; replace E := hide (E.out.next hb); replace KK := hide (KK.out.next hb); replace S := hide (S.out.next hb); replace I2 := hide (I2.out.next hb); replace H := hide (H.out.next hb); clear hb)
      clear x0 x1 x2 x3 x4 x5 x6 xl
      clear y0 y1 y2 y3 y4 y5 y6 yl
      obtain ⟨⟨y0, y1, y2, y3, y4, y5, y6⟩, yl⟩ := I2.out.cells
      dsimp only at y0 y1 y2 y3 y4 y5 y6
      go_wp2_with (go_at_call 43; refine (hH.out _ _ _ _ I2.out.pool).mono ?_; rintro e w17 ⟨rfl, hb⟩; replace E := hide (E.out.next hb); replace KK := hide (KK.out.next hb); replace S := hide (S.out.next hb); replace I2 := hide (I2.out.next hb); clear hb)
      go_ret
      exact ⟨rfl, hfin.out _ E.out.since⟩
    · have kz2 := hide (show ∀ w, Calls Try.prog 46 #[.slice AL m cL, .int .i64 s] w fun e w' => e = .returned (.int .i64 (-1)) ∧ w = w' from fun w => by
        have h := kz w
        unfold szR at h
        rwa [if_pos (by omega)] at h)
      clear ha hAL0 hAL kz hs2 hms
      go_enter Try.func14, Try.ntmps14
      go_upto_region 2 with fail
      rw [← hw0, ← hn]
      clear hw0 hn
      obtain ⟨⟨a0, a1, a2, a3, a4, a5, a6⟩, al⟩ := E.out.cells
      go_upto_region 5 with (go_at_call 44; refine ks.out.mono ?_; rintro e w1 ⟨rfl, hb⟩; replace E := hide (E.out.next hb); clear hb)
      clear a0 a1 a2 a3 a4 a5 a6 al
      go_wp2_with (go_at_call 46; refine (kz2.out _).mono ?_; rintro e w1b ⟨rfl, rfl⟩)
      go_ret
      exact ⟨rfl, hfin.out _ E.out.since⟩
  · rw [szR_neg (by omega)] at ks
    replace ks := hide ks
    clear ha hAL0 hAL
    go_enter Try.func14, Try.ntmps14
    go_upto_region 2 with fail
    rw [← hw0, ← hn]
    clear hw0 hn
    obtain ⟨⟨a0, a1, a2, a3, a4, a5, a6⟩, al⟩ := E.out.cells
    go_wp2_with (go_at_call 44; refine ks.out.mono ?_; rintro e w1 ⟨rfl, hb⟩; replace E := hide (E.out.next hb); clear hb)
    go_ret
    exact ⟨rfl, hfin.out _ E.out.since⟩
end Go.Proofs.Ytfnphnjadknoaaa
