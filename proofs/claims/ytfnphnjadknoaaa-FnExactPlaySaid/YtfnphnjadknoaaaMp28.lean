/- spec.l9rows: does just what is to be run stand in rows? -/
import Derived.Test.YtfnphnjadknoaaaMp0
import Derived.Test.YtfnphnjadknoaaaMp8
import Derived.Test.YtfnphnjadknoaaaMp27
import Derived.Deep.Cut
import Derived.Deep.RegionHeld3
namespace Go.Proofs.Ytfnphnjadknoaaa
open Go.RowKit

def asJ (dq : List (List Int)) : List JobD := dq.map (fun r => ⟨0, r⟩)
theorem asJ_len (dq : List (List Int)) : (asJ dq).length = dq.length := by simp [asJ]
theorem asJ_get (dq : List (List Int)) (k : Nat) : (getj (asJ dq) k).ks = getq dq k := by
  unfold asJ getj getq
  rw [List.getD_eq_getElem?_getD, List.getD_eq_getElem?_getD, List.getElem?_map]
  cases dq[k]? <;> rfl
theorem asJ_cnt (dq : List (List Int)) (x : Int) : cntJ (asJ dq) dq.length x = cntQ dq x := by
  unfold cntJ asJ cntQ
  rw [List.take_of_length_le (by simp), List.map_map]
  rfl
theorem cntQ_le (dq : List (List Int)) (x : Int) : cntQ dq x ≤ (lensQ dq).sum := by
  unfold cntQ lensQ
  induction dq with
  | nil => simp
  | cons r dq ih =>
    rw [List.map_cons, List.sum_cons, List.map_cons, List.sum_cons]
    have : r.count x ≤ r.length := List.count_le_length
    omega
theorem cntA_le {dq : List (List Int)} {W : Nat} (hW : W < dq.length) (K : Nat) (x : Int) : cntK (asJ dq) W K x ≤ (lensQ dq).sum := by
  have h1 := cntK_le (l := asJ dq) (J := W) (K := K) (by rw [asJ_len]; exact hW) x
  rw [asJ_len, asJ_cnt] at h1
  exact Nat.le_trans h1 (cntQ_le dq x)
theorem innB_no {p : PoolD} {W k : Nat} (hW : W < p.dq.length) (hk : k < (getq p.dq W).length) (h : geti (getq p.dq W) k < 0 ∨ (p.js.length : Int) ≤ geti (getq p.dq W) k) : innB p = false := by
  unfold innB
  refine allB_no hW (allB_no hk ?_)
  rcases h with h | h
  · rw [decide_eq_false (by omega), Bool.false_and]
  · rw [decide_eq_false (by omega : ¬ geti (getq p.dq W) k < (p.js.length : Int)), Bool.and_false]
theorem innB_yes {p : PoolD} (h : ∀ W, W < p.dq.length → ∀ k, k < (getq p.dq W).length → 0 ≤ geti (getq p.dq W) k ∧ geti (getq p.dq W) k < (p.js.length : Int)) : innB p = true := by
  unfold innB
  exact allB_yes (fun W hW => allB_yes (fun k hk => by rw [decide_eq_true (h W hW k hk).1, decide_eq_true (h W hW k hk).2, Bool.and_self]))

set_option maxRecDepth 100000 in
set_option maxHeartbeats 25600000 in
theorem srows_any (a : PA) (p : PoolD) (S : Nat → Prop) (w : World) (hT : Hid (Tree p.js)) (hlr : p.ran.length = p.js.length) (hsz : ∀ k, (getj p.js k).ks.length ≤ 1048576) (hzQ : sizeQ p.dq ≤ 1048576) (hS : ∀ b, S b → b < w.heap.size) (ha : PoolAt w S a p) :
    Calls Try.prog 68 #[.agg (a.cells p)] w fun e w' => e = .returned (.bool (innB p && allB (rowB p) p.js.length)) ∧ Below w.heap.size w w' := by
  unfold PA.cells
  obtain ⟨res, hres⟩ : ∃ res, res = (innB p && allB (rowB p) p.js.length) := ⟨_, rfl⟩
  rw [← hres]
  replace hres := hide hres
  have h30 := hT.out.top
  have h01 := hT.out.one
  have hdl : p.dq.length ≤ 1048576 := by unfold sizeQ at hzQ; omega
  have hsum := hide (show (lensQ p.dq).sum ≤ 1048576 from by unfold sizeQ at hzQ; omega)
  have hrow := hide (fun k => Nat.le_trans (sizeQ_row (rs := p.dq) k) hzQ)
  have hmk := make_ints p.js.length (by omega)
  have hb0 := below2 w (Obj.cells #[.slice a.A0 p.js.length a.c0, .slice a.A1 p.dq.length a.c1, .slice a.A2 p.ran.length a.c2, .slice a.A3 p.dn.length a.c3, .slice a.A4 p.lf.length a.c4, .slice a.A5 p.sm.length a.c5, .slice a.A6 p.vl.length a.c6] 28) (Obj.cells (zrow #[.int .i64 0] p.js.length) 3)
  have X0 := (Blk.new w 28 #[.slice a.A0 p.js.length a.c0, .slice a.A1 p.dq.length a.c1, .slice a.A2 p.ran.length a.c2, .slice a.A3 p.dn.length a.c3, .slice a.A4 p.lf.length a.c4, .slice a.A5 p.sm.length a.c5, .slice a.A6 p.vl.length a.c6]).alloc (Obj.cells (zrow #[.int .i64 0] p.js.length) 3)
  have F0 := FnAt.zero (w.alloc (Obj.cells #[.slice a.A0 p.js.length a.c0, .slice a.A1 p.dq.length a.c1, .slice a.A2 p.ran.length a.c2, .slice a.A3 p.dn.length a.c3, .slice a.A4 p.lf.length a.c4, .slice a.A5 p.sm.length a.c5, .slice a.A6 p.vl.length a.c6] 28)) p.js.length
  simp only [World.size_alloc] at F0
  obtain ⟨w0, hw0⟩ : ∃ w0, w0 = (w.alloc (Obj.cells #[.slice a.A0 p.js.length a.c0, .slice a.A1 p.dq.length a.c1, .slice a.A2 p.ran.length a.c2, .slice a.A3 p.dn.length a.c3, .slice a.A4 p.lf.length a.c4, .slice a.A5 p.sm.length a.c5, .slice a.A6 p.vl.length a.c6] 28)).alloc (Obj.cells (zrow #[.int .i64 0] p.js.length) 3) := ⟨_, rfl⟩
  rw [← hw0] at hb0 X0 F0
  obtain ⟨q, hq⟩ : ∃ q, q = w.heap.size := ⟨_, rfl⟩
  rw [← hq] at X0 F0
  replace X0 := hide X0
  have G0 := hide (F0.congr (f' := fun m => (cntJ (asJ p.dq) 0 (m : Int) : Int)) (fun m _ => by rw [cntJ_zero]; rfl))
  have B0 := hide hb0
  replace hlr := hide hlr
  replace hzQ := hide hzQ
  clear hb0 F0
  go_enter Try.func68, Try.ntmps68
  go_upto_region 2 with fail
  rw [← hw0, ← hq]
  clear hw0 hmk
  replace hq := hide hq
  go_wp2_with fail
  go_loopw [4] (fun i wr => ∃ W : Nat, W ≤ p.dq.length ∧ i = .int .i64 W ∧ Hid (FnAt wr (q + 1) p.js.length (fun m => (cntJ (asJ p.dq) W (m : Int) : Int))) ∧ Hid (Blk wr q 28 #[.slice a.A0 p.js.length a.c0, .slice a.A1 p.dq.length a.c1, .slice a.A2 p.ran.length a.c2, .slice a.A3 p.dn.length a.c3, .slice a.A4 p.lf.length a.c4, .slice a.A5 p.sm.length a.c5, .slice a.A6 p.vl.length a.c6]) ∧ Hid (Below w.heap.size w wr) ∧ Hid (∀ i, i < W → ∀ k, k < (getq p.dq i).length → 0 ≤ geti (getq p.dq i) k ∧ geti (getq p.dq i) k < (p.js.length : Int))) (fun i _ => p.dq.length - (intOf i).toNat)
  case atStart => exact ⟨0, by omega, rfl, G0, X0, B0, hide (fun i hi => by omega)⟩
  case round =>
    clear G0 X0 B0
    obtain ⟨W, hW, rfl, F, X, B, K⟩ := hrel
    by_cases hlt : W < p.dq.length
    · have hlt' : (W : Int) < p.dq.length := by omega
      obtain ⟨⟨x0, x1, x2, x3, x4, x5, x6⟩, xl⟩ := box7 X.out
      go_wp2_with fail
      clear x0 x1 x2 x3 x4 x5 x6 xl
      rename World => w1
      go_loopw [5] (fun i wr => ∃ k : Nat, k ≤ (getq p.dq W).length ∧ i = .int .i64 k ∧ Hid (FnAt wr (q + 1) p.js.length (fun m => (cntK (asJ p.dq) W k (m : Int) : Int))) ∧ Hid (Blk wr q 28 #[.slice a.A0 p.js.length a.c0, .slice a.A1 p.dq.length a.c1, .slice a.A2 p.ran.length a.c2, .slice a.A3 p.dn.length a.c3, .slice a.A4 p.lf.length a.c4, .slice a.A5 p.sm.length a.c5, .slice a.A6 p.vl.length a.c6]) ∧ Hid (Below w.heap.size w wr) ∧ Hid (∀ m, m < k → 0 ≤ geti (getq p.dq W) m ∧ geti (getq p.dq W) m < (p.js.length : Int))) (fun i _ => (getq p.dq W).length - (intOf i).toNat)
      case atStart => exact ⟨0, by omega, rfl, hide (F.out.congr (fun m _ => by rw [cntK_zero])), X, B, hide (fun m hm => by omega)⟩
      case round =>
        clear F X B
        obtain ⟨k, hk, rfl, F, X, B, KW⟩ := hrel
        obtain ⟨⟨x0, x1, x2, x3, x4, x5, x6⟩, xl⟩ := box7 X.out
        obtain ⟨b, off, eA, hb, A', c', h3, -, h4⟩ := (ha.rows.below B.out hS).at_ hlt
        rw [eA] at x1
        replace eA := hide eA
        have hkn : (getq p.dq W).length ≤ 1048576 := hrow.out W
        by_cases hlk : k < (getq p.dq W).length
        · obtain ⟨b', off', rfl, hb', h5⟩ := h4.at_ hlk
          obtain ⟨x, hx⟩ : ∃ x, x = geti (getq p.dq W) k := ⟨_, rfl⟩
          rw [← hx] at h5
          replace hx := hide hx
          have hlk' : (k : Int) < (getq p.dq W).length := by omega
          clear h4
          by_cases hx1 : x < 0
          · have hE := hide (show res = false from by rw [hres.out, innB_no hlt hlk (by rw [← hx.out]; exact .inl hx1), Bool.false_and])
            go_wp2_with fail
            go_ret
            exact ⟨ret_bool hE.out.symm, B.out⟩
          · by_cases hx2 : (p.js.length : Int) ≤ x
            · have hE := hide (show res = false from by rw [hres.out, innB_no hlt hlk (by rw [← hx.out]; exact .inr hx2), Bool.false_and])
              go_wp2_with fail
              go_ret
              exact ⟨ret_bool hE.out.symm, B.out⟩
            · obtain ⟨m, rfl⟩ : ∃ m : Nat, x = m := ⟨x.toNat, by omega⟩
              have hm : m < p.js.length := by omega
              obtain ⟨h6, h7⟩ := F.out.cell hm
              have hlt6 := F.out.lt
              have hb6 : cntK (asJ p.dq) W k (m : Int) ≤ 1048576 := Nat.le_trans (cntA_le hlt k m) hsum.out
              obtain ⟨z, hz⟩ : ∃ z, z = cntK (asJ p.dq) W k (m : Int) := ⟨_, rfl⟩
              rw [← hz] at h6 hb6
              have F2 := hide (show FnAt (wr.setCell ⟨q + 1, m, none⟩ (.int .i64 ((z : Int) + 1))) (q + 1) p.js.length (fun m => (cntK (asJ p.dq) W (k + 1) (m : Int) : Int)) from
                (F.out.set_ hm _).congr (fun m' _ => by
                  show _ = if m' = m then (z : Int) + 1 else (cntK (asJ p.dq) W k (m' : Int) : Int)
                  rw [cntK_succ (by rw [asJ_get]; exact hlk), asJ_get, ← hx.out]
                  by_cases e : m' = m
                  · rw [if_pos e, e, if_pos rfl, hz]; rfl
                  · rw [if_neg e, if_neg (by omega)]; rfl))
              have X2 := hide (X.out.far (p := ⟨q + 1, m, none⟩) (by show q ≠ q + 1; omega) (.int .i64 ((z : Int) + 1)))
              have B2 := hide (B.out.setCell (p := ⟨q + 1, m, none⟩) (by have := hq.out; show w.heap.size ≤ q + 1; omega) (.int .i64 ((z : Int) + 1)))
              have K2 := hide (show ∀ m, m < k + 1 → 0 ≤ geti (getq p.dq W) m ∧ geti (getq p.dq W) m < (p.js.length : Int) from fun m' hm' => by
                rcases Nat.lt_or_ge m' k with h | h
                · exact KW.out m' h
                · obtain rfl : m' = k := by omega
                  rw [← hx.out]; omega)
              have hw : IntKind.i64.wrap ((z : Int) + 1) = (z : Int) + 1 := by rw [IntKind.wrap_i64]; omega
              clear F X B KW hz
              go_wp2_with fail
              go_roundw
              case rel => exact ⟨k + 1, by omega, by go_num, F2, X2, B2, K2⟩
              case measure => simp [intOf]; omega
        · have hlk' : decide ((k : Int) < (getq p.dq W).length) = false := decide_eq_false (by omega)
          have F2 := hide (F.out.congr (f' := fun m => (cntJ (asJ p.dq) (W + 1) (m : Int) : Int)) (fun m _ => by rw [cntK_all (by rw [asJ_len]; exact hlt) (by rw [asJ_get]; omega)]))
          have K2 := hide (show ∀ i, i < W + 1 → ∀ k, k < (getq p.dq i).length → 0 ≤ geti (getq p.dq i) k ∧ geti (getq p.dq i) k < (p.js.length : Int) from fun i hi m hm => by
            rcases Nat.lt_or_ge i W with h | h
            · exact K.out i h m hm
            · obtain rfl : i = W := by omega
              exact KW.out m (by omega))
          clear h4 F KW K
          go_wp2_with fail
          go_roundw
          case rel => exact ⟨W + 1, by omega, by go_num, F2, X, B, K2⟩
          case measure => simp [intOf]; omega
    · obtain rfl : W = p.dq.length := by omega
      have hI := hide (innB_yes K.out)
      have F1 := hide (F.out.congr (f' := fun m => (cntQ p.dq (m : Int) : Int)) (fun m _ => by rw [asJ_cnt]))
      obtain ⟨⟨x0, x1, x2, x3, x4, x5, x6⟩, xl⟩ := box7 X.out
      have kP := hide (sparents_any a.A0 p.js a.c0 S wr hT.out hsz (fun b h => Nat.lt_of_lt_of_le (hS b h) B.out.size) (ha.jobs.below B.out hS))
      clear F K hlt
      go_upto_region 13 with (go_at_call 105; refine kP.out.mono ?_; rintro e w2 ⟨rfl, hF, hb2⟩; replace hF := hide hF; replace hb2 := hide hb2)
      have F2 := hide (F1.out.next hb2.out)
      have X2 := hide (X.out.below hb2.out X.out.lt)
      have B2 := hide (below_next B.out hb2.out B.out.size)
      obtain ⟨y, hy⟩ : ∃ y, y = wr.heap.size := ⟨_, rfl⟩
      rw [← hy] at hF ⊢
      clear F1 X B hb2 kP x0 x1 x2 x3 x4 x5 x6 xl hy
      go_wp2_with fail
      rename World => w3
      go_loopw [8] (fun i wr => ∃ j : Nat, j ≤ p.js.length ∧ i = .int .i64 j ∧ Hid (FnAt wr (q + 1) p.js.length (fun m => (cntQ p.dq (m : Int) : Int))) ∧ Hid (FnAt wr y p.js.length (fun m => parI p.js p.js.length (m : Int))) ∧ Hid (Blk wr q 28 #[.slice a.A0 p.js.length a.c0, .slice a.A1 p.dq.length a.c1, .slice a.A2 p.ran.length a.c2, .slice a.A3 p.dn.length a.c3, .slice a.A4 p.lf.length a.c4, .slice a.A5 p.sm.length a.c5, .slice a.A6 p.vl.length a.c6]) ∧ Hid (Below w.heap.size w wr) ∧ Hid (∀ i, i < j → rowB p i = true)) (fun i _ => p.js.length - (intOf i).toNat)
      case atStart => exact ⟨0, by omega, rfl, F2, hF, X2, B2, hide (fun i hi => by omega)⟩
      case round =>
        clear F2 hF X2 B2
        obtain ⟨j, hj, rfl, F, Q, X, B, K⟩ := hrel
        by_cases hlt : j < p.js.length
        · have hlt' : (j : Int) < p.js.length := by omega
          have hlt2 := hlt'
          rw [← hlr.out] at hlt2
          have hlt3 : j < p.ran.length := by rw [hlr.out]; exact hlt
          obtain ⟨⟨x0, -, x2, -, -, -, -⟩, xl⟩ := box7 X.out
          obtain ⟨b, off, eA, -, xr⟩ := (ha.ran.below B.out hS).at_ (k := j) (by rw [hlr.out]; exact hlt)
          rw [eA] at x2
          obtain ⟨xs, -⟩ := F.out.cell hlt
          obtain ⟨xp, -⟩ := Q.out.cell hlt
          have BW := hide B.out
          obtain ⟨z, hz⟩ : ∃ z, z = cntQ p.dq (j : Int) := ⟨_, rfl⟩
          rw [← hz] at xs
          replace hz := hide hz
          obtain ⟨r, hr⟩ : ∃ r, r = getb p.ran j := ⟨_, rfl⟩
          rw [← hr] at xr
          replace hr := hide hr
          have hrB := hide (show rowB p j = (decide (z = if !r && reachB p j then 1 else 0) && (!r || reachB p j)) from by
            unfold rowB; rw [hz.out, hr.out])
          have hN := hide (show rowB p j = false → res = false from fun e => by rw [hres.out, allB_no hlt e, Bool.and_false])
          have hY := hide (show rowB p j = true → ∀ i, i < j + 1 → rowB p i = true from fun e i hi => by
            rcases Nat.lt_or_ge i j with h | h
            · exact K.out i h
            · obtain rfl : i = j := by omega
              exact e)
          clear K
          by_cases hj0 : j = 0
          · have hRe := hide (show reachB p j = true from by unfold reachB; rw [decide_eq_true hj0, Bool.true_or])
            subst hj0
            simp only [Nat.add_zero] at xr
            cases r
            · skip
              go_upto_region 17 with fail
              go_quiet (fail)
              go_upto_region 19 with fail
              by_cases hzw : z = 1
              · have hE := hide (show rowB p 0 = true from by rw [hrB.out, hRe.out, hzw]; rfl)
                subst hzw
                go_quiet (fail)
                clear x2 xr xs xp
                have hw1 := hide hY.out
                obtain ⟨⟨x0, -, -, -, -, -, -⟩, xl⟩ := box7 X.out
                go_wp2_with fail
                go_roundw
                case rel => exact ⟨0 + 1, by omega, by go_num, hide (F.out.next (below_drewN (Below.refl _ _) _)), hide (Q.out.next (below_drewN (Below.refl _ _) _)), hide (X.out.below (below_drewN (Below.refl _ _) _) X.out.lt), hide (below_drewN B.out _), hide (hw1.out hE.out)⟩
                case measure => simp [intOf]; omega
              · have hE := hide (hN.out (by rw [hrB.out, hRe.out]; simp [hzw]))
                have hzi : ¬ ((z : Int) = 1) := by omega
                have hzb : ((z : Int) != 1) = true := by simpa using hzi
                go_quiet (fail)
                clear x2 xr xs xp
                go_wp2_with fail
                go_ret
                exact ⟨ret_bool hE.out.symm, below_drewN (below_drewN B.out _) _⟩
            · skip
              go_upto_region 17 with fail
              go_quiet (fail)
              go_upto_region 19 with fail
              by_cases hzw : z = 0
              · have hE := hide (show rowB p 0 = true from by rw [hrB.out, hRe.out, hzw]; rfl)
                subst hzw
                go_quiet (fail)
                clear x2 xr xs xp
                have hw1 := hide hY.out
                obtain ⟨⟨x0, -, -, -, -, -, -⟩, xl⟩ := box7 X.out
                go_wp2_with fail
                go_roundw
                case rel => exact ⟨0 + 1, by omega, by go_num, hide (F.out.next (below_drewN (Below.refl _ _) _)), hide (Q.out.next (below_drewN (Below.refl _ _) _)), hide (X.out.below (below_drewN (Below.refl _ _) _) X.out.lt), hide (below_drewN B.out _), hide (hw1.out hE.out)⟩
                case measure => simp [intOf]; omega
              · have hE := hide (hN.out (by rw [hrB.out, hRe.out]; simp [hzw]))
                have hzi : ¬ ((z : Int) = 0) := by omega
                have hzb : ((z : Int) != 0) = true := by simpa using hzi
                go_quiet (fail)
                clear x2 xr xs xp
                go_wp2_with fail
                go_ret
                exact ⟨ret_bool hE.out.symm, below_drewN (below_drewN B.out _) _⟩
          · obtain ⟨i, hi1, hi2, -⟩ := hT.out.parent (j := j) (by omega) hlt
            rw [hi1] at xp
            obtain ⟨b2, off2, eA2, -, xrp⟩ := (ha.ran.below BW.out hS).at_ (k := i) (by rw [hlr.out]; omega)
            rw [eA] at eA2
            cases eA2
            have hi3 : (i : Int) < p.ran.length := by rw [hlr.out]; omega
            have hi4 : i < p.ran.length := by rw [hlr.out]; omega
            have hj1 : (0 : Int) < j := by omega
            have hj2 : 0 < j := by omega
            have hj4 : ¬ ((j : Int) = 0) := by omega
            have hj5 : ((j : Int) == 0) = false := by simpa using hj4
            obtain ⟨rp, hrp⟩ : ∃ rp, rp = getb p.ran i := ⟨_, rfl⟩
            rw [← hrp] at xrp
            have hRe := hide (show reachB p j = rp from by unfold reachB; rw [decide_eq_false hj0, Bool.false_or, show parD p j = (i : Int) from hi1, Int.toNat_natCast, hrp])
            clear hrp hi1
            cases rp
            · skip
              cases r
              · skip
                go_upto_region 17 with fail
                go_quiet (fail)
                go_upto_region 19 with fail
                by_cases hzw : z = 0
                · have hE := hide (show rowB p j = true from by rw [hrB.out, hRe.out, hzw]; rfl)
                  subst hzw
                  go_quiet (fail)
                  clear x2 xr xs xp xrp
                  have hw1 := hide hY.out
                  obtain ⟨⟨x0, -, -, -, -, -, -⟩, xl⟩ := box7 X.out
                  go_wp2_with fail
                  go_roundw
                  case rel => exact ⟨j + 1, by omega, by go_num, hide (F.out.next (below_drewN (Below.refl _ _) _)), hide (Q.out.next (below_drewN (Below.refl _ _) _)), hide (X.out.below (below_drewN (Below.refl _ _) _) X.out.lt), hide (below_drewN B.out _), hide (hw1.out hE.out)⟩
                  case measure => simp [intOf]; omega
                · have hE := hide (hN.out (by rw [hrB.out, hRe.out]; simp [hzw]))
                  have hzi : ¬ ((z : Int) = 0) := by omega
                  have hzb : ((z : Int) != 0) = true := by simpa using hzi
                  go_quiet (fail)
                  clear x2 xr xs xp xrp
                  go_wp2_with fail
                  go_ret
                  exact ⟨ret_bool hE.out.symm, below_drewN (below_drewN B.out _) _⟩
              · skip
                go_upto_region 17 with fail
                go_quiet (fail)
                go_upto_region 19 with fail
                by_cases hzw : z = 0
                · have hE := hide (hN.out (by rw [hrB.out, hRe.out, hzw]; rfl))
                  subst hzw
                  go_quiet (fail)
                  clear x2 xr xs xp xrp
                  go_wp2_with fail
                  go_ret
                  exact ⟨ret_bool hE.out.symm, below_drewN (below_drewN B.out _) _⟩
                · have hE := hide (hN.out (by rw [hrB.out, hRe.out]; simp [hzw]))
                  have hzi : ¬ ((z : Int) = 0) := by omega
                  have hzb : ((z : Int) != 0) = true := by simpa using hzi
                  go_quiet (fail)
                  clear x2 xr xs xp xrp
                  go_wp2_with fail
                  go_ret
                  exact ⟨ret_bool hE.out.symm, below_drewN (below_drewN B.out _) _⟩
            · skip
              cases r
              · skip
                go_upto_region 17 with fail
                go_quiet (fail)
                go_upto_region 19 with fail
                by_cases hzw : z = 1
                · have hE := hide (show rowB p j = true from by rw [hrB.out, hRe.out, hzw]; rfl)
                  subst hzw
                  go_quiet (fail)
                  clear x2 xr xs xp xrp
                  have hw1 := hide hY.out
                  obtain ⟨⟨x0, -, -, -, -, -, -⟩, xl⟩ := box7 X.out
                  go_wp2_with fail
                  go_roundw
                  case rel => exact ⟨j + 1, by omega, by go_num, hide (F.out.next (below_drewN (Below.refl _ _) _)), hide (Q.out.next (below_drewN (Below.refl _ _) _)), hide (X.out.below (below_drewN (Below.refl _ _) _) X.out.lt), hide (below_drewN B.out _), hide (hw1.out hE.out)⟩
                  case measure => simp [intOf]; omega
                · have hE := hide (hN.out (by rw [hrB.out, hRe.out]; simp [hzw]))
                  have hzi : ¬ ((z : Int) = 1) := by omega
                  have hzb : ((z : Int) != 1) = true := by simpa using hzi
                  go_quiet (fail)
                  clear x2 xr xs xp xrp
                  go_wp2_with fail
                  go_ret
                  exact ⟨ret_bool hE.out.symm, below_drewN (below_drewN B.out _) _⟩
              · skip
                go_upto_region 17 with fail
                go_quiet (fail)
                go_upto_region 19 with fail
                by_cases hzw : z = 0
                · have hE := hide (show rowB p j = true from by rw [hrB.out, hRe.out, hzw]; rfl)
                  subst hzw
                  go_quiet (fail)
                  clear x2 xr xs xp xrp
                  have hw1 := hide hY.out
                  obtain ⟨⟨x0, -, -, -, -, -, -⟩, xl⟩ := box7 X.out
                  go_wp2_with fail
                  go_roundw
                  case rel => exact ⟨j + 1, by omega, by go_num, hide (F.out.next (below_drewN (Below.refl _ _) _)), hide (Q.out.next (below_drewN (Below.refl _ _) _)), hide (X.out.below (below_drewN (Below.refl _ _) _) X.out.lt), hide (below_drewN B.out _), hide (hw1.out hE.out)⟩
                  case measure => simp [intOf]; omega
                · have hE := hide (hN.out (by rw [hrB.out, hRe.out]; simp [hzw]))
                  have hzi : ¬ ((z : Int) = 0) := by omega
                  have hzb : ((z : Int) != 0) = true := by simpa using hzi
                  go_quiet (fail)
                  clear x2 xr xs xp xrp
                  go_wp2_with fail
                  go_ret
                  exact ⟨ret_bool hE.out.symm, below_drewN (below_drewN B.out _) _⟩
        · obtain rfl : j = p.js.length := by omega
          have hE := hide (show res = true from by rw [hres.out, hI.out, allB_yes K.out, Bool.and_self])
          obtain ⟨⟨x0, -, -, -, -, -, -⟩, xl⟩ := box7 X.out
          clear K
          go_wp2_with fail
          go_ret
          exact ⟨ret_bool hE.out.symm, B.out⟩
end Go.Proofs.Ytfnphnjadknoaaa
