/- The program's PoolOk. -/
import Derived.Test.YtfnphnjadknoaaaMp0
import Derived.Test.YtfnphnjadknoaaaMp14
import Derived.Test.YtfnphnjadknoaaaMp16
import Derived.Test.YtfnphnjadknoaaaMp18
import Derived.Test.YtfnphnjadknoaaaMp28
namespace Go.Proofs.Ytfnphnjadknoaaa
open Go.RowKit

def StanR (p : PoolD) (w w' : World) (e : Ending) : Prop :=
  ((innB p = true ∧ e = .returned (.tuple #[.slice (some ⟨w.heap.size, 0, none⟩) p.js.length p.js.length, .bool true]) ∧ FnAt w' w.heap.size p.js.length (fun m => (cntQ p.dq (m : Int) : Int))) ∨ (innB p = false ∧ e = .returned (.tuple #[.slice none 0 0, .bool false]))) ∧ Below w.heap.size w w'
set_option maxHeartbeats 6400000 in
theorem standing_any (S : Nat → Prop) (g qp : Nat) (a : PA) (p : PoolD) (w : World) (hT : Hid (Tree p.js)) (hzQ : sizeQ p.dq ≤ 1048576) (h : CrewR w S g qp a p) :
    Calls Try.prog 100 #[.pointer (some ⟨g, 0, none⟩)] w fun e w' => StanR p w w' e := by
  unfold StanR
  have h30 := hT.out.top
  have hdl : p.dq.length ≤ 1048576 := by unfold sizeQ at hzQ; omega
  have hsum := hide (show (lensQ p.dq).sum ≤ 1048576 from by unfold sizeQ at hzQ; omega)
  have hrow := hide (fun k => Nat.le_trans (sizeQ_row (rs := p.dq) k) hzQ)
  have hmk := make_ints p.js.length (by omega)
  have hb0 := below1 w (Obj.cells (zrow #[.int .i64 0] p.js.length) 3)
  have F0 := FnAt.zero w p.js.length
  obtain ⟨⟨x0, -, -, -, -, -, -, -⟩, xl⟩ := box8 h.box
  obtain ⟨w0, hw0⟩ : ∃ w0, w0 = w.alloc (Obj.cells (zrow #[.int .i64 0] p.js.length) 3) := ⟨_, rfl⟩
  rw [← hw0] at hb0 F0
  obtain ⟨⟨y0, y1, -, -, -, -, -, -⟩, yl⟩ := box8 (h.next hb0).box
  obtain ⟨q, hq⟩ : ∃ q, q = w.heap.size := ⟨_, rfl⟩
  rw [← hq] at F0
  have G0 := hide (F0.congr (f' := fun m => (cntJ (asJ p.dq) 0 (m : Int) : Int)) (fun m _ => by rw [cntJ_zero]; rfl))
  have B0 := hide hb0
  replace h := hide h
  replace hzQ := hide hzQ
  clear hb0 F0
  go_enter Try.func100, Try.ntmps100
  go_upto_region 2 with fail
  rw [← hw0, ← hq]
  clear hw0 hmk x0 xl
  replace hq := hide hq
  go_wp2_with fail
  clear y0 y1 yl
  go_loopw [22] (fun i wr => ∃ W : Nat, W ≤ p.dq.length ∧ i = .int .i64 W ∧ Hid (FnAt wr q p.js.length (fun m => (cntJ (asJ p.dq) W (m : Int) : Int))) ∧ Hid (Below w.heap.size w wr) ∧ Hid (∀ i, i < W → ∀ k, k < (getq p.dq i).length → 0 ≤ geti (getq p.dq i) k ∧ geti (getq p.dq i) k < (p.js.length : Int))) (fun i _ => p.dq.length - (intOf i).toNat)
  case atStart => exact ⟨0, by omega, rfl, G0, B0, hide (fun i hi => by omega)⟩
  case round =>
    clear G0 B0
    obtain ⟨W, hW, rfl, F, B, K⟩ := hrel
    by_cases hlt : W < p.dq.length
    · have hlt' : (W : Int) < p.dq.length := by omega
      obtain ⟨b, off, eA, hb, A', c', h3, hcc, -⟩ := (h.out.pool.rows.below B.out h.out.lt).at_ hlt
      obtain ⟨b2, off2, eA2, hb2, A2, c2, h32, -, h4⟩ := h.out.pool.rows.at_ hlt
      rw [eA] at eA2
      cases eA2
      have hh := (B.out.cell (p := ⟨b, off + W, none⟩) (h.out.lt b hb)).trans h32
      rw [h3] at hh
      cases hh
      replace h4 := hide h4
      have hkn : (getq p.dq W).length ≤ 1048576 := hrow.out W
      have hbx := below1 wr (Obj.cells #[.slice A' (getq p.dq W).length c'] 35)
      have F0 := hide (F.out.next hbx)
      have B0 := hide (below_next B.out hbx B.out.size)
      obtain ⟨wy, hwy⟩ : ∃ wy, wy = wr.alloc (Obj.cells #[.slice A' (getq p.dq W).length c'] 35) := ⟨_, rfl⟩
      have hc0 : wy.cell? ⟨wr.heap.size, 0, none⟩ = some (.slice A' (getq p.dq W).length c') := by
        have := (Blk.new wr 35 #[.slice A' (getq p.dq W).length c']).cell 0
        rw [← hwy] at this
        exact this
      rw [← hwy] at F0 B0
      replace hbx := hide hbx
      clear F B h32 hb2
      go_upto_region 5 with fail
      rw [← hwy]
      clear hwy h3
      go_wp2_with fail
      clear hc0
      go_loopw [29] (fun i wr => ∃ k : Nat, k ≤ (getq p.dq W).length ∧ i = .int .i64 k ∧ Hid (FnAt wr q p.js.length (fun m => (cntK (asJ p.dq) W k (m : Int) : Int))) ∧ Hid (Below w.heap.size w wr) ∧ Hid (∀ m, m < k → 0 ≤ geti (getq p.dq W) m ∧ geti (getq p.dq W) m < (p.js.length : Int))) (fun i _ => (getq p.dq W).length - (intOf i).toNat)
      case atStart => exact ⟨0, by omega, rfl, hide (F0.out.congr (fun m _ => by rw [cntK_zero])), B0, hide (fun m hm => by omega)⟩
      case round =>
        clear F0 B0
        obtain ⟨k, hk, rfl, F, B, KW⟩ := hrel
        by_cases hlk : k < (getq p.dq W).length
        · obtain ⟨b', off', eB, hb', h5⟩ := (h4.out.below B.out h.out.lt).at_ hlk
          subst eB
          obtain ⟨x, hx⟩ : ∃ x, x = geti (getq p.dq W) k := ⟨_, rfl⟩
          rw [← hx] at h5
          replace hx := hide hx
          have hlk' : (k : Int) < (getq p.dq W).length := by omega
          have hlF := F.out.lt
          by_cases hx1 : x < 0
          · have hE := hide (innB_no hlt hlk (by rw [← hx.out]; exact .inl hx1))
            clear F
            go_wp2_with fail
            refine bodyPost_ret (v := .tuple #[.slice none 0 0, .bool false]) (by simp [results, Try.results100, go_sem]; done) rfl ?_
            exact ⟨.inr ⟨hE.out, rfl⟩, B.out⟩
          · by_cases hx2 : (p.js.length : Int) ≤ x
            · have hE := hide (innB_no hlt hlk (by rw [← hx.out]; exact .inr hx2))
              clear F
              go_wp2_with fail
              refine bodyPost_ret (v := .tuple #[.slice none 0 0, .bool false]) (by simp [results, Try.results100, go_sem]; done) rfl ?_
              exact ⟨.inr ⟨hE.out, rfl⟩, B.out⟩
            · obtain ⟨m, rfl⟩ : ∃ m : Nat, x = m := ⟨x.toNat, by omega⟩
              have hm : m < p.js.length := by omega
              obtain ⟨h6, h7⟩ := F.out.cell hm
              have hb6 : cntK (asJ p.dq) W k (m : Int) ≤ 1048576 := Nat.le_trans (cntA_le hlt k m) hsum.out
              obtain ⟨z, hz⟩ : ∃ z, z = cntK (asJ p.dq) W k (m : Int) := ⟨_, rfl⟩
              rw [← hz] at h6 hb6
              have F2 := hide (show FnAt (wr.setCell ⟨q, m, none⟩ (.int .i64 ((z : Int) + 1))) q p.js.length (fun m => (cntK (asJ p.dq) W (k + 1) (m : Int) : Int)) from
                (F.out.set_ hm _).congr (fun m' _ => by
                  show _ = if m' = m then (z : Int) + 1 else (cntK (asJ p.dq) W k (m' : Int) : Int)
                  rw [cntK_succ (by rw [asJ_get]; exact hlk), asJ_get, ← hx.out]
                  by_cases e : m' = m
                  · rw [if_pos e, e, if_pos rfl, hz]; rfl
                  · rw [if_neg e, if_neg (by omega)]; rfl))
              have B2 := hide (B.out.setCell (p := ⟨q, m, none⟩) (by have := hq.out; show w.heap.size ≤ q; omega) (.int .i64 ((z : Int) + 1)))
              have K2 := hide (show ∀ m, m < k + 1 → 0 ≤ geti (getq p.dq W) m ∧ geti (getq p.dq W) m < (p.js.length : Int) from fun m' hm' => by
                rcases Nat.lt_or_ge m' k with h | h
                · exact KW.out m' h
                · obtain rfl : m' = k := by omega
                  rw [← hx.out]; omega)
              have hw : IntKind.i64.wrap ((z : Int) + 1) = (z : Int) + 1 := by rw [IntKind.wrap_i64]; omega
              clear F B KW hz
              go_wp2_with fail
              go_roundw
              case rel => exact ⟨k + 1, by omega, by go_num, F2, B2, K2⟩
              case measure => simp [intOf]; omega
        · have hlk' : decide ((k : Int) < (getq p.dq W).length) = false := decide_eq_false (by omega)
          have F2 := hide (F.out.congr (f' := fun m => (cntJ (asJ p.dq) (W + 1) (m : Int) : Int)) (fun m _ => by rw [cntK_all (by rw [asJ_len]; exact hlt) (by rw [asJ_get]; omega)]))
          have K2 := hide (show ∀ i, i < W + 1 → ∀ k, k < (getq p.dq i).length → 0 ≤ geti (getq p.dq i) k ∧ geti (getq p.dq i) k < (p.js.length : Int) from fun i hi m hm => by
            rcases Nat.lt_or_ge i W with h | h
            · exact K.out i h m hm
            · obtain rfl : i = W := by omega
              exact KW.out m (by omega))
          clear F KW K
          go_wp2_with fail
          go_roundw
          case rel => exact ⟨W + 1, by omega, by go_num, F2, B, K2⟩
          case measure => simp [intOf]; omega
    · obtain rfl : W = p.dq.length := by omega
      have hI := hide (innB_yes K.out)
      have F1 := hide (F.out.congr (f' := fun m => (cntQ p.dq (m : Int) : Int)) (fun m _ => by rw [asJ_cnt]))
      clear F K
      go_wp2_with fail
      refine bodyPost_ret (v := .tuple #[.slice (some ⟨q, 0, none⟩) p.js.length p.js.length, .bool true]) (by simp [results, Try.results100, go_sem]; done) rfl ?_
      exact ⟨.inl ⟨hI.out, by rw [hq.out], by rw [← hq.out]; exact F1.out⟩, B.out⟩
end Go.Proofs.Ytfnphnjadknoaaa

namespace Go.Proofs.Ytfnphnjadknoaaa
open Go.RowKit

theorem beqL {n m : Nat} (h : n = m) : ((n : Int) == (m : Int)) = true := by simp [h]
theorem beqL' {n m : Nat} (h : n ≠ m) : ((n : Int) == (m : Int)) = false := beq_eq_false_iff_ne.2 (by omega)
theorem bneL {n m : Nat} (h : n = m) : ((n : Int) != (m : Int)) = false := by simp [h]
theorem bneL' {n m : Nat} (h : n ≠ m) : ((n : Int) != (m : Int)) = true := bne_iff_ne.2 (by omega)
theorem lensB_no {p : PoolD} (h : p.ran.length ≠ p.js.length ∨ p.dn.length ≠ p.js.length ∨ p.lf.length ≠ p.js.length ∨ p.sm.length ≠ p.js.length ∨ p.vl.length ≠ p.js.length) : lensB p = false := by
  unfold lensB
  rcases h with h | h | h | h | h <;> simp [h]
theorem lensB_yes {p : PoolD} (h2 : p.ran.length = p.js.length) (h3 : p.dn.length = p.js.length) (h4 : p.lf.length = p.js.length) (h5 : p.sm.length = p.js.length) (h6 : p.vl.length = p.js.length) : lensB p = true := by
  unfold lensB
  simp [h2, h3, h4, h5, h6]
theorem lensB_len {p : PoolD} (h : lensB p = true) : LenP p := by
  simp only [lensB, Bool.and_eq_true, decide_eq_true_eq] at h
  exact ⟨h.1.1.1.1, h.1.1.1.2, h.1.1.2, h.1.2, h.2⟩
set_option maxHeartbeats 3200000 in
theorem lengthsOk_any (S : Nat → Prop) (g qp : Nat) (a : PA) (p : PoolD) (w : World) (h : CrewR w S g qp a p) :
    Calls Try.prog 62 #[.pointer (some ⟨g, 0, none⟩)] w fun e w' => e = .returned (.bool (lensB p)) ∧ Below w.heap.size w w' := by
  obtain ⟨⟨x0, -, x2, x3, x4, x5, x6, -⟩, xl⟩ := box8 h.box
  have hB := Below.refl w.heap.size w
  replace hB := hide hB
  clear h
  by_cases c0 : p.ran.length = p.js.length
  · have n0 := beqL c0
    by_cases c1 : p.dn.length = p.js.length
    · have n1 := beqL c1
      by_cases c2 : p.lf.length = p.js.length
      · have n2 := beqL c2
        by_cases c3 : p.sm.length = p.js.length
        · have n3 := beqL c3
          by_cases c4 : p.vl.length = p.js.length
          · have n4 := beqL c4
            have hE := hide (lensB_yes c0 c1 c2 c3 c4)
            clear c0 c1 c2 c3 c4
            go_enter Try.func62, Try.ntmps62
            go_wp2_with fail
            go_ret
            exact ⟨ret_bool hE.out.symm, hB.out⟩
          · have n4 := beqL' c4
            have hE := hide (lensB_no (.inr (.inr (.inr (.inr (c4))))))
            clear c0 c1 c2 c3 c4
            go_enter Try.func62, Try.ntmps62
            go_wp2_with fail
            go_ret
            exact ⟨ret_bool hE.out.symm, hB.out⟩
        · have n3 := beqL' c3
          have hE := hide (lensB_no (.inr (.inr (.inr (.inl c3)))))
          clear c0 c1 c2 c3
          go_enter Try.func62, Try.ntmps62
          go_wp2_with fail
          go_ret
          exact ⟨ret_bool hE.out.symm, hB.out⟩
      · have n2 := beqL' c2
        have hE := hide (lensB_no (.inr (.inr (.inl c2))))
        clear c0 c1 c2
        go_enter Try.func62, Try.ntmps62
        go_wp2_with fail
        go_ret
        exact ⟨ret_bool hE.out.symm, hB.out⟩
    · have n1 := beqL' c1
      have hE := hide (lensB_no (.inr (.inl c1)))
      clear c0 c1
      go_enter Try.func62, Try.ntmps62
      go_wp2_with fail
      go_ret
      exact ⟨ret_bool hE.out.symm, hB.out⟩
  · have n0 := beqL' c0
    have hE := hide (lensB_no (.inl c0))
    clear c0
    go_enter Try.func62, Try.ntmps62
    go_wp2_with fail
    go_ret
    exact ⟨ret_bool hE.out.symm, hB.out⟩

def CrewOfR (S : Nat → Prop) (a : PA) (p : PoolD) (w w' : World) (e : Ending) : Prop :=
  ((jobsB p.js = true ∧ ∃ g qp, e = .returned (.tuple #[.pointer (some ⟨g, 0, none⟩), .bool true]) ∧ CrewR w' S g qp a p) ∨ (jobsB p.js = false ∧ ∃ g : Nat, e = .returned (.tuple #[.pointer (some ⟨g, 0, none⟩), .bool false]))) ∧ Below w.heap.size w w'
set_option maxHeartbeats 3200000 in
theorem crewOf_any (S : Nat → Prop) (a : PA) (p : PoolD) (w : World) (hsz : ∀ k, (getj p.js k).ks.length ≤ 1048576) (hS : ∀ b, S b → b < w.heap.size) (ha : PoolAt w S a p) :
    Calls Try.prog 60 #[.agg (a.cells p)] w fun e w' => CrewOfR S a p w w' e := by
  unfold CrewOfR PA.cells
  have hb0 := below1 w (Obj.cells (a.cells p) 28)
  have X0 := Blk.new w 28 (a.cells p)
  unfold PA.cells at hb0 X0
  obtain ⟨w0, hw0⟩ : ∃ w0, w0 = w.alloc (Obj.cells #[.slice a.A0 p.js.length a.c0, .slice a.A1 p.dq.length a.c1, .slice a.A2 p.ran.length a.c2, .slice a.A3 p.dn.length a.c3, .slice a.A4 p.lf.length a.c4, .slice a.A5 p.sm.length a.c5, .slice a.A6 p.vl.length a.c6] 28) := ⟨_, rfl⟩
  rw [← hw0] at hb0 X0
  have ha0 := ha.below hb0 hS
  have hS0 : ∀ b, S b → b < w0.heap.size := fun b h => Nat.lt_of_lt_of_le (hS b h) hb0.size
  have kP := hide (parentsOf_any a.A0 p.js a.c0 S w0 hsz hS0 ha0.jobs)
  obtain ⟨⟨x0, -, -, -, -, -, -⟩, xl⟩ := box7 X0
  obtain ⟨q, hq⟩ : ∃ q, q = w.heap.size := ⟨_, rfl⟩
  rw [← hq] at X0 x0 xl
  replace X0 := hide X0
  replace ha0 := hide ha0
  replace hb0 := hide hb0
  clear ha
  go_enter Try.func60, Try.ntmps60
  go_upto_region 1 with fail
  rw [← hw0, ← hq]
  clear hw0
  replace hq := hide hq
  go_upto_region 2 with (go_at_call 74; refine kP.out.mono ?_; rintro e w1 ⟨hc, hb⟩; rcases hc with ⟨hE, qp, rfl, hF, -⟩ | ⟨hE, rfl⟩)
  · obtain ⟨⟨y0, y1, y2, y3, y4, y5, y6⟩, yl⟩ := box7 (X0.out.below hb xl)
    have hC : CrewR (w1.alloc (Obj.cells (crewCells a p qp) 98)) S w1.heap.size qp a p :=
      ⟨Blk.new w1 _ _, hF.next (below1 _ _), (ha0.out.below hb hS0).below (below1 w1 _) (fun b h => Nat.lt_of_lt_of_le (hS0 b h) hb.size), fun b h => Nat.lt_of_lt_of_le (hS0 b h) (Nat.le_trans hb.size (below1 w1 _).size)⟩
    unfold crewCells at hC
    replace hC := hide hC
    replace hb := hide hb
    clear hF x0
    go_wp2_with fail
    refine bodyPost_ret (v := .tuple #[.pointer (some ⟨w1.heap.size, 0, none⟩), .bool true]) (by simp [results, Try.results60, go_sem]; done) rfl ?_
    exact ⟨.inl ⟨hE, _, qp, rfl, hC.out⟩, (below_next hb0.out hb.out hb0.out.size).alloc (Nat.le_trans hb0.out.size hb.out.size) _⟩
  · obtain ⟨⟨y0, y1, y2, y3, y4, y5, y6⟩, yl⟩ := box7 (X0.out.below hb xl)
    replace hb := hide hb
    clear x0
    go_wp2_with fail
    refine bodyPost_ret (v := .tuple #[.pointer (some ⟨w1.heap.size, 0, none⟩), .bool false]) (by simp [results, Try.results60, go_sem]; done) rfl ?_
    exact ⟨.inr ⟨hE, _, rfl⟩, (below_next hb0.out hb.out hb0.out.size).alloc (Nat.le_trans hb0.out.size hb.out.size) _⟩
end Go.Proofs.Ytfnphnjadknoaaa

namespace Go.Proofs.Ytfnphnjadknoaaa
open Go.RowKit

theorem rowB_stand (p : PoolD) (j : Nat) : rowB p j = standB (getb p.ran j) (reachB p j) (cntQ p.dq (j : Int)) := by
  unfold rowB standB
  cases getb p.ran j <;> cases reachB p j <;> simp
def accD (p : PoolD) (j : Nat) : Bool := getb p.ran j && decide (leftD p j = 0)
def accW (p : PoolD) (j : Nat) : Int := if accD p j then worth (getj p.js j).v (sumD p j) else 0
theorem accK_eq (p : PoolD) (j : Nat) : accK p j = accV (accD p j) (leftD p j) (sumD p j) (accW p j) := by
  unfold accK accW accD leftD sumD
  cases hr : getb p.ran j
  · simp
  · simp only [if_true, Bool.true_and]
    by_cases h : leftN p.dn (getj p.js j).ks = 0
    · rw [if_pos h, h]; rfl
    · rw [if_neg h, decide_eq_false (by omega)]; rfl
theorem accB_eq (p : PoolD) (j : Nat) : accB p j = (decide (geti p.lf j = leftD p j) && decide (geti p.sm j = sumD p j) && decide (geti p.vl j = accW p j) && (getb p.dn j == accD p j)) := by
  unfold accB accW
  rw [show (getb p.ran j && decide (leftD p j = 0)) = accD p j from rfl]
  cases h1 : getb p.dn j <;> cases h2 : accD p j <;> simp

set_option maxHeartbeats 6400000 in
theorem crewJobs_any (S : Nat → Prop) (g qp : Nat) (a : PA) (p : PoolD) (w : World) (hT : Hid (Tree p.js)) (hlen : Hid (LenP p)) (hsz : Hid (∀ k, (getj p.js k).ks.length ≤ 1048576)) (hzQ : sizeQ p.dq ≤ 1048576) (h : CrewR w S g qp a p) :
    Calls Try.prog 63 #[.pointer (some ⟨g, 0, none⟩)] w fun e w' => e = .returned (.bool (innB p && allB (rowB p) p.js.length && allB (accB p) p.js.length)) ∧ Below w.heap.size w w' := by
  obtain ⟨res, hres⟩ : ∃ res, res = (innB p && allB (rowB p) p.js.length && allB (accB p) p.js.length) := ⟨_, rfl⟩
  rw [← hres]
  replace hres := hide hres
  have h30 := hT.out.top
  have hcq := hide (fun (x : Int) => Nat.le_trans (cntQ_le p.dq x) (show (lensQ p.dq).sum ≤ 1048576 by unfold sizeQ at hzQ; omega))
  have kS := hide (standing_any S g qp a p w hT hzQ h)
  replace h := hide h
  go_enter Try.func63, Try.ntmps63
  go_upto_region 2 with (go_at_call 100; refine kS.out.mono ?_; rintro e w1 ⟨hc, hb⟩; rcases hc with ⟨hI, rfl, hF⟩ | ⟨hI, rfl⟩)
  · replace hI := hide hI
    have F1 := hide hF
    obtain ⟨⟨x0, -, -, -, -, -, -, -⟩, xl⟩ := box8 (h.out.next hb).box
    have B1 := hide hb
    clear hF hb kS
    go_wp2_with fail
    clear x0 xl
    go_loopw [19] (fun i wr => ∃ j : Nat, j ≤ p.js.length ∧ i = .int .i64 j ∧ Hid (FnAt wr w.heap.size p.js.length (fun m => (cntQ p.dq (m : Int) : Int))) ∧ Hid (Below w.heap.size w wr) ∧ Hid (∀ i, i < j → rowB p i = true ∧ accB p i = true)) (fun i _ => p.js.length - (intOf i).toNat)
    case atStart => exact ⟨0, by omega, rfl, F1, B1, hide (fun i hi => by omega)⟩
    case round =>
      clear F1 B1
      obtain ⟨j, hj, rfl, F, B, K⟩ := hrel
      by_cases hlt : j < p.js.length
      · have hlt' : (j : Int) < p.js.length := by omega
        have hC := hide (h.out.next B.out)
        obtain ⟨xc, -⟩ := F.out.cell hlt
        have hlF := F.out.lt
        obtain ⟨n, hn⟩ : ∃ n, n = cntQ p.dq (j : Int) := ⟨_, rfl⟩
        have hn1 : n ≤ 1048576 := by rw [hn]; exact hcq.out _
        rw [← hn] at xc
        have hR := hide (rowB_stand p j)
        rw [← hn] at hR
        replace hn := hide hn
        have kT := hide (standsOk_any S g qp a p wr hT hlen j n hn1 hlt hC.out)
        have kA := hide (fun w2 (hb : Below wr.heap.size wr w2) => accountOf_any S g qp a p w2 hlen j hlt (hC.out.next hb))
        have kK := hide (fun w2 (hb : Below wr.heap.size wr w2) => accountByKids_any S g qp a p w2 hT hlen hsz j hlt (hC.out.next hb))
        rw [accK_eq] at kK
        unfold accV at kA kK
        have hN := hide (show rowB p j = false → res = false from fun e => by rw [hres.out, allB_no hlt e, Bool.and_false, Bool.false_and])
        have hN2 := hide (show accB p j = false → res = false from fun e => by rw [hres.out, allB_no hlt e, Bool.and_false])
        have hY := hide (show rowB p j = true → accB p j = true → ∀ i, i < j + 1 → rowB p i = true ∧ accB p i = true from fun e1 e2 i hi => by
          rcases Nat.lt_or_ge i j with h | h
          · exact K.out i h
          · obtain rfl : i = j := by omega
            exact ⟨e1, e2⟩)
        have hacc := hide (accB_eq p j)
        obtain ⟨d, hd⟩ : ∃ z, z = getb p.dn j := ⟨_, rfl⟩
        obtain ⟨zL, hzL⟩ : ∃ z, z = geti p.lf j := ⟨_, rfl⟩
        obtain ⟨zM, hzM⟩ : ∃ z, z = geti p.sm j := ⟨_, rfl⟩
        obtain ⟨zV, hzV⟩ : ∃ z, z = geti p.vl j := ⟨_, rfl⟩
        obtain ⟨d2, hd2⟩ : ∃ z, z = accD p j := ⟨_, rfl⟩
        obtain ⟨yL, hyL⟩ : ∃ z, z = leftD p j := ⟨_, rfl⟩
        obtain ⟨yM, hyM⟩ : ∃ z, z = sumD p j := ⟨_, rfl⟩
        obtain ⟨yV, hyV⟩ : ∃ z, z = accW p j := ⟨_, rfl⟩
        rw [← hd, ← hzL, ← hzM, ← hzV] at kA
        rw [← hd2, ← hyL, ← hyM, ← hyV] at kK
        rw [← hd, ← hzL, ← hzM, ← hzV, ← hd2, ← hyL, ← hyM, ← hyV] at hacc
        replace F := hide F.out
        clear hd hzL hzM hzV hd2 hyL hyM hyV K
        cases hrow : rowB p j
        · have hE := hide (hN.out hrow)
          rw [← hR.out, hrow] at kT
          go_wp2_with (go_at_call 101; refine kT.out.mono ?_; rintro e w2 ⟨rfl, hb2⟩)
          go_ret
          exact ⟨ret_bool hE.out.symm, below_next B.out hb2 B.out.size⟩
        · rw [← hR.out, hrow] at kT
          have hRow := hide hrow
          clear hrow
          by_cases hdd : d = d2
          · subst hdd
            by_cases c1 : zL = yL
            · subst c1
              by_cases c2 : zM = yM
              · subst c2
                by_cases c3 : zV = yV
                · subst c3
                  have hw1 := hide (hY.out hRow.out (by rw [hacc.out]; simp))
                  go_wp2_with (first
                    | (go_at_call 101; refine kT.out.mono ?_; rintro e w2 ⟨rfl, hb2⟩)
                    | (go_at_call 102; refine (kA.out w2 hb2).mono ?_; rintro e w3 ⟨rfl, hb3⟩; replace hb3 := below_next hb2 hb3 hb2.size)
                    | (go_at_call 103; refine (kK.out w3 hb3).mono ?_; rintro e w4 ⟨rfl, hb4⟩; replace hb4 := below_next hb3 hb4 hb3.size))
                  go_roundw
                  case rel => exact ⟨j + 1, by omega, by go_num, hide (F.out.next hb4), hide (below_next B.out hb4 B.out.size), hw1⟩
                  case measure => simp [intOf]; omega
                · have hE := hide (hN2.out (by rw [hacc.out]; simp [c3]))
                  have hb0 : (zV == yV) = false := by simpa using c3
                  clear c3
                  go_wp2_with (first
                    | (go_at_call 101; refine kT.out.mono ?_; rintro e w2 ⟨rfl, hb2⟩)
                    | (go_at_call 102; refine (kA.out w2 hb2).mono ?_; rintro e w3 ⟨rfl, hb3⟩; replace hb3 := below_next hb2 hb3 hb2.size)
                    | (go_at_call 103; refine (kK.out w3 hb3).mono ?_; rintro e w4 ⟨rfl, hb4⟩; replace hb4 := below_next hb3 hb4 hb3.size))
                  go_ret
                  exact ⟨ret_bool hE.out.symm, below_next B.out hb4 B.out.size⟩
              · have hE := hide (hN2.out (by rw [hacc.out]; simp [c2]))
                have hb0 : (zM == yM) = false := by simpa using c2
                clear c2
                go_wp2_with (first
                  | (go_at_call 101; refine kT.out.mono ?_; rintro e w2 ⟨rfl, hb2⟩)
                  | (go_at_call 102; refine (kA.out w2 hb2).mono ?_; rintro e w3 ⟨rfl, hb3⟩; replace hb3 := below_next hb2 hb3 hb2.size)
                  | (go_at_call 103; refine (kK.out w3 hb3).mono ?_; rintro e w4 ⟨rfl, hb4⟩; replace hb4 := below_next hb3 hb4 hb3.size))
                go_ret
                exact ⟨ret_bool hE.out.symm, below_next B.out hb4 B.out.size⟩
            · have hE := hide (hN2.out (by rw [hacc.out]; simp [c1]))
              have hb0 : (zL == yL) = false := by simpa using c1
              clear c1
              go_wp2_with (first
                | (go_at_call 101; refine kT.out.mono ?_; rintro e w2 ⟨rfl, hb2⟩)
                | (go_at_call 102; refine (kA.out w2 hb2).mono ?_; rintro e w3 ⟨rfl, hb3⟩; replace hb3 := below_next hb2 hb3 hb2.size)
                | (go_at_call 103; refine (kK.out w3 hb3).mono ?_; rintro e w4 ⟨rfl, hb4⟩; replace hb4 := below_next hb3 hb4 hb3.size))
              go_ret
              exact ⟨ret_bool hE.out.symm, below_next B.out hb4 B.out.size⟩
          · have hE := hide (hN2.out (by rw [hacc.out]; simp [hdd]))
            have hb0 : (d == d2) = false := by simpa using hdd
            clear hdd
            go_wp2_with (first
              | (go_at_call 101; refine kT.out.mono ?_; rintro e w2 ⟨rfl, hb2⟩)
              | (go_at_call 102; refine (kA.out w2 hb2).mono ?_; rintro e w3 ⟨rfl, hb3⟩; replace hb3 := below_next hb2 hb3 hb2.size)
              | (go_at_call 103; refine (kK.out w3 hb3).mono ?_; rintro e w4 ⟨rfl, hb4⟩; replace hb4 := below_next hb3 hb4 hb3.size))
            go_ret
            exact ⟨ret_bool hE.out.symm, below_next B.out hb4 B.out.size⟩
      · obtain rfl : j = p.js.length := by omega
        have hE := hide (show res = true from by rw [hres.out, hI.out, allB_yes (fun i hi => (K.out i hi).1), allB_yes (fun i hi => (K.out i hi).2)]; rfl)
        clear F K
        go_wp2_with fail
        go_ret
        exact ⟨ret_bool hE.out.symm, B.out⟩
  · have hE := hide (show res = false from by rw [hres.out, hI, Bool.false_and, Bool.false_and])
    go_wp2_with fail
    go_ret
    exact ⟨ret_bool hE.out.symm, hb⟩
end Go.Proofs.Ytfnphnjadknoaaa

namespace Go.Proofs.Ytfnphnjadknoaaa
open Go.RowKit

set_option maxHeartbeats 6400000 in
theorem poolOk_any (a : PA) (p : PoolD) (S : Nat → Prop) (w : World) (hsz : Hid (∀ k, (getj p.js k).ks.length ≤ 1048576)) (hzQ : Hid (sizeQ p.dq ≤ 1048576)) (hS : ∀ b, S b → b < w.heap.size) (ha : PoolAt w S a p) :
    Calls Try.prog 20 #[.agg (a.cells p)] w fun e w' => e = .returned (.bool (poolB p)) ∧ Below w.heap.size w w' := by
  unfold PA.cells
  obtain ⟨res, hres⟩ : ∃ res, res = poolB p := ⟨_, rfl⟩
  rw [← hres]
  replace hres := hide hres
  have hb0 := below1 w (Obj.cells #[.slice a.A0 p.js.length a.c0, .slice a.A1 p.dq.length a.c1, .slice a.A2 p.ran.length a.c2, .slice a.A3 p.dn.length a.c3, .slice a.A4 p.lf.length a.c4, .slice a.A5 p.sm.length a.c5, .slice a.A6 p.vl.length a.c6] 28)
  have X0 := Blk.new w 28 #[.slice a.A0 p.js.length a.c0, .slice a.A1 p.dq.length a.c1, .slice a.A2 p.ran.length a.c2, .slice a.A3 p.dn.length a.c3, .slice a.A4 p.lf.length a.c4, .slice a.A5 p.sm.length a.c5, .slice a.A6 p.vl.length a.c6]
  obtain ⟨w0, hw0⟩ : ∃ w0, w0 = w.alloc (Obj.cells #[.slice a.A0 p.js.length a.c0, .slice a.A1 p.dq.length a.c1, .slice a.A2 p.ran.length a.c2, .slice a.A3 p.dn.length a.c3, .slice a.A4 p.lf.length a.c4, .slice a.A5 p.sm.length a.c5, .slice a.A6 p.vl.length a.c6] 28) := ⟨_, rfl⟩
  rw [← hw0] at hb0 X0
  have ha0 := ha.below hb0 hS
  have hS0 : ∀ b, S b → b < w0.heap.size := fun b h => Nat.lt_of_lt_of_le (hS b h) hb0.size
  have kC := hide (crewOf_any S a p w0 hsz.out hS0 ha0)
  unfold PA.cells at kC
  obtain ⟨⟨x0, x1, x2, x3, x4, x5, x6⟩, xl⟩ := box7 X0
  obtain ⟨q, hq⟩ : ∃ q, q = w.heap.size := ⟨_, rfl⟩
  rw [← hq] at X0 x0 x1 x2 x3 x4 x5 x6 xl
  replace X0 := hide X0
  replace ha0 := hide ha0
  replace hb0 := hide hb0
  clear ha
  go_enter Try.func20, Try.ntmps20
  go_upto_region 1 with fail
  rw [← hw0, ← hq]
  clear hw0
  replace hq := hide hq
  go_upto_region 2 with (go_at_call 60; refine kC.out.mono ?_; rintro e w1 ⟨hc, hb⟩; rcases hc with ⟨hj, g, qp, rfl, hC⟩ | ⟨hj, g, rfl⟩)
  · obtain ⟨⟨-, y1, -, -, -, -, -⟩, yl⟩ := box7 (X0.out.below hb xl)
    have hT := hide (jobsB_tree hj)
    have kW := hide (workersOk_any (p.dq.length : Int) w1)
    have kL := hide (lengthsOk_any S g qp a p w1 hC)
    have kJ := hide (fun (hlen : Hid (LenP p)) w2 (hb : Below w1.heap.size w1 w2) => crewJobs_any S g qp a p w2 hT hlen hsz hzQ.out (hC.next hb))
    replace hC := hide hC
    replace hb := hide hb
    clear x0 x1 x2 x3 x4 x5 x6
    cases hW : workB p.dq.length
    · rw [hW] at kW
      have hE := hide (show res = false from by rw [hres.out]; unfold poolB; rw [hW]; simp)
      go_wp2_with (go_at_call 61; refine kW.out.mono ?_; rintro e w2 ⟨rfl, rfl⟩)
      go_ret
      exact ⟨ret_bool hE.out.symm, below_next hb0.out hb.out hb0.out.size⟩
    · rw [hW] at kW
      cases hL : lensB p
      · rw [hL] at kL
        have hE := hide (show res = false from by rw [hres.out]; unfold poolB; rw [hL]; simp)
        go_wp2_with (first
          | (go_at_call 61; refine kW.out.mono ?_; rintro e w2 ⟨rfl, rfl⟩)
          | (go_at_call 62; refine kL.out.mono ?_; rintro e w3 ⟨rfl, hb3⟩))
        go_ret
        exact ⟨ret_bool hE.out.symm, below_next hb0.out (below_next hb.out hb3 hb.out.size) hb0.out.size⟩
      · rw [hL] at kL
        have hlen := hide (lensB_len hL)
        have hE := hide (show res = (innB p && allB (rowB p) p.js.length && allB (accB p) p.js.length) from by rw [hres.out]; unfold poolB; rw [hj, hW, hL]; simp [Bool.and_assoc])
        rw [← hE.out] at kJ
        go_wp2_with (first
          | (go_at_call 61; refine kW.out.mono ?_; rintro e w2 ⟨rfl, rfl⟩)
          | (go_at_call 62; refine kL.out.mono ?_; rintro e w3 ⟨rfl, hb3⟩)
          | (go_at_call 63; refine (kJ.out hlen w3 hb3).mono ?_; rintro e w4 ⟨rfl, hb4⟩))
        go_ret
        exact ⟨rfl, below_next hb0.out (below_next hb.out (below_next hb3 hb4 hb3.size) hb.out.size) hb0.out.size⟩
  · obtain ⟨⟨-, y1, -, -, -, -, -⟩, yl⟩ := box7 (X0.out.below hb xl)
    have hE := hide (show res = false from by rw [hres.out]; unfold poolB; rw [hj]; rfl)
    replace hb := hide hb
    go_wp2_with fail
    go_ret
    exact ⟨ret_bool hE.out.symm, below_next hb0.out hb.out hb0.out.size⟩
end Go.Proofs.Ytfnphnjadknoaaa
