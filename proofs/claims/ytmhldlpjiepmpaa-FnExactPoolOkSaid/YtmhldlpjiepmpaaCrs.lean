/- The program's standing: how often each job stands in the rows. -/
import Derived.Test.YtmhldlpjiepmpaaCrx
import Derived.Test.YtmhldlpjiepmpaaSRow
namespace Go.Proofs.Ytmhldlpjiepmpaa
open Go.RowKit

def StanR (p : PoolD) (w w' : World) (e : Ending) : Prop :=
  ((innB p = true ∧ e = .returned (.tuple #[.slice (some ⟨w.heap.size, 0, none⟩) p.js.length p.js.length, .bool true]) ∧ FnAt w' w.heap.size p.js.length (fun m => (cntQ p.dq (m : Int) : Int))) ∨ (innB p = false ∧ e = .returned (.tuple #[.slice none 0 0, .bool false]))) ∧ Below w.heap.size w w'
set_option maxHeartbeats 6400000 in
theorem standing_any (S : Nat → Prop) (g qp : Nat) (a : PA) (p : PoolD) (w : World) (hT : Hid (Tree p.js)) (hzQ : sizeQ p.dq ≤ 1048576) (h : CrewR w S g qp a p) :
    Calls Try.prog 100 #[.pointer (some ⟨g, 0, none⟩)] w fun e w' => StanR p w w' e := by
  unfold StanR
  have h30 := hT.out.top
  have hdl : p.dq.length ≤ 1048576 := by unfold sizeQ at hzQ; omega
  have hsum := hide (show (lensQ p.dq).sum ≤ 1048576 from by unfold sizeQ at hzQ; omega)
  have hrow := hide (fun k => Nat.le_trans (sizeQ_row (rs := p.dq) k) hzQ)
  have hmk := make_ints p.js.length (by omega)
  have hb0 := below1 w (Obj.cells (zrow #[.int .i64 0] p.js.length) 3)
  have F0 := FnAt.zero w p.js.length
  obtain ⟨⟨x0, -, -, -, -, -, -, -⟩, xl⟩ := box8 h.box
  obtain ⟨w0, hw0⟩ : ∃ w0, w0 = w.alloc (Obj.cells (zrow #[.int .i64 0] p.js.length) 3) := ⟨_, rfl⟩
  rw [← hw0] at hb0 F0
  obtain ⟨⟨y0, y1, -, -, -, -, -, -⟩, yl⟩ := box8 (h.next hb0).box
  obtain ⟨q, hq⟩ : ∃ q, q = w.heap.size := ⟨_, rfl⟩
  rw [← hq] at F0
  have G0 := hide (F0.congr (f' := fun m => (cntJ (asJ p.dq) 0 (m : Int) : Int)) (fun m _ => by rw [cntJ_zero]; rfl))
  have B0 := hide hb0
  replace h := hide h
  replace hzQ := hide hzQ
  clear hb0 F0
  go_enter Try.func100, Try.ntmps100
  go_upto_region 2 with fail
  rw [← hw0, ← hq]
  clear hw0 hmk x0 xl
  replace hq := hide hq
  go_wp2_with fail
  clear y0 y1 yl
  go_loopw [22] (fun i wr => ∃ W : Nat, W ≤ p.dq.length ∧ i = .int .i64 W ∧ Hid (FnAt wr q p.js.length (fun m => (cntJ (asJ p.dq) W (m : Int) : Int))) ∧ Hid (Below w.heap.size w wr) ∧ Hid (∀ i, i < W → ∀ k, k < (getq p.dq i).length → 0 ≤ geti (getq p.dq i) k ∧ geti (getq p.dq i) k < (p.js.length : Int))) (fun i _ => p.dq.length - (intOf i).toNat)
  case atStart => exact ⟨0, by omega, rfl, G0, B0, hide (fun i hi => by omega)⟩
  case round =>
    clear G0 B0
    obtain ⟨W, hW, rfl, F, B, K⟩ := hrel
    by_cases hlt : W < p.dq.length
    · have hlt' : (W : Int) < p.dq.length := by omega
      obtain ⟨b, off, eA, hb, A', c', h3, hcc, -⟩ := (h.out.pool.rows.below B.out h.out.lt).at_ hlt
      obtain ⟨b2, off2, eA2, hb2, A2, c2, h32, -, h4⟩ := h.out.pool.rows.at_ hlt
      rw [eA] at eA2
      cases eA2
      have hh := (B.out.cell (p := ⟨b, off + W, none⟩) (h.out.lt b hb)).trans h32
      rw [h3] at hh
      cases hh
      replace h4 := hide h4
      have hkn : (getq p.dq W).length ≤ 1048576 := hrow.out W
      have hbx := below1 wr (Obj.cells #[.slice A' (getq p.dq W).length c'] 35)
      have F0 := hide (F.out.next hbx)
      have B0 := hide (below_next B.out hbx B.out.size)
      obtain ⟨wy, hwy⟩ : ∃ wy, wy = wr.alloc (Obj.cells #[.slice A' (getq p.dq W).length c'] 35) := ⟨_, rfl⟩
      have hc0 : wy.cell? ⟨wr.heap.size, 0, none⟩ = some (.slice A' (getq p.dq W).length c') := by
        have := (Blk.new wr 35 #[.slice A' (getq p.dq W).length c']).cell 0
        rw [← hwy] at this
        exact this
      rw [← hwy] at F0 B0
      replace hbx := hide hbx
      clear F B h32 hb2
      go_upto_region 5 with fail
      rw [← hwy]
      clear hwy h3
      go_wp2_with fail
      clear hc0
      go_loopw [29] (fun i wr => ∃ k : Nat, k ≤ (getq p.dq W).length ∧ i = .int .i64 k ∧ Hid (FnAt wr q p.js.length (fun m => (cntK (asJ p.dq) W k (m : Int) : Int))) ∧ Hid (Below w.heap.size w wr) ∧ Hid (∀ m, m < k → 0 ≤ geti (getq p.dq W) m ∧ geti (getq p.dq W) m < (p.js.length : Int))) (fun i _ => (getq p.dq W).length - (intOf i).toNat)
      case atStart => exact ⟨0, by omega, rfl, hide (F0.out.congr (fun m _ => by rw [cntK_zero])), B0, hide (fun m hm => by omega)⟩
      case round =>
        clear F0 B0
        obtain ⟨k, hk, rfl, F, B, KW⟩ := hrel
        by_cases hlk : k < (getq p.dq W).length
        · obtain ⟨b', off', eB, hb', h5⟩ := (h4.out.below B.out h.out.lt).at_ hlk
          subst eB
          obtain ⟨x, hx⟩ : ∃ x, x = geti (getq p.dq W) k := ⟨_, rfl⟩
          rw [← hx] at h5
          replace hx := hide hx
          have hlk' : (k : Int) < (getq p.dq W).length := by omega
          have hlF := F.out.lt
          by_cases hx1 : x < 0
          · have hE := hide (innB_no hlt hlk (by rw [← hx.out]; exact .inl hx1))
            clear F
            go_wp2_with fail
            refine bodyPost_ret (v := .tuple #[.slice none 0 0, .bool false]) (by simp [results, Try.results100, go_sem]; done) rfl ?_
            exact ⟨.inr ⟨hE.out, rfl⟩, B.out⟩
          · by_cases hx2 : (p.js.length : Int) ≤ x
            · have hE := hide (innB_no hlt hlk (by rw [← hx.out]; exact .inr hx2))
              clear F
              go_wp2_with fail
              refine bodyPost_ret (v := .tuple #[.slice none 0 0, .bool false]) (by simp [results, Try.results100, go_sem]; done) rfl ?_
              exact ⟨.inr ⟨hE.out, rfl⟩, B.out⟩
            · obtain ⟨m, rfl⟩ : ∃ m : Nat, x = m := ⟨x.toNat, by omega⟩
              have hm : m < p.js.length := by omega
              obtain ⟨h6, h7⟩ := F.out.cell hm
              have hb6 : cntK (asJ p.dq) W k (m : Int) ≤ 1048576 := Nat.le_trans (cntA_le hlt k m) hsum.out
              obtain ⟨z, hz⟩ : ∃ z, z = cntK (asJ p.dq) W k (m : Int) := ⟨_, rfl⟩
              rw [← hz] at h6 hb6
              have F2 := hide (show FnAt (wr.setCell ⟨q, m, none⟩ (.int .i64 ((z : Int) + 1))) q p.js.length (fun m => (cntK (asJ p.dq) W (k + 1) (m : Int) : Int)) from
                (F.out.set_ hm _).congr (fun m' _ => by
                  show _ = if m' = m then (z : Int) + 1 else (cntK (asJ p.dq) W k (m' : Int) : Int)
                  rw [cntK_succ (by rw [asJ_get]; exact hlk), asJ_get, ← hx.out]
                  by_cases e : m' = m
                  · rw [if_pos e, e, if_pos rfl, hz]; rfl
                  · rw [if_neg e, if_neg (by omega)]; rfl))
              have B2 := hide (B.out.setCell (p := ⟨q, m, none⟩) (by have := hq.out; show w.heap.size ≤ q; omega) (.int .i64 ((z : Int) + 1)))
              have K2 := hide (show ∀ m, m < k + 1 → 0 ≤ geti (getq p.dq W) m ∧ geti (getq p.dq W) m < (p.js.length : Int) from fun m' hm' => by
                rcases Nat.lt_or_ge m' k with h | h
                · exact KW.out m' h
                · obtain rfl : m' = k := by omega
                  rw [← hx.out]; omega)
              have hw : IntKind.i64.wrap ((z : Int) + 1) = (z : Int) + 1 := by rw [IntKind.wrap_i64]; omega
              clear F B KW hz
              go_wp2_with fail
              go_roundw
              case rel => exact ⟨k + 1, by omega, by go_num, F2, B2, K2⟩
              case measure => simp [intOf]; omega
        · have hlk' : decide ((k : Int) < (getq p.dq W).length) = false := decide_eq_false (by omega)
          have F2 := hide (F.out.congr (f' := fun m => (cntJ (asJ p.dq) (W + 1) (m : Int) : Int)) (fun m _ => by rw [cntK_all (by rw [asJ_len]; exact hlt) (by rw [asJ_get]; omega)]))
          have K2 := hide (show ∀ i, i < W + 1 → ∀ k, k < (getq p.dq i).length → 0 ≤ geti (getq p.dq i) k ∧ geti (getq p.dq i) k < (p.js.length : Int) from fun i hi m hm => by
            rcases Nat.lt_or_ge i W with h | h
            · exact K.out i h m hm
            · obtain rfl : i = W := by omega
              exact KW.out m (by omega))
          clear F KW K
          go_wp2_with fail
          go_roundw
          case rel => exact ⟨W + 1, by omega, by go_num, F2, B, K2⟩
          case measure => simp [intOf]; omega
    · obtain rfl : W = p.dq.length := by omega
      have hI := hide (innB_yes K.out)
      have F1 := hide (F.out.congr (f' := fun m => (cntQ p.dq (m : Int) : Int)) (fun m _ => by rw [asJ_cnt]))
      clear F K
      go_wp2_with fail
      refine bodyPost_ret (v := .tuple #[.slice (some ⟨q, 0, none⟩) p.js.length p.js.length, .bool true]) (by simp [results, Try.results100, go_sem]; done) rfl ?_
      exact ⟨.inl ⟨hI.out, by rw [hq.out], by rw [← hq.out]; exact F1.out⟩, B.out⟩
end Go.Proofs.Ytmhldlpjiepmpaa
