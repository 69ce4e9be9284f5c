/- The program's held: what threads have in the registers that are wanted, sorted. -/
import Derived.Test.YtjendjbbhohjcaaTkS
import Derived.Test.YtjendjbbhohjcaaTkF
import Derived.Test.YtjendjbbhohjcaaGrow
import Derived.Test.YtjendjbbhohjcaaItm
import Derived.Deep.AppendLies
import Derived.Deep.RegionLaw
import Derived.Deep.DrawnRows
import Derived.Deep.DeepCutAuto
namespace Go.Proofs.Ytjendjbbhohjcaa
open Go.RowKit

set_option maxHeartbeats 800000 in
theorem inReg1_any (g : Nat) (r x : Int) (w : World) (hg : w.cell? ⟨g, 0, none⟩ = some (.int .i64 r)) : Calls Try.prog 98 #[.int .i64 x, .pointer (some ⟨g, 0, none⟩)] w fun e w' => e = .returned (.bool (decide (x = r))) ∧ w = w' := by
  go_enter Try.func98, Try.ntmps98
  go_wp2_with fail
  go_ret
  exact ⟨ret_bool (by by_cases h : x = r <;> simp [h]), rfl⟩
set_option maxRecDepth 100000 in
set_option maxHeartbeats 6400000 in
theorem heldItem_any (A : Option Addr) (rs : List Int) (c n : Nat) (S : Nat → Prop) (w : World) (hz : rs.length = n) (hS : ∀ b, S b → b < w.heap.size) (ha : IntsAt w S A rs) (hn : n ≤ 1048576) :
    Calls Try.prog 77 #[.agg #[.slice A n c], .func (.func 78) #[] #[]] w fun e w' => ∃ A' c', e = .returned (.slice A' (gotF (fun m => decide (m < 2)) rs n).length c') ∧ w'.ownsRow w.heap.size 3 1 (.slice A' (gotF (fun m => decide (m < 2)) rs n).length c') (gotF (fun m => decide (m < 2)) rs n).length ((sortI (gotF (fun m => decide (m < 2)) rs n)).map (Value.int .i64)) ∧ Below w.heap.size w w' := by
  obtain ⟨i1, hi1, hy0, hy1, hy2⟩ := info_parts Try.infoInt
  replace hi1 := hide hi1
  obtain ⟨W, hW⟩ : ∃ x, x = w.alloc (Obj.cells #[.slice A n c] 25) := ⟨_, rfl⟩
  have hbW : Below w.heap.size w W := by rw [hW]; exact below1 _ _
  have X := hide (show Blk W w.heap.size 25 #[.slice A n c] from by rw [hW]; exact Blk.new _ _ _)
  have Z := hide ((ha.below hbW hS).more (S' := Old W.heap.size) (fun b h => Nat.lt_of_lt_of_le (hS b h) hbW.size))
  have BW := hide hbW
  replace hz := hide hz
  clear hbW ha hS
  obtain ⟨f, hf⟩ : ∃ f : Nat → Bool, f = (fun m => decide (m < 2)) := ⟨_, rfl⟩
  rw [← hf]
  replace hf := hide hf
  go_enter Try.func77, Try.ntmps77
  go_upto_region 1 with fail
  rw [← hW]
  clear hW
  have x0 := X.out.cell 0
  have lx := X.out.lt
  simp only [List.getElem?_toArray, List.getElem?_cons_zero] at x0
  go_wp2_with fail
  clear x0 lx
  go_loopw [5, 11] (fun t i wr => ∃ (k m : Nat) (A' : Option Addr) (c' : Nat), k ≤ n ∧ i = .int .i64 k ∧ t = .slice A' m c' ∧ Hid (m = (gotF f rs k).length) ∧ Hid (Grow W A' c' (gotF f rs k) wr)) (fun _ i _ => n - (intOf i).toNat)
  case atStart => exact ⟨0, 0, none, 0, Nat.zero_le _, rfl, rfl, hide rfl, hide (Grow.nil W)⟩
  case round =>
    obtain ⟨k, m, A1, c1, hk, rfl, rfl, hm, G0⟩ := hrel
    by_cases hlt : k < n
    · obtain ⟨b, off, rfl, hbS, hc⟩ := (Z.out.below G0.out.low (fun _ h => h)).2 (by rw [hz.out]; omega)
      have hcell := hc k (by rw [hz.out]; exact hlt)
      have hst := hide (show gotF f rs (k + 1) = if cntB f rs k then gotF f rs k ++ [geti rs k] else gotF f rs k from rfl)
      have hgb := hide (show cntB f rs k = (f (k % 6) && (geti rs k != 0)) from rfl)
      obtain ⟨z, hzz⟩ : ∃ z, z = geti rs k := ⟨_, rfl⟩
      rw [← hzz] at hcell hst hgb
      have hlt' : decide ((k : Int) < (n : Int)) = true := decide_eq_true (by omega)
      have hkn : k < n := hlt
      have hbl := Nat.lt_of_lt_of_le hbS G0.out.low.size
      clear hc hzz
      have kR := itemReg_any ((k : Int) % 6) wr
      obtain ⟨q, hq⟩ : ∃ q, q = f (k % 6) := ⟨_, rfl⟩
      rw [show decide (0 ≤ (k : Int) % 6 ∧ (k : Int) % 6 < 2) = q from by rw [hq, hf.out]; exact decide_eq_decide.2 (by omega)] at kR
      rw [← hq] at hgb
      replace kR := hide kR
      clear hq
      go_wp2_with fail
      refine kR.out.mono ?_
      rintro e wx ⟨rfl, rfl⟩
      clear hcell hbl kR
      cases q
      · have hst1 := hide (show gotF f rs (k + 1) = gotF f rs k from by rw [hst.out, hgb.out]; rfl)
        clear hst hgb
        go_wp2_with fail
        go_roundw
        case rel => exact ⟨k + 1, m, _, _, by omega, by go_num, rfl, hide (by rw [hst1.out]; exact hm.out), hide (by rw [hst1.out]; exact G0.out)⟩
        case measure => simp [intOf]; omega
      · cases hzb : (z != 0)
        · have hst1 := hide (show gotF f rs (k + 1) = gotF f rs k from by rw [hst.out, hgb.out, hzb]; rfl)
          clear hst hgb
          go_wp2_with fail
          go_roundw
          case rel => exact ⟨k + 1, m, _, _, by omega, by go_num, rfl, hide (by rw [hst1.out]; exact hm.out), hide (by rw [hst1.out]; exact G0.out)⟩
          case measure => simp [intOf]; omega
        · have hst1 := hide (show gotF f rs (k + 1) = gotF f rs k ++ [z] from by rw [hst.out, hgb.out, hzb]; rfl)
          have hmk : m ≤ k := by have := gotF_len f rs k; have := hm.out; omega
          have hR := hide (show (wr.alloc (Obj.cells #[.int .i64 z] 3)).ownsRow W.heap.size 3 1 (.slice A1 m c1) m ((gotF f rs k).map (Value.int .i64)) from by rw [hm.out]; exact G0.out.alloc_own _)
          have hsz := G0.out.low.size
          clear hst hgb
          go_wp2_with (at_builtin; refine wpList_append_lies _ rfl _ _ _ rfl W.heap.size 3 i1 _ 1 8 Try.underlying23 hi1.out hy0 hy1 hy2 rfl (by omega) (.slice A1 m c1) m ((gotF f rs k).map (Value.int .i64)) rfl hR.out ⟨wr.heap.size, 0, none⟩ 1 1 [.int .i64 z] rfl rfl (World.news_of_block (cs := #[.int .i64 z]) (t := 3) (fr := (0, 0)) (heap_alloc_new _ _)) (by simp [Value.oneCell']) (by omega) (by have : maxLen = 9223372036854775807 := rfl; omega) (by omega) (by simp; omega) _ rfl ?_)
          intro g5 cap5 w5 hown5 hgr5 hat5 hlt5
          have G5 := hide (G0.out.more (x := z) (by rw [← hm.out]; exact hown5) (by rw [← hm.out]; exact hgr5))
          have hm1 := hide (show m + 1 = (gotF f rs (k + 1)).length from by rw [hst1.out, List.length_append, List.length_singleton, hm.out])
          clear hown5 hgr5 hat5 hlt5 hR hsz G0 hm
          go_wp2_with fail
          go_roundw
          case rel => exact ⟨k + 1, m + 1, _, _, by omega, by go_num, rfl, hm1, hide (by rw [hst1.out]; exact G5.out)⟩
          case measure => simp [intOf]; omega
    · obtain rfl : k = n := by omega
      have hlt' : decide ((k : Int) < (k : Int)) = false := decide_eq_false (by omega)
      have hmk : m ≤ k := by have := gotF_len f rs k; have := hm.out; omega
      have kS := hide (sort_own (n := m) (v := .slice A1 m c1) (zs := gotF f rs k) (by have := G0.out.own; rw [← hm.out] at this; exact this) (by omega))
      have B1 := hide (BW.out.trans (G0.out.low.mono BW.out.size))
      have hWl := hide G0.out.low.size
      have hWw := hide BW.out.size
      clear G0
      go_wp2_with fail
      refine kS.out.mono ?_
      rintro e w6 ⟨rfl, ho6, hg6⟩
      have O6 := hide ho6
      have B6 := hide (show Below w.heap.size w w6 from B1.out.trans (below_own hg6 (fun j hj e => by have := (own_lt O6.out e.symm).1; have := hWw.out; omega) (Nat.le_trans hWw.out hWl.out)))
      clear ho6 hg6 B1 kS
      go_wp2_with fail
      go_ret
      rw [← hm.out]
      exact ⟨A1, c1, rfl, own_base O6.out hWw.out, B6.out⟩
set_option maxRecDepth 100000 in
set_option maxHeartbeats 6400000 in
theorem heldReg_any (g : Nat) (r : Int) (A : Option Addr) (rs : List Int) (c n : Nat) (S : Nat → Prop) (w : World) (hz : rs.length = n) (hS : ∀ b, S b → b < w.heap.size) (ha : IntsAt w S A rs) (hn : n ≤ 1048576) (hg : w.cell? ⟨g, 0, none⟩ = some (.int .i64 r)) (hgl : g < w.heap.size) :
    Calls Try.prog 77 #[.agg #[.slice A n c], .func (.func 98) #[] #[.pointer (some ⟨g, 0, none⟩)]] w fun e w' => ∃ A' c', e = .returned (.slice A' (gotF (fun (m : Nat) => decide ((m : Int) = r)) rs n).length c') ∧ w'.ownsRow w.heap.size 3 1 (.slice A' (gotF (fun (m : Nat) => decide ((m : Int) = r)) rs n).length c') (gotF (fun (m : Nat) => decide ((m : Int) = r)) rs n).length ((sortI (gotF (fun (m : Nat) => decide ((m : Int) = r)) rs n)).map (Value.int .i64)) ∧ Below w.heap.size w w' := by
  obtain ⟨i1, hi1, hy0, hy1, hy2⟩ := info_parts Try.infoInt
  replace hi1 := hide hi1
  obtain ⟨W, hW⟩ : ∃ x, x = w.alloc (Obj.cells #[.slice A n c] 25) := ⟨_, rfl⟩
  have hbW : Below w.heap.size w W := by rw [hW]; exact below1 _ _
  have X := hide (show Blk W w.heap.size 25 #[.slice A n c] from by rw [hW]; exact Blk.new _ _ _)
  have Z := hide ((ha.below hbW hS).more (S' := Old W.heap.size) (fun b h => Nat.lt_of_lt_of_le (hS b h) hbW.size))
  have hgW := hide (fun wx (hb : Below W.heap.size W wx) => (show wx.cell? ⟨g, 0, none⟩ = some (.int .i64 r) from ((hb.cell (p := ⟨g, 0, none⟩) (Nat.lt_of_lt_of_le hgl hbW.size)).trans ((hbW.cell (p := ⟨g, 0, none⟩) hgl).trans hg))))
  clear hg hgl
  have BW := hide hbW
  replace hz := hide hz
  clear hbW ha hS
  obtain ⟨f, hf⟩ : ∃ f : Nat → Bool, f = (fun (m : Nat) => decide ((m : Int) = r)) := ⟨_, rfl⟩
  rw [← hf]
  replace hf := hide hf
  go_enter Try.func77, Try.ntmps77
  go_upto_region 1 with fail
  rw [← hW]
  clear hW
  have x0 := X.out.cell 0
  have lx := X.out.lt
  simp only [List.getElem?_toArray, List.getElem?_cons_zero] at x0
  go_wp2_with fail
  clear x0 lx
  go_loopw [5, 11] (fun t i wr => ∃ (k m : Nat) (A' : Option Addr) (c' : Nat), k ≤ n ∧ i = .int .i64 k ∧ t = .slice A' m c' ∧ Hid (m = (gotF f rs k).length) ∧ Hid (Grow W A' c' (gotF f rs k) wr)) (fun _ i _ => n - (intOf i).toNat)
  case atStart => exact ⟨0, 0, none, 0, Nat.zero_le _, rfl, rfl, hide rfl, hide (Grow.nil W)⟩
  case round =>
    obtain ⟨k, m, A1, c1, hk, rfl, rfl, hm, G0⟩ := hrel
    by_cases hlt : k < n
    · obtain ⟨b, off, rfl, hbS, hc⟩ := (Z.out.below G0.out.low (fun _ h => h)).2 (by rw [hz.out]; omega)
      have hcell := hc k (by rw [hz.out]; exact hlt)
      have hst := hide (show gotF f rs (k + 1) = if cntB f rs k then gotF f rs k ++ [geti rs k] else gotF f rs k from rfl)
      have hgb := hide (show cntB f rs k = (f (k % 6) && (geti rs k != 0)) from rfl)
      obtain ⟨z, hzz⟩ : ∃ z, z = geti rs k := ⟨_, rfl⟩
      rw [← hzz] at hcell hst hgb
      have hlt' : decide ((k : Int) < (n : Int)) = true := decide_eq_true (by omega)
      have hkn : k < n := hlt
      have hbl := Nat.lt_of_lt_of_le hbS G0.out.low.size
      clear hc hzz
      have kR := inReg1_any g r ((k : Int) % 6) wr ((hgW.out wr G0.out.low))
      obtain ⟨q, hq⟩ : ∃ q, q = f (k % 6) := ⟨_, rfl⟩
      rw [show decide ((k : Int) % 6 = r) = q from by rw [hq, hf.out]; exact decide_eq_decide.2 (by omega)] at kR
      rw [← hq] at hgb
      replace kR := hide kR
      clear hq
      go_wp2_with fail
      refine kR.out.mono ?_
      rintro e wx ⟨rfl, rfl⟩
      clear hcell hbl kR
      cases q
      · have hst1 := hide (show gotF f rs (k + 1) = gotF f rs k from by rw [hst.out, hgb.out]; rfl)
        clear hst hgb
        go_wp2_with fail
        go_roundw
        case rel => exact ⟨k + 1, m, _, _, by omega, by go_num, rfl, hide (by rw [hst1.out]; exact hm.out), hide (by rw [hst1.out]; exact G0.out)⟩
        case measure => simp [intOf]; omega
      · cases hzb : (z != 0)
        · have hst1 := hide (show gotF f rs (k + 1) = gotF f rs k from by rw [hst.out, hgb.out, hzb]; rfl)
          clear hst hgb
          go_wp2_with fail
          go_roundw
          case rel => exact ⟨k + 1, m, _, _, by omega, by go_num, rfl, hide (by rw [hst1.out]; exact hm.out), hide (by rw [hst1.out]; exact G0.out)⟩
          case measure => simp [intOf]; omega
        · have hst1 := hide (show gotF f rs (k + 1) = gotF f rs k ++ [z] from by rw [hst.out, hgb.out, hzb]; rfl)
          have hmk : m ≤ k := by have := gotF_len f rs k; have := hm.out; omega
          have hR := hide (show (wr.alloc (Obj.cells #[.int .i64 z] 3)).ownsRow W.heap.size 3 1 (.slice A1 m c1) m ((gotF f rs k).map (Value.int .i64)) from by rw [hm.out]; exact G0.out.alloc_own _)
          have hsz := G0.out.low.size
          clear hst hgb
          go_wp2_with (at_builtin; refine wpList_append_lies _ rfl _ _ _ rfl W.heap.size 3 i1 _ 1 8 Try.underlying23 hi1.out hy0 hy1 hy2 rfl (by omega) (.slice A1 m c1) m ((gotF f rs k).map (Value.int .i64)) rfl hR.out ⟨wr.heap.size, 0, none⟩ 1 1 [.int .i64 z] rfl rfl (World.news_of_block (cs := #[.int .i64 z]) (t := 3) (fr := (0, 0)) (heap_alloc_new _ _)) (by simp [Value.oneCell']) (by omega) (by have : maxLen = 9223372036854775807 := rfl; omega) (by omega) (by simp; omega) _ rfl ?_)
          intro g5 cap5 w5 hown5 hgr5 hat5 hlt5
          have G5 := hide (G0.out.more (x := z) (by rw [← hm.out]; exact hown5) (by rw [← hm.out]; exact hgr5))
          have hm1 := hide (show m + 1 = (gotF f rs (k + 1)).length from by rw [hst1.out, List.length_append, List.length_singleton, hm.out])
          clear hown5 hgr5 hat5 hlt5 hR hsz G0 hm
          go_wp2_with fail
          go_roundw
          case rel => exact ⟨k + 1, m + 1, _, _, by omega, by go_num, rfl, hm1, hide (by rw [hst1.out]; exact G5.out)⟩
          case measure => simp [intOf]; omega
    · obtain rfl : k = n := by omega
      have hlt' : decide ((k : Int) < (k : Int)) = false := decide_eq_false (by omega)
      have hmk : m ≤ k := by have := gotF_len f rs k; have := hm.out; omega
      have kS := hide (sort_own (n := m) (v := .slice A1 m c1) (zs := gotF f rs k) (by have := G0.out.own; rw [← hm.out] at this; exact this) (by omega))
      have B1 := hide (BW.out.trans (G0.out.low.mono BW.out.size))
      have hWl := hide G0.out.low.size
      have hWw := hide BW.out.size
      clear G0
      go_wp2_with fail
      refine kS.out.mono ?_
      rintro e w6 ⟨rfl, ho6, hg6⟩
      have O6 := hide ho6
      have B6 := hide (show Below w.heap.size w w6 from B1.out.trans (below_own hg6 (fun j hj e => by have := (own_lt O6.out e.symm).1; have := hWw.out; omega) (Nat.le_trans hWw.out hWl.out)))
      clear ho6 hg6 B1 kS
      go_wp2_with fail
      go_ret
      rw [← hm.out]
      exact ⟨A1, c1, rfl, own_base O6.out hWw.out, B6.out⟩
end Go.Proofs.Ytjendjbbhohjcaa
