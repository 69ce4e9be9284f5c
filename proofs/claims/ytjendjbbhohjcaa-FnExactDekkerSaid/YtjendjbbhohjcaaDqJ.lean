/- The program's joined: parts put one behind another. -/
import Derived.Test.YtjendjbbhohjcaaDqD
import Derived.Test.YtjendjbbhohjcaaKin
import Derived.Test.YtjendjbbhohjcaaLead
import Derived.Test.YtjendjbbhohjcaaDqM0
import Derived.Deep.AppendLies
import Derived.Deep.RegionLaw
import Derived.Deep.DrawnRows
import Derived.Deep.DeepCutAuto
namespace Go.Proofs.Ytjendjbbhohjcaa
open Go.RowKit

theorem joinTo_mono (ps : List (List InsD)) {k n : Nat} (h : k ≤ n) : (joinTo ps k).length ≤ (joinTo ps n).length := by
  induction n with
  | zero => have : k = 0 := by omega
            subst this; exact Nat.le_refl _
  | succ n ih =>
    rcases Nat.lt_or_ge k (n + 1) with h1 | h1
    · have := ih (by omega)
      show _ ≤ (joinTo ps n ++ _).length
      rw [List.length_append]; omega
    · have : k = n + 1 := by omega
      subst this; exact Nat.le_refl _
set_option maxRecDepth 100000 in
set_option maxHeartbeats 12800000 in
theorem joined_any (A : Option Addr) (ps : List (List InsD)) (c : Nat) (S : Nat → Prop) (w : World) (hS : ∀ b, S b → b < w.heap.size) (h : ThreadsAt w S A ps) (hlen : (joinTo ps ps.length).length ≤ 100000) (hN : ∀ k, k < ps.length → ∀ d ∈ gett ps k, -1000000 ≤ d.n ∧ d.n ≤ 1000000) :
    Calls Try.prog 69 #[.slice A ps.length c] w fun e w' => InsR w w' e (joinTo ps ps.length) := by
  obtain ⟨i0, hi0, hz0, hz1, hz2⟩ := info_parts Try.infoIns
  replace hi0 := hide hi0
  have hT := hide (h.more (S' := Old w.heap.size) hS)
  have hps := h.1
  have hlenH := hide hlen
  have hNH := hide hN
  clear h hS hlen hN
  go_enter Try.func69, Try.ntmps69
  go_wp2_with fail
  go_loopw [3, 11] (fun t i wr => ∃ (k n : Nat) (A' : Option Addr) (c' : Nat), k ≤ ps.length ∧ i = .int .i64 k ∧ t = .slice A' n c' ∧ Hid (GrowI w A' c' n (joinTo ps k) wr)) (fun _ i _ => ps.length - (intOf i).toNat)
  case atStart => exact ⟨0, 0, none, 0, Nat.zero_le _, rfl, rfl, hide (GrowI.nil w)⟩
  case round =>
    obtain ⟨k, m, A1, c1, hk, rfl, rfl, H0⟩ := hrel
    by_cases hlt : k < ps.length
    · obtain ⟨bt, ot, rfl, hbS, hc⟩ := (hT.out.keep (S' := Old w.heap.size) (fun b o h => H0.out.low.cell (p := ⟨b, o, none⟩) h) (fun _ h => h)).2 (by omega)
      obtain ⟨A2, c2, hcell, hc2, hIk⟩ := hc k hlt
      have hI := hide (hT.out.2 (by omega))
      replace hI := hide (show InssAt w (Old w.heap.size) A2 (gett ps k) from by
        obtain ⟨b2, o2, e2, -, hc3⟩ := hI.out
        cases e2
        obtain ⟨A3, c3, hcell3, -, hI3⟩ := hc3 k hlt
        rw [H0.out.low.cell (p := ⟨bt, ot + k, none⟩) hbS, hcell3] at hcell
        cases hcell
        exact hI3)
      have hN := hide (hNH.out k hlt)
      have hmono := joinTo_mono ps (show k + 1 ≤ ps.length from hlt)
      have hsum : (joinTo ps (k + 1)).length = (joinTo ps k).length + (gett ps k).length := by
        show (joinTo ps k ++ movL _ (gett ps k)).length = _
        rw [List.length_append, movL_len]
      have hL := hide H0.out.len
      have hB := hide (show m + (gett ps k).length ≤ 100000 from by have := hlenH.out; have := hL.out; omega)
      have hj := hide (show joinTo ps (k + 1) = joinTo ps k ++ movL m (gett ps k) from by show joinTo ps k ++ movL ((joinTo ps k).length : Int) (gett ps k) = _; rw [hL.out])
      clear hIk hc hmono hsum
      obtain ⟨part, hpart⟩ : ∃ x, x = gett ps k := ⟨_, rfl⟩
      rw [← hpart] at hI hN hB hj hcell hc2
      clear hpart
      obtain ⟨L, hLL⟩ : ∃ x, x = joinTo ps k := ⟨_, rfl⟩
      rw [← hLL] at H0 hL hj
      clear hLL
      have hpl : part.length ≤ 9223372036854775807 := hI.out.1
      have hlt' : decide ((k : Int) < (ps.length : Int)) = true := decide_eq_true (by omega)
      have hbl := Nat.lt_of_lt_of_le hbS H0.out.low.size
      have hkl : k < ps.length := hlt
      go_wp2_with fail
      clear hcell hbl
      rename_i wr0
      go_loopw [3, 19] (fun t i wr => ∃ (j n : Nat) (A' : Option Addr) (c' : Nat), j ≤ part.length ∧ i = .int .i64 j ∧ t = .slice A' n c' ∧ Hid (GrowI w A' c' n (L ++ movL m (part.take j)) wr)) (fun _ i _ => part.length - (intOf i).toNat)
      case atStart => exact ⟨0, m, A1, c1, Nat.zero_le _, rfl, rfl, hide (by simpa [movL] using H0.out)⟩
      case round =>
        clear H0
        obtain ⟨j, n1, A1, c1, hjle, rfl, rfl, H0⟩ := hrel
        by_cases hlt : j < part.length
        · have hBB := hB.out
          obtain ⟨q, off, rfl, hqS, hc⟩ := (hI.out.keep (S' := Old w.heap.size) (fun b o h => H0.out.low.cell (p := ⟨b, o, none⟩) h) (fun _ h => h)).2 (by omega)
          obtain ⟨d0, d1, d2, d3, d4, d5⟩ := hc j hlt
          have hNj := hN.out (getd part j) (getd_mem part j hlt)
          have hst := hide (movL_step m part j hlt)
          obtain ⟨d, hd⟩ : ∃ d, d = getd part j := ⟨_, rfl⟩
          rw [← hd] at d0 d1 d2 d3 d4 d5 hNj hst
          clear hd hc
          obtain ⟨o, r, a, b, x, n⟩ := d
          simp only at d0 d1 d2 d3 d4 d5 hNj
          have hlen := H0.out.len
          rw [List.length_append, movL_len, List.length_take, Nat.min_eq_left (Nat.le_of_lt hlt), hL.out] at hlen
          have hn1 : n1 + 1 ≤ 100000 := by omega
          clear hlen
          obtain ⟨l1, hl1⟩ : ∃ l1, l1 = L ++ movL m (part.take j) := ⟨_, rfl⟩
          rw [← hl1] at H0
          replace hst := hide (show L ++ movL m (part.take (j + 1)) = l1 ++ [movI m ⟨o, r, a, b, x, n⟩] from by rw [hst.out, hl1, List.append_assoc])
          clear hl1
          have hbY := below1 wr (Obj.cells #[.int .i64 o, .int .i64 r, .int .i64 a, .int .i64 b, .int .i64 x, .int .i64 n] 89)
          have Y1a := Blk.new wr 89 #[.int .i64 o, .int .i64 r, .int .i64 a, .int .i64 b, .int .i64 x, .int .i64 n]
          have H1a := H0.out.next hbY
          have hqY := Nat.lt_of_lt_of_le hqS H0.out.low.size
          have hlt' : decide ((j : Int) < (part.length : Int)) = true := decide_eq_true (by omega)
          have hjl : j < part.length := hlt
          go_upto_region 9 with fail
          obtain ⟨w1, hw1⟩ : ∃ wq, wq = wr.alloc (Obj.cells #[.int .i64 o, .int .i64 r, .int .i64 a, .int .i64 b, .int .i64 x, .int .i64 n] 89) := ⟨_, rfl⟩
          rw [← hw1] at Y1a H1a ⊢
          obtain ⟨Y, hY⟩ : ∃ Y, Y = wr.heap.size := ⟨_, rfl⟩
          have hYW : w.heap.size ≤ Y := by rw [hY]; exact H0.out.low.size
          have hYf : some Y ≠ (Value.slice A1 n1 c1).ownBlock := fun e => by
            have := (own_lt H0.out.own e.symm).2.1
            omega
          rw [← hY] at Y1a ⊢
          have Y1 := hide Y1a
          have H1 := hide H1a
          clear d0 d1 d2 d3 d4 d5 hw1 hY hbY Y1a H1a H0 hqY
          cases hlp : leapB o
          · have hstep := hide (show L ++ movL m (part.take (j + 1)) = l1 ++ [⟨o, r, a, b, x, n⟩] from by rw [hst.out]; unfold movI; rw [if_neg (by show ¬ leapB o = true; rw [hlp]; decide)])
            have kL1 := hide (fun w => leads_any o w)
            rw [hlp] at kL1
            clear hlp hst
            obtain ⟨y0, y1, y2, y3, y4, y5⟩ := (show (w1.cell? ⟨Y, 0, none⟩ = some (.int .i64 o) ∧ w1.cell? ⟨Y, 1, none⟩ = some (.int .i64 r) ∧ w1.cell? ⟨Y, 2, none⟩ = some (.int .i64 a) ∧ w1.cell? ⟨Y, 3, none⟩ = some (.int .i64 b) ∧ w1.cell? ⟨Y, 4, none⟩ = some (.int .i64 x) ∧ w1.cell? ⟨Y, 5, none⟩ = some (.int .i64 n)) from ⟨Y1.out.cell 0, Y1.out.cell 1, Y1.out.cell 2, Y1.out.cell 3, Y1.out.cell 4, Y1.out.cell 5⟩)
            have hYl1 := Y1.out.lt
            go_wp2_with fail
            refine (kind_any _ _ _ _ _ _ _).mono ?_
            rintro e w2 ⟨rfl, hb2⟩
            have H2 := hide (H1.out.next hb2)
            have Y2 := hide (Y1.out.below hb2 Y1.out.lt)
            clear hb2 H1 Y1 y0 y1 y2 y3 y4 y5 hYl1
            go_wp2_with fail
            refine (kL1.out _).mono ?_
            rintro e wx ⟨rfl, rfl⟩
            clear kL1
            obtain ⟨y0, y1, y2, y3, y4, y5⟩ := (show (w2.cell? ⟨Y, 0, none⟩ = some (.int .i64 o) ∧ w2.cell? ⟨Y, 1, none⟩ = some (.int .i64 r) ∧ w2.cell? ⟨Y, 2, none⟩ = some (.int .i64 a) ∧ w2.cell? ⟨Y, 3, none⟩ = some (.int .i64 b) ∧ w2.cell? ⟨Y, 4, none⟩ = some (.int .i64 x) ∧ w2.cell? ⟨Y, 5, none⟩ = some (.int .i64 n)) from ⟨Y2.out.cell 0, Y2.out.cell 1, Y2.out.cell 2, Y2.out.cell 3, Y2.out.cell 4, Y2.out.cell 5⟩)
            have hYl := Y2.out.lt
            have hW2 := H2.out.low.size
            go_wp2_with (at_builtin; refine wpList_append_lies _ rfl _ _ _ rfl w.heap.size 89 i0 _ 6 48 Try.underlying43 hi0.out hz0 hz1 hz2 rfl (by omega) (.slice A1 n1 c1) n1 (flat l1) rfl (H2.out.alloc _) ⟨w2.heap.size, 0, none⟩ 1 1 [Value.int .i64 o, Value.int .i64 r, Value.int .i64 a, Value.int .i64 b, Value.int .i64 x, Value.int .i64 n] rfl rfl (World.news_of_block (cs := #[Value.int .i64 o, Value.int .i64 r, Value.int .i64 a, Value.int .i64 b, Value.int .i64 x, Value.int .i64 n]) (t := 89) (fr := (0, 0)) (heap_alloc_new _ _)) (by simp [Value.oneCell']) (by omega) (by have : maxLen = 9223372036854775807 := rfl; omega) (by omega) (by simp; omega) _ rfl ?_)
            intro g3 cap3 w3 hown3 hg3 hat3 hlt3
            have H3 := hide (H2.out.more (k := [⟨o, r, a, b, x, n⟩]) (m := 1) (xs := [Value.int .i64 o, Value.int .i64 r, Value.int .i64 a, Value.int .i64 b, Value.int .i64 x, Value.int .i64 n]) rfl hown3 hg3)
            clear hown3 hg3 hat3 H2 Y2 y0 y1 y2 y3 y4 y5 hYl hW2
            go_wp2_with fail
            go_roundw
            case rel => exact ⟨j + 1, _, _, _, by omega, by go_num, rfl, hide (by rw [hstep.out]; exact H3.out)⟩
            case measure => simp [intOf]; omega
          · have hstep := hide (show L ++ movL m (part.take (j + 1)) = l1 ++ [⟨o, r, a, b, x, n + (m : Int)⟩] from by rw [hst.out]; unfold movI; rw [if_pos (by show leapB o = true; exact hlp)])
            have kL1 := hide (fun w => leads_any o w)
            rw [hlp] at kL1
            clear hlp hst
            obtain ⟨y0, y1, y2, y3, y4, y5⟩ := (show (w1.cell? ⟨Y, 0, none⟩ = some (.int .i64 o) ∧ w1.cell? ⟨Y, 1, none⟩ = some (.int .i64 r) ∧ w1.cell? ⟨Y, 2, none⟩ = some (.int .i64 a) ∧ w1.cell? ⟨Y, 3, none⟩ = some (.int .i64 b) ∧ w1.cell? ⟨Y, 4, none⟩ = some (.int .i64 x) ∧ w1.cell? ⟨Y, 5, none⟩ = some (.int .i64 n)) from ⟨Y1.out.cell 0, Y1.out.cell 1, Y1.out.cell 2, Y1.out.cell 3, Y1.out.cell 4, Y1.out.cell 5⟩)
            have hYl1 := Y1.out.lt
            go_wp2_with fail
            refine (kind_any _ _ _ _ _ _ _).mono ?_
            rintro e w2 ⟨rfl, hb2⟩
            have H2 := hide (H1.out.next hb2)
            have Y2 := hide (Y1.out.below hb2 Y1.out.lt)
            clear hb2 H1 Y1 y0 y1 y2 y3 y4 y5 hYl1
            go_wp2_with fail
            refine (kL1.out _).mono ?_
            rintro e wx ⟨rfl, rfl⟩
            clear kL1
            obtain ⟨y5, z5⟩ := (show w2.cell? ⟨Y, 5, none⟩ = some (.int .i64 n) ∧ w2.frozen? ⟨Y, 5, none⟩ = false from ⟨Y2.out.cell 5, Y2.out.frozen 5⟩)
            have hYl2 := Y2.out.lt
            have hwm : IntKind.i64.wrap (n + (m : Int)) = n + (m : Int) := (IntWalk.i64_left _).trans (by unfold RowKit.wrap64; omega)
            go_upto_region 11 with fail
            obtain ⟨w3s, hw3s⟩ : ∃ wq, wq = w2.setCell ⟨Y, 5, none⟩ (.int .i64 (n + (m : Int))) := ⟨_, rfl⟩
            have H3s := H2.out.setFar (i := 5) hYW hYf (.int .i64 (n + (m : Int)))
            have Y3s := Y2.out.set_ 5 (.int .i64 (n + (m : Int)))
            rw [← hw3s] at H3s Y3s ⊢
            clear hw3s y5 z5 hYl2 hwm H2 Y2
            obtain ⟨w2, hw2⟩ : ∃ wq, wq = w3s := ⟨_, rfl⟩
            rw [← hw2] at H3s Y3s ⊢
            clear hw2
            have H2 := hide H3s
            have Y2 := hide (show Blk w2 Y 89 #[.int .i64 o, .int .i64 r, .int .i64 a, .int .i64 b, .int .i64 x, .int .i64 (n + (m : Int))] from Y3s)
            clear H3s Y3s
            obtain ⟨y0, y1, y2, y3, y4, y5⟩ := (show (w2.cell? ⟨Y, 0, none⟩ = some (.int .i64 o) ∧ w2.cell? ⟨Y, 1, none⟩ = some (.int .i64 r) ∧ w2.cell? ⟨Y, 2, none⟩ = some (.int .i64 a) ∧ w2.cell? ⟨Y, 3, none⟩ = some (.int .i64 b) ∧ w2.cell? ⟨Y, 4, none⟩ = some (.int .i64 x) ∧ w2.cell? ⟨Y, 5, none⟩ = some (.int .i64 (n + (m : Int)))) from ⟨Y2.out.cell 0, Y2.out.cell 1, Y2.out.cell 2, Y2.out.cell 3, Y2.out.cell 4, Y2.out.cell 5⟩)
            have hYl := Y2.out.lt
            have hW2 := H2.out.low.size
            go_wp2_with (at_builtin; refine wpList_append_lies _ rfl _ _ _ rfl w.heap.size 89 i0 _ 6 48 Try.underlying43 hi0.out hz0 hz1 hz2 rfl (by omega) (.slice A1 n1 c1) n1 (flat l1) rfl (H2.out.alloc _) ⟨w2.heap.size, 0, none⟩ 1 1 [Value.int .i64 o, Value.int .i64 r, Value.int .i64 a, Value.int .i64 b, Value.int .i64 x, Value.int .i64 (n + (m : Int))] rfl rfl (World.news_of_block (cs := #[Value.int .i64 o, Value.int .i64 r, Value.int .i64 a, Value.int .i64 b, Value.int .i64 x, Value.int .i64 (n + (m : Int))]) (t := 89) (fr := (0, 0)) (heap_alloc_new _ _)) (by simp [Value.oneCell']) (by omega) (by have : maxLen = 9223372036854775807 := rfl; omega) (by omega) (by simp; omega) _ rfl ?_)
            intro g3 cap3 w3 hown3 hg3 hat3 hlt3
            have H3 := hide (H2.out.more (k := [⟨o, r, a, b, x, (n + (m : Int))⟩]) (m := 1) (xs := [Value.int .i64 o, Value.int .i64 r, Value.int .i64 a, Value.int .i64 b, Value.int .i64 x, Value.int .i64 (n + (m : Int))]) rfl hown3 hg3)
            clear hown3 hg3 hat3 H2 Y2 y0 y1 y2 y3 y4 y5 hYl hW2
            go_wp2_with fail
            go_roundw
            case rel => exact ⟨j + 1, _, _, _, by omega, by go_num, rfl, hide (by rw [hstep.out]; exact H3.out)⟩
            case measure => simp [intOf]; omega
        · obtain rfl : j = part.length := by omega
          have hlt' : decide ((part.length : Int) < (part.length : Int)) = false := decide_eq_false (by omega)
          have H1 := hide (show GrowI w A1 c1 n1 (joinTo ps (k + 1)) _ from by have := H0.out; rw [List.take_length] at this; rw [hj.out]; exact this)
          clear H0
          go_wp2_with fail
          go_roundw
          case rel => exact ⟨k + 1, n1, A1, c1, by omega, by go_num, rfl, H1⟩
          case measure => simp [intOf]; omega
    · obtain rfl : k = ps.length := by omega
      have hlt' : decide ((ps.length : Int) < (ps.length : Int)) = false := decide_eq_false (by omega)
      go_wp2_with fail
      go_ret
      exact H0.out.ret (Below.refl _ _)
end Go.Proofs.Ytjendjbbhohjcaa
