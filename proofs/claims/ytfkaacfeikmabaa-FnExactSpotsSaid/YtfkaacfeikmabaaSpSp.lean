/- The model's Spots, for any program. -/
import Derived.Test.YtfkaacfeikmabaaSpS
import Derived.Test.YtfkaacfeikmabaaSpP
import Derived.Test.YtfkaacfeikmabaaGrowS
import Derived.Test.YtfkaacfeikmabaaSInsOk
namespace Go.Proofs.Ytfkaacfeikmabaa
open Go.RowKit

set_option maxRecDepth 100000 in
set_option maxHeartbeats 6400000 in
theorem sspots_any (p : ProgD) (A1 A2 : Option Addr) (c1 c2 n : Nat) (w : World) (hn : n ≤ w.heap.size) (hcc : p.init.length ≤ c1 ∧ p.ts.length ≤ c2) (hi : IntsAt w (Old n) A1 p.init) (ht : ThreadsAt w (Old n) A2 p.ts) :
    Calls Try.prog 24 #[.agg #[.slice A1 p.init.length c1, .slice A2 p.ts.length c2]] w fun e w' => SpotR w w' e (spotsK p) (spotsL p) := by
  have hS : ∀ b, Old n b → b < w.heap.size := fun _ h => Nat.lt_of_lt_of_le h hn
  have hb0 := below1 w (Obj.cells #[.slice A1 p.init.length c1, .slice A2 p.ts.length c2] 31)
  have hok := hide (sprogOk_any (.agg #[.slice A1 p.init.length c1, .slice A2 p.ts.length c2]) p (Old n) _ (fun b h => Nat.lt_of_lt_of_le (hS b h) hb0.size) ⟨A1, c1, A2, c2, rfl, hcc, hi.below hb0 hS, ht.below hb0 hS⟩)
  have G0 := hide (Blk.new w 31 #[.slice A1 p.init.length c1, .slice A2 p.ts.length c2])
  have T0 := hide (ht.below hb0 hS)
  replace hb0 := hide hb0
  obtain ⟨i1, hi1, hy0, hy1, hy2⟩ := info_parts Try.infoSpot
  replace hi1 := hide hi1
  have hts := ht.1
  clear hi ht
  cases hB : progB p
  · rw [show spotsL p = [] from by unfold spotsL; rw [hB]; rfl, show spotsK p = 0 from by unfold spotsK; rw [hB]; rfl]
    rw [hB] at hok
    clear hB
    go_enter Try.func24, Try.ntmps24
    go_wp2_with fail
    refine hok.out.mono ?_
    rintro e w1 ⟨rfl, hb1⟩
    have B1 := hide (below_then hb0.out hb1)
    clear hok hb1 hb0 G0 T0
    go_wp2_with fail
    go_ret
    exact ⟨none, 0, rfl, .inl ⟨rfl, rfl, rfl⟩, B1.out⟩
  · obtain ⟨-, h3, h24⟩ := prog_thr hB
    rw [show spotsL p = spotsT p.ts p.ts.length from by unfold spotsL; rw [hB]; rfl, show spotsK p = spotsN p.ts p.ts.length from by unfold spotsK; rw [hB]; rfl]
    rw [hB] at hok
    have h72 := hide (fun k (hk : k ≤ p.ts.length) => spotsN_72 hB hk)
    replace h24 := hide h24
    clear hB
    go_enter Try.func24, Try.ntmps24
    go_wp2_with fail
    refine hok.out.mono ?_
    rintro e w1 ⟨rfl, hb1⟩
    have B1 := hide (below_then hb0.out hb1)
    have G1 := hide (G0.out.below hb1 G0.out.lt)
    have T1 := hide (T0.out.below hb1 (fun b h => Nat.lt_of_lt_of_le (hS b h) hb0.out.size))
    have hn1 : n < w1.heap.size := Nat.lt_of_le_of_lt hn G1.out.lt
    clear hok hb1 hb0 G0 T0
    have l1 : w.heap.size < w1.heap.size := G1.out.lt
    go_wp2_with fail
    go_loopw [3, 4] (fun v q wr => ∃ (t k : Nat) (A' : Option Addr) (c' : Nat), t ≤ p.ts.length ∧ q = .int .i64 t ∧ v = .slice A' k c' ∧ Hid (k = spotsN p.ts t) ∧ Hid (GrowS w1 A' c' k (spotsT p.ts t) wr)) (fun _ q _ => p.ts.length - (intOf q).toNat)
    case atStart => exact ⟨0, 0, none, 0, Nat.zero_le _, rfl, rfl, hide rfl, hide (GrowS.nil _)⟩
    case round =>
      obtain ⟨t, K, A', c', ht, rfl, rfl, hK, hgr⟩ := hrel
      have G2 := hide (G1.out.below hgr.out.low l1)
      have x1 : wr.cell? ⟨w.heap.size, 1, none⟩ = some (.slice A2 p.ts.length c2) := G2.out.cell 1
      have l2 : w.heap.size < wr.heap.size := G2.out.lt
      by_cases hlt : t < p.ts.length
      · obtain ⟨b, off, rfl, hbo, hc⟩ := T1.out.2 (by omega)
        obtain ⟨A3, c3, y0, hc3, hI⟩ := hc t hlt
        have hl24 := h24.out t hlt
        have I1 := hide hI
        have hbo1 : b < w1.heap.size := Nat.lt_trans hbo hn1
        have y1 := hide y0
        have hlt' : (t : Int) < (p.ts.length : Int) := by omega
        obtain ⟨l, hl⟩ : ∃ l, l = gett p.ts t := ⟨_, rfl⟩
        rw [← hl] at y1 I1 hl24
        replace hl := hide hl
        clear hc y0 hI
        have z1 := (hgr.out.low.cell (p := ⟨b, off + t, none⟩) hbo1).trans y1.out
        go_wp2_with fail
        go_loopw [3, 5, 6] (fun v o q wq => ∃ (k m : Nat) (A4 : Option Addr) (c4 : Nat), k ≤ l.length ∧ q = .int .i64 k ∧ o = .bool (openI l k) ∧ v = .slice A4 m c4 ∧ Hid (m = spotsN p.ts t + (atsI l k).length) ∧ Hid (GrowS w1 A4 c4 m (spotsT p.ts t ++ pairsT (t : Int) (atsI l k)) wq)) (fun _ _ q _ => l.length - (intOf q).toNat)
        case atStart => exact ⟨0, K, A', c', Nat.zero_le _, rfl, rfl, rfl, hide (by rw [hK.out]; rfl), hide (by show GrowS _ _ _ _ (_ ++ []) _; rw [List.append_nil]; exact hgr.out)⟩
        case round =>
          obtain ⟨k, m, A4, c4, hk, rfl, rfl, rfl, hm, hgq⟩ := hrel
          have G3 := hide (G1.out.below hgq.out.low l1)
          have x2 := G3.out.cell 1
          simp only [List.getElem?_toArray, List.getElem?_cons_zero, List.getElem?_cons_succ] at x2
          have l3 := G3.out.lt
          have z2 := (hgq.out.low.cell (p := ⟨b, off + t, none⟩) hbo1).trans y1.out
          by_cases hlt2 : k < l.length
          · obtain ⟨b3, off3, rfl, hbo3, hc3'⟩ := I1.out.2 (by omega)
            obtain ⟨d0, -, -, -, -, -⟩ := hc3' k hlt2
            have hbo4 : b3 < w1.heap.size := Nat.lt_trans hbo3 hn1
            have d1 := (hgq.out.low.cell (p := ⟨b3, off3 + k * 6, none⟩) hbo4).trans d0
            have I3 := hide (I1.out.below hgq.out.low (fun b h => Nat.lt_trans h hn1))
            have kS := hide (fun w => l5store_any (getd l k).o w)
            have kL := hide (fun w => l5load_any (getd l k).o w)
            have kO := hide (fun w (h : InssAt w (Old n) (some ⟨b3, off3, none⟩) l) => l7over_any (some ⟨b3, off3, none⟩) l c3 k (Old n) w (by omega) h)
            have hm' := hm.out
            have h72' := h72.out (t + 1) (by omega)
            obtain ⟨o, ho⟩ : ∃ o, o = (getd l k).o := ⟨_, rfl⟩
            rw [← ho] at d1 kS kL
            replace ho := hide ho
            have hlt2' : (k : Int) < (l.length : Int) := by omega
            have hk1 : decide ((k : Int) < (l.length : Int)) = true := decide_eq_true hlt2'
            clear hm' d0 hc3'
            go_wp2_with fail
            cases hs : storeB o
            · cases hf : fenB o
              · cases hl : loadB o
                · have hO := hide (openI_stay (l := l) (k := k) (by rw [← ho.out]; exact hs) (by rw [← ho.out]; exact hf))
                  have hA := hide (atsI_stay (l := l) (k := k) (by rw [← ho.out, hl]; rfl))
                  have h12 : (o == 12) = false := (fen_no hf).1
                  have h11 : (o == 11) = false := (fen_no hf).2
                  rw [hs] at kS
                  rw [hl] at kL
                  clear hs hf hl ho
                  go_wp2_with (first
                                  | (go_at_call 76; refine (kS.out _).mono ?_; rintro e wx ⟨rfl, rfl⟩)
                                  | (go_at_call 78; refine (kL.out _).mono ?_; rintro e wx ⟨rfl, rfl⟩)
                                  | (go_at_call 77; refine (kO.out _ I3.out).mono ?_; rintro e wx ⟨rfl, rfl⟩)
                                  | fail)
                  go_roundw
                  case rel => exact ⟨k + 1, m, A4, c4, by omega, by go_num, by rw [hO.out], rfl, hide (by rw [hA.out]; exact hm.out), hide (by rw [hA.out]; exact hgq.out)⟩
                  case measure => simp [intOf]; omega
                · have hO := hide (openI_stay (l := l) (k := k) (by rw [← ho.out]; exact hs) (by rw [← ho.out]; exact hf))
                  have h12 : (o == 12) = false := (fen_no hf).1
                  have h11 : (o == 11) = false := (fen_no hf).2
                  cases hop : openI l k
                  · have hA := hide (atsI_stay (l := l) (k := k) (by rw [hop]; simp))
                    rw [hs] at kS
                    rw [hl] at kL
                    rw [hop] at hO
                    clear hs hf hl ho hop
                    go_wp2_with (first
                                    | (go_at_call 76; refine (kS.out _).mono ?_; rintro e wx ⟨rfl, rfl⟩)
                                    | (go_at_call 78; refine (kL.out _).mono ?_; rintro e wx ⟨rfl, rfl⟩)
                                    | (go_at_call 77; refine (kO.out _ I3.out).mono ?_; rintro e wx ⟨rfl, rfl⟩)
                                    | fail)
                    go_roundw
                    case rel => exact ⟨k + 1, m, A4, c4, by omega, by go_num, by rw [hO.out], rfl, hide (by rw [hA.out]; exact hm.out), hide (by rw [hA.out]; exact hgq.out)⟩
                    case measure => simp [intOf]; omega
                  · have hA := hide (atsI_load (l := l) (k := k) (by rw [← ho.out]; exact hl) hop)
                    rw [hs] at kS
                    rw [hl] at kL
                    rw [hop] at hO
                    clear hs hf hl ho hop
                    have hs2 := hide (hgq.out.src (t : Int) (k : Int))
                    have ho2 := hide (hgq.out.alloc_own (Obj.cells #[Value.int .i64 (t : Int), Value.int .i64 (k : Int)] 105))
                    have hw2 := hgq.out.low.size
                    have hl2 := hgq.out.len
                    have hmb : m ≤ 72 := by
                      have h1 : (atsI l (k + 1)).length ≤ (atsI l l.length).length := atsI_mono l (by omega)
                      have h2 := hm.out
                      have h4 : spotsN p.ts (t + 1) = spotsN p.ts t + (atsI l l.length).length := by rw [hl.out]; rfl
                      rw [hA.out, List.length_append] at h1
                      omega
                    replace hl2 := hide hl2
                    go_wp2_with (first
                      | (go_at_call 76; refine (kS.out _).mono ?_; rintro e wx ⟨rfl, rfl⟩)
                      | (go_at_call 78; refine (kL.out _).mono ?_; rintro e wx ⟨rfl, rfl⟩)
                      | (at_builtin; refine wpList_append_src _ rfl _ _ _ rfl w1.heap.size 105 i1 _ 2 16 Try.underlying35 hi1.out hy0 hy1 hy2 rfl (by omega) (.slice A4 m c4) m (List.map (Value.int .i64) (spotsT p.ts t ++ pairsT (t : Int) (atsI l k))) rfl ho2.out (Old (_ + 1)) (some ⟨_, 0, none⟩) 1 1 [(t : Int), (k : Int)] rfl rfl hs2.out (by have : maxLen = 9223372036854775807 := rfl; omega) (by omega) (by simp; omega) ?_)
                      | fail)
                    intro A5 c5 w5 hown hg2 _
                    rw [← List.append_assoc, ← List.map_append] at hown
                    have hn5 := hide (hgq.out.more (x := (t : Int)) (y := (k : Int)) hown hg2)
                    clear hown hg2 ho2 hs2
                    go_wp2_with fail
                    go_roundw
                    case rel => exact ⟨k + 1, m + 1, A5, c5, by omega, by go_num, by rw [hO.out], rfl, hide (by rw [hA.out, List.length_append, hm.out]; rfl), hide (by rw [hA.out, pairsT_more, ← List.append_assoc]; exact hn5.out)⟩
                    case measure => simp [intOf]; omega
              · have hl : loadB o = false := load_of_fen hf
                have hO := hide (openI_fen (l := l) (k := k) (by rw [← ho.out]; exact hs) (by rw [← ho.out]; exact hf))
                have hA := hide (atsI_stay (l := l) (k := k) (by rw [← ho.out, hl]; rfl))
                rw [hs] at kS
                clear hs hl ho
                unfold fenB at hf
                cases hop : openI l k
                all_goals
                  rw [hop] at hO
                  (try rw [Bool.true_and] at hO)
                  (try rw [Bool.false_and] at hO)
                  clear hop
                  cases h12 : (o == 12)
                  all_goals
                    (try rw [h12, Bool.false_or] at hf)
                    go_wp2_with (first
                                    | (go_at_call 76; refine (kS.out _).mono ?_; rintro e wx ⟨rfl, rfl⟩)
                                    | (go_at_call 78; refine (kL.out _).mono ?_; rintro e wx ⟨rfl, rfl⟩)
                                    | (go_at_call 77; refine (kO.out _ I3.out).mono ?_; rintro e wx ⟨rfl, rfl⟩)
                                    | fail)
                    go_roundw
                    case rel => exact ⟨k + 1, m, A4, c4, by omega, by go_num, by rw [hO.out], rfl, hide (by rw [hA.out]; exact hm.out), hide (by rw [hA.out]; exact hgq.out)⟩
                    case measure => simp [intOf]; omega
            · have hl : loadB o = false := load_of_store hs
              have hO := hide (openI_store (l := l) (k := k) (by rw [← ho.out]; exact hs))
              have hA := hide (atsI_stay (l := l) (k := k) (by rw [← ho.out, hl]; rfl))
              rw [hs] at kS
              clear hs hl ho
              go_wp2_with (first
                              | (go_at_call 76; refine (kS.out _).mono ?_; rintro e wx ⟨rfl, rfl⟩)
                              | (go_at_call 78; refine (kL.out _).mono ?_; rintro e wx ⟨rfl, rfl⟩)
                              | (go_at_call 77; refine (kO.out _ I3.out).mono ?_; rintro e wx ⟨rfl, rfl⟩)
                              | fail)
              go_roundw
              case rel => exact ⟨k + 1, m, A4, c4, by omega, by go_num, by rw [hO.out], rfl, hide (by rw [hA.out]; exact hm.out), hide (by rw [hA.out]; exact hgq.out)⟩
              case measure => simp [intOf]; omega
          · obtain rfl : k = l.length := by omega
            have hk0 : decide ((l.length : Int) < (l.length : Int)) = false := decide_eq_false (by omega)
            go_wp2_with fail
            go_roundw
            case rel => exact ⟨t + 1, m, A4, c4, by omega, by go_num, rfl, hide (by rw [hm.out, hl.out]; rfl), hide (by rw [spotsT_succ, ← hl.out]; exact hgq.out)⟩
            case measure => simp [intOf]; omega
      · obtain rfl : t = p.ts.length := by omega
        have hf := hide (show SpotR w wr (.returned (.slice A' K c')) (spotsN p.ts p.ts.length) (spotsT p.ts p.ts.length) from by
          have h1 := hgr.out.row B1.out
          rw [hK.out] at h1 ⊢
          exact h1)
        go_wp2_with fail
        go_ret
        exact hf.out
end Go.Proofs.Ytfkaacfeikmabaa
