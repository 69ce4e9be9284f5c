/- The program's Spots, for any program. -/
import Derived.Test.YtfkaacfeikmabaaSpP
import Derived.Test.YtfkaacfeikmabaaGrowS
namespace Go.Proofs.Ytfkaacfeikmabaa
open Go.RowKit

/-- What a kind of instruction is to this: a store, a load, a fence, a jump or none of them. -/
theorem kinds (o : Int) : storeB o = true ∨ loadB o = true ∨ fenB o = true ∨ leapB o = true ∨ (storeB o = false ∧ loadB o = false ∧ fenB o = false ∧ leapB o = false) := by
  cases storeB o <;> cases loadB o <;> cases fenB o <;> cases leapB o <;> simp
theorem eight_ten {o : Int} (h : storeB o = true) : o = 8 ∨ o = 10 := by
  unfold storeB at h; simpa using h
theorem seven_nine {o : Int} (h : loadB o = true) : o = 7 ∨ o = 9 := by
  unfold loadB at h; simpa using h
theorem twelve_eleven {o : Int} (h : fenB o = true) : o = 12 ∨ o = 11 := by
  unfold fenB at h; simpa using h
theorem leaps {o : Int} (h : leapB o = true) : o = 13 ∨ o = 14 := by
  unfold leapB at h; simpa using h
theorem none_of {o : Int} (h : storeB o = false ∧ loadB o = false ∧ fenB o = false ∧ leapB o = false) : (o == 8) = false ∧ (o == 10) = false ∧ (o == 7) = false ∧ (o == 9) = false ∧ (o == 12) = false ∧ (o == 11) = false ∧ (o == 13) = false ∧ (o == 14) = false := by
  obtain ⟨h1, h2, h3, h4⟩ := h
  unfold storeB at h1
  unfold loadB at h2
  unfold fenB at h3
  unfold leapB at h4
  simp only [Bool.or_eq_false_iff] at h1 h2 h3 h4
  exact ⟨h1.1, h1.2, h2.1, h2.2, h3.1, h3.2, h4.1, h4.2⟩
/-- The loop's state behind k instructions goes over to the one behind k + 1. -/
theorem spot_step {l : List InsD} {k : Nat} {o : Int} (ho : o = (getd l k).o) :
    (storeB o = true → farI l (k + 1) = farI l k ∧ openI l (k + 1) = true ∧ atsI l (k + 1) = atsI l k)
    ∧ (loadB o = true → farI l (k + 1) = farI l k ∧ openI l (k + 1) = openI l k ∧ atsI l (k + 1) = if openI l k then atsI l k ++ [(k : Int)] else atsI l k)
    ∧ (fenB o = true → farI l (k + 1) = farI l k ∧ openI l (k + 1) = (openI l k && decide ((k : Int) < farI l k)) ∧ atsI l (k + 1) = atsI l k)
    ∧ (leapB o = true → farI l (k + 1) = max (farI l k) (getd l k).n ∧ openI l (k + 1) = openI l k ∧ atsI l (k + 1) = atsI l k)
    ∧ ((storeB o = false ∧ loadB o = false ∧ fenB o = false ∧ leapB o = false) → farI l (k + 1) = farI l k ∧ openI l (k + 1) = openI l k ∧ atsI l (k + 1) = atsI l k) := by
  subst ho
  refine ⟨fun h => ?_, fun h => ?_, fun h => ?_, fun h => ?_, fun h => ?_⟩
  · have hj : leapB (getd l k).o = false := by rcases eight_ten h with e | e <;> rw [e] <;> rfl
    exact ⟨farI_stay hj, openI_store h, atsI_stay (by rw [load_of_store h]; rfl)⟩
  · have hj : leapB (getd l k).o = false := by rcases seven_nine h with e | e <;> rw [e] <;> rfl
    have hs : storeB (getd l k).o = false := by rcases seven_nine h with e | e <;> rw [e] <;> rfl
    have hf : fenB (getd l k).o = false := by rcases seven_nine h with e | e <;> rw [e] <;> rfl
    refine ⟨farI_stay hj, openI_stay hs hf, ?_⟩
    cases e : openI l k
    · rw [atsI_stay (by rw [e]; simp)]; simp
    · rw [atsI_load h e]; simp
  · have hj : leapB (getd l k).o = false := by rcases twelve_eleven h with e | e <;> rw [e] <;> rfl
    have hs : storeB (getd l k).o = false := by rcases twelve_eleven h with e | e <;> rw [e] <;> rfl
    exact ⟨farI_stay hj, openI_fen hs h, atsI_stay (by rw [load_of_fen h]; rfl)⟩
  · have hs : storeB (getd l k).o = false := by rcases leaps h with e | e <;> rw [e] <;> rfl
    have hf : fenB (getd l k).o = false := by rcases leaps h with e | e <;> rw [e] <;> rfl
    have hl : loadB (getd l k).o = false := by rcases leaps h with e | e <;> rw [e] <;> rfl
    exact ⟨farI_jump h, openI_stay hs hf, atsI_stay (by rw [hl]; rfl)⟩
  · exact ⟨farI_stay h.2.2.2, openI_stay h.1 h.2.2.1, atsI_stay (by rw [h.2.1]; rfl)⟩

set_option maxRecDepth 100000 in
set_option maxHeartbeats 6400000 in
theorem loads_any (A : Option Addr) (l : List InsD) (c : Nat) (S : Nat → Prop) (w : World) (h24 : l.length ≤ 24) (hS : ∀ b, S b → b < w.heap.size) (ha : InssAt w S A l) :
    Calls Try.prog 79 #[.agg #[.slice A l.length c]] w fun e w' => RowR 3 w w' e (atsI l l.length).length (atsI l l.length) := by
  have hb0 := hide (below1 w (Obj.cells #[Value.slice A l.length c] 99))
  obtain ⟨W, hW⟩ : ∃ W, W = w.alloc (Obj.cells #[Value.slice A l.length c] 99) := ⟨_, rfl⟩
  have hI := hide (ha.below hb0.out hS)
  have hS1 := hide (fun b (h : S b) => Nat.lt_of_lt_of_le (hS b h) hb0.out.size)
  rw [← hW] at hb0 hI hS1
  obtain ⟨i1, hi1, hy0, hy1, hy2⟩ := info_parts Try.infoInt
  replace hi1 := hide hi1
  go_enter Try.func79, Try.ntmps79
  go_wp2_with fail
  rw [← hW]
  clear hW ha hS
  go_loopw [3, 4, 5, 11] (fun v o f q wr => ∃ (k : Nat) (A' : Option Addr) (c' : Nat), k ≤ l.length ∧ q = .int .i64 k ∧ o = .bool (openI l k) ∧ f = .int .i64 (farI l k) ∧ v = .slice A' (atsI l k).length c' ∧ Hid (Grow W A' c' (atsI l k) wr)) (fun _ _ _ q _ => l.length - (intOf q).toNat)
  case atStart => exact ⟨0, none, 0, Nat.zero_le _, rfl, rfl, rfl, rfl, hide (Grow.nil _)⟩
  case round =>
    obtain ⟨k, A', c', hk, rfl, rfl, rfl, rfl, hg⟩ := hrel
    by_cases hlt : k < l.length
    · obtain ⟨b, off, rfl, hbB, hc⟩ := (hI.out.below hg.out.low (fun b h => hS1.out b h)).2 (by omega)
      obtain ⟨d0, d1, d2, d3, d4, d5⟩ := hc k hlt
      obtain ⟨o, ho⟩ : ∃ o, o = (getd l k).o := ⟨_, rfl⟩
      obtain ⟨s1, s2, s3, s4, s5⟩ := spot_step ho
      replace s1 := hide s1
      replace s2 := hide s2
      replace s3 := hide s3
      replace s4 := hide s4
      replace s5 := hide s5
      rw [← ho] at d0
      have hbs := hide (below1 wr (Obj.cells #[.int .i64 o, .int .i64 (getd l k).r, .int .i64 (getd l k).a, .int .i64 (getd l k).b, .int .i64 (getd l k).x, .int .i64 (getd l k).n] 72))
      have hX := hide (Blk.new wr 72 #[.int .i64 o, .int .i64 (getd l k).r, .int .i64 (getd l k).a, .int .i64 (getd l k).b, .int .i64 (getd l k).x, .int .i64 (getd l k).n])
      have hg1 := hide (hg.out.next hbs.out)
      have hlt' : decide ((k : Int) < (l.length : Int)) = true := decide_eq_true (by omega)
      have hkl : k < l.length := hlt
      have hbx := Nat.lt_of_lt_of_le (hS1.out b hbB) hg.out.low.size
      clear hc ho hg hbs
      go_wp2_with fail
      refine (kind_any _ _ _ _ _ _ _).mono ?_
      rintro e w1 ⟨rfl, hb1⟩
      have hg2 := hide (hg1.out.next hb1)
      have hX1 := hide (hX.out.below hb1 (by simp))
      clear hg1 hX hb1 d0 d1 d2 d3 d4 d5
      rcases kinds o with h | h | h | h | h
      · obtain ⟨f1, f2, f3⟩ := s1.out h
        have hf := hide f1; have hp := hide f2; have ha := hide f3
        clear s1 s2 s3 s4 s5 f1 f2 f3
        rcases eight_ten h with rfl | rfl
        all_goals
          clear h
          go_wp2_with fail
          go_roundw
          case rel => exact ⟨k + 1, A', c', by omega, by go_num, by rw [hp.out], by rw [hf.out], by rw [ha.out], hide (by rw [ha.out]; exact hg2.out)⟩
          case measure => simp [intOf]; omega
      · obtain ⟨f1, f2, f3⟩ := s2.out h
        have hf := hide f1
        clear s1 s2 s3 s4 s5 f1
        cases hop : openI l k
        · rw [hop] at f2 f3
          rw [if_neg (by decide)] at f3
          have hp := hide f2; have ha := hide f3
          clear f2 f3 hop
          rcases seven_nine h with rfl | rfl
          all_goals
            clear h
            go_wp2_with fail
            go_roundw
            case rel => exact ⟨k + 1, A', c', by omega, by go_num, by rw [hp.out], by rw [hf.out], by rw [ha.out], hide (by rw [ha.out]; exact hg2.out)⟩
            case measure => simp [intOf]; omega
        · rw [hop] at f2 f3
          rw [if_pos rfl] at f3
          have hp := hide f2; have ha := hide f3
          clear f2 f3 hop
          have hlen := hide (atsI_len l k)
          have hk63 : k ≤ 24 := by omega
          obtain ⟨zs, hzs⟩ : ∃ zs, zs = atsI l k := ⟨_, rfl⟩
          rw [← hzs] at hg2 ha hlen ⊢
          replace hzs := hide hzs
          have hs := hide (hg2.out.src (k : Int))
          have hw := hg2.out.low.size
          have hw2 := hide (hg2.out.alloc_own (Obj.cells #[Value.int .i64 (k : Int)] 3))
          rcases seven_nine h with rfl | rfl
          all_goals
            clear h
            go_wp2_with (at_builtin; refine wpList_append_src _ rfl _ _ _ rfl W.heap.size 3 i1 _ 1 8 Try.underlying22 hi1.out hy0 hy1 hy2 rfl (by omega) (.slice A' zs.length c') zs.length (zs.map (Value.int .i64)) rfl hw2.out (Old (_ + 1)) (some ⟨_, 0, none⟩) 1 1 [(k : Int)] rfl rfl hs.out (by have := hlen.out; have : maxLen = 9223372036854775807 := rfl; omega) (by have := hlen.out; omega) (by simp; omega) ?_)
            intro A2 c2 w2 hown hgr _
            have hn := hide (hg2.out.more (x := (k : Int)) hown hgr)
            clear hown hgr hs hw2
            go_wp2_with fail
            go_roundw
            case rel => exact ⟨k + 1, A2, c2, by omega, by go_num, by rw [hp.out], by rw [hf.out], by rw [ha.out, List.length_append]; rfl, hide (by rw [ha.out]; exact hn.out)⟩
            case measure => simp [intOf]; omega
      · obtain ⟨f1, f2, f3⟩ := s3.out h
        have hf := hide f1; have ha := hide f3
        clear s1 s2 s3 s4 s5 f1 f3
        by_cases hfk : farI l k ≤ (k : Int)
        · rw [decide_eq_false (by omega), Bool.and_false] at f2
          have hp := hide f2
          have hq : decide (farI l k ≤ (k : Int)) = true := decide_eq_true hfk
          clear f2 hfk
          rcases twelve_eleven h with rfl | rfl
          all_goals
            clear h
            go_wp2_with fail
            go_roundw
            case rel => exact ⟨k + 1, A', c', by omega, by go_num, by rw [hp.out], by rw [hf.out], by rw [ha.out], hide (by rw [ha.out]; exact hg2.out)⟩
            case measure => simp [intOf]; omega
        · rw [decide_eq_true (by omega), Bool.and_true] at f2
          have hp := hide f2
          have hq : decide (farI l k ≤ (k : Int)) = false := decide_eq_false hfk
          clear f2 hfk
          rcases twelve_eleven h with rfl | rfl
          all_goals
            clear h
            go_wp2_with fail
            go_roundw
            case rel => exact ⟨k + 1, A', c', by omega, by go_num, by rw [hp.out], by rw [hf.out], by rw [ha.out], hide (by rw [ha.out]; exact hg2.out)⟩
            case measure => simp [intOf]; omega
      · obtain ⟨f1, f2, f3⟩ := s4.out h
        have hf := hide f1; have hp := hide f2; have ha := hide f3
        clear s1 s2 s3 s4 s5 f1 f2 f3
        have x5 : w1.cell? _ = some _ := hX1.out.cell 5
        have hlx := hX1.out.lt
        rcases leaps h with rfl | rfl
        all_goals
          clear h
          go_wp2_with fail
          go_roundw
          case rel => exact ⟨k + 1, A', c', by omega, by go_num, by rw [hp.out], by rw [hf.out]; congr 1; split <;> omega, by rw [ha.out], hide (by rw [ha.out]; exact hg2.out)⟩
          case measure => simp [intOf]; omega
      · obtain ⟨f1, f2, f3⟩ := s5.out h
        have hf := hide f1; have hp := hide f2; have ha := hide f3
        obtain ⟨e1, e2, e3, e4, e5, e6, e7, e8⟩ := none_of h
        clear s1 s2 s3 s4 s5 f1 f2 f3 h
        go_wp2_with fail
        go_roundw
        case rel => exact ⟨k + 1, A', c', by omega, by go_num, by rw [hp.out], by rw [hf.out], by rw [ha.out], hide (by rw [ha.out]; exact hg2.out)⟩
        case measure => simp [intOf]; omega
    · obtain rfl : k = l.length := by omega
      have hr := hide (hg.out.row hb0.out)
      clear hg
      go_wp2_with fail
      go_ret
      exact hr.out

theorem take_snoc {zs : List Int} {k : Nat} (h : k < zs.length) : zs.take (k + 1) = zs.take k ++ [geti zs k] := by
  rw [List.take_add_one, List.getElem?_eq_getElem h]
  unfold geti
  rw [List.getD_eq_getElem?_getD, List.getElem?_eq_getElem h]
  rfl
/-- A row stays where another grows that lies elsewhere. -/
theorem rvI_apart {t : TypeId} {w w' : World} {lo hi n : Nat} {v u : Value} {zs : List Int} (h : RvI t w lo hi v n zs) (hg : w.grownBy w' u.ownBlock) (ha : ∀ b, u.ownBlock = some b → b < lo ∨ hi ≤ b) : RvI t w' lo hi v n zs :=
  ⟨h.1.keep (fun k hk e => hg.block k hk (fun e' => by
    have h1 := h.2 k e
    have h2 := (h.1.own_lt e).1
    have h3 := ha k e'.symm
    omega)), h.2⟩
set_option maxRecDepth 100000 in
set_option maxHeartbeats 6400000 in
theorem spots_any (p : ProgD) (A1 A2 : Option Addr) (c1 c2 n : Nat) (w : World) (hn : n ≤ w.heap.size) (hcc : p.init.length ≤ c1 ∧ p.ts.length ≤ c2) (hi : IntsAt w (Old n) A1 p.init) (ht : ThreadsAt w (Old n) A2 p.ts) :
    Calls Try.prog 25 #[.agg #[.slice A1 p.init.length c1, .slice A2 p.ts.length c2]] w fun e w' => SpotR w w' e (spotsK p) (spotsL p) := by
  have hS : ∀ b, Old n b → b < w.heap.size := fun _ h => Nat.lt_of_lt_of_le h hn
  have hb0 := below1 w (Obj.cells #[.slice A1 p.init.length c1, .slice A2 p.ts.length c2] 31)
  have hok := hide (progOk_any (.agg #[.slice A1 p.init.length c1, .slice A2 p.ts.length c2]) p (Old n) _ (fun b h => Nat.lt_of_lt_of_le (hS b h) hb0.size) ⟨A1, c1, A2, c2, rfl, hcc, hi.below hb0 hS, ht.below hb0 hS⟩)
  have G0 := hide (Blk.new w 31 #[.slice A1 p.init.length c1, .slice A2 p.ts.length c2])
  have T0 := hide (ht.below hb0 hS)
  replace hb0 := hide hb0
  obtain ⟨i1, hi1, hy0, hy1, hy2⟩ := info_parts Try.infoSpot
  replace hi1 := hide hi1
  have hts := ht.1
  clear hi ht
  cases hB : progB p
  · rw [show spotsL p = [] from by unfold spotsL; rw [hB]; rfl, show spotsK p = 0 from by unfold spotsK; rw [hB]; rfl]
    rw [hB] at hok
    clear hB
    go_enter Try.func25, Try.ntmps25
    go_wp2_with fail
    refine hok.out.mono ?_
    rintro e w1 ⟨rfl, hb1⟩
    have B1 := hide (below_then hb0.out hb1)
    clear hok hb1 hb0 G0 T0
    go_wp2_with fail
    go_ret
    exact ⟨none, 0, rfl, .inl ⟨rfl, rfl, rfl⟩, B1.out⟩
  · obtain ⟨-, h3, h24⟩ := prog_thr hB
    rw [show spotsL p = spotsT p.ts p.ts.length from by unfold spotsL; rw [hB]; rfl, show spotsK p = spotsN p.ts p.ts.length from by unfold spotsK; rw [hB]; rfl]
    rw [hB] at hok
    have h72 := hide (fun k (hk : k ≤ p.ts.length) => spotsN_72 hB hk)
    replace h24 := hide h24
    clear hB
    go_enter Try.func25, Try.ntmps25
    go_wp2_with fail
    refine hok.out.mono ?_
    rintro e w1 ⟨rfl, hb1⟩
    have B1 := hide (below_then hb0.out hb1)
    have G1 := hide (G0.out.below hb1 G0.out.lt)
    have T1 := hide (T0.out.below hb1 (fun b h => Nat.lt_of_lt_of_le (hS b h) hb0.out.size))
    have hn1 : n < w1.heap.size := Nat.lt_of_le_of_lt hn G1.out.lt
    have x1 : w1.cell? ⟨w.heap.size, 1, none⟩ = some (.slice A2 p.ts.length c2) := G1.out.cell 1
    have l1 : w.heap.size < w1.heap.size := G1.out.lt
    clear hok hb1 hb0 G0 T0 G1
    go_wp2_with fail
    clear x1
    go_loopw [3, 14] (fun v q wr => ∃ (t k : Nat) (A' : Option Addr) (c' : Nat), t ≤ p.ts.length ∧ q = .int .i64 t ∧ v = .slice A' k c' ∧ Hid (k = spotsN p.ts t) ∧ Hid (GrowS w1 A' c' k (spotsT p.ts t) wr)) (fun _ q _ => p.ts.length - (intOf q).toNat)
    case atStart => exact ⟨0, 0, none, 0, Nat.zero_le _, rfl, rfl, hide rfl, hide (GrowS.nil _)⟩
    case round =>
      obtain ⟨t, K, A', c', ht, rfl, rfl, hK, hgr⟩ := hrel
      by_cases hlt : t < p.ts.length
      · obtain ⟨b, off, rfl, hbo, hc⟩ := T1.out.2 (by omega)
        obtain ⟨A3, c3, y0, hc3, hI⟩ := hc t hlt
        have hl24 := h24.out t hlt
        have hbo1 : b < w1.heap.size := Nat.lt_trans hbo hn1
        have hbo2 := Nat.lt_of_lt_of_le hbo1 hgr.out.low.size
        have z1 := (hgr.out.low.cell (p := ⟨b, off + t, none⟩) hbo1).trans y0
        have I2 := hide (hI.below hgr.out.low (fun b h => Nat.lt_trans h hn1))
        have hlt' : decide ((t : Int) < (p.ts.length : Int)) = true := decide_eq_true (by omega)
        obtain ⟨l, hl⟩ : ∃ l, l = gett p.ts t := ⟨_, rfl⟩
        rw [← hl] at z1 I2 hl24
        replace hl := hide hl
        have hb2 := hide (below1 wr (Obj.cells #[.slice A3 l.length c3] 99))
        have I3 := hide (I2.out.below hb2.out (fun b h => Nat.lt_of_lt_of_le (Nat.lt_trans h hn1) hgr.out.low.size))
        have hlts := hide (fun b (h : Old n b) => (show b < (wr.alloc (Obj.cells #[.slice A3 l.length c3] 99)).heap.size from Nat.lt_of_lt_of_le (Nat.lt_of_lt_of_le (Nat.lt_trans h hn1) hgr.out.low.size) hb2.out.size))
        have G2 := hide (hgr.out.next hb2.out)
        have hown0 := hide (fun b (h : (Value.slice A' K c').ownBlock = some b) => Nat.lt_of_lt_of_le (own_at hgr.out.own h).2 hb2.out.size)
        clear hc y0 hI I2 hb2 hgr
        go_wp2_with fail
        refine (loads_any A3 l c3 (Old n) _ hl24 hlts.out I3.out).mono ?_
        rintro e w2 ⟨A5, c5, rfl, hr, hb3⟩
        have G3 := hide (G2.out.next hb3)
        have hz3 := hb3.size
        simp only [World.size_alloc] at hz3
        clear hb3 G2 I3 hlts z1
        have hln := atsI_len l l.length
        have R3 := hide (RvI.of hr)
        have hsp : spotsN p.ts (t + 1) = spotsN p.ts t + (atsI l l.length).length := by rw [hl.out]; rfl
        have hst := hide (show spotsT p.ts (t + 1) = spotsT p.ts t ++ pairsT (t : Int) (atsI l l.length) from by rw [spotsT_succ, ← hl.out])
        have h72' := hide (h72.out (t + 1) (by omega))
        replace hsp := hide hsp
        obtain ⟨zs, hzs⟩ : ∃ zs, zs = atsI l l.length := ⟨_, rfl⟩
        rw [← hzs] at R3 hst hsp hln ⊢
        obtain ⟨B0, hB0⟩ : ∃ B0, B0 = (wr.alloc (Obj.cells #[.slice A3 l.length c3] 99)).heap.size := ⟨_, rfl⟩
        rw [← hB0] at R3
        have hap := hide (fun b (h : (Value.slice A' K c').ownBlock = some b) => (show b < B0 ∨ w2.heap.size ≤ b from Or.inl (by rw [hB0]; exact hown0.out b h)))
        have hK72 : K + zs.length ≤ 72 := by have := hK.out; have := hsp.out; have := h72'.out; omega
        clear hr hzs hB0 hown0
        go_wp2_with fail
        go_loopw [3, 22] (fun v q wq => ∃ (k : Nat) (A4 : Option Addr) (c4 : Nat), k ≤ zs.length ∧ q = .int .i64 k ∧ v = .slice A4 (K + k) c4 ∧ Hid (GrowS w1 A4 c4 (K + k) (spotsT p.ts t ++ pairsT (t : Int) (zs.take k)) wq) ∧ Hid (w2.heap.size ≤ wq.heap.size) ∧ Hid (RvI 3 wq B0 w2.heap.size (.slice A5 zs.length c5) zs.length zs) ∧ Hid (∀ b, (Value.slice A4 (K + k) c4).ownBlock = some b → b < B0 ∨ w2.heap.size ≤ b)) (fun _ q _ => zs.length - (intOf q).toNat)
        case atStart => exact ⟨0, A', c', Nat.zero_le _, rfl, rfl, hide (by show GrowS _ _ _ _ (_ ++ []) _; rw [List.append_nil]; exact G3.out), hide (Nat.le_refl _), R3, hap⟩
        case round =>
          clear G3 R3 hap
          obtain ⟨k, A4, c4, hk, rfl, rfl, hgq, hwq, hR, hap⟩ := hrel
          by_cases hlt2 : k < zs.length
          · have hin := hR.out.src (by omega) rfl
            obtain ⟨b5, off5, rfl, hb5, hc5⟩ := hin.2 (by omega)
            have z5 := hc5 k hlt2
            have hk1 : decide ((k : Int) < (zs.length : Int)) = true := decide_eq_true (by omega)
            obtain ⟨z, hz⟩ : ∃ z, z = geti zs k := ⟨_, rfl⟩
            rw [← hz] at z5
            have htk := hide (show zs.take (k + 1) = zs.take k ++ [z] from by rw [hz]; exact take_snoc hlt2)
            clear hz hin hc5
            have hs2 := hide (hgq.out.src (t : Int) z)
            have ho2 := hide (hgq.out.alloc_own (Obj.cells #[Value.int .i64 (t : Int), Value.int .i64 z] 105))
            have hw3 := hgq.out.low.size
            obtain ⟨ys, hys⟩ : ∃ ys, ys = spotsT p.ts t ++ pairsT (t : Int) (zs.take k) := ⟨_, rfl⟩
            rw [← hys] at hgq ho2
            replace hys := hide hys
            go_wp2_with (at_builtin; refine wpList_append_src _ rfl _ _ _ rfl w1.heap.size 105 i1 _ 2 16 Try.underlying35 hi1.out hy0 hy1 hy2 rfl (by omega) (.slice A4 (K + k) c4) (K + k) (List.map (Value.int .i64) ys) rfl ho2.out (Old (_ + 1)) (some ⟨_, 0, none⟩) 1 1 [(t : Int), z] rfl rfl hs2.out (by have : maxLen = 9223372036854775807 := rfl; omega) (by omega) (by simp; omega) ?_)
            intro A6 c6 w6 hown hg2 hat
            have hn6 := hide (hgq.out.more (x := (t : Int)) (y := z) hown hg2)
            have hz6 := hg2.size
            have hR6 := hide (rvI_apart (hR.out.next (below1 _ _)) hg2 hap.out)
            have hap6 := hide (fun b (h : (Value.slice A6 (K + k + 1) c6).ownBlock = some b) => (show b < B0 ∨ w2.heap.size ≤ b from by
              rcases hat with e | e
              · rw [h] at e
                exact hap.out b e.symm
              · rw [h] at e
                have e2 := Option.some.inj e
                have h1 := hwq.out
                (try simp only [World.size_alloc] at e2)
                exact Or.inr (by omega)))
            simp only [World.size_alloc] at hz6
            clear hown hg2 ho2 hs2 hgq hR hap hat
            go_wp2_with fail
            go_roundw
            case rel => exact ⟨k + 1, A6, c6, by omega, by go_num, rfl, hide (by rw [htk.out, pairsT_more, ← List.append_assoc, ← hys.out]; exact hn6.out), hide (by have := hwq.out; omega), hR6, hap6⟩
            case measure => simp [intOf]; omega
          · obtain rfl : k = zs.length := by omega
            rw [List.take_length] at hgq
            go_wp2_with fail
            go_roundw
            case rel => exact ⟨t + 1, K + zs.length, A4, c4, by omega, by go_num, rfl, hide (by rw [hsp.out, hK.out]), hide (by rw [hst.out]; exact hgq.out)⟩
            case measure => simp [intOf]; omega
      · obtain rfl : t = p.ts.length := by omega
        have hf := hide (show SpotR w wr (.returned (.slice A' K c')) (spotsN p.ts p.ts.length) (spotsT p.ts p.ts.length) from by
          have h1 := hgr.out.row B1.out
          rw [hK.out] at h1 ⊢
          exact h1)
        go_wp2_with fail
        go_ret
        exact hf.out
end Go.Proofs.Ytfkaacfeikmabaa
