/- l1draw: a program drawn. -/
import Derived.Test.YtfkaacfeikmabaaMg7
namespace Go.Proofs.Ytfkaacfeikmabaa
open Go.RowKit

attribute [local go_sem ↓] Go.wp_at_zero Go.wp_at_succ

set_option maxRecDepth 100000 in
set_option maxHeartbeats 1600000 in
theorem l1draw_any (g : Nat) (threads most : Int) (w : World) (hm : 1 ≤ most ∧ most ≤ 29) (ht : 1 ≤ threads ∧ threads ≤ 3) (hc : Cur w g) :
    Calls Try.prog 171 #[.pointer (some ⟨g, 0, none⟩), .int .i64 threads, .int .i64 most] w fun e w' => ∃ (v tv : Value), e = .returned (.agg #[v, tv]) ∧ ∃ (zs : List Int) (ts : List (List InsD)) (vs : List Value), ProgOwn w' w.heap.size zs v ts vs tv ∧ (2 ≤ zs.length ∧ zs.length ≤ 3 ∧ ∀ z ∈ zs, 0 ≤ z ∧ z ≤ 1) ∧ ((ts.length : Int) = threads ∧ ∀ l ∈ ts, 1 ≤ l.length ∧ (l.length : Int) ≤ most + 1 ∧ ∀ d ∈ l, Small d) ∧ Cur w' g ∧ Only g w w' := by
  obtain ⟨ht0, ht1⟩ := ht
  have hg := hc.lt
  obtain ⟨i1, hi1, hy0, hy1, hy2⟩ := info_parts Try.infoInt
  have hi1 := hide hi1
  obtain ⟨i2, hi2, hx0, hx1, hx2⟩ := info_parts Try.infoThr
  have hi2 := hide hi2
  have h0 : PrAt g w (w.heap.size + 1) [] (.slice none 0 0) [] [] (.slice none 0 0) ((w.alloc (Obj.cells #[Value.slice none 0 0, Value.slice none 0 0] 31)).alloc (Obj.cells #[Value.slice none 0 0, Value.slice none 0 0] 31)) :=
    ⟨(hc.alloc _).alloc _, ((Only.refl g w).alloc _).alloc _, by have := Blk.new (w.alloc (Obj.cells #[Value.slice none 0 0, Value.slice none 0 0] 31)) 31 #[Value.slice none 0 0, Value.slice none 0 0]; simpa using this, ProgOwn.nil _ _, rfl, ⟨_, _, (Blk.new w 31 #[Value.slice none 0 0, Value.slice none 0 0]).alloc _⟩⟩
  have HC := hide hc
  clear hc
  go_enter Try.func171, Try.ntmps171
  go_wp2_with fail
  refine (l1Below_pr 2 (by omega) (by omega) hg h0).mono ?_
  rintro e w1 ⟨x, rfl, ⟨hk0, hk1⟩, h1⟩
  clear h0
  go_wp2_with fail
  go_loopw [8] (fun k wr => ∃ (n : Nat) (zs : List Int) (v : Value), k = .int .i64 (x + 1 - n) ∧ zs.length = n ∧ (n : Int) ≤ x + 2 ∧ PrAt g w (w.heap.size + 1) zs v [] [] (.slice none 0 0) wr ∧ Hid (∀ z ∈ zs, 0 ≤ z ∧ z ≤ 1)) (fun k _ => (intOf k + 1).toNat)
  case atStart => exact ⟨0, [], _, by simp; omega, rfl, by omega, h1, hide (fun z hz => by simp at hz)⟩
  case round =>
    obtain ⟨n, zs, v, rfl, hzl, hn, h2, hz01⟩ := hrel
    subst hzl
    have hs2 := h2.blk.lt
    obtain ⟨⟨c0, c1⟩, f0, f1⟩ := h2.cells
    by_cases hlt : (zs.length : Int) < x + 2
    · have h3 := h2.drew
      go_wp2_with fail
      go_region_law (first
        | (go_simp; refine (l1Pick_pr (some ⟨wr.heap.size, 0, none⟩) [0, 0, 0, 1] (by decide) (by decide) 4 hg (ints_of_blk (t := 3) (zs := [0, 0, 0, 1]) (Blk.new wr.drew _ _) (by decide) ⟨by simp, by omega⟩) (h3.alloc _)).mono ?_; rintro e w2 ⟨y, rfl, hy, h5, ⟨⟨c50, c51⟩, f50, f51⟩, hz5⟩; have hs5 := h5.blk.lt; go_simp)
        | (refine step_append_lies _ (by rfl) _ _ _ (by rfl) (w.heap.size + 2) 3 i1 _ 1 8 Try.underlying22 hi1.out hy0 hy1 hy2 rfl (by omega) v zs.length (zs.map (Value.int .i64)) (by rfl) (h5.alloc _).own.ints _ 1 1 _ (by rfl) ?hl (World.news_of_block (heap_alloc_new _ _)) ?h1 (by omega) ?h63 ?hby ?hb _ (by rfl) ?_
           case hl => rfl
           case h1 => simp [Value.oneCell']
           case h63 => (have : maxLen = 9223372036854775807 := rfl); omega
           case hby => omega
           case hb => simp; omega
           intro gg cap w4 hown hgrow hat hlt
           obtain ⟨⟨⟨c60, c61⟩, f60, f61⟩, h6⟩ := PrAt.growInts (x := y) (h5.alloc _) hg rfl hown hgrow))
      all_goals
        go_wp2_with fail
        go_roundw
        case rel => exact ⟨zs.length + 1, zs ++ [y], _, by simp; omega, by simp, by omega, h6, hide (fun z hz => by
          rcases List.mem_append.1 hz with h | h
          · exact hz01.out z h
          · rw [List.mem_singleton.1 h]
            simp at hy
            omega)⟩
        case measure => simp [intOf]; omega
    · have hzl : (zs.length : Int) = x + 2 := by omega
      obtain ⟨A, c, rfl, -⟩ := own_form h2.own.ints
      clear h1
      go_wp2_with fail
      go_loopw [9] (fun t wt => ∃ (ts : List (List InsD)) (vs : List Value) (tv : Value), t = .int .i64 ts.length ∧ (ts.length : Int) ≤ threads ∧ PrAt g w (w.heap.size + 1) zs (.slice A zs.length c) ts vs tv wt ∧ Hid (∀ l ∈ ts, 1 ≤ l.length ∧ (l.length : Int) ≤ most + 1 ∧ ∀ d ∈ l, Small d)) (fun t _ => (threads - intOf t).toNat)
      case atStart => exact ⟨[], [], _, rfl, by simp; omega, h2, hide (fun l hl => by simp at hl)⟩
      case round =>
        obtain ⟨ts, vs, tv, rfl, htl, h7, hts⟩ := hrel
        have hs7 := h7.blk.lt
        obtain ⟨⟨c70, c71⟩, f70, f71⟩ := h7.cells
        by_cases hlt2 : (ts.length : Int) < threads
        · have h8 := h7.drew
          go_wp2_with fail
          go_region_law (first
            | (go_simp; refine (l1thread_pr _ _ hm (by omega) hg h8).mono ?_; rintro e w2 ⟨A2, c2, l, rfl, hl, hu, hsm, hap, h9, ⟨⟨c90, c91⟩, f90, f91⟩, hz9⟩; have hs9 := h9.blk.lt; go_simp)
            | (refine step_append_lies _ (by rfl) _ _ _ (by rfl) (w.heap.size + 2) 99 i2 _ 1 24 Try.underlying29 hi2.out hx0 hx1 hx2 rfl (by omega) tv ts.length vs (by rfl) (h9.alloc _).own.rows _ 1 1 _ (by rfl) ?hl (World.news_of_block (heap_alloc_new _ _)) ?h1 (by omega) ?h63 ?hby ?hb _ (by rfl) ?_
               case hl => rfl
               case h1 => simp [Value.oneCell']
               case h63 => (have : maxLen = 9223372036854775807 := rfl); omega
               case hby => omega
               case hb => simp; omega
               intro gg cap w4 hown hgrow hat hlt
               obtain ⟨⟨⟨d60, d61⟩, g60, g61⟩, h6⟩ := PrAt.growRows (l := l) (h9.alloc _) hg (own_keep hu (fun b _ hb => Below.heap_alloc w2 _ b hb)) hap hown hgrow))
          all_goals
            go_wp2_with fail
            go_roundw
            case rel => exact ⟨ts ++ [l], _, _, by simp, by simp; omega, h6, hide (fun y hy => by
              rcases List.mem_append.1 hy with h | h
              · exact hts.out y h
              · rw [List.mem_singleton.1 h]
                exact ⟨hl.1, hl.2, hsm⟩)⟩
            case measure => simp [intOf]; omega
        · obtain ⟨A2, c2, rfl, -⟩ := own_form h7.own.rows
          have hr := hide h7.only
          have hcu := hide h7.cur
          obtain ⟨u, u', ho⟩ := h7.out
          have e0 : wr.cell? ⟨w.heap.size, 0, none⟩ = some u := ho.cell 0
          have e1 : wr.cell? ⟨w.heap.size, 1, none⟩ = some u' := ho.cell 1
          have z0 := ho.frozen 0
          have z1 := ho.frozen 1
          have hown := hide h7.own
          clear h7 ho h2
          go_wp2_with fail
          refine bodyPost_ret (v := .agg #[.slice A zs.length c, .slice A2 ts.length c2]) (by simp [results, Try.results171, go_sem, e0, e1]; done) rfl ⟨_, _, rfl, zs, ts, ⟨vs, ?_⟩, ⟨by omega, by omega, hz01.out⟩, ⟨by omega, hts.out⟩, ?_, ?_⟩
          · exact ((hown.out.setCell (by show w.heap.size < w.heap.size + 1 + 1; omega) _).setCell (by show w.heap.size < w.heap.size + 1 + 1; omega) _).base (Nat.le_succ_of_le (Nat.le_succ _))
          · iterate 2 (refine Cur.setCell ?_ (by show g < w.heap.size; omega) _)
            exact hcu.out
          · iterate 2 (refine Only.setCell ?_ (.inr (Nat.le_refl _)) _)
            exact hr.out
end Go.Proofs.Ytfkaacfeikmabaa
