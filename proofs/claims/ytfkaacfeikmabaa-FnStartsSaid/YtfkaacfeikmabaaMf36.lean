/- DrawStart: a bent program and a number. -/
import Derived.Test.YtfkaacfeikmabaaMf0
import Derived.Test.YtfkaacfeikmabaaMf6
import Derived.Deep.RegionLaw
namespace Go.Proofs.Ytfkaacfeikmabaa
open Go.RowKit

theorem vat_set (vs : List Value) (t k : Nat) (u : Value) (ht : t < vs.length) : vat (vs.set t u) k = if k = t then u else vat vs k := by
  unfold vat
  rw [List.getD_eq_getElem?_getD, List.getD_eq_getElem?_getD, List.getElem?_set]
  by_cases e : k = t
  · subst e; simp [ht]
  · rw [if_neg (fun h => e h.symm), if_neg e]

theorem rows_set {w : World} {B b c n : Nat} {vs : List Value} (h : w.ownsRow B 99 1 (.slice (some ⟨b, 0, none⟩) n c) n vs) (t : Nat) (u : Value) :
    (w.setCell ⟨b, t, none⟩ u).ownsRow B 99 1 (.slice (some ⟨b, 0, none⟩) n c) n (vs.set t u) := by
  rcases h.2 with ⟨hv, _⟩ | ⟨q', cap, cur, hv, hb, hh, hcap, hmax, hcs, ht⟩
  · cases hv
  · cases hv
    refine ⟨by rw [List.length_set]; exact h.1, .inr ⟨b, c, cur.setIfInBounds t u, rfl, hb, Blk.set_ (t := 99) (cs := cur) hh t u, hcap, hmax, by simpa using hcs, ?_⟩⟩
    rw [← ht]
    simp [List.take_set]

theorem ProgOwn.growThr {w w1 : World} {B b c gg n cap : Nat} {zs : List Int} {v : Value} {ts : List (List InsD)} {vs : List Value} (h : ProgOwn w B zs v ts vs (.slice (some ⟨b, 0, none⟩) ts.length c)) {t : Nat} (ht : t < ts.length) {d : InsD} {xs : List Value} (hxs : xs = flat (gett ts t) ++ insVals d)
    (ho : w1.ownsRow B 72 6 (.slice (some ⟨gg, 0, none⟩) n cap) ((gett ts t).length + 1) xs) (hgr : w.grownBy w1 (vat vs t).ownBlock) (hat : (vat vs t).ownBlock = some gg ∨ gg = w.heap.size) :
    ProgOwn (w1.setCell ⟨b, t, none⟩ (.slice (some ⟨gg, 0, none⟩) n cap)) B zs v (ts.set t (gett ts t ++ [d])) (vs.set t (.slice (some ⟨gg, 0, none⟩) n cap)) (.slice (some ⟨b, 0, none⟩) ts.length c) := by
  have hvl := h.len
  have hfl : flat (gett ts t ++ [d]) = flat (gett ts t) ++ insVals d := by simp [flat]
  have hown := h.thr t ht
  have hints := own_grown h.ints hgr (apart_type h.ints hown (by decide))
  have hrows := own_grown h.rows hgr (apart_type h.rows hown (by decide))
  have hb : (Value.slice (some ⟨b, 0, none⟩) ts.length c).ownBlock = some b := rfl
  have fresh : ∀ k, k < ts.length → k ≠ t → Apart (vat vs k) (.slice (some ⟨gg, 0, none⟩) n cap) := fun k hk hkt x hx hy => by
    have e : gg = x := by simpa [Value.ownBlock] using hy
    subst e
    rcases hat with h1 | h1
    · rcases Nat.lt_or_ge k t with hlt | hge
      · exact h.apart k t hlt ht gg hx h1
      · exact h.apart t k (by omega) hk gg h1 hx
    · have := (own_lt (h.thr k hk) hx).2.1
      omega
  refine ⟨own_setFar hints (fun e => apart_type hrows hints (by decide) b hb e) _, ?_, fun k hk => ?_, fun j k hjk hk => ?_⟩
  · rw [List.length_set]
    exact rows_set hrows t _
  · rw [List.length_set] at hk
    rw [gett_set ts t k _ ht, vat_set vs t k _ (by omega)]
    by_cases e : k = t
    · rw [if_pos e, if_pos e, hfl, ← hxs, List.length_append]
      exact own_setFar ho (fun e => apart_type hrows ho (by decide) b hb e) _
    · rw [if_neg e, if_neg e]
      have hk1 := own_grown (h.thr k hk) hgr (fun x hx hy => by
        rcases Nat.lt_or_ge k t with hlt | hge
        · exact h.apart k t hlt ht x hx hy
        · exact h.apart t k (by omega) hk x hy hx)
      exact own_setFar hk1 (fun e => apart_type hrows hk1 (by decide) b hb e) _
  · rw [List.length_set] at hk
    rw [vat_set vs t j _ (by omega), vat_set vs t k _ (by omega)]
    by_cases e1 : j = t
    · rw [if_pos e1, if_neg (show k ≠ t by omega)]
      exact (fresh k hk (by omega)).symm
    · rw [if_neg e1]
      by_cases e2 : k = t
      · rw [if_pos e2]
        exact fresh j (by omega) e1
      · rw [if_neg e2]
        exact h.apart j k hjk hk
theorem BeAt.growThr {g T b c gg n cap : Nat} {w0 w w1 : World} {zs : List Int} {v : Value} {ts : List (List InsD)} {vs : List Value} (h : BeAt g w0 T zs v ts vs (.slice (some ⟨b, 0, none⟩) ts.length c) w) (hg : g < w0.heap.size) {t : Nat} (ht : t < ts.length) {d : InsD} {xs : List Value} (hxs : xs = flat (gett ts t) ++ insVals d)
    (ho : w1.ownsRow (w0.heap.size + 1) 72 6 (.slice (some ⟨gg, 0, none⟩) n cap) ((gett ts t).length + 1) xs) (hgr : w.grownBy w1 (vat vs t).ownBlock) (hat : (vat vs t).ownBlock = some gg ∨ gg = w.heap.size) :
    (PrC w1 T v (.slice (some ⟨b, 0, none⟩) ts.length c) ∧ w1.cell? ⟨b, t, none⟩ = some (vat vs t) ∧ w1.frozen? ⟨b, t, none⟩ = false) ∧
    BeAt g w0 T zs v (ts.set t (gett ts t ++ [d])) (vs.set t (.slice (some ⟨gg, 0, none⟩) n cap)) (.slice (some ⟨b, 0, none⟩) ts.length c) (w1.setCell ⟨b, t, none⟩ (.slice (some ⟨gg, 0, none⟩) n cap)) := by
  have hown := h.own.thr t ht
  have hlo := h.lo
  have hT := h.blk.lt
  have hr : ∀ k, k < w0.heap.size + 1 → some k ≠ (vat vs t).ownBlock := fun _ hk => own_far hown hk
  have hB : Blk w1 T 31 #[v, .slice (some ⟨b, 0, none⟩) ts.length c] := (hgr.block T hT (blk_far h.blk hown (by decide))).trans h.blk
  have hrows := own_grown h.own.rows hgr (apart_type h.own.rows hown (by decide))
  have hb : (Value.slice (some ⟨b, 0, none⟩) ts.length c).ownBlock = some b := rfl
  have hbl := own_lt hrows hb
  obtain ⟨hb0, hb1, cur, hbc⟩ := hbl
  have hbT : T ≠ b := fun e => blk_far hB hrows (by decide) (by rw [hb, e])
  have hbel : Below (g + 1) w w1 := ⟨hgr.os, hgr.tape, hgr.output, hgr.size, fun k hk => hgr.block k (by omega) (hr k (by omega))⟩
  refine ⟨⟨⟨⟨hB.cell 0, hB.cell 1⟩, hB.frozen 0, hB.frozen 1⟩, rows_cell hrows ht, Blk.frozen (t := 99) (cs := cur) hbc t⟩, ⟨(h.cur.below hbel).setCell (by show g < b; omega) _, ?_, hB.far (by show T ≠ b; exact hbT) _, ?_, h.lo, h.out.imp fun _ => Exists.imp fun _ k => Blk.far ((hgr.block w0.heap.size (Blk.lt k) (hr _ (by omega))).trans k) (by show w0.heap.size ≠ b; omega) _⟩⟩
  · refine Only.setCell ?_ (.inr (by show w0.heap.size ≤ b; omega)) _
    have hz := h.only.size
    exact ⟨hgr.os.trans h.only.os, hgr.tape.trans h.only.tape, hgr.output.trans h.only.output, Nat.le_trans h.only.size hgr.size, fun k hk hk2 => (hgr.block k (by omega) (hr k (by omega))).trans (h.only.block k hk hk2)⟩
  · exact h.own.growThr ht hxs ho hgr hat
theorem BentOk.fence {zs : List Int} {ts : List (List InsD)} (h : BentOk zs ts) {t : Nat} (ht : t < ts.length) {d : InsD} (hd : Small d) (hl : (gett ts t).length < 25) : BentOk zs (ts.set t (gett ts t ++ [d])) := by
  refine ⟨h.1, by rw [List.length_set]; exact h.2.1, fun l hl2 => ?_⟩
  rcases List.mem_or_eq_of_mem_set hl2 with h1 | rfl
  · exact h.2.2 l h1
  · have h2 := h.2.2 _ (mem_gett ht)
    refine ⟨by simp; omega, fun y hy => ?_⟩
    rcases List.mem_append.1 hy with h3 | h3
    · exact h2.2 y h3
    · rw [List.mem_singleton.1 h3]; exact hd
end Go.Proofs.Ytfkaacfeikmabaa

namespace Go.Proofs.Ytfkaacfeikmabaa
open Go.RowKit

attribute [local go_sem ↓] Go.wp_at_zero Go.wp_at_succ

def lenAt : Option Value → Nat
  | some (.slice _ n _) => n
  | _ => 0

set_option maxRecDepth 100000 in
set_option maxHeartbeats 6400000 in
theorem l1bent_any (g : Nat) (w : World) (hc : Cur w g) :
    Calls Try.prog 125 #[.pointer (some ⟨g, 0, none⟩)] w fun e w' => ∃ (v tv : Value), e = .returned (.agg #[v, tv]) ∧ ∃ (zs : List Int) (ts : List (List InsD)), (∃ vs : List Value, ProgOwn w' w.heap.size zs v ts vs tv) ∧ BentOk zs ts ∧ Cur w' g ∧ Only g w w' := by
  have hg := hc.lt
  have hc2 := hc.alloc (Obj.cells #[Value.slice none 0 0, Value.slice none 0 0] 31)
  have K1 := hide (Blk.new w 31 #[Value.slice none 0 0, Value.slice none 0 0])
  have HC := hide hc
  clear hc
  go_enter Try.func125, Try.ntmps125
  go_wp2_with fail
  refine (l1Below_any g 3 _ (by omega) (by omega) hc2).mono ?_
  rintro e w1 ⟨x, rfl, hx, hc3, ho3⟩
  obtain ⟨hx0, hx1⟩ := below3 hx
  clear hx hc2
  have K2 := hide (K1.out.only ho3 (by omega))
  have ho3 := ((Only.refl g w).alloc (Obj.cells #[Value.slice none 0 0, Value.slice none 0 0] 31)).trans ho3
  have hs1 := K2.out.lt
  go_wp2_with fail
  refine (l1draw_any g _ 4 _ (by omega) (by omega) hc3).mono ?_
  rintro e w2 ⟨v, tv, rfl, zs, ts, vs, hown, ⟨hz1, hz2, hz3⟩, ⟨htl, hts⟩, hc4, ho4⟩
  have K3 := hide (K2.out.only ho4 (by omega))
  have ho4 := ho3.trans ho4
  have hs2 := K3.out.lt
  clear ho3 hc3 K1 K2
  obtain ⟨A, c, rfl, -⟩ := own_form hown.ints
  obtain ⟨b, cb, rfl, hb0, hb1, hbc⟩ := rows_at hown.rows (by omega)
  have hts := hide hts
  have hz3 := hide hz3
  have h0 : BeAt g w w2.heap.size zs (.slice A zs.length c) ts vs (.slice (some ⟨b, 0, none⟩) ts.length cb) (w2.alloc (Obj.cells #[Value.slice A zs.length c, Value.slice (some ⟨b, 0, none⟩) ts.length cb] 31)) :=
    ⟨hc4.alloc _, ho4.alloc _, Blk.new _ _ _, (hown.base (by omega)).keep (fun b _ hlt => Below.heap_alloc w2 _ b hlt), by omega, ⟨_, _, K3.out.alloc _⟩⟩
  clear hown hbc hc4 ho4 K3
  go_wp2_with fail
  refine (l1Below_be (1 + x) (by omega) (by omega) hg h0).mono ?_
  rintro e w3 ⟨t, rfl, ⟨ht0, ht1⟩, h1, -⟩
  obtain ⟨t, rfl⟩ := Int.eq_ofNat_of_zero_le ht0
  clear h0
  have htt : t < ts.length := by omega
  have hok : BentOk zs ts := ⟨⟨hz2, hz3.out⟩, by omega, fun l hl => ⟨by have := (hts.out l hl).2.1; omega, (hts.out l hl).2.2⟩⟩
  have hll := hts.out _ (mem_gett htt)
  have hlen0 := hll.1
  have hlen1 := hll.2.1
  clear hll
  obtain ⟨q, cq, hv, hq0, hq1, -⟩ := inss_at (h1.own.thr t htt) (by omega)
  have r0 := rows_cell h1.own.rows htt
  rw [hv] at r0
  obtain ⟨⟨c0, c1⟩, f0, f1⟩ := h1.cells
  have hok := hide hok
  have hv := hide hv
  generalize hL : (gett ts t).length = L at *
  clear hts hz3
  go_wp2_with fail
  refine (l1Below_be (L : Int) (by omega) (by omega) hg h1).mono ?_
  rintro e w4 ⟨i, rfl, ⟨hi0, hi1⟩, h2, -⟩
  obtain ⟨i, rfl⟩ := Int.eq_ofNat_of_zero_le hi0
  clear h1 r0 c0 c1 f0 f1
  go_wp2_with fail
  refine (l1Below_be 16 (by omega) (by omega) hg h2).mono ?_
  rintro e w5 ⟨s, rfl, ⟨hsw0, hsw1⟩, h3, -⟩
  clear h2
  have r0 := rows_cell h3.own.rows htt
  rw [hv.out] at r0
  obtain ⟨⟨c0, c1⟩, f0, f1⟩ := h3.cells
  dsimp only
  rename_i hK
  refine hK _ _ ?_
  clear hK
  go_step
  go_step
  (rename_i hK _; refine hK _ _ ?_; clear hK)
  go_cut [] (fun wx => ∃ zs' v' ts' vs' tv', BeAt g w w2.heap.size zs' v' ts' vs' tv' wx ∧ BentOk zs' ts')
  case first =>
    have hs5 := h3.blk.lt
    have hb5 : b < w5.heap.size := by
      obtain ⟨b', c', e, _, hlt, _⟩ := rows_at h3.own.rows (by omega)
      cases e
      exact hlt
    have hii : i < L := by omega
    have h4 := h3.drew
    rcases (by omega : s = 0 ∨ s = 1 ∨ s = 2 ∨ s = 3 ∨ s = 4 ∨ s = 5 ∨ s = 6 ∨ 7 ≤ s) with rfl | rfl | rfl | rfl | rfl | rfl | rfl | h7
    · go_wp2_with fail
      go_meet
      exact ⟨_, _, _, _, _, h3.noInts hg, ⟨by simp, fun z hz => by simp at hz⟩, hok.out.2⟩
    · go_wp2_with fail
      go_region_law (first
        | (go_simp; refine (l1Pick_be (some ⟨w5.heap.size, 0, none⟩) [0, 15, 14, 2, 6] (by decide) (by decide) 5 hg (ints_of_blk (t := 3) (zs := [0, 15, 14, 2, 6]) (Blk.new w5.drew _ _) (by decide) ⟨by simp, by omega⟩) (h4.alloc _)).mono ?_; rintro e w6 ⟨y, rfl, hy, h5, hz5⟩; obtain ⟨⟨d0, d1⟩, e0, e1⟩ := h5.cells; have r1 := rows_cell h5.own.rows htt; rw [hv.out] at r1; obtain ⟨⟨u, s0⟩, s1⟩ := h5.insCell (f := 0) htt (hv.out.trans (by rw [hL])) (by rw [hL]; exact hii) (by omega); simp only [Nat.add_zero] at s0 s1; go_simp))
      all_goals
        go_wp2_with fail
        go_meet
        exact ⟨_, _, _, _, _, h5.setIns hg (f := 0) y htt (hv.out.trans (by rw [hL])) (by rw [hL]; exact hii) (by omega), hok.out.set htt (by rw [hL]; exact hii) (by decide) (by simp at hy; omega)⟩
    · go_wp2_with fail
      go_region_law (first
        | (go_simp; refine (l1Pick_be (some ⟨w5.heap.size, 0, none⟩) [-1, 5, 6] (by decide) (by decide) 3 hg (ints_of_blk (t := 3) (zs := [-1, 5, 6]) (Blk.new w5.drew _ _) (by decide) ⟨by simp, by omega⟩) (h4.alloc _)).mono ?_; rintro e w6 ⟨y, rfl, hy, h5, hz5⟩; obtain ⟨⟨d0, d1⟩, e0, e1⟩ := h5.cells; have r1 := rows_cell h5.own.rows htt; rw [hv.out] at r1; obtain ⟨⟨u, s0⟩, s1⟩ := h5.insCell (f := 1) htt (hv.out.trans (by rw [hL])) (by rw [hL]; exact hii) (by omega); go_simp))
      all_goals
        go_wp2_with fail
        go_meet
        exact ⟨_, _, _, _, _, h5.setIns hg (f := 1) y htt (hv.out.trans (by rw [hL])) (by rw [hL]; exact hii) (by omega), hok.out.set htt (by rw [hL]; exact hii) (by decide) (by simp at hy; omega)⟩
    · go_wp2_with fail
      go_region_law (first
        | (go_simp; refine (l1Pick_be (some ⟨w5.heap.size, 0, none⟩) [-1, 2, 3, 6] (by decide) (by decide) 4 hg (ints_of_blk (t := 3) (zs := [-1, 2, 3, 6]) (Blk.new w5.drew _ _) (by decide) ⟨by simp, by omega⟩) (h4.alloc _)).mono ?_; rintro e w6 ⟨y, rfl, hy, h5, hz5⟩; obtain ⟨⟨d0, d1⟩, e0, e1⟩ := h5.cells; have r1 := rows_cell h5.own.rows htt; rw [hv.out] at r1; obtain ⟨⟨u, s0⟩, s1⟩ := h5.insCell (f := 4) htt (hv.out.trans (by rw [hL])) (by rw [hL]; exact hii) (by omega); go_simp))
      all_goals
        go_wp2_with fail
        go_meet
        exact ⟨_, _, _, _, _, h5.setIns hg (f := 4) y htt (hv.out.trans (by rw [hL])) (by rw [hL]; exact hii) (by omega), hok.out.set htt (by rw [hL]; exact hii) (by decide) (by simp at hy; omega)⟩
    · go_wp2_with fail
      go_region_law (first
        | (go_simp; refine (l1Pick_be (some ⟨w5.heap.size, 0, none⟩) [-1, 0, 1, 9] (by decide) (by decide) 4 hg (ints_of_blk (t := 3) (zs := [-1, 0, 1, 9]) (Blk.new w5.drew _ _) (by decide) ⟨by simp, by omega⟩) (h4.alloc _)).mono ?_; rintro e w6 ⟨y, rfl, hy, h5, hz5⟩; obtain ⟨⟨d0, d1⟩, e0, e1⟩ := h5.cells; have r1 := rows_cell h5.own.rows htt; rw [hv.out] at r1; obtain ⟨⟨u, s0⟩, s1⟩ := h5.insCell (f := 5) htt (hv.out.trans (by rw [hL])) (by rw [hL]; exact hii) (by omega); go_simp))
      all_goals
        go_wp2_with fail
        go_meet
        exact ⟨_, _, _, _, _, h5.setIns hg (f := 5) y htt (hv.out.trans (by rw [hL])) (by rw [hL]; exact hii) (by omega), hok.out.set htt (by rw [hL]; exact hii) (by decide) (by simp at hy; omega)⟩
    · clear r0
      obtain ⟨i2, hi2, hx0', hx1', hx2'⟩ := info_parts Try.infoThr
      have hi2 := hide hi2
      go_wp2_with fail
      go_loopw [] (fun wr => ∃ (ts' : List (List InsD)) (vs' : List Value) (tv' : Value), BeAt g w w2.heap.size zs (.slice A zs.length c) ts' vs' tv' wr ∧ Hid (BentOk zs ts')) (fun wr => 4 - lenAt (wr.cell? ⟨w2.heap.size, 1, none⟩))
      case atStart => exact ⟨_, _, _, h3, hok⟩
      case round =>
        obtain ⟨ts', vs', tv', h6, hok6⟩ := hrel
        obtain ⟨A3, c3, rfl, -⟩ := own_form h6.own.rows
        obtain ⟨⟨d0, d1⟩, e0, e1⟩ := h6.cells
        have hs6 := h6.blk.lt
        have ht4 := hok6.out.2.1.2
        clear c0 c1 f0 f1
        by_cases hlt : ts'.length < 4
        · go_wp2_with (at_builtin; refine wpList_append_lies _ rfl _ _ _ rfl (w.heap.size + 1) 99 i2 _ 1 24 Try.underlying29 hi2.out hx0' hx1' hx2' rfl (by omega) (.slice A3 ts'.length c3) ts'.length vs' rfl (h6.alloc _).own.rows ⟨wr.heap.size, 0, none⟩ 1 1 [.slice none 0 0] rfl rfl (World.news_of_block (cs := #[.slice none 0 0]) (t := 99) (fr := (0, 0)) (heap_alloc_new wr _)) (by simp [Value.oneCell']) (by omega) (by have : maxLen = 9223372036854775807 := rfl; omega) (by omega) (by simp; omega) _ rfl ?_)
          intro gg cap w4 hown hgrow _ _
          obtain ⟨⟨⟨p0, p1⟩, p2, p3⟩, h7⟩ := (h6.alloc _).growRows hg rfl hown hgrow
          have m1 := h7.cells.1.2
          go_wp2_with fail
          go_roundw
          case rel => exact ⟨_, _, _, h7, hide (hok6.out.more hlt)⟩
          case measure => rw [m1, d1]; simp only [lenAt]; omega
        · have : ts'.length = 4 := by omega
          go_wp2_with fail
          go_meet
          exact ⟨_, _, _, _, _, h6, hok6.out⟩
    · have hb00 : w.heap.size + 1 ≤ b := by omega
      clear r0
      obtain ⟨i0, hi0, hz0', hz1', hz2'⟩ := info_parts Try.infoIns
      have hi0 := hide hi0
      go_wp2_with fail
      go_loopw [] (fun wr => ∃ (ts' : List (List InsD)) (vs' : List Value), BeAt g w w2.heap.size zs (.slice A zs.length c) ts' vs' (.slice (some ⟨b, 0, none⟩) ts'.length cb) wr ∧ ts'.length = ts.length ∧ Hid (BentOk zs ts')) (fun wr => 25 - lenAt (wr.cell? ⟨b, t, none⟩))
      case atStart => exact ⟨_, _, h3, rfl, hok⟩
      case round =>
        obtain ⟨ts', vs', h6, hlt6, hok6⟩ := hrel
        have htt6 : t < ts'.length := by omega
        obtain ⟨A4, c4, hv6, -⟩ := own_form (h6.own.thr t htt6)
        have r6 := rows_cell h6.own.rows htt6
        rw [hv6] at r6
        obtain ⟨⟨d0, d1⟩, e0, e1⟩ := h6.cells
        have hs6 := h6.blk.lt
        have hl6 := (hok6.out.2.2 _ (mem_gett htt6)).1
        have hv6 := hide hv6
        generalize hM : (gett ts' t).length = M at *
        clear c0 c1 f0 f1
        go_wp2_with fail
        go_cut [110] (fun s wx => ∃ y : Int, 0 ≤ y ∧ y ≤ 1 ∧ s = .bool (decide ((M : Int) < 24 + y)) ∧ BeAt g w w2.heap.size zs (.slice A zs.length c) ts' vs' (.slice (some ⟨b, 0, none⟩) ts'.length cb) wx)
        case first =>
          have h7 := h6.drew
          go_region_law (first
            | (go_simp; refine (l1Below_be 2 (by omega) (by omega) hg h7).mono ?_; rintro e w6 ⟨y, rfl, ⟨hy0, hy1⟩, h8, -⟩; obtain ⟨⟨p0, p1⟩, p2, p3⟩ := h8.cells; have r8 := rows_cell h8.own.rows htt6; rw [hv6.out] at r8; have hw : IntKind.i64.wrap (24 + y) = 24 + y := small_in (by omega); go_simp))
          all_goals
            go_wp2_with fail
            go_meet
            exact ⟨y, hy0, by omega, by first | rfl | (simp [hw]; done), h8⟩
        case rest =>
          obtain ⟨y, hy0, hy1, rfl, h8⟩ := hcut
          obtain ⟨⟨p0, p1⟩, p2, p3⟩ := h8.cells
          have r8 := rows_cell h8.own.rows htt6
          rw [hv6.out] at r8
          have hs8 := h8.blk.lt
          have r6h := hide r6
          clear h6 d0 d1 e0 e1 r6
          by_cases hlt : (M : Int) < 24 + y
          · have hb8 : b < wc.heap.size := by
              obtain ⟨b', c', e, _, hlt, _⟩ := rows_at h8.own.rows (by omega)
              cases e
              exact hlt
            have h9 := (h8.alloc (Obj.cells #[Value.int .i64 12, Value.int .i64 0, Value.int .i64 0, Value.int .i64 0, Value.int .i64 0, Value.int .i64 0] 72)).drew
            go_wp2_with fail
            go_region_law (first
            | (refine step_append_lies _ (by rfl) _ _ _ (by rfl) (w.heap.size + 1) 72 i0 _ 6 48 Try.underlying97 hi0.out hz0' hz1' hz2' rfl (by omega) (.slice A4 M c4) M (flat (gett ts' t)) (by rfl) (by have := h9.own.thr t htt6; rw [hv6.out, hM] at this; exact this) _ 1 1 _ (by rfl) ?hl (World.news_of_block (cs := #[Value.int .i64 12, Value.int .i64 0, Value.int .i64 0, Value.int .i64 0, Value.int .i64 0, Value.int .i64 0]) (t := 72) (fr := (0, 0)) (heap_alloc_new wc _)) ?h1 (by omega) ?h63 ?hby ?hb _ (by rfl) ?_
               case hl => rfl
               case h1 => simp [Value.oneCell']
               case h63 => (have : maxLen = 9223372036854775807 := rfl); omega
               case hby => omega
               case hb => simp; omega
               intro gg cap w7 hown hgrow hat hlt7
               obtain ⟨⟨⟨⟨k0, k1⟩, k2, k3⟩, k4, k5⟩, h10⟩ := BeAt.growThr (d := ⟨12, 0, 0, 0, 0, 0⟩) h9 hg htt6 rfl (by rw [hM]; exact hown) (by rw [hv6.out]; exact hgrow) (by rw [hv6.out]; exact hat)))
            all_goals
              have hvl := h8.own.len
              have hr10 := h10.own.rows
              rw [List.length_set] at hr10
              have m1 := rows_cell hr10 htt6
              rw [vat_set _ _ _ _ (by omega), if_pos rfl] at m1
              go_wp2_with fail
              go_roundw
              case rel => exact ⟨_, _, by rw [List.length_set]; exact h10, by rw [List.length_set]; exact hlt6, hide (hok6.out.fence htt6 (by unfold Small; decide) (by rw [hM]; omega))⟩
              case measure => rw [m1, r6h.out]; simp only [lenAt]; omega
          · go_wp2_with fail
            go_meet
            exact ⟨_, _, _, _, _, h8, hok6.out⟩
    · go_wp2_with fail
      go_meet
      exact ⟨_, _, _, _, _, h3, hok.out⟩
  case rest =>
    obtain ⟨zs', v', ts', vs', tv', h8, hok8⟩ := hcut
    obtain ⟨A2, c2, rfl, -⟩ := own_form h8.own.ints
    obtain ⟨A3, c3, rfl, -⟩ := own_form h8.own.rows
    obtain ⟨⟨d0, d1⟩, e0, e1⟩ := h8.cells
    obtain ⟨u, u', ho⟩ := h8.out
    have o0 : wc.cell? ⟨w.heap.size, 0, none⟩ = some u := ho.cell 0
    have o1 : wc.cell? ⟨w.heap.size, 1, none⟩ = some u' := ho.cell 1
    have z0 := ho.frozen 0
    have z1 := ho.frozen 1
    have hown := hide h8.own
    have hcu := hide h8.cur
    have hon := hide h8.only
    have hok8 := hide hok8
    clear h8 ho h3 c0 c1 f0 f1 r0
    go_wp2_with fail
    refine bodyPost_ret (v := .agg #[.slice A2 zs'.length c2, .slice A3 ts'.length c3]) (by simp [results, Try.results125, go_sem, o0, o1]; done) rfl ⟨_, _, rfl, zs', ts', ⟨vs', ?_⟩, hok8.out, ?_, ?_⟩
    · exact ((hown.out.setCell (by show w.heap.size < w.heap.size + 1; omega) _).setCell (by show w.heap.size < w.heap.size + 1; omega) _).base (Nat.le_succ _)
    · iterate 2 (refine Cur.setCell ?_ (by show g < w.heap.size; omega) _)
      exact hcu.out
    · iterate 2 (refine Only.setCell ?_ (.inr (Nat.le_refl _)) _)
      exact hon.out
end Go.Proofs.Ytfkaacfeikmabaa

namespace Go.Proofs.Ytfkaacfeikmabaa
open Go.RowKit

attribute [local go_sem ↓] Go.wp_at_zero Go.wp_at_succ

theorem prg2 {w : World} {g : Nat} {a b : Value} (h : Blk w g 31 #[a, b]) : (w.cell? ⟨g, 0, none⟩ = some a ∧ w.cell? ⟨g, 1, none⟩ = some b ∧ w.frozen? ⟨g, 0, none⟩ = false ∧ w.frozen? ⟨g, 1, none⟩ = false) ∧ g < w.heap.size :=
  ⟨⟨h.cell 0, h.cell 1, h.frozen 0, h.frozen 1⟩, h.lt⟩

set_option maxRecDepth 100000 in
set_option maxHeartbeats 6400000 in
theorem drawStart_any (A : Option Addr) (n c : Nat) (w : World) (hn : n ≤ c) (ha : BytesAt w (Old w.heap.size) A n) :
    Calls Try.prog 48 #[.slice A n c] w fun e w' => ∃ (A1 A2 : Option Addr) (c1 c2 : Nat) (p : ProgD) (kd : Int), e = .returned (.tuple #[.agg #[.slice A1 p.init.length c1, .slice A2 p.ts.length c2], .int .i64 kd]) ∧ ProgAt w' (Old w'.heap.size) (.agg #[.slice A1 p.init.length c1, .slice A2 p.ts.length c2]) p ∧ Below w.heap.size w w' := by
  have hb0 := below1 w (Obj.cells #[Value.slice none 0 0, Value.slice none 0 0] 31)
  have R0 := hide (Blk.new w 31 #[Value.slice none 0 0, Value.slice none 0 0])
  have ha0 := ha.old hb0 (by simp)
  go_enter Try.func48, Try.ntmps48
  go_wp2_with fail
  refine (l1New_any A n c _ hn ha0).mono ?_
  rintro e w1 ⟨g, rfl, hg0, hc1, hb1⟩
  have hg0 : w.heap.size + 1 ≤ g := by simp only [World.size_alloc] at hg0; omega
  have B1 := hide (hb0.trans (hb1.mono (by simp)))
  have R1 := hide (R0.out.below hb1 (by simp))
  have hg := hc1.lt
  have hw1 := hb1.size
  simp only [World.size_alloc] at hw1
  clear ha0 hb0 hb1 R0
  go_wp2_with fail
  refine (l1bent_any g w1 hc1).mono ?_
  rintro e w2 ⟨v, tv, rfl, zs, ts, ⟨vs, hown⟩, hok, hc2, ho2⟩
  obtain ⟨A1, c1, rfl, -⟩ := own_form hown.ints
  obtain ⟨A2, c2, rfl, -⟩ := own_form hown.rows
  have h1 := PAt.start hc2 ho2 hown
  clear hown hc2 ho2 hc1 hok
  have hT := h1.lo
  have R2 := R1.out.only h1.only (by omega)
  have B2 := hide (B1.out.trans (h1.only.toBelow (by omega) B1.out.size))
  obtain ⟨⟨r0, r1, rz0, rz1⟩, rl⟩ := prg2 R2
  obtain ⟨⟨t0, t1, -, -⟩, tl⟩ := prg2 h1.blk
  replace R2 := hide R2.drew
  replace B2 := hide B2.out.drew
  have T2 := hide h1.blk.drew
  have hc2 := hide h1.cur.drew
  replace h1 := hide h1.drew
  go_wp2_with fail
  go_region_law (first
    | (go_simp; refine (l1Below_any g 5 _ (by omega) (by omega) hc2.out).mono ?_; rintro e w3 ⟨x, rfl, hx, hc3, ho3⟩; have h3 := hide (h1.out.call hg hc3 ho3); have B3 := hide (B2.out.trans (ho3.toBelow (by omega) B2.out.size)); have R3 := hide (R2.out.only ho3 (by omega)); obtain ⟨⟨s0, s1, sz0, sz1⟩, sl⟩ := prg2 R3.out; obtain ⟨⟨x0, x1, -, -⟩, xl⟩ := prg2 h3.out.blk; clear ho3 hc3 hx; go_simp))
  all_goals
    go_wp2_with fail
    refine bodyPost_ret (v := .tuple #[.agg #[.slice A1 zs.length c1, .slice A2 ts.length c2], .int .i64 (IntKind.i64.wrap (x - 1))]) (by simp [results, Try.results48, go_sem, s0, s1]; done) rfl ⟨A1, A2, c1, c2, ⟨zs, ts⟩, _, rfl, ?_, ?_⟩
    · refine ProgAt.more (S := New w1.heap.size w3.heap.size) ?_ (fun b h => by have := h.2; simpa [Old, World.setCell] using this)
      iterate 2 (refine ProgAt.set ?_ _ (by intro h; have h1 := h.1; simp only at h1; omega))
      exact h3.out.own.at_
    · iterate 2 (refine Below.setCell ?_ (by first | exact Nat.le_refl _ | exact Nat.le_succ _) _)
      exact B3.out
end Go.Proofs.Ytfkaacfeikmabaa
