/- A thread's own row grows. -/
import Derived.Test.YtaiklooffkmjjaaBeG
namespace Go.Proofs.Ytaiklooffkmjjaa
open Go.RowKit

theorem vat_set (vs : List Value) (t k : Nat) (u : Value) (ht : t < vs.length) : vat (vs.set t u) k = if k = t then u else vat vs k := by
  unfold vat
  rw [List.getD_eq_getElem?_getD, List.getD_eq_getElem?_getD, List.getElem?_set]
  by_cases e : k = t
  · subst e; simp [ht]
  · rw [if_neg (fun h => e h.symm), if_neg e]

/-- The row of threads, one of its cells written. -/
theorem rows_set {w : World} {B b c n : Nat} {vs : List Value} (h : w.ownsRow B 69 1 (.slice (some ⟨b, 0, none⟩) n c) n vs) (t : Nat) (u : Value) :
    (w.setCell ⟨b, t, none⟩ u).ownsRow B 69 1 (.slice (some ⟨b, 0, none⟩) n c) n (vs.set t u) := by
  rcases h.2 with ⟨hv, _⟩ | ⟨q', cap, cur, hv, hb, hh, hcap, hmax, hcs, ht⟩
  · cases hv
  · cases hv
    refine ⟨by rw [List.length_set]; exact h.1, .inr ⟨b, c, cur.setIfInBounds t u, rfl, hb, Blk.set_ (t := 69) (cs := cur) hh t u, hcap, hmax, by simpa using hcs, ?_⟩⟩
    rw [← ht]
    simp [List.take_set]

/-- Thread t has one instruction more. -/
theorem ProgOwn.growThr {w w1 : World} {B b c gg n cap : Nat} {zs : List Int} {v : Value} {ts : List (List InsD)} {vs : List Value} (h : ProgOwn w B zs v ts vs (.slice (some ⟨b, 0, none⟩) ts.length c)) {t : Nat} (ht : t < ts.length) {d : InsD} {xs : List Value} (hxs : xs = flat (gett ts t) ++ insVals d)
    (ho : w1.ownsRow B 24 6 (.slice (some ⟨gg, 0, none⟩) n cap) ((gett ts t).length + 1) xs) (hgr : w.grownBy w1 (vat vs t).ownBlock) (hat : (vat vs t).ownBlock = some gg ∨ gg = w.heap.size) :
    ProgOwn (w1.setCell ⟨b, t, none⟩ (.slice (some ⟨gg, 0, none⟩) n cap)) B zs v (ts.set t (gett ts t ++ [d])) (vs.set t (.slice (some ⟨gg, 0, none⟩) n cap)) (.slice (some ⟨b, 0, none⟩) ts.length c) := by
  have hvl := h.len
  have hfl : flat (gett ts t ++ [d]) = flat (gett ts t) ++ insVals d := by simp [flat]
  have hown := h.thr t ht
  have hints := own_grown h.ints hgr (apart_type h.ints hown (by decide))
  have hrows := own_grown h.rows hgr (apart_type h.rows hown (by decide))
  have hb : (Value.slice (some ⟨b, 0, none⟩) ts.length c).ownBlock = some b := rfl
  have fresh : ∀ k, k < ts.length → k ≠ t → Apart (vat vs k) (.slice (some ⟨gg, 0, none⟩) n cap) := fun k hk hkt x hx hy => by
    have e : gg = x := by simpa [Value.ownBlock] using hy
    subst e
    rcases hat with h1 | h1
    · rcases Nat.lt_or_ge k t with hlt | hge
      · exact h.apart k t hlt ht gg hx h1
      · exact h.apart t k (by omega) hk gg h1 hx
    · have := (own_lt (h.thr k hk) hx).2.1
      omega
  refine ⟨own_setFar hints (fun e => apart_type hrows hints (by decide) b hb e) _, ?_, fun k hk => ?_, fun j k hjk hk => ?_⟩
  · rw [List.length_set]
    exact rows_set hrows t _
  · rw [List.length_set] at hk
    rw [gett_set ts t k _ ht, vat_set vs t k _ (by omega)]
    by_cases e : k = t
    · rw [if_pos e, if_pos e, hfl, ← hxs, List.length_append]
      exact own_setFar ho (fun e => apart_type hrows ho (by decide) b hb e) _
    · rw [if_neg e, if_neg e]
      have hk1 := own_grown (h.thr k hk) hgr (fun x hx hy => by
        rcases Nat.lt_or_ge k t with hlt | hge
        · exact h.apart k t hlt ht x hx hy
        · exact h.apart t k (by omega) hk x hy hx)
      exact own_setFar hk1 (fun e => apart_type hrows hk1 (by decide) b hb e) _
  · rw [List.length_set] at hk
    rw [vat_set vs t j _ (by omega), vat_set vs t k _ (by omega)]
    by_cases e1 : j = t
    · rw [if_pos e1, if_neg (show k ≠ t by omega)]
      exact (fresh k hk (by omega)).symm
    · rw [if_neg e1]
      by_cases e2 : k = t
      · rw [if_pos e2]
        exact fresh j (by omega) e1
      · rw [if_neg e2]
        exact h.apart j k hjk hk
theorem BeAt.growThr {g T b c gg n cap : Nat} {w0 w w1 : World} {zs : List Int} {v : Value} {ts : List (List InsD)} {vs : List Value} (h : BeAt g w0 T zs v ts vs (.slice (some ⟨b, 0, none⟩) ts.length c) w) (hg : g < w0.heap.size) {t : Nat} (ht : t < ts.length) {d : InsD} {xs : List Value} (hxs : xs = flat (gett ts t) ++ insVals d)
    (ho : w1.ownsRow (w0.heap.size + 1) 24 6 (.slice (some ⟨gg, 0, none⟩) n cap) ((gett ts t).length + 1) xs) (hgr : w.grownBy w1 (vat vs t).ownBlock) (hat : (vat vs t).ownBlock = some gg ∨ gg = w.heap.size) :
    (PrC w1 T v (.slice (some ⟨b, 0, none⟩) ts.length c) ∧ w1.cell? ⟨b, t, none⟩ = some (vat vs t) ∧ w1.frozen? ⟨b, t, none⟩ = false) ∧
    BeAt g w0 T zs v (ts.set t (gett ts t ++ [d])) (vs.set t (.slice (some ⟨gg, 0, none⟩) n cap)) (.slice (some ⟨b, 0, none⟩) ts.length c) (w1.setCell ⟨b, t, none⟩ (.slice (some ⟨gg, 0, none⟩) n cap)) := by
  have hown := h.own.thr t ht
  have hlo := h.lo
  have hT := h.blk.lt
  have hr : ∀ k, k < w0.heap.size + 1 → some k ≠ (vat vs t).ownBlock := fun _ hk => own_far hown hk
  have hB : Blk w1 T 43 #[v, .slice (some ⟨b, 0, none⟩) ts.length c] := (hgr.block T hT (blk_far h.blk hown (by decide))).trans h.blk
  have hrows := own_grown h.own.rows hgr (apart_type h.own.rows hown (by decide))
  have hb : (Value.slice (some ⟨b, 0, none⟩) ts.length c).ownBlock = some b := rfl
  have hbl := own_lt hrows hb
  obtain ⟨hb0, hb1, cur, hbc⟩ := hbl
  have hbT : T ≠ b := fun e => blk_far hB hrows (by decide) (by rw [hb, e])
  have hbel : Below (g + 1) w w1 := ⟨hgr.os, hgr.tape, hgr.output, hgr.size, fun k hk => hgr.block k (by omega) (hr k (by omega))⟩
  refine ⟨⟨⟨⟨hB.cell 0, hB.cell 1⟩, hB.frozen 0, hB.frozen 1⟩, rows_cell hrows ht, Blk.frozen (t := 69) (cs := cur) hbc t⟩, ⟨(h.cur.below hbel).setCell (by show g < b; omega) _, ?_, hB.far (by show T ≠ b; exact hbT) _, ?_, h.lo, h.out.imp fun _ => Exists.imp fun _ k => Blk.far ((hgr.block w0.heap.size (Blk.lt k) (hr _ (by omega))).trans k) (by show w0.heap.size ≠ b; omega) _⟩⟩
  · refine Only.setCell ?_ (.inr (by show w0.heap.size ≤ b; omega)) _
    have hz := h.only.size
    exact ⟨hgr.os.trans h.only.os, hgr.tape.trans h.only.tape, hgr.output.trans h.only.output, Nat.le_trans h.only.size hgr.size, fun k hk hk2 => (hgr.block k (by omega) (hr k (by omega))).trans (h.only.block k hk hk2)⟩
  · exact h.own.growThr ht hxs ho hgr hat
theorem BentOk.fence {zs : List Int} {ts : List (List InsD)} (h : BentOk zs ts) {t : Nat} (ht : t < ts.length) {d : InsD} (hd : Small d) (hl : (gett ts t).length < 25) : BentOk zs (ts.set t (gett ts t ++ [d])) := by
  refine ⟨h.1, by rw [List.length_set]; exact h.2.1, fun l hl2 => ?_⟩
  rcases List.mem_or_eq_of_mem_set hl2 with h1 | rfl
  · exact h.2.2 l h1
  · have h2 := h.2.2 _ (mem_gett ht)
    refine ⟨by simp; omega, fun y hy => ?_⟩
    rcases List.mem_append.1 hy with h3 | h3
    · exact h2.2 y h3
    · rw [List.mem_singleton.1 h3]; exact hd
end Go.Proofs.Ytaiklooffkmjjaa
