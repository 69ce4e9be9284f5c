/- Writing one field of one instruction in place. -/
import Derived.Test.YtbchiiggfhdnkaaDraw
namespace Go.Proofs.Ytbchiiggfhdnkaa
open Go.RowKit

/-- Field f of an instruction becomes z. -/
def upd (d : InsD) (f : Nat) (z : Int) : InsD :=
  if f = 0 then { d with o := z } else if f = 1 then { d with r := z } else if f = 2 then { d with a := z } else if f = 3 then { d with b := z } else if f = 4 then { d with x := z } else if f = 5 then { d with n := z } else d
theorem upd_small {d : InsD} {f : Nat} {z : Int} (hd : Small d) (hz : -1 ≤ z ∧ z ≤ 30) : Small (upd d f z) := by
  unfold upd
  unfold Small at hd ⊢
  repeat' split
  all_goals first | omega | (simp only; omega)
theorem insVals_set (d : InsD) (f : Nat) (z : Int) (hf : f < 6) : (insVals d).set f (.int .i64 z) = insVals (upd d f z) := by
  have : f = 0 ∨ f = 1 ∨ f = 2 ∨ f = 3 ∨ f = 4 ∨ f = 5 := by omega
  rcases this with rfl | rfl | rfl | rfl | rfl | rfl <;> rfl
theorem insVals_len (d : InsD) : (insVals d).length = 6 := rfl
theorem flat_len (l : List InsD) : (flat l).length = l.length * 6 := by
  induction l with
  | nil => rfl
  | cons d l ih =>
    have e : flat (d :: l) = insVals d ++ flat l := by simp [flat]
    rw [e, List.length_append, ih, insVals_len, List.length_cons]
    omega
theorem flat_set (l : List InsD) (k f : Nat) (z : Int) (hk : k < l.length) (hf : f < 6) : (flat l).set (k * 6 + f) (.int .i64 z) = flat (l.set k (upd (getd l k) f z)) := by
  induction l generalizing k with
  | nil => simp at hk
  | cons d l ih =>
    have e : ∀ (d : InsD) (l : List InsD), flat (d :: l) = insVals d ++ flat l := fun d l => by simp [flat]
    cases k with
    | zero =>
      have h1 : (d :: l).set 0 (upd (getd (d :: l) 0) f z) = upd d f z :: l := by simp [getd]
      rw [h1, e, e, List.set_append_left _ _ (by rw [insVals_len]; omega), Nat.zero_mul, Nat.zero_add, insVals_set d f z hf]
    | succ k =>
      have h1 : (d :: l).set (k + 1) (upd (getd (d :: l) (k + 1)) f z) = d :: l.set k (upd (getd l k) f z) := by simp [getd]
      rw [h1, e, e, List.set_append_right _ _ (by rw [insVals_len]; omega), insVals_len]
      have h2 : (k + 1) * 6 + f - 6 = k * 6 + f := by omega
      rw [h2, ih k (by simpa using hk)]

theorem own_set {w : World} {B q c : Nat} {l : List InsD} (h : w.ownsRow B 24 6 (.slice (some ⟨q, 0, none⟩) l.length c) l.length (flat l)) (k f : Nat) (z : Int) (hk : k < l.length) (hf : f < 6) :
    (w.setCell ⟨q, k * 6 + f, none⟩ (.int .i64 z)).ownsRow B 24 6 (.slice (some ⟨q, 0, none⟩) l.length c) (l.set k (upd (getd l k) f z)).length (flat (l.set k (upd (getd l k) f z))) := by
  rcases h.2 with ⟨hv, _⟩ | ⟨q', cap, cur, hv, hb, hh, hcap, hmax, hcs, ht⟩
  · cases hv
  · cases hv
    refine ⟨by rw [flat_len], .inr ⟨q, c, cur.setIfInBounds (k * 6 + f) (.int .i64 z), by rw [List.length_set], hb, ?_, by rw [List.length_set]; exact hcap, hmax, by simpa using hcs, ?_⟩⟩
    · exact Blk.set_ (t := 24) (cs := cur) hh (k * 6 + f) _
    · rw [List.length_set, ← flat_set l k f z hk hf, ← ht]
      simp [List.take_set]
theorem own_setFar {w : World} {B : Nat} {e : TypeId} {size : Nat} {u : Value} {n : Nat} {xs : List Value} (h : w.ownsRow B e size u n xs) {p : Addr} (hp : u.ownBlock ≠ some p.block) (x : Value) : (w.setCell p x).ownsRow B e size u n xs := by
  refine ⟨h.1, h.2.imp id ?_⟩
  rintro ⟨q, cap, cur, rfl, hb, hh, rest⟩
  refine ⟨q, cap, cur, rfl, hb, ?_, rest⟩
  have : q ≠ p.block := fun e => hp (by rw [← e]; rfl)
  rw [Below.heap_setCell w p x q this, hh]

theorem gett_set (ts : List (List InsD)) (t k : Nat) (l : List InsD) (ht : t < ts.length) : gett (ts.set t l) k = if k = t then l else gett ts k := by
  unfold gett
  rw [List.getD_eq_getElem?_getD, List.getD_eq_getElem?_getD, List.getElem?_set]
  by_cases e : k = t
  · subst e; simp [ht]
  · rw [if_neg (fun h => e h.symm), if_neg e]

/-- A field of instruction k of thread t is written in place. -/
theorem ProgOwn.setIns {w : World} {B : Nat} {zs : List Int} {v tv : Value} {ts : List (List InsD)} {vs : List Value} (h : ProgOwn w B zs v ts vs tv) {t k f q c : Nat} (z : Int) (ht : t < ts.length) (hv : vat vs t = .slice (some ⟨q, 0, none⟩) (gett ts t).length c) (hk : k < (gett ts t).length) (hf : f < 6) :
    ProgOwn (w.setCell ⟨q, k * 6 + f, none⟩ (.int .i64 z)) B zs v (ts.set t ((gett ts t).set k (upd (getd (gett ts t) k) f z))) vs tv := by
  have hq : (vat vs t).ownBlock = some q := by rw [hv]; rfl
  have hown := h.thr t ht
  refine ⟨own_setFar h.ints (fun e => apart_type hown h.ints (by decide) q hq e) _, ?_, fun j hj => ?_, ?_⟩
  · rw [List.length_set]
    exact own_setFar h.rows (fun e => apart_type hown h.rows (by decide) q hq e) _
  · rw [List.length_set] at hj
    rw [gett_set ts t j _ ht]
    by_cases e : j = t
    · subst e
      rw [if_pos rfl, hv]
      rw [hv] at hown
      have := own_set hown k f z hk hf
      rwa [List.length_set] at this ⊢
    · rw [if_neg e]
      refine own_setFar (h.thr j hj) (fun e2 => ?_) _
      rcases Nat.lt_or_ge j t with hlt | hge
      · exact h.apart j t hlt ht q e2 hq
      · exact h.apart t j (by omega) hj q hq e2
  · rw [List.length_set]
    exact h.apart
/-- Where a row of threads lies. -/
theorem rows_at {w : World} {B : Nat} {tv : Value} {n : Nat} {vs : List Value} (h : w.ownsRow B 100 1 tv n vs) (hn : 0 < n) :
    ∃ b c, tv = .slice (some ⟨b, 0, none⟩) n c ∧ B ≤ b ∧ b < w.heap.size ∧ ∀ k, k < n → w.cell? ⟨b, k, none⟩ = some (vat vs k) := by
  rcases h.2 with ⟨_, h0⟩ | ⟨q, cap, cur, rfl, hb, hh, hcap, hmax, hcs, ht⟩
  · omega
  · have hlt : q < w.heap.size := by
      rcases Nat.lt_or_ge q w.heap.size with hlt | hge
      · exact hlt
      · rw [Array.getElem?_eq_none hge] at hh; cases hh
    refine ⟨q, cap, rfl, hb, hlt, fun k hk => ?_⟩
    have hl := h.1
    rw [cell_of_row w q k cur _ (0, 0) hh, ← Array.getElem?_toList]
    have h1 : cur.toList[k]? = vs[k]? := by rw [← ht, List.getElem?_take, if_pos (by omega)]
    rw [h1, vat, List.getD_eq_getElem?_getD, List.getElem?_eq_getElem (show k < vs.length by omega)]
    rfl
/-- Where a row of instructions lies. -/
theorem inss_at {w : World} {B : Nat} {v : Value} {l : List InsD} (h : w.ownsRow B 24 6 v l.length (flat l)) (hn : 0 < l.length) :
    ∃ q c, v = .slice (some ⟨q, 0, none⟩) l.length c ∧ B ≤ q ∧ q < w.heap.size ∧ (∃ cur, Blk w q 24 cur ∧ l.length * 6 ≤ cur.size) := by
  rcases h.2 with ⟨_, h0⟩ | ⟨q, cap, cur, rfl, hb, hh, hcap, hmax, hcs, ht⟩
  · omega
  · exact ⟨q, cap, rfl, hb, Blk.lt (t := 24) (cs := cur) hh, cur, hh, by omega⟩
end Go.Proofs.Ytbchiiggfhdnkaa
