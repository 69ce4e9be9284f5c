/- slices.Clone of numbers. -/
import Derived.Test.YtfkaacfeikmabaaMx0
import Derived.Test.YtfkaacfeikmabaaMx1
import Derived.Test.YtfkaacfeikmabaaMx3
import Derived.Test.YtfkaacfeikmabaaMx12
import Derived.Deep.Slices
import Derived.Deep.Fields
import Derived.OpenShut
import Derived.ProofKit
import Derived.Lib.SmallJoins
import Derived.Test.YtfkaacfeikmabaaRows
namespace Go.Proofs.Ytfkaacfeikmabaa
open Go.RowKit

def upd (d : InsD) (f : Nat) (z : Int) : InsD :=
  if f = 0 then { d with o := z } else if f = 1 then { d with r := z } else if f = 2 then { d with a := z } else if f = 3 then { d with b := z } else if f = 4 then { d with x := z } else if f = 5 then { d with n := z } else d
theorem upd_small {d : InsD} {f : Nat} {z : Int} (hd : Small d) (hf : f ≠ 2) (hz : -1 ≤ z ∧ z ≤ 30) : Small (upd d f z) := by
  unfold upd
  unfold Small at hd ⊢
  repeat' split
  all_goals first | omega | (simp only; omega)
theorem insVals_set (d : InsD) (f : Nat) (z : Int) (hf : f < 6) : (insVals d).set f (.int .i64 z) = insVals (upd d f z) := by
  have : f = 0 ∨ f = 1 ∨ f = 2 ∨ f = 3 ∨ f = 4 ∨ f = 5 := by omega
  rcases this with rfl | rfl | rfl | rfl | rfl | rfl <;> rfl
theorem insVals_len (d : InsD) : (insVals d).length = 6 := rfl
theorem flat_len (l : List InsD) : (flat l).length = l.length * 6 := by
  induction l with
  | nil => rfl
  | cons d l ih =>
    have e : flat (d :: l) = insVals d ++ flat l := by simp [flat]
    rw [e, List.length_append, ih, insVals_len, List.length_cons]
    omega
theorem flat_set (l : List InsD) (k f : Nat) (z : Int) (hk : k < l.length) (hf : f < 6) : (flat l).set (k * 6 + f) (.int .i64 z) = flat (l.set k (upd (getd l k) f z)) := by
  induction l generalizing k with
  | nil => simp at hk
  | cons d l ih =>
    have e : ∀ (d : InsD) (l : List InsD), flat (d :: l) = insVals d ++ flat l := fun d l => by simp [flat]
    cases k with
    | zero =>
      have h1 : (d :: l).set 0 (upd (getd (d :: l) 0) f z) = upd d f z :: l := by simp [getd]
      rw [h1, e, e, List.set_append_left _ _ (by rw [insVals_len]; omega), Nat.zero_mul, Nat.zero_add, insVals_set d f z hf]
    | succ k =>
      have h1 : (d :: l).set (k + 1) (upd (getd (d :: l) (k + 1)) f z) = d :: l.set k (upd (getd l k) f z) := by simp [getd]
      rw [h1, e, e, List.set_append_right _ _ (by rw [insVals_len]; omega), insVals_len]
      have h2 : (k + 1) * 6 + f - 6 = k * 6 + f := by omega
      rw [h2, ih k (by simpa using hk)]

theorem own_set {w : World} {B q c : Nat} {l : List InsD} (h : w.ownsRow B 72 6 (.slice (some ⟨q, 0, none⟩) l.length c) l.length (flat l)) (k f : Nat) (z : Int) (hk : k < l.length) (hf : f < 6) :
    (w.setCell ⟨q, k * 6 + f, none⟩ (.int .i64 z)).ownsRow B 72 6 (.slice (some ⟨q, 0, none⟩) l.length c) (l.set k (upd (getd l k) f z)).length (flat (l.set k (upd (getd l k) f z))) := by
  rcases h.2 with ⟨hv, _⟩ | ⟨q', cap, cur, hv, hb, hh, hcap, hmax, hcs, ht⟩
  · cases hv
  · cases hv
    refine ⟨by rw [flat_len], .inr ⟨q, c, cur.setIfInBounds (k * 6 + f) (.int .i64 z), by rw [List.length_set], hb, ?_, by rw [List.length_set]; exact hcap, hmax, by simpa using hcs, ?_⟩⟩
    · exact Blk.set_ (t := 72) (cs := cur) hh (k * 6 + f) _
    · rw [List.length_set, ← flat_set l k f z hk hf, ← ht]
      simp [List.take_set]
theorem own_setFar {w : World} {B : Nat} {e : TypeId} {size : Nat} {u : Value} {n : Nat} {xs : List Value} (h : w.ownsRow B e size u n xs) {p : Addr} (hp : u.ownBlock ≠ some p.block) (x : Value) : (w.setCell p x).ownsRow B e size u n xs := by
  refine ⟨h.1, h.2.imp id ?_⟩
  rintro ⟨q, cap, cur, rfl, hb, hh, rest⟩
  refine ⟨q, cap, cur, rfl, hb, ?_, rest⟩
  have : q ≠ p.block := fun e => hp (by rw [← e]; rfl)
  rw [Below.heap_setCell w p x q this, hh]

theorem gett_set (ts : List (List InsD)) (t k : Nat) (l : List InsD) (ht : t < ts.length) : gett (ts.set t l) k = if k = t then l else gett ts k := by
  unfold gett
  rw [List.getD_eq_getElem?_getD, List.getD_eq_getElem?_getD, List.getElem?_set]
  by_cases e : k = t
  · subst e; simp [ht]
  · rw [if_neg (fun h => e h.symm), if_neg e]

theorem ProgOwn.setIns {w : World} {B : Nat} {zs : List Int} {v tv : Value} {ts : List (List InsD)} {vs : List Value} (h : ProgOwn w B zs v ts vs tv) {t k f q c : Nat} (z : Int) (ht : t < ts.length) (hv : vat vs t = .slice (some ⟨q, 0, none⟩) (gett ts t).length c) (hk : k < (gett ts t).length) (hf : f < 6) :
    ProgOwn (w.setCell ⟨q, k * 6 + f, none⟩ (.int .i64 z)) B zs v (ts.set t ((gett ts t).set k (upd (getd (gett ts t) k) f z))) vs tv := by
  have hq : (vat vs t).ownBlock = some q := by rw [hv]; rfl
  have hown := h.thr t ht
  refine ⟨own_setFar h.ints (fun e => apart_type hown h.ints (by decide) q hq e) _, ?_, fun j hj => ?_, ?_⟩
  · rw [List.length_set]
    exact own_setFar h.rows (fun e => apart_type hown h.rows (by decide) q hq e) _
  · rw [List.length_set] at hj
    rw [gett_set ts t j _ ht]
    by_cases e : j = t
    · subst e
      rw [if_pos rfl, hv]
      rw [hv] at hown
      have := own_set hown k f z hk hf
      rwa [List.length_set] at this ⊢
    · rw [if_neg e]
      refine own_setFar (h.thr j hj) (fun e2 => ?_) _
      rcases Nat.lt_or_ge j t with hlt | hge
      · exact h.apart j t hlt ht q e2 hq
      · exact h.apart t j (by omega) hj q hq e2
  · rw [List.length_set]
    exact h.apart
theorem rows_at {w : World} {B : Nat} {tv : Value} {n : Nat} {vs : List Value} (h : w.ownsRow B 99 1 tv n vs) (hn : 0 < n) :
    ∃ b c, tv = .slice (some ⟨b, 0, none⟩) n c ∧ B ≤ b ∧ b < w.heap.size ∧ ∀ k, k < n → w.cell? ⟨b, k, none⟩ = some (vat vs k) := by
  rcases h.2 with ⟨_, h0⟩ | ⟨q, cap, cur, rfl, hb, hh, hcap, hmax, hcs, ht⟩
  · omega
  · have hlt : q < w.heap.size := by
      rcases Nat.lt_or_ge q w.heap.size with hlt | hge
      · exact hlt
      · rw [Array.getElem?_eq_none hge] at hh; cases hh
    refine ⟨q, cap, rfl, hb, hlt, fun k hk => ?_⟩
    have hl := h.1
    rw [cell_of_row w q k cur _ (0, 0) hh, ← Array.getElem?_toList]
    have h1 : cur.toList[k]? = vs[k]? := by rw [← ht, List.getElem?_take, if_pos (by omega)]
    rw [h1, vat, List.getD_eq_getElem?_getD, List.getElem?_eq_getElem (show k < vs.length by omega)]
    rfl
theorem inss_at {w : World} {B : Nat} {v : Value} {l : List InsD} (h : w.ownsRow B 72 6 v l.length (flat l)) (hn : 0 < l.length) :
    ∃ q c, v = .slice (some ⟨q, 0, none⟩) l.length c ∧ B ≤ q ∧ q < w.heap.size ∧ (∃ cur, Blk w q 72 cur ∧ l.length * 6 ≤ cur.size) := by
  rcases h.2 with ⟨_, h0⟩ | ⟨q, cap, cur, rfl, hb, hh, hcap, hmax, hcs, ht⟩
  · omega
  · exact ⟨q, cap, rfl, hb, Blk.lt (t := 72) (cs := cur) hh, cur, hh, by omega⟩
end Go.Proofs.Ytfkaacfeikmabaa

namespace Go.Proofs.Ytfkaacfeikmabaa
open Go.RowKit

theorem blk_far {w : World} {T B : Nat} {t e : TypeId} {cs : Array Value} {size : Nat} {v : Value} {n : Nat} {xs : List Value} (hb : Blk w T t cs) (h : w.ownsRow B e size v n xs) (hne : e ≠ t) : some T ≠ v.ownBlock := fun he => by
  obtain ⟨_, _, cur, h1⟩ := own_lt h he.symm
  have h2 : w.heap[T]? = some (.cells cs t (0, 0)) := hb
  rw [h1] at h2
  cases h2
  exact hne rfl

theorem rows_cell {w : World} {B b c n : Nat} {vs : List Value} (h : w.ownsRow B 99 1 (.slice (some ⟨b, 0, none⟩) n c) n vs) {k : Nat} (hk : k < n) : w.cell? ⟨b, k, none⟩ = some (vat vs k) := by
  obtain ⟨b', c', e, _, _, hc⟩ := rows_at h (by omega)
  cases e
  exact hc k hk
theorem mem_gett {ts : List (List InsD)} {k : Nat} (hk : k < ts.length) : gett ts k ∈ ts := by
  unfold gett
  rw [List.getD_eq_getElem?_getD, List.getElem?_eq_getElem hk]
  exact List.getElem_mem hk
def BentOk (zs : List Int) (ts : List (List InsD)) : Prop := (zs.length ≤ 3 ∧ ∀ z ∈ zs, 0 ≤ z ∧ z ≤ 1) ∧ (1 ≤ ts.length ∧ ts.length ≤ 4) ∧ ∀ l ∈ ts, l.length ≤ 25 ∧ ∀ d ∈ l, Small d
theorem BentOk.set {zs : List Int} {ts : List (List InsD)} (h : BentOk zs ts) {t k f : Nat} {z : Int} (ht : t < ts.length) (hk : k < (gett ts t).length) (hf : f ≠ 2) (hz : -1 ≤ z ∧ z ≤ 30) : BentOk zs (ts.set t ((gett ts t).set k (upd (getd (gett ts t) k) f z))) := by
  refine ⟨h.1, by rw [List.length_set]; exact h.2.1, fun l hl => ?_⟩
  rcases List.mem_or_eq_of_mem_set hl with h1 | rfl
  · exact h.2.2 l h1
  · have h2 := h.2.2 _ (mem_gett ht)
    refine ⟨by rw [List.length_set]; exact h2.1, fun d hd => ?_⟩
    rcases List.mem_or_eq_of_mem_set hd with h1 | rfl
    · exact h2.2 d h1
    · refine upd_small (h2.2 _ ?_) hf hz
      unfold getd
      rw [List.getD_eq_getElem?_getD, List.getElem?_eq_getElem hk]
      exact List.getElem_mem hk

structure BeAt (g : Nat) (w0 : World) (T : Nat) (zs : List Int) (v : Value) (ts : List (List InsD)) (vs : List Value) (tv : Value) (w : World) : Prop where
  cur : Cur w g
  only : Only g w0 w
  blk : Blk w T 31 #[v, tv]
  own : ProgOwn w (w0.heap.size + 1) zs v ts vs tv
  lo : w0.heap.size + 1 ≤ T
  out : ∃ u u', Blk w w0.heap.size 31 #[u, u']

section
variable {g T : Nat} {w0 w w' : World} {zs : List Int} {v tv : Value} {ts : List (List InsD)} {vs : List Value}
theorem BeAt.cells (h : BeAt g w0 T zs v ts vs tv w) : PrC w T v tv := ⟨⟨h.blk.cell 0, h.blk.cell 1⟩, h.blk.frozen 0, h.blk.frozen 1⟩
theorem BeAt.call (h : BeAt g w0 T zs v ts vs tv w) (hg : g < w0.heap.size) (hc : Cur w' g) (ho : Only g w w') : BeAt g w0 T zs v ts vs tv w' :=
  ⟨hc, h.only.trans ho, h.blk.only ho (by have := h.lo; omega), h.own.keep (fun b hb hlt => ho.block b hlt (by omega)), h.lo, h.out.imp fun _ => Exists.imp fun _ k => k.only ho (by omega)⟩
theorem BeAt.drew (h : BeAt g w0 T zs v ts vs tv w) : BeAt g w0 T zs v ts vs tv w.drew := ⟨h.cur, h.only.drew, h.blk, ⟨h.own.ints, h.own.rows, h.own.thr, h.own.apart⟩, h.lo, h.out⟩
theorem BeAt.alloc (h : BeAt g w0 T zs v ts vs tv w) (o : Obj) : BeAt g w0 T zs v ts vs tv (w.alloc o) :=
  ⟨h.cur.alloc o, h.only.alloc o, h.blk.alloc o, h.own.keep (fun b _ hlt => Below.heap_alloc w o b hlt), h.lo, h.out.imp fun _ => Exists.imp fun _ k => k.alloc o⟩
theorem BeAt.noInts (h : BeAt g w0 T zs v ts vs tv w) (hg : g < w0.heap.size) : BeAt g w0 T [] (.slice none 0 0) ts vs tv (w.setCell ⟨T, 0, none⟩ (.slice none 0 0)) := by
  have hlo := h.lo
  have hbl : ∀ b, b ≠ T → (w.setCell ⟨T, 0, none⟩ (.slice none 0 0)).heap[b]? = w.heap[b]? := fun b hb => Below.heap_setCell w ⟨T, 0, none⟩ _ b hb
  have far := fun {e : TypeId} {size : Nat} {u : Value} {n : Nat} {xs : List Value} (k : w.ownsRow (w0.heap.size + 1) e size u n xs) (hne : e ≠ 31) => own_setFar k (p := ⟨T, 0, none⟩) (fun e2 => blk_far h.blk k hne e2.symm) (.slice none 0 0)
  exact ⟨h.cur.setCell (by show g < T; omega) _, h.only.setCell (.inr (by show w0.heap.size ≤ T; omega)) _, h.blk.set_ 0 _, ⟨⟨rfl, .inl ⟨rfl, rfl⟩⟩, far h.own.rows (by decide), fun k hk => far (h.own.thr k hk) (by decide), h.own.apart⟩, h.lo, h.out.imp fun _ => Exists.imp fun _ k => k.far (by show w0.heap.size ≠ T; omega) _⟩
theorem BeAt.setIns (h : BeAt g w0 T zs v ts vs tv w) (hg : g < w0.heap.size) {t k f q c : Nat} (z : Int) (ht : t < ts.length) (hv : vat vs t = .slice (some ⟨q, 0, none⟩) (gett ts t).length c) (hk : k < (gett ts t).length) (hf : f < 6) :
    BeAt g w0 T zs v (ts.set t ((gett ts t).set k (upd (getd (gett ts t) k) f z))) vs tv (w.setCell ⟨q, k * 6 + f, none⟩ (.int .i64 z)) := by
  have hq : (vat vs t).ownBlock = some q := by rw [hv]; rfl
  have hl := own_lt (h.own.thr t ht) hq
  have hT : T ≠ q := fun e => blk_far h.blk (h.own.thr t ht) (by decide) (by rw [hq, e])
  exact ⟨h.cur.setCell (by show g < q; omega) _, h.only.setCell (.inr (by show w0.heap.size ≤ q; omega)) _, h.blk.far (by show T ≠ q; exact hT) _, h.own.setIns z ht hv hk hf, h.lo, h.out.imp fun _ => Exists.imp fun _ k => k.far (by show w0.heap.size ≠ q; omega) _⟩
theorem BeAt.grown (h : BeAt g w0 T zs v ts vs tv w) (hg : g < w0.heap.size) {w1 : World} {r : Value} (hr : ∀ b, b < w0.heap.size + 1 → some b ≠ r.ownBlock) (hrT : some T ≠ r.ownBlock) (hgr : w.grownBy w1 r.ownBlock) {zs' : List Int} {v' tv' : Value} {ts' : List (List InsD)} {vs' : List Value}
    (ho : ProgOwn w1 (w0.heap.size + 1) zs' v' ts' vs' tv') (i : Nat) (u : Value) (hi : #[v, tv].setIfInBounds i u = #[v', tv']) : PrC w1 T v tv ∧ BeAt g w0 T zs' v' ts' vs' tv' (w1.setCell ⟨T, i, none⟩ u) := by
  have hT := h.blk.lt
  have hlo := h.lo
  have hB : Blk w1 T 31 #[v, tv] := (hgr.block T hT hrT).trans h.blk
  have hB1 : Blk (w1.setCell ⟨T, i, none⟩ u) T 31 #[v', tv'] := by have := hB.set_ i u; rwa [hi] at this
  have hbel : Below (g + 1) w w1 := ⟨hgr.os, hgr.tape, hgr.output, hgr.size, fun k hk => hgr.block k (by omega) (hr k (by omega))⟩
  have far := fun {e : TypeId} {size : Nat} {u' : Value} {n : Nat} {xs : List Value} (k : w1.ownsRow (w0.heap.size + 1) e size u' n xs) (hne : e ≠ 31) => own_setFar k (p := ⟨T, i, none⟩) (fun e2 => blk_far hB k hne e2.symm) u
  refine ⟨⟨⟨hB.cell 0, hB.cell 1⟩, hB.frozen 0, hB.frozen 1⟩, ⟨(h.cur.below hbel).setCell (by show g < T; omega) _, ?_, hB1, ⟨far ho.ints (by decide), far ho.rows (by decide), fun k hk => far (ho.thr k hk) (by decide), ho.apart⟩, h.lo, h.out.imp fun _ => Exists.imp fun _ k => Blk.far ((hgr.block w0.heap.size (Blk.lt k) (hr _ (by omega))).trans k) (by show w0.heap.size ≠ T; omega) _⟩⟩
  refine Only.setCell ?_ (.inr (by show w0.heap.size ≤ T; omega)) _
  have hz := h.only.size
  exact ⟨hgr.os.trans h.only.os, hgr.tape.trans h.only.tape, hgr.output.trans h.only.output, Nat.le_trans h.only.size hgr.size, fun k hk hk2 => (hgr.block k (by omega) (hr k (by omega))).trans (h.only.block k hk hk2)⟩
theorem BeAt.growRows (h : BeAt g w0 T zs v ts vs tv w) (hg : g < w0.heap.size) {w1 : World} {tv' : Value} {xs : List Value} (hxs : xs = vs ++ [.slice none 0 0]) (ho : w1.ownsRow (w0.heap.size + 1) 99 1 tv' (ts.length + 1) xs) (hgr : w.grownBy w1 tv.ownBlock) :
    PrC w1 T v tv ∧ BeAt g w0 T zs v (ts ++ [[]]) (vs ++ [.slice none 0 0]) tv' (w1.setCell ⟨T, 1, none⟩ tv') := by
  subst hxs
  exact h.grown hg (fun _ hb => own_far h.own.rows hb) (blk_far h.blk h.own.rows (by decide)) hgr (h.own.growRows ⟨rfl, .inl ⟨rfl, rfl⟩⟩ (fun k _ b _ e => by simp [Value.ownBlock] at e) ho hgr) 1 tv' rfl
theorem BentOk.more {zs : List Int} {ts : List (List InsD)} (h : BentOk zs ts) (hl : ts.length < 4) : BentOk zs (ts ++ [[]]) := by
  refine ⟨h.1, by simp; omega, fun l hl => ?_⟩
  rcases List.mem_append.1 hl with h1 | h1
  · exact h.2.2 l h1
  · rw [List.mem_singleton.1 h1]
    exact ⟨by simp, fun d hd => by simp at hd⟩
theorem BeAt.insCell (h : BeAt g w0 T zs v ts vs tv w) {t k f q c : Nat} (ht : t < ts.length) (hv : vat vs t = .slice (some ⟨q, 0, none⟩) (gett ts t).length c) (hk : k < (gett ts t).length) (hf : f < 6) : (∃ u, w.cell? ⟨q, k * 6 + f, none⟩ = some u) ∧ w.frozen? ⟨q, k * 6 + f, none⟩ = false := by
  obtain ⟨q', c', e, _, _, cur, hb, hl⟩ := inss_at (h.own.thr t ht) (by omega)
  rw [hv] at e
  cases e
  exact ⟨⟨_, (hb.cell _).trans (Array.getElem?_eq_getElem (show k * 6 + f < cur.size by omega))⟩, hb.frozen _⟩
theorem l1Below_be (n : Int) (hn : 1 ≤ n) (hn2 : n ≤ 100) (hg : g < w0.heap.size) (h : BeAt g w0 T zs v ts vs tv w) :
    Calls Try.prog 126 #[.pointer (some ⟨g, 0, none⟩), .int .i64 n] w fun e w' => ∃ x : Int, e = .returned (.int .i64 x) ∧ (0 ≤ x ∧ x < n) ∧ BeAt g w0 T zs v ts vs tv w' ∧ w.heap.size ≤ w'.heap.size := by
  refine (l1Below_any g n w (by omega) (by omega) h.cur).mono ?_
  rintro e w' ⟨x, rfl, hx, hc, ho⟩
  exact ⟨x, rfl, belowP hx (by omega), h.call hg hc ho, ho.size⟩
theorem l1Pick_be (A : Option Addr) (xs : List Int) (hl : 0 < xs.length) (hl2 : xs.length ≤ 256) (c : Nat) (hg : g < w0.heap.size) (hin : IntsAt w (fun b => b < w.heap.size ∧ b ≠ g) A xs) (h : BeAt g w0 T zs v ts vs tv w) :
    Calls Try.prog 172 #[.pointer (some ⟨g, 0, none⟩), .slice A xs.length c] w fun e w' => ∃ x : Int, e = .returned (.int .i64 x) ∧ x ∈ xs ∧ BeAt g w0 T zs v ts vs tv w' ∧ w.heap.size ≤ w'.heap.size := by
  refine (l1PickInt_any g A xs c w hl hl2 hin h.cur).mono ?_
  rintro e w' ⟨k, hk, rfl, hc, ho⟩
  exact ⟨_, rfl, by simp [geti, List.getD_eq_getElem?_getD, List.getElem?_eq_getElem hk], h.call hg hc ho, ho.size⟩
end
end Go.Proofs.Ytfkaacfeikmabaa

namespace Go.Proofs.Ytfkaacfeikmabaa
open Go.RowKit

theorem Only.toBelow {B g : Nat} {a b : World} (h : Only g a b) (hg : B ≤ g) (ha : B ≤ a.heap.size) : Below B a b :=
  ⟨h.os, h.tape, h.output, h.size, fun k hk => h.block k (by omega) (by omega)⟩
theorem BytesAt.old {w w' : World} {B n : Nat} {A : Option Addr} (h : BytesAt w (Old B) A n) (hb : Below B w w') (hB : B ≤ w'.heap.size) : BytesAt w' (Old w'.heap.size) A n :=
  ⟨h.1, fun hn => by
    obtain ⟨b, off, e, hS, hc⟩ := h.2 hn
    refine ⟨b, off, e, Nat.lt_of_lt_of_le hS hB, fun k hk' => ?_⟩
    obtain ⟨u, h0, h1, h2⟩ := hc k hk'
    exact ⟨u, h0, h1, (hb.cell (p := ⟨b, off + k, none⟩) hS).trans h2⟩⟩

theorem Blk.drew {w : World} {g : Nat} {t : TypeId} {cs : Array Value} (h : Blk w g t cs) : Blk w.drew g t cs := h
theorem ProgAt.drew {w : World} {S : Nat → Prop} {v : Value} {p : ProgD} (h : ProgAt w S v p) : ProgAt w.drew S v p := h

structure PAt (g : Nat) (w0 : World) (T : Nat) (zs : List Int) (v : Value) (ts : List (List InsD)) (vs : List Value) (tv : Value) (w : World) : Prop where
  cur : Cur w g
  only : Only g w0 w
  blk : Blk w T 31 #[v, tv]
  own : ProgOwn w w0.heap.size zs v ts vs tv
  lo : w0.heap.size ≤ T

section
variable {g T : Nat} {w0 w w' : World} {zs : List Int} {v tv : Value} {ts : List (List InsD)} {vs : List Value}
theorem PAt.cells (h : PAt g w0 T zs v ts vs tv w) : PrC w T v tv := ⟨⟨h.blk.cell 0, h.blk.cell 1⟩, h.blk.frozen 0, h.blk.frozen 1⟩
theorem PAt.call (h : PAt g w0 T zs v ts vs tv w) (hg : g < w0.heap.size) (hc : Cur w' g) (ho : Only g w w') : PAt g w0 T zs v ts vs tv w' :=
  ⟨hc, h.only.trans ho, h.blk.only ho (by have := h.lo; omega), h.own.keep (fun b hb hlt => ho.block b hlt (by omega)), h.lo⟩
theorem PAt.drew (h : PAt g w0 T zs v ts vs tv w) : PAt g w0 T zs v ts vs tv w.drew := ⟨h.cur, h.only.drew, h.blk, ⟨h.own.ints, h.own.rows, h.own.thr, h.own.apart⟩, h.lo⟩
theorem PAt.start (hc : Cur w g) (ho : Only g w0 w) (hown : ProgOwn w w0.heap.size zs v ts vs tv) : PAt g w0 w.heap.size zs v ts vs tv (w.alloc (.cells #[v, tv] 31)) :=
  ⟨hc.alloc _, ho.alloc _, Blk.new _ _ _, hown.keep (fun b _ hlt => Below.heap_alloc w _ b hlt), ho.size⟩
theorem l1Below_p (n : Int) (hn : 1 ≤ n) (hn2 : n ≤ 100) (hg : g < w0.heap.size) (h : PAt g w0 T zs v ts vs tv w) :
    Calls Try.prog 126 #[.pointer (some ⟨g, 0, none⟩), .int .i64 n] w fun e w' => ∃ x : Int, e = .returned (.int .i64 x) ∧ (0 ≤ x ∧ x < n) ∧ PAt g w0 T zs v ts vs tv w' ∧ w.heap.size ≤ w'.heap.size := by
  refine (l1Below_any g n w (by omega) (by omega) h.cur).mono ?_
  rintro e w' ⟨x, rfl, hx, hc, ho⟩
  exact ⟨x, rfl, belowP hx (by omega), h.call hg hc ho, ho.size⟩
end
end Go.Proofs.Ytfkaacfeikmabaa

namespace Go.Proofs.Ytfkaacfeikmabaa
open Go.RowKit

theorem own_ints {B : Nat} {w : World} {zs : List Int} {v : Value} (h : w.ownsRow B 3 1 v zs.length (zs.map (Value.int .i64))) : ∃ A c, v = .slice A zs.length c ∧ zs.length ≤ c ∧ IntsAt w (New B w.heap.size) A zs := by
  rcases h.2 with ⟨hv, hn⟩ | ⟨q, cap, cur, hv, hq, hh, hcap, hmax, hcs, ht⟩
  · exact ⟨none, 0, by rw [hn]; exact hv, by omega, by omega, fun hl => by omega⟩
  · have hmx : maxLen = 9223372036854775807 := rfl
    have hlt : q < w.heap.size := by
      rcases Nat.lt_or_ge q w.heap.size with hlt | hge
      · exact hlt
      · rw [Array.getElem?_eq_none hge] at hh; cases hh
    refine ⟨_, _, hv, hcap, by omega, fun _ => ⟨q, 0, rfl, ⟨hq, hlt⟩, fun k hk => ?_⟩⟩
    have h1 : cur.toList[k]? = (zs.map (Value.int .i64))[k]? := by rw [← ht, List.getElem?_take, if_pos (by omega)]
    rw [cell_of_row w q _ cur _ (0, 0) hh, Nat.zero_add, ← Array.getElem?_toList, h1]
    simp [geti, List.getD_eq_getElem?_getD, List.getElem?_eq_getElem hk]

theorem ProgOwn.at_ {w : World} {B : Nat} {zs : List Int} {v tv : Value} {ts : List (List InsD)} {vs : List Value} (h : ProgOwn w B zs v ts vs tv) : ProgAt w (New B w.heap.size) (.agg #[v, tv]) ⟨zs, ts⟩ := by
  obtain ⟨A, c, rfl, hc, hi⟩ := own_ints h.ints
  obtain ⟨A', c', rfl, hc'⟩ := own_form h.rows
  have hm : ts.length ≤ 9223372036854775807 := by
    have hmx : maxLen = 9223372036854775807 := rfl
    rcases h.rows.2 with ⟨hv, hn⟩ | ⟨q, cap, cur, hv, hq, hh, hcap, hmax, hcs, ht⟩ <;> omega
  refine ⟨A, c, A', c', rfl, ⟨hc, hc'⟩, hi, hm, fun hn => ?_⟩
  obtain ⟨b, c2, e, hb, hlt, hcl⟩ := rows_at h.rows hn
  cases e
  refine ⟨b, 0, rfl, ⟨hb, hlt⟩, fun k hk => ?_⟩
  obtain ⟨A3, c3, e3, hc3, hin⟩ := own_inss (h.thr k hk)
  refine ⟨A3, c3, ?_, hc3, hin.more (fun b hb => ⟨hb.2.1, hb.2.2⟩)⟩
  rw [Nat.zero_add, hcl k hk, e3]
end Go.Proofs.Ytfkaacfeikmabaa

namespace Go.Proofs.Ytfkaacfeikmabaa
open Go.RowKit

structure CrAt (w0 : World) (T : Nat) (zs : List Int) (v : Value) (ts : List (List InsD)) (vs : List Value) (tv : Value) (w : World) : Prop where
  below : Below w0.heap.size w0 w
  blk : Blk w T 31 #[v, tv]
  own : ProgOwn w (w0.heap.size + 1) zs v ts vs tv
  lo : w0.heap.size + 1 ≤ T
  out : ∃ u u', Blk w w0.heap.size 31 #[u, u']

structure LAt (w0 : World) (T : Nat) (zs : List Int) (v : Value) (ts : List (List InsD)) (vs : List Value) (tv : Value) (l : List InsD) (lv : Value) (w : World) : Prop where
  cr : CrAt w0 T zs v ts vs tv w
  row : w.ownsRow (w0.heap.size + 1) 72 6 lv l.length (flat l)
  ap : ∀ k, k < ts.length → Apart (vat vs k) lv

section
variable {T : Nat} {w0 w w1 : World} {zs : List Int} {v tv lv : Value} {ts : List (List InsD)} {vs : List Value} {l : List InsD}
theorem CrAt.cells (h : CrAt w0 T zs v ts vs tv w) : PrC w T v tv := ⟨⟨h.blk.cell 0, h.blk.cell 1⟩, h.blk.frozen 0, h.blk.frozen 1⟩
theorem CrAt.alloc (h : CrAt w0 T zs v ts vs tv w) (o : Obj) : CrAt w0 T zs v ts vs tv (w.alloc o) :=
  ⟨h.below.alloc h.below.size o, h.blk.alloc o, h.own.keep (fun b _ hlt => Below.heap_alloc w o b hlt), h.lo, h.out.imp fun _ => Exists.imp fun _ k => k.alloc o⟩
theorem LAt.alloc (h : LAt w0 T zs v ts vs tv l lv w) (o : Obj) : LAt w0 T zs v ts vs tv l lv (w.alloc o) :=
  ⟨h.cr.alloc o, own_keep h.row (fun b _ hlt => Below.heap_alloc w o b hlt), h.ap⟩
theorem own_lit (w : World) (B : Nat) (e : TypeId) (size n : Nat) (cs : Array Value) (hB : B ≤ w.heap.size) (hn : n ≤ 1000) (hs : cs.size = n * size) : (w.alloc (.cells cs e)).ownsRow B e size (.slice (some ⟨w.heap.size, 0, none⟩) n n) n cs.toList :=
  ⟨by simpa using hs, .inr ⟨_, n, cs, rfl, hB, heap_alloc_new w _, Nat.le_refl _, by have : maxLen = 9223372036854775807 := rfl; omega, hs, List.take_of_length_le (by simp [hs])⟩⟩
theorem LAt.start (h : CrAt w0 T zs v ts vs tv w) {cs : Array Value} (hn : l.length ≤ 1000) (hcs : cs.toList = flat l) : LAt w0 T zs v ts vs tv l (.slice (some ⟨w.heap.size, 0, none⟩) l.length l.length) (w.alloc (.cells cs 72)) := by
  have hs : cs.size = l.length * 6 := by rw [← flat_len, ← hcs]; simp
  have hz := h.below.size
  have hb := h.blk.lt
  have hlo := h.lo
  have hr := own_lit w w.heap.size 72 6 l.length cs (Nat.le_refl _) hn hs
  rw [hcs] at hr
  exact ⟨h.alloc _, own_base hr (by omega), fun k hk => apart_new (h.own.thr k hk) hr (Nat.le_refl _)⟩
theorem CrAt.drew (h : CrAt w0 T zs v ts vs tv w) : CrAt w0 T zs v ts vs tv w.drew := ⟨h.below.drew, h.blk, ⟨h.own.ints, h.own.rows, h.own.thr, h.own.apart⟩, h.lo, h.out⟩
theorem LAt.drew (h : LAt w0 T zs v ts vs tv l lv w) : LAt w0 T zs v ts vs tv l lv w.drew := ⟨h.cr.drew, h.row, h.ap⟩
theorem LAt.startCap (h : CrAt w0 T zs v ts vs tv w) {cs : Array Value} {K : Nat} (hK : l.length ≤ K) (hm : K ≤ maxLen) (hs : cs.size = K * 6) (ht : cs.toList.take (l.length * 6) = flat l) : LAt w0 T zs v ts vs tv l (.slice (some ⟨w.heap.size, 0, none⟩) l.length K) (w.alloc (.cells cs 72)) := by
  have hz := h.below.size
  have hb := h.blk.lt
  have hlo := h.lo
  have hr : (w.alloc (.cells cs 72)).ownsRow w.heap.size 72 6 (.slice (some ⟨w.heap.size, 0, none⟩) l.length K) l.length (flat l) := ⟨flat_len l, .inr ⟨_, K, cs, rfl, Nat.le_refl _, heap_alloc_new w _, hK, hm, hs, ht⟩⟩
  exact ⟨h.alloc _, own_base hr (by omega), fun k hk => apart_new (h.own.thr k hk) hr (Nat.le_refl _)⟩
theorem LAt.growL {gg n cap : Nat} {d : InsD} {xs : List Value} (h : LAt w0 T zs v ts vs tv l lv w) (hxs : xs = flat l ++ insVals d) (ho : w1.ownsRow (w0.heap.size + 1) 72 6 (.slice (some ⟨gg, 0, none⟩) n cap) (l.length + 1) xs) (hgr : w.grownBy w1 lv.ownBlock) (hat : lv.ownBlock = some gg ∨ gg = w.heap.size) :
    LAt w0 T zs v ts vs tv (l ++ [d]) (.slice (some ⟨gg, 0, none⟩) n cap) w1 := by
  subst hxs
  have hfl : flat (l ++ [d]) = flat l ++ insVals d := by simp [flat]
  have hlo := h.cr.lo
  have hT := h.cr.blk.lt
  have hr : ∀ k, k < w0.heap.size + 1 → some k ≠ lv.ownBlock := fun _ hk => own_far h.row hk
  have hB : Blk w1 T 31 #[v, tv] := (hgr.block T hT (blk_far h.cr.blk h.row (by decide))).trans h.cr.blk
  refine ⟨⟨?_, hB, ⟨own_grown h.cr.own.ints hgr (apart_type h.cr.own.ints h.row (by decide)), own_grown h.cr.own.rows hgr (apart_type h.cr.own.rows h.row (by decide)), fun k hk => own_grown (h.cr.own.thr k hk) hgr (h.ap k hk), h.cr.own.apart⟩, hlo, h.cr.out.imp fun _ => Exists.imp fun _ k => (hgr.block w0.heap.size (Blk.lt k) (hr _ (by omega))).trans k⟩, by rw [hfl, List.length_append]; exact ho, fun k hk x hx hy => ?_⟩
  · have hz := h.cr.below.size
    exact ⟨hgr.os.trans h.cr.below.os, hgr.tape.trans h.cr.below.tape, hgr.output.trans h.cr.below.output, Nat.le_trans h.cr.below.size hgr.size, fun k hk => (hgr.block k (by omega) (hr k (by omega))).trans (h.cr.below.block k hk)⟩
  · have e : gg = x := by simpa [Value.ownBlock] using hy
    subst e
    rcases hat with h1 | h1
    · exact h.ap k hk gg hx h1
    · have := (own_lt (h.cr.own.thr k hk) hx).2.1
      omega
theorem LAt.growRows {tv' : Value} (h : LAt w0 T zs v ts vs tv l lv w) {xs : List Value} (hxs : xs = vs ++ [lv]) (ho : w1.ownsRow (w0.heap.size + 1) 99 1 tv' (ts.length + 1) xs) (hgr : w.grownBy w1 tv.ownBlock) :
    PrC w1 T v tv ∧ CrAt w0 T zs v (ts ++ [l]) (vs ++ [lv]) tv' (w1.setCell ⟨T, 1, none⟩ tv') := by
  subst hxs
  have hlo := h.cr.lo
  have hT := h.cr.blk.lt
  have hr : ∀ k, k < w0.heap.size + 1 → some k ≠ tv.ownBlock := fun _ hk => own_far h.cr.own.rows hk
  have hB : Blk w1 T 31 #[v, tv] := (hgr.block T hT (blk_far h.cr.blk h.cr.own.rows (by decide))).trans h.cr.blk
  have hB1 : Blk (w1.setCell ⟨T, 1, none⟩ tv') T 31 #[v, tv'] := by have := hB.set_ 1 tv'; simpa using this
  have ho2 := h.cr.own.growRows h.row h.ap ho hgr
  have far := fun {e : TypeId} {size : Nat} {u' : Value} {n : Nat} {xs : List Value} (k : w1.ownsRow (w0.heap.size + 1) e size u' n xs) (hne : e ≠ 31) => own_setFar k (p := ⟨T, 1, none⟩) (fun e2 => blk_far hB k hne e2.symm) tv'
  refine ⟨⟨⟨hB.cell 0, hB.cell 1⟩, hB.frozen 0, hB.frozen 1⟩, ⟨?_, hB1, ⟨far ho2.ints (by decide), far ho2.rows (by decide), fun k hk => far (ho2.thr k hk) (by decide), ho2.apart⟩, hlo, h.cr.out.imp fun _ => Exists.imp fun _ k => Blk.far ((hgr.block w0.heap.size (Blk.lt k) (hr _ (by omega))).trans k) (by show w0.heap.size ≠ T; omega) _⟩⟩
  have hz := h.cr.below.size
  refine Below.setCell ?_ (by show w0.heap.size ≤ T; omega) _
  exact ⟨hgr.os.trans h.cr.below.os, hgr.tape.trans h.cr.below.tape, hgr.output.trans h.cr.below.output, Nat.le_trans h.cr.below.size hgr.size, fun k hk => (hgr.block k (by omega) (hr k (by omega))).trans (h.cr.below.block k hk)⟩
end
end Go.Proofs.Ytfkaacfeikmabaa

namespace Go.Proofs.Ytfkaacfeikmabaa
open Go.RowKit

set_option maxHeartbeats 1600000 in
theorem l1New_any (A : Option Addr) (n c : Nat) (w : World) (hn : n ≤ c) (ha : BytesAt w (Old w.heap.size) A n) :
    Calls Try.prog 124 #[.slice A n c] w fun e w' => ∃ g, e = .returned (.pointer (some ⟨g, 0, none⟩)) ∧ w.heap.size ≤ g ∧ Cur w' g ∧ Below w.heap.size w w' := by
  have hm := ha.1
  go_enter Try.func124, Try.ntmps124
  go_wp2
  go_loop [3, 4] (fun h i => ∃ (k : Nat) (x : Int), k ≤ n ∧ i = .int .i64 k ∧ h = .int .i64 x) (fun _ i => n - (intOf i).toNat)
  case atStart => exact ⟨0, _, Nat.zero_le _, rfl, rfl⟩
  case round =>
    obtain ⟨k, x, hk, rfl, rfl⟩ := hrel
    by_cases hlt : k < n
    · have hlt' : (k : Int) < (n : Int) := by omega
      by_cases h4 : k < 4000
      · have h4' : (k : Int) < 4000 := by omega
        obtain ⟨b, off, rfl, hS, hc⟩ := ha.2 (by omega)
        obtain ⟨u, hu0, hu1, hcell⟩ := hc k hlt
        clear hc
        go_wp2
        go_round
        case rel => exact ⟨k + 1, _, by omega, by go_num, rfl⟩
        case measure => simp [intOf]; omega
      · have h4' : ¬ (k : Int) < 4000 := by omega
        go_wp2
        go_ret
        exact ⟨_, rfl, Nat.le_refl _, ⟨A, n, c, 0, x, Blk.new _ _ _, Nat.zero_le _, ha.keep (fun b o hS => (below1 w _).cell (p := ⟨b, o, none⟩) hS)⟩, below1 _ _⟩
    · obtain rfl : k = n := by omega
      go_wp2
      go_ret
      exact ⟨_, rfl, Nat.le_refl _, ⟨A, k, c, 0, x, Blk.new _ _ _, Nat.zero_le _, ha.keep (fun b o hS => (below1 w _).cell (p := ⟨b, o, none⟩) hS)⟩, below1 _ _⟩
end Go.Proofs.Ytfkaacfeikmabaa


namespace Go.Proofs.Ytfkaacfeikmabaa
open Go.RowKit Go.Joins Go.ChangeShapes Go.WideShapes Go.Deep Go.ChangeAt

theorem cellsOfByte : Try.prog.cellsOf 5 = 1 := by kernel_rfl

set_option maxRecDepth 100000 in
theorem open_code {H : Type} {enc : TypeId × Value → H} {W : World} {r : Reach} {b0 : Nat} {spare : Nat → Bool} {held : Bool} {v : Value} {d : DataW H} {p : List MemPlace} (hv : Value.okWide Try.prog W r b0 78 v) (h : DataW.Trod enc Try.prog W 0 spare held 78 v d p) :
    ∃ A n c, v = .slice A n c ∧ n ≤ c ∧ BytesAt W (Old W.heap.size) A n := by
  obtain ⟨a1, len, cap, rfl⟩ := okWide_slice Try.underlying78 hv
  obtain ⟨fuel, hf⟩ := h
  rcases open_ints Try.underlying78 Try.underlying5 cellsOfByte hf with ⟨hcs, _⟩ | ⟨a, len', cap', zs, hcs, _, hl, hm, hz, _, hcell, hwz⟩
  · simp [Value.cells] at hcs
    obtain ⟨rfl, rfl, rfl⟩ := hcs
    exact ⟨none, 0, 0, rfl, Nat.le_refl _, by omega, fun hn => by omega⟩
  · simp [Value.cells] at hcs
    obtain ⟨rfl, rfl, rfl⟩ := hcs
    unfold maxLen at hm
    refine ⟨some a, len, cap, rfl, hl, by omega, fun hp => ?_⟩
    have hlen : len ≤ zs.length := by rw [hz]; split <;> omega
    obtain ⟨b, off, rfl, hat⟩ := ints_at hcell (by omega)
    refine ⟨b, off, rfl, cell_lt (hat 0 (by omega)), fun k hk => ?_⟩
    have hw := hwz (zs.getD k 0) (by rw [List.getD_eq_getElem?_getD, List.getElem?_eq_getElem (by omega)]; exact List.getElem_mem _)
    simp [Lit.wf, IntKind.min, IntKind.max, IntKind.bits, IntKind.signed] at hw
    exact ⟨zs.getD k 0, by rw [List.getD_eq_getElem?_getD]; omega, by rw [List.getD_eq_getElem?_getD]; omega, hat k (by omega)⟩

theorem ins6 {w : World} {g : Nat} {a b c d e f : Value} (h : Blk w g 72 #[a, b, c, d, e, f]) : (w.cell? ⟨g, 0, none⟩ = some a ∧ w.cell? ⟨g, 1, none⟩ = some b ∧ w.cell? ⟨g, 2, none⟩ = some c ∧ w.cell? ⟨g, 3, none⟩ = some d ∧ w.cell? ⟨g, 4, none⟩ = some e ∧ w.cell? ⟨g, 5, none⟩ = some f) ∧ g < w.heap.size :=
  ⟨⟨h.cell 0, h.cell 1, h.cell 2, h.cell 3, h.cell 4, h.cell 5⟩, h.lt⟩
end Go.Proofs.Ytfkaacfeikmabaa

namespace Go.Proofs.Ytfkaacfeikmabaa
open Go.RowKit

set_option maxRecDepth 100000 in
set_option maxHeartbeats 1600000 in
theorem cloneInts_any (A : Option Addr) (zs : List Int) (n c : Nat) (w : World) (hn : zs.length = n) (hz2 : n ≤ 1048576) (hS : IntsAt w (Old w.heap.size) A zs) :
    Calls Try.prog 66 #[.slice A n c] w fun e w' => RowO 3 1 w w' e n zs := by
  rcases A with _ | ad
  · have hz : zs = [] := by
      rcases Nat.eq_zero_or_pos zs.length with h | h
      · exact List.eq_nil_of_length_eq_zero h
      · obtain ⟨b, off, e, _⟩ := hS.2 h
        cases e
    subst hz
    obtain rfl : n = 0 := by simpa using hn.symm
    clear hn hS
    have he : ∀ w : World, (binOp .eql 22 (.slice none 0 c) (.slice none 0 0)).run Try.prog w = .ok (.bool true) w := fun _ => by kernel_rfl
    go_enter Try.func66, Try.ntmps66
    go_wp2
    go_ret
    exact ⟨none, 0, rfl, ⟨rfl, .inl ⟨rfl, rfl⟩⟩, Below.refl _ _⟩
  · obtain ⟨i1, hi1, hy0, hy1, hy2⟩ := info_parts Try.infoInt
    have hb0 := below1 w (Obj.cells #[] 3)
    have hsrc := hide (hS.below hb0 (fun _ h => h))
    clear hS
    replace hn := hide hn
    have he : ∀ w : World, (binOp .eql 22 (.slice (some ad) n c) (.slice none 0 0)).run Try.prog w = .ok (.bool false) w := fun _ => by kernel_rfl
    go_enter Try.func66, Try.ntmps66
    go_wp2_with (at_builtin; refine wpList_append_src _ rfl _ _ _ rfl w.heap.size 3 i1 _ 1 8 Try.underlying22 hi1 hy0 hy1 hy2 rfl (by omega) (.slice (some ⟨w.heap.size, 0, none⟩) 0 0) 0 [] rfl (own_row (Nat.le_refl _) (by omega) rfl) (Old w.heap.size) (some ad) n c zs rfl (by rw [hn.out]; simp) hsrc.out (by have : maxLen = 9223372036854775807 := rfl; omega) (by omega) (by simp) ?_)
    intro A' c' w2 hown hgr hat
    go_wp2_with fail
    go_ret
    exact ⟨A', c', by simp, hown, hb0.trans (below_own hgr (fun k hk => by simp [Value.ownBlock]; omega) (by simp))⟩

end Go.Proofs.Ytfkaacfeikmabaa
