/- Arguments, opened: rows of numbers, of structs of numbers, of threads. -/
import Derived.Test.YtfkaacfeikmabaaMx0
import Derived.Test.YtfkaacfeikmabaaMx2
import Derived.Test.YtfkaacfeikmabaaMx5
import Derived.Test.YtfkaacfeikmabaaMx7
import Derived.Deep.Slices
import Derived.Deep.Fields
import Derived.OpenShut
import Derived.ProofKit
import Derived.Lib.SmallJoins
import Derived.Test.YtfkaacfeikmabaaRows
namespace Go.Proofs.Ytfkaacfeikmabaa
open Go.RowKit

theorem aheadB_iff {t a u b : Int} : aheadB t a u b = true ↔ t < u ∨ (t = u ∧ a < b) := by
  unfold aheadB
  simp only [Bool.or_eq_true, Bool.and_eq_true, decide_eq_true_eq]
theorem spots_ahead {ts : List (List InsD)} {zs : List Int} {n : Nat} (h : spotsB ts zs n = true) {j k : Nat} (hjk : j < k) (hk : k < n) : aheadB (spT zs j) (spA zs j) (spT zs k) (spA zs k) = true := by
  induction k with
  | zero => omega
  | succ k ih =>
    have h1 := allB_at h hk
    unfold spotB at h1
    simp only [Bool.and_eq_true, Bool.or_eq_true, decide_eq_true_eq, Nat.add_sub_cancel] at h1
    have h2 : aheadB (spT zs k) (spA zs k) (spT zs (k + 1)) (spA zs (k + 1)) = true := by
      rcases h1.2 with h | h
      · omega
      · exact h
    rcases Nat.lt_or_ge j k with hlt | hge
    · have h3 := ih hlt (by omega)
      rw [aheadB_iff] at h2 h3 ⊢
      omega
    · obtain rfl : j = k := by omega
      exact h2
theorem atsS_mem {zs : List Int} {t : Int} {k i : Nat} (hi : i < (atsS zs t k).length) : ∃ j, j < k ∧ spT zs j = t ∧ spA zs j = geti (atsS zs t k) i := by
  induction k with
  | zero => simp [atsS] at hi
  | succ k ih =>
    by_cases e : spT zs k = t
    · rw [atsS_yes e] at hi ⊢
      rw [List.length_append, List.length_singleton] at hi
      unfold geti
      rw [List.getD_eq_getElem?_getD]
      rcases Nat.lt_or_ge i (atsS zs t k).length with h | h
      · obtain ⟨j, h1, h2, h3⟩ := ih h
        refine ⟨j, by omega, h2, ?_⟩
        rw [h3, List.getElem?_append_left h]
        unfold geti
        rw [List.getD_eq_getElem?_getD]
      · refine ⟨k, by omega, e, ?_⟩
        rw [List.getElem?_append_right h, show i - (atsS zs t k).length = 0 by omega]
        rfl
    · rw [atsS_no e] at hi ⊢
      obtain ⟨j, h1, h2, h3⟩ := ih hi
      exact ⟨j, by omega, h2, h3⟩
theorem upB_snoc {l : List Int} {a : Int} (h : upB l) (ha : ∀ i, i < l.length → geti l i < a) : upB (l ++ [a]) := by
  intro i j hij hj
  rw [List.length_append, List.length_singleton] at hj
  have g1 : ∀ k, k < l.length → geti (l ++ [a]) k = geti l k := fun k hk => by
    unfold geti
    rw [List.getD_eq_getElem?_getD, List.getD_eq_getElem?_getD, List.getElem?_append_left hk]
  have g2 : geti (l ++ [a]) l.length = a := by
    unfold geti
    rw [List.getD_eq_getElem?_getD, List.getElem?_append_right (Nat.le_refl _), Nat.sub_self]
    rfl
  rw [g1 i (by omega)]
  rcases Nat.lt_or_ge j l.length with hl | hl
  · rw [g1 j hl]; exact h i j hij hl
  · obtain rfl : j = l.length := by omega
    rw [g2]; exact ha i (by omega)
theorem atsS_up {ts : List (List InsD)} {zs : List Int} {n : Nat} (h : spotsB ts zs n = true) (t : Int) {k : Nat} (hk : k ≤ n) : upB (atsS zs t k) := by
  induction k with
  | zero => intro i j _ hj; simp [atsS] at hj
  | succ k ih =>
    have h1 := ih (by omega)
    by_cases e : spT zs k = t
    · rw [atsS_yes e]
      refine upB_snoc h1 fun i hi => ?_
      obtain ⟨j, hj, h2, h3⟩ := atsS_mem hi
      have h4 := spots_ahead h hj (show k < n by omega)
      rw [aheadB_iff] at h4
      rw [← h3]
      omega
    · rw [atsS_no e]; exact h1
theorem prog_jumps {p : ProgD} (h : progB p = true) {t k : Nat} (ht : t < p.ts.length) (hk : k < (gett p.ts t).length) (hl : leapB (getd (gett p.ts t) k).o = true) : 0 ≤ (getd (gett p.ts t) k).n ∧ (getd (gett p.ts t) k).n ≤ 24 := by
  have h24 := (prog_thr h).2.2 t ht
  unfold progB at h
  simp only [Bool.and_eq_true] at h
  have h2 := allB_at h.2 ht
  unfold thrB at h2
  simp only [Bool.and_eq_true] at h2
  have h3 := allB_at h2.2 hk
  unfold insBD insB at h3
  simp only [Bool.and_eq_true] at h3
  have h4 := h3.2
  unfold jumpB at h4
  unfold leapB at hl
  simp only [Bool.or_eq_true, beq_iff_eq] at hl
  have h5 := of_decide_eq_true h4 hl
  omega
end Go.Proofs.Ytfkaacfeikmabaa

namespace Go.Proofs.Ytfkaacfeikmabaa
open Go.RowKit

def vat (vs : List Value) (k : Nat) : Value := vs.getD k undef

theorem own_lt {w : World} {B : Nat} {e : TypeId} {size : Nat} {v : Value} {n : Nat} {xs : List Value} (h : w.ownsRow B e size v n xs) {b : Nat} (hb : v.ownBlock = some b) : B ≤ b ∧ b < w.heap.size ∧ ∃ cur, w.heap[b]? = some (.cells cur e (0, 0)) := by
  rcases h.2 with ⟨rfl, _⟩ | ⟨q, cap, cur, rfl, hq, hh, _⟩
  · simp [Value.ownBlock] at hb
  · have : q = b := by simpa [Value.ownBlock] using hb
    subst this
    refine ⟨hq, ?_, cur, hh⟩
    rcases Nat.lt_or_ge q w.heap.size with hlt | hge
    · exact hlt
    · rw [Array.getElem?_eq_none hge] at hh; cases hh

theorem apart_type {w : World} {B B' : Nat} {e e' : TypeId} {s s' : Nat} {u v : Value} {n m : Nat} {xs ys : List Value} (h : w.ownsRow B e s u n xs) (k : w.ownsRow B' e' s' v m ys) (hne : e ≠ e') : Apart u v := fun b hu hv => by
  obtain ⟨_, _, cur, h1⟩ := own_lt h hu
  obtain ⟨_, _, cur', h2⟩ := own_lt k hv
  rw [h1] at h2
  cases h2
  exact hne rfl
theorem apart_new {w w' : World} {B B' : Nat} {e e' : TypeId} {s s' : Nat} {u v : Value} {n m : Nat} {xs ys : List Value} (h : w.ownsRow B e s u n xs) (k : w'.ownsRow B' e' s' v m ys) (hB : w.heap.size ≤ B') : Apart u v := fun b hu hv => by
  have := (own_lt h hu).2.1
  have := (own_lt k hv).1
  omega
theorem own_grown {w w1 : World} {B : Nat} {e : TypeId} {size : Nat} {u v : Value} {n : Nat} {xs : List Value} (h : w.ownsRow B e size u n xs) (hg : w.grownBy w1 v.ownBlock) (ha : Apart u v) : w1.ownsRow B e size u n xs := by
  refine ⟨h.1, h.2.imp id ?_⟩
  rintro ⟨q, cap, cur, rfl, hb, hh, rest⟩
  refine ⟨q, cap, cur, rfl, hb, ?_, rest⟩
  have hu : (Value.slice (some ⟨q, 0, none⟩) n cap).ownBlock = some q := rfl
  rw [hg.block q (own_lt h hu).2.1 (fun e => ha q hu e.symm), hh]

structure ProgOwn (w : World) (B : Nat) (zs : List Int) (v : Value) (ts : List (List InsD)) (vs : List Value) (tv : Value) : Prop where
  ints : w.ownsRow B 3 1 v zs.length (zs.map (Value.int .i64))
  rows : w.ownsRow B 99 1 tv ts.length vs
  thr : ∀ k, k < ts.length → w.ownsRow B 72 6 (vat vs k) (gett ts k).length (flat (gett ts k))
  apart : ∀ j k, j < k → k < ts.length → Apart (vat vs j) (vat vs k)

section
variable {w w1 : World} {B : Nat} {zs : List Int} {v tv : Value} {ts : List (List InsD)} {vs : List Value}
theorem ProgOwn.keep (h : ProgOwn w B zs v ts vs tv) (hk : ∀ b, B ≤ b → b < w.heap.size → w1.heap[b]? = w.heap[b]?) : ProgOwn w1 B zs v ts vs tv :=
  ⟨own_keep h.ints hk, own_keep h.rows hk, fun k hk' => own_keep (h.thr k hk') hk, h.apart⟩
theorem ProgOwn.base {B' : Nat} (h : ProgOwn w B zs v ts vs tv) (hB : B' ≤ B) : ProgOwn w B' zs v ts vs tv :=
  ⟨own_base h.ints hB, own_base h.rows hB, fun k hk' => own_base (h.thr k hk') hB, h.apart⟩
theorem ProgOwn.setCell (h : ProgOwn w B zs v ts vs tv) {p : Addr} (hp : p.block < B) (u : Value) : ProgOwn (w.setCell p u) B zs v ts vs tv :=
  h.keep (fun b hb _ => Below.heap_setCell w p u b (by omega))
theorem ProgOwn.len (h : ProgOwn w B zs v ts vs tv) : vs.length = ts.length := by simpa using h.rows.1
theorem ProgOwn.nil (w : World) (B : Nat) : ProgOwn w B [] (.slice none 0 0) [] [] (.slice none 0 0) :=
  ⟨⟨rfl, .inl ⟨rfl, rfl⟩⟩, ⟨rfl, .inl ⟨rfl, rfl⟩⟩, fun k hk => by simp at hk, fun j k _ hk => by simp at hk⟩
theorem ProgOwn.growInts (h : ProgOwn w B zs v ts vs tv) {x : Int} {v' : Value} {xs : List Value} (hxs : xs = zs.map (Value.int .i64) ++ [.int .i64 x]) (ho : w1.ownsRow B 3 1 v' (zs.length + 1) xs) (hg : w.grownBy w1 v.ownBlock) : ProgOwn w1 B (zs ++ [x]) v' ts vs tv :=
  ⟨by subst hxs; simpa using ho, own_grown h.rows hg (apart_type h.rows h.ints (by decide)), fun k hk => own_grown (h.thr k hk) hg (apart_type (h.thr k hk) h.ints (by decide)), h.apart⟩
theorem vat_append (vs : List Value) (u : Value) (k : Nat) : vat (vs ++ [u]) k = if k < vs.length then vat vs k else if k = vs.length then u else undef := by
  unfold vat
  rw [List.getD_eq_getElem?_getD, List.getD_eq_getElem?_getD, List.getElem?_append]
  split
  · rfl
  · next hk =>
    by_cases e : k = vs.length
    · subst e; simp
    · rw [if_neg e, List.getElem?_eq_none (by simp; omega)]; rfl
theorem gett_append (ts : List (List InsD)) (u : List InsD) (k : Nat) : gett (ts ++ [u]) k = if k < ts.length then gett ts k else if k = ts.length then u else [] := by
  unfold gett
  rw [List.getD_eq_getElem?_getD, List.getD_eq_getElem?_getD, List.getElem?_append]
  split
  · rfl
  · next hk =>
    by_cases e : k = ts.length
    · subst e; simp
    · rw [if_neg e, List.getElem?_eq_none (by simp; omega)]; rfl
theorem ProgOwn.growRows (h : ProgOwn w B zs v ts vs tv) {u tv' : Value} {l : List InsD} (hu : w.ownsRow B 72 6 u l.length (flat l)) (ha : ∀ k, k < ts.length → Apart (vat vs k) u) (ho : w1.ownsRow B 99 1 tv' (ts.length + 1) (vs ++ [u])) (hg : w.grownBy w1 tv.ownBlock) : ProgOwn w1 B zs v (ts ++ [l]) (vs ++ [u]) tv' := by
  have hl := h.len
  refine ⟨own_grown h.ints hg (apart_type h.ints h.rows (by decide)), by simpa using ho, fun k hk => ?_, fun j k hjk hk => ?_⟩
  · simp only [List.length_append, List.length_singleton] at hk
    rw [vat_append, gett_append, hl]
    by_cases e : k < ts.length
    · rw [if_pos e, if_pos e]
      exact own_grown (h.thr k e) hg (apart_type (h.thr k e) h.rows (by decide))
    · rw [if_neg e, if_neg e, if_pos (by omega), if_pos (by omega)]
      exact own_grown hu hg (apart_type hu h.rows (by decide))
  · simp only [List.length_append, List.length_singleton] at hk
    rw [vat_append, vat_append, hl]
    by_cases e : k < ts.length
    · rw [if_pos e, if_pos (by omega)]
      exact h.apart j k hjk e
    · rw [if_neg e, if_pos (show k = ts.length by omega), if_pos (show j < ts.length by omega)]
      exact ha j (by omega)
end
end Go.Proofs.Ytfkaacfeikmabaa

namespace Go.Proofs.Ytfkaacfeikmabaa
open Go.RowKit

attribute [local go_sem ↓] Go.wp_at_zero Go.wp_at_succ

theorem Try.infoThr : (Try.prog.info? 99).map (fun i => (i.zero, i.size, i.bytes)) = some (some (.agg #[.slice none 0 0]), 1, 24) := by kernel_rfl

theorem own_form {w : World} {B : Nat} {e : TypeId} {size : Nat} {v : Value} {n : Nat} {xs : List Value} (h : w.ownsRow B e size v n xs) : ∃ A c, v = .slice A n c ∧ n ≤ c := by
  rcases h.2 with ⟨rfl, rfl⟩ | ⟨q, cap, cur, rfl, _, _, hcap, _⟩
  · exact ⟨_, _, rfl, Nat.le_refl _⟩
  · exact ⟨_, _, rfl, hcap⟩

structure PrAt (g : Nat) (w0 : World) (T : Nat) (zs : List Int) (v : Value) (ts : List (List InsD)) (vs : List Value) (tv : Value) (w : World) : Prop where
  cur : Cur w g
  only : Only g w0 w
  blk : Blk w T 31 #[v, tv]
  own : ProgOwn w (T + 1) zs v ts vs tv
  lo : w0.heap.size + 1 = T
  out : ∃ u u', Blk w w0.heap.size 31 #[u, u']

section
variable {g T : Nat} {w0 w w' : World} {zs : List Int} {v tv : Value} {ts : List (List InsD)} {vs : List Value}
def PrC (w : World) (T : Nat) (v tv : Value) : Prop := (w.cell? ⟨T, 0, none⟩ = some v ∧ w.cell? ⟨T, 1, none⟩ = some tv) ∧ (w.frozen? ⟨T, 0, none⟩ = false ∧ w.frozen? ⟨T, 1, none⟩ = false)
theorem PrAt.cells (h : PrAt g w0 T zs v ts vs tv w) : PrC w T v tv := ⟨⟨h.blk.cell 0, h.blk.cell 1⟩, h.blk.frozen 0, h.blk.frozen 1⟩
theorem PrAt.call (h : PrAt g w0 T zs v ts vs tv w) (hg : g < w0.heap.size) (hc : Cur w' g) (ho : Only g w w') : PrAt g w0 T zs v ts vs tv w' :=
  ⟨hc, h.only.trans ho, h.blk.only ho (by have := h.lo; omega), h.own.keep (fun b hb hlt => ho.block b hlt (by have := h.lo; omega)), h.lo, h.out.imp fun _ => Exists.imp fun _ k => k.only ho (by omega)⟩
theorem PrAt.drew (h : PrAt g w0 T zs v ts vs tv w) : PrAt g w0 T zs v ts vs tv w.drew := ⟨h.cur, h.only.drew, h.blk, ⟨h.own.ints, h.own.rows, h.own.thr, h.own.apart⟩, h.lo, h.out⟩
theorem PrAt.alloc (h : PrAt g w0 T zs v ts vs tv w) (o : Obj) : PrAt g w0 T zs v ts vs tv (w.alloc o) :=
  ⟨h.cur.alloc o, h.only.alloc o, h.blk.alloc o, h.own.keep (fun b _ hlt => Below.heap_alloc w o b hlt), h.lo, h.out.imp fun _ => Exists.imp fun _ k => k.alloc o⟩
theorem own_far {w : World} {B : Nat} {e : TypeId} {size : Nat} {v : Value} {n : Nat} {xs : List Value} (h : w.ownsRow B e size v n xs) {b : Nat} (hb : b < B) : some b ≠ v.ownBlock := fun e => by
  have := (own_lt h e.symm).1
  omega
theorem PrAt.grown (h : PrAt g w0 T zs v ts vs tv w) (hw : g < w0.heap.size) {w1 : World} {r : Value} (hr : ∀ b, b < T + 1 → some b ≠ r.ownBlock) (hgr : w.grownBy w1 r.ownBlock) {zs' : List Int} {v' tv' : Value} {ts' : List (List InsD)} {vs' : List Value}
    (ho : ProgOwn w1 (T + 1) zs' v' ts' vs' tv') (i : Nat) (u : Value) (hi : #[v, tv].setIfInBounds i u = #[v', tv']) : PrC w1 T v tv ∧ PrAt g w0 T zs' v' ts' vs' tv' (w1.setCell ⟨T, i, none⟩ u) := by
  have hT := h.blk.lt
  have hlo := h.lo
  have hB : Blk w1 T 31 #[v, tv] := (hgr.block T hT (hr T (by omega))).trans h.blk
  have hbel : Below (g + 1) w w1 := ⟨hgr.os, hgr.tape, hgr.output, hgr.size, fun k hk => hgr.block k (by omega) (hr k (by omega))⟩
  refine ⟨⟨⟨hB.cell 0, hB.cell 1⟩, hB.frozen 0, hB.frozen 1⟩, ⟨(h.cur.below hbel).setCell (by show g < T; omega) _, ?_, by have := hB.set_ i u; rwa [hi] at this, ?_, h.lo, h.out.imp fun _ => Exists.imp fun _ k => Blk.far ((hgr.block w0.heap.size (Blk.lt k) (hr _ (by omega))).trans k) (by show w0.heap.size ≠ T; omega) _⟩⟩
  · refine Only.setCell ?_ (.inr (by show w0.heap.size ≤ T; omega)) _
    have hz := h.only.size
    exact ⟨hgr.os.trans h.only.os, hgr.tape.trans h.only.tape, hgr.output.trans h.only.output, Nat.le_trans h.only.size hgr.size, fun k hk hk2 => (hgr.block k (by omega) (hr k (by omega))).trans (h.only.block k hk hk2)⟩
  · exact ho.keep (fun b hb _ => Below.heap_setCell w1 ⟨T, i, none⟩ u b (by show b ≠ T; omega))
theorem PrAt.growInts (h : PrAt g w0 T zs v ts vs tv w) (hw : g < w0.heap.size) {w1 : World} {v' : Value} {x : Int} {xs : List Value} (hxs : xs = zs.map (Value.int .i64) ++ [.int .i64 x]) (ho : w1.ownsRow (T + 1) 3 1 v' (zs.length + 1) xs) (hgr : w.grownBy w1 v.ownBlock) :
    PrC w1 T v tv ∧ PrAt g w0 T (zs ++ [x]) v' ts vs tv (w1.setCell ⟨T, 0, none⟩ v') :=
  h.grown hw (fun _ hb => own_far h.own.ints hb) hgr (h.own.growInts hxs ho hgr) 0 v' rfl
theorem PrAt.growRows (h : PrAt g w0 T zs v ts vs tv w) (hw : g < w0.heap.size) {w1 : World} {u tv' : Value} {l : List InsD} (hu : w.ownsRow (T + 1) 72 6 u l.length (flat l)) (ha : ∀ k, k < ts.length → Apart (vat vs k) u) (ho : w1.ownsRow (T + 1) 99 1 tv' (ts.length + 1) (vs ++ [u])) (hgr : w.grownBy w1 tv.ownBlock) :
    PrC w1 T v tv ∧ PrAt g w0 T zs v (ts ++ [l]) (vs ++ [u]) tv' (w1.setCell ⟨T, 1, none⟩ tv') :=
  h.grown hw (fun _ hb => own_far h.own.rows hb) hgr (h.own.growRows hu ha ho hgr) 1 tv' rfl

theorem l1Below_pr (n : Int) (hn : 1 ≤ n) (hn2 : n ≤ 100) (hg : g < w0.heap.size) (h : PrAt g w0 T zs v ts vs tv w) :
    Calls Try.prog 126 #[.pointer (some ⟨g, 0, none⟩), .int .i64 n] w fun e w' => ∃ x : Int, e = .returned (.int .i64 x) ∧ (0 ≤ x ∧ x < n) ∧ PrAt g w0 T zs v ts vs tv w' := by
  refine (l1Below_any g n w (by omega) (by omega) h.cur).mono ?_
  rintro e w' ⟨x, rfl, hx, hc, ho⟩
  exact ⟨x, rfl, belowP hx (by omega), h.call hg hc ho⟩
theorem l1Pick_pr (A : Option Addr) (xs : List Int) (hl : 0 < xs.length) (hl2 : xs.length ≤ 256) (c : Nat) (hg : g < w0.heap.size) (hin : IntsAt w (fun b => b < w.heap.size ∧ b ≠ g) A xs) (h : PrAt g w0 T zs v ts vs tv w) :
    Calls Try.prog 172 #[.pointer (some ⟨g, 0, none⟩), .slice A xs.length c] w fun e w' => ∃ x : Int, e = .returned (.int .i64 x) ∧ x ∈ xs ∧ PrAt g w0 T zs v ts vs tv w' ∧ PrC w' T v tv ∧ w.heap.size ≤ w'.heap.size := by
  refine (l1PickInt_any g A xs c w hl hl2 hin h.cur).mono ?_
  rintro e w' ⟨k, hk, rfl, hc, ho⟩
  have hh := h.call hg hc ho
  exact ⟨_, rfl, by simp [geti, List.getD_eq_getElem?_getD, List.getElem?_eq_getElem hk], hh, hh.cells, ho.size⟩
theorem l1thread_pr (cells most : Int) (hm : 1 ≤ most ∧ most ≤ 29) (hcl : 1 ≤ cells ∧ cells ≤ 6) (hg : g < w0.heap.size) (h : PrAt g w0 T zs v ts vs tv w) :
    Calls Try.prog 196 #[.pointer (some ⟨g, 0, none⟩), .int .i64 cells, .int .i64 most] w fun e w' => ∃ (A : Option Addr) (c : Nat) (l : List InsD), e = .returned (.agg #[.slice A l.length c]) ∧ (1 ≤ l.length ∧ (l.length : Int) ≤ most + 1) ∧ w'.ownsRow (T + 1) 72 6 (.slice A l.length c) l.length (flat l) ∧ (∀ d ∈ l, Small d) ∧ (∀ k, k < ts.length → Apart (vat vs k) (.slice A l.length c)) ∧ PrAt g w0 T zs v ts vs tv w' ∧ PrC w' T v tv ∧ w.heap.size ≤ w'.heap.size := by
  refine (l1thread_any g cells most w hm hcl h.cur).mono ?_
  rintro e w' ⟨u, l, rfl, hl, hu, hs, hc, ho⟩
  have hh := h.call hg hc ho
  obtain ⟨A, c, rfl, -, -⟩ := own_inss hu
  exact ⟨A, c, l, rfl, hl, own_base hu (by have := h.blk.lt; omega), hs, fun k hk => apart_new (h.own.thr k hk) hu (Nat.le_refl _), hh, hh.cells, ho.size⟩
end
end Go.Proofs.Ytfkaacfeikmabaa

namespace Go.Proofs.Ytfkaacfeikmabaa
open Go.RowKit

attribute [local go_sem ↓] Go.wp_at_zero Go.wp_at_succ

set_option maxRecDepth 100000 in
set_option maxHeartbeats 1600000 in
theorem l1draw_any (g : Nat) (threads most : Int) (w : World) (hm : 1 ≤ most ∧ most ≤ 29) (ht : 1 ≤ threads ∧ threads ≤ 3) (hc : Cur w g) :
    Calls Try.prog 171 #[.pointer (some ⟨g, 0, none⟩), .int .i64 threads, .int .i64 most] w fun e w' => ∃ (v tv : Value), e = .returned (.agg #[v, tv]) ∧ ∃ (zs : List Int) (ts : List (List InsD)) (vs : List Value), ProgOwn w' w.heap.size zs v ts vs tv ∧ (2 ≤ zs.length ∧ zs.length ≤ 3 ∧ ∀ z ∈ zs, 0 ≤ z ∧ z ≤ 1) ∧ ((ts.length : Int) = threads ∧ ∀ l ∈ ts, 1 ≤ l.length ∧ (l.length : Int) ≤ most + 1 ∧ ∀ d ∈ l, Small d) ∧ Cur w' g ∧ Only g w w' := by
  obtain ⟨ht0, ht1⟩ := ht
  have hg := hc.lt
  obtain ⟨i1, hi1, hy0, hy1, hy2⟩ := info_parts Try.infoInt
  have hi1 := hide hi1
  obtain ⟨i2, hi2, hx0, hx1, hx2⟩ := info_parts Try.infoThr
  have hi2 := hide hi2
  have h0 : PrAt g w (w.heap.size + 1) [] (.slice none 0 0) [] [] (.slice none 0 0) ((w.alloc (Obj.cells #[Value.slice none 0 0, Value.slice none 0 0] 31)).alloc (Obj.cells #[Value.slice none 0 0, Value.slice none 0 0] 31)) :=
    ⟨(hc.alloc _).alloc _, ((Only.refl g w).alloc _).alloc _, by have := Blk.new (w.alloc (Obj.cells #[Value.slice none 0 0, Value.slice none 0 0] 31)) 31 #[Value.slice none 0 0, Value.slice none 0 0]; simpa using this, ProgOwn.nil _ _, rfl, ⟨_, _, (Blk.new w 31 #[Value.slice none 0 0, Value.slice none 0 0]).alloc _⟩⟩
  have HC := hide hc
  clear hc
  go_enter Try.func171, Try.ntmps171
  go_wp2_with fail
  refine (l1Below_pr 2 (by omega) (by omega) hg h0).mono ?_
  rintro e w1 ⟨x, rfl, ⟨hk0, hk1⟩, h1⟩
  clear h0
  go_wp2_with fail
  go_loopw [8] (fun k wr => ∃ (n : Nat) (zs : List Int) (v : Value), k = .int .i64 (x + 1 - n) ∧ zs.length = n ∧ (n : Int) ≤ x + 2 ∧ PrAt g w (w.heap.size + 1) zs v [] [] (.slice none 0 0) wr ∧ Hid (∀ z ∈ zs, 0 ≤ z ∧ z ≤ 1)) (fun k _ => (intOf k + 1).toNat)
  case atStart => exact ⟨0, [], _, by simp; omega, rfl, by omega, h1, hide (fun z hz => by simp at hz)⟩
  case round =>
    obtain ⟨n, zs, v, rfl, hzl, hn, h2, hz01⟩ := hrel
    subst hzl
    have hs2 := h2.blk.lt
    obtain ⟨⟨c0, c1⟩, f0, f1⟩ := h2.cells
    by_cases hlt : (zs.length : Int) < x + 2
    · have h3 := h2.drew
      go_wp2_with fail
      go_region_law (first
        | (go_simp; refine (l1Pick_pr (some ⟨wr.heap.size, 0, none⟩) [0, 0, 0, 1] (by decide) (by decide) 4 hg (ints_of_blk (t := 3) (zs := [0, 0, 0, 1]) (Blk.new wr.drew _ _) (by decide) ⟨by simp, by omega⟩) (h3.alloc _)).mono ?_; rintro e w2 ⟨y, rfl, hy, h5, ⟨⟨c50, c51⟩, f50, f51⟩, hz5⟩; have hs5 := h5.blk.lt; go_simp)
        | (refine step_append_lies _ (by rfl) _ _ _ (by rfl) (w.heap.size + 2) 3 i1 _ 1 8 Try.underlying22 hi1.out hy0 hy1 hy2 rfl (by omega) v zs.length (zs.map (Value.int .i64)) (by rfl) (h5.alloc _).own.ints _ 1 1 _ (by rfl) ?hl (World.news_of_block (heap_alloc_new _ _)) ?h1 (by omega) ?h63 ?hby ?hb _ (by rfl) ?_
           case hl => rfl
           case h1 => simp [Value.oneCell']
           case h63 => (have : maxLen = 9223372036854775807 := rfl); omega
           case hby => omega
           case hb => simp; omega
           intro gg cap w4 hown hgrow hat hlt
           obtain ⟨⟨⟨c60, c61⟩, f60, f61⟩, h6⟩ := PrAt.growInts (x := y) (h5.alloc _) hg rfl hown hgrow))
      all_goals
        go_wp2_with fail
        go_roundw
        case rel => exact ⟨zs.length + 1, zs ++ [y], _, by simp; omega, by simp, by omega, h6, hide (fun z hz => by
          rcases List.mem_append.1 hz with h | h
          · exact hz01.out z h
          · rw [List.mem_singleton.1 h]
            simp at hy
            omega)⟩
        case measure => simp [intOf]; omega
    · have hzl : (zs.length : Int) = x + 2 := by omega
      obtain ⟨A, c, rfl, -⟩ := own_form h2.own.ints
      clear h1
      go_wp2_with fail
      go_loopw [9] (fun t wt => ∃ (ts : List (List InsD)) (vs : List Value) (tv : Value), t = .int .i64 ts.length ∧ (ts.length : Int) ≤ threads ∧ PrAt g w (w.heap.size + 1) zs (.slice A zs.length c) ts vs tv wt ∧ Hid (∀ l ∈ ts, 1 ≤ l.length ∧ (l.length : Int) ≤ most + 1 ∧ ∀ d ∈ l, Small d)) (fun t _ => (threads - intOf t).toNat)
      case atStart => exact ⟨[], [], _, rfl, by simp; omega, h2, hide (fun l hl => by simp at hl)⟩
      case round =>
        obtain ⟨ts, vs, tv, rfl, htl, h7, hts⟩ := hrel
        have hs7 := h7.blk.lt
        obtain ⟨⟨c70, c71⟩, f70, f71⟩ := h7.cells
        by_cases hlt2 : (ts.length : Int) < threads
        · have h8 := h7.drew
          go_wp2_with fail
          go_region_law (first
            | (go_simp; refine (l1thread_pr _ _ hm (by omega) hg h8).mono ?_; rintro e w2 ⟨A2, c2, l, rfl, hl, hu, hsm, hap, h9, ⟨⟨c90, c91⟩, f90, f91⟩, hz9⟩; have hs9 := h9.blk.lt; go_simp)
            | (refine step_append_lies _ (by rfl) _ _ _ (by rfl) (w.heap.size + 2) 99 i2 _ 1 24 Try.underlying29 hi2.out hx0 hx1 hx2 rfl (by omega) tv ts.length vs (by rfl) (h9.alloc _).own.rows _ 1 1 _ (by rfl) ?hl (World.news_of_block (heap_alloc_new _ _)) ?h1 (by omega) ?h63 ?hby ?hb _ (by rfl) ?_
               case hl => rfl
               case h1 => simp [Value.oneCell']
               case h63 => (have : maxLen = 9223372036854775807 := rfl); omega
               case hby => omega
               case hb => simp; omega
               intro gg cap w4 hown hgrow hat hlt
               obtain ⟨⟨⟨d60, d61⟩, g60, g61⟩, h6⟩ := PrAt.growRows (l := l) (h9.alloc _) hg (own_keep hu (fun b _ hb => Below.heap_alloc w2 _ b hb)) hap hown hgrow))
          all_goals
            go_wp2_with fail
            go_roundw
            case rel => exact ⟨ts ++ [l], _, _, by simp, by simp; omega, h6, hide (fun y hy => by
              rcases List.mem_append.1 hy with h | h
              · exact hts.out y h
              · rw [List.mem_singleton.1 h]
                exact ⟨hl.1, hl.2, hsm⟩)⟩
            case measure => simp [intOf]; omega
        · obtain ⟨A2, c2, rfl, -⟩ := own_form h7.own.rows
          have hr := hide h7.only
          have hcu := hide h7.cur
          obtain ⟨u, u', ho⟩ := h7.out
          have e0 : wr.cell? ⟨w.heap.size, 0, none⟩ = some u := ho.cell 0
          have e1 : wr.cell? ⟨w.heap.size, 1, none⟩ = some u' := ho.cell 1
          have z0 := ho.frozen 0
          have z1 := ho.frozen 1
          have hown := hide h7.own
          clear h7 ho h2
          go_wp2_with fail
          refine bodyPost_ret (v := .agg #[.slice A zs.length c, .slice A2 ts.length c2]) (by simp [results, Try.results171, go_sem, e0, e1]; done) rfl ⟨_, _, rfl, zs, ts, ⟨vs, ?_⟩, ⟨by omega, by omega, hz01.out⟩, ⟨by omega, hts.out⟩, ?_, ?_⟩
          · exact ((hown.out.setCell (by show w.heap.size < w.heap.size + 1 + 1; omega) _).setCell (by show w.heap.size < w.heap.size + 1 + 1; omega) _).base (Nat.le_succ_of_le (Nat.le_succ _))
          · iterate 2 (refine Cur.setCell ?_ (by show g < w.heap.size; omega) _)
            exact hcu.out
          · iterate 2 (refine Only.setCell ?_ (.inr (Nat.le_refl _)) _)
            exact hr.out
end Go.Proofs.Ytfkaacfeikmabaa

namespace Go.Proofs.Ytfkaacfeikmabaa
open Go.RowKit Go.Joins Go.ChangeShapes Go.WideShapes Go.Deep

theorem choose_list {α : Type} (d : α) (n : Nat) (R : Nat → α → Prop) (h : ∀ i, i < n → ∃ x, R i x) : ∃ l : List α, l.length = n ∧ ∀ i, i < n → R i (l.getD i d) := by
  induction n with
  | zero => exact ⟨[], rfl, fun i hi => by omega⟩
  | succ n ih =>
    obtain ⟨l, hl, hr⟩ := ih (fun i hi => h i (by omega))
    obtain ⟨x, hx⟩ := h n (by omega)
    refine ⟨l ++ [x], by simp [hl], fun i hi => ?_⟩
    by_cases e : i < n
    · have := hr i e
      rwa [List.getD_eq_getElem?_getD, List.getElem?_append_left (by omega), ← List.getD_eq_getElem?_getD]
    · obtain rfl : i = n := by omega
      rw [List.getD_eq_getElem?_getD, List.getElem?_append_right (by omega), hl]
      simpa using hx

theorem cell_lt {w : World} {a : Addr} {v : Value} (h : w.cell? a = some v) : a.block < w.heap.size := by
  rcases Nat.lt_or_ge a.block w.heap.size with hlt | hge
  · exact hlt
  · unfold World.cell? at h; rw [Array.getElem?_eq_none hge] at h; cases h

section
variable {H : Type} {enc : TypeId × Value → H} {P : Program} {w : World} {spare : Nat → Bool} {held : Bool}

theorem trod_ints {t e : TypeId} {fuel : Nat} {v : Value} {x : DataW H × List MemPlace} (ht : P.underlying t = some (.slice e)) (he : P.underlying e = some (.int .i64)) (hc : P.cellsOf e = 1)
    (h : DataW.trod enc P w 0 spare held fuel t [v] = some x) : ∃ A zs c, v = .slice A (zs : List Int).length c ∧ zs.length ≤ c ∧ IntsAt w (Old w.heap.size) A zs := by
  rcases open_ints ht he hc h with ⟨hcs, _⟩ | ⟨a, len, cap, zs, hcs, _, hl, hm, hz, _, hcell, _⟩
  · simp only [List.cons.injEq, and_true] at hcs
    exact ⟨none, [], 0, hcs, by simp, by simp, fun h => absurd h (by simp)⟩
  · simp only [List.cons.injEq, and_true] at hcs
    have hlen : len ≤ zs.length := by rw [hz]; split <;> omega
    have htl : (zs.take len).length = len := by rw [List.length_take]; omega
    unfold maxLen at hm
    refine ⟨some a, zs.take len, cap, by rw [htl]; exact hcs, by omega, by omega, fun hp => ?_⟩
    rw [htl] at hp ⊢
    obtain ⟨b, off, rfl, hat⟩ := ints_at hcell (by omega)
    refine ⟨b, off, rfl, cell_lt (hat 0 (by omega)), fun k hk => ?_⟩
    rw [hat k (by omega)]
    unfold geti
    rw [List.getD_eq_getElem?_getD, List.getD_eq_getElem?_getD, List.getElem?_take_of_lt hk]

theorem add_plain' (b off k : Nat) : (⟨b, off, none⟩ : Addr).add k = ⟨b, off + k, none⟩ := by
  unfold Addr.add; split
  · subst_vars; rfl
  · rfl
theorem spot_none {a : Addr} {v : Value} (h : w.cell? a = some v) : ∃ b off, a = ⟨b, off, none⟩ := by
  obtain ⟨b, off, spot⟩ := a
  have := World.cell?_spot h
  simp at this
  subst this
  exact ⟨b, off, rfl⟩

theorem trod_inss {t e ti : TypeId} {f0 f1 f2 f3 f4 f5 : Field} {fuel : Nat} {v : Value} {x : DataW H × List MemPlace} (ht : P.underlying t = some (.slice e)) (he : P.underlying e = some (.struct #[f0, f1, f2, f3, f4, f5])) (hone : oneCellFields P #[f0, f1, f2, f3, f4, f5] = true) (hC : P.cellsOf e = 6)
    (hf : f0.type = ti ∧ f1.type = ti ∧ f2.type = ti ∧ f3.type = ti ∧ f4.type = ti ∧ f5.type = ti) (hti : P.underlying ti = some (.int .i64))
    (h : DataW.trod enc P w 0 spare held fuel t [v] = some x) : ∃ A l c, v = .slice A (l : List InsD).length c ∧ l.length ≤ c ∧ InssAt w (Old w.heap.size) A l := by
  rcases open_slice ht h with ⟨hcs, _⟩ | ⟨a, len, cap, m, n, D, Pl, hcs, _, hl, hm, hmm, _, hi⟩
  · simp only [List.cons.injEq, and_true] at hcs
    exact ⟨none, [], 0, hcs, by simp, by simp, fun h => absurd h (by simp)⟩
  · simp only [List.cons.injEq, and_true] at hcs
    have hlm : len ≤ m := by rw [hmm]; split <;> omega
    unfold maxLen at hm
    have each : ∀ i, i < len → ∃ d : InsD, ∀ j v, [Value.int .i64 d.o, .int .i64 d.r, .int .i64 d.a, .int .i64 d.b, .int .i64 d.x, .int .i64 d.n][j]? = some v → w.cell? ((a.add (i * 6)).add j) = some v := by
      intro i hil
      obtain ⟨cs', hc, ht'⟩ := hi i (by omega)
      rw [hC] at hc
      obtain ⟨_, hcl, hat⟩ := World.cells?_some hc
      obtain ⟨ys, n', _, _, _, hyl, hfs⟩ := DataW.trod_struct he ht'
      match cs', hcl with
      | [c0, c1, c2, c3, c4, c5], _ =>
        obtain ⟨o0, k0⟩ := hone_of hone 0 f0 rfl
        obtain ⟨o1, k1⟩ := hone_of hone 1 f1 rfl
        obtain ⟨o2, k2⟩ := hone_of hone 2 f2 rfl
        obtain ⟨o3, k3⟩ := hone_of hone 3 f3 rfl
        obtain ⟨o4, k4⟩ := hone_of hone 4 f4 rfl
        obtain ⟨o5, k5⟩ := hone_of hone 5 f5 rfl
        match ys, hyl with
        | [y0, y1, y2, y3, y4, y5], _ =>
          have g0 := hfs 0 f0 rfl; rw [o0, k0, hf.1] at g0
          have g1 := hfs 1 f1 rfl; rw [o1, k1, hf.2.1] at g1
          have g2 := hfs 2 f2 rfl; rw [o2, k2, hf.2.2.1] at g2
          have g3 := hfs 3 f3 rfl; rw [o3, k3, hf.2.2.2.1] at g3
          have g4 := hfs 4 f4 rfl; rw [o4, k4, hf.2.2.2.2.1] at g4
          have g5 := hfs 5 f5 rfl; rw [o5, k5, hf.2.2.2.2.2] at g5
          obtain ⟨a0, t0, _, _⟩ := DataW.trod_int hti (x := y0) (by simpa using g0)
          obtain ⟨a1, t1, _, _⟩ := DataW.trod_int hti (x := y1) (by simpa using g1)
          obtain ⟨a2, t2, _, _⟩ := DataW.trod_int hti (x := y2) (by simpa using g2)
          obtain ⟨a3, t3, _, _⟩ := DataW.trod_int hti (x := y3) (by simpa using g3)
          obtain ⟨a4, t4, _, _⟩ := DataW.trod_int hti (x := y4) (by simpa using g4)
          obtain ⟨a5, t5, _, _⟩ := DataW.trod_int hti (x := y5) (by simpa using g5)
          simp only [List.cons.injEq, and_true] at t0 t1 t2 t3 t4 t5
          subst t0 t1 t2 t3 t4 t5
          refine ⟨⟨a0, a1, a2, a3, a4, a5⟩, fun j v hj => ?_⟩
          have hj6 : j < 6 := by
            have := (List.getElem?_eq_some_iff.1 hj).1
            simpa using this
          rw [hat j hj6]
          exact hj
    obtain ⟨l, hll, hlr⟩ := choose_list ins0 len _ each
    refine ⟨some a, l, cap, by rw [hll]; exact hcs, by omega, by omega, fun hp => ?_⟩
    rw [hll] at hp ⊢
    obtain ⟨b, off, rfl⟩ : ∃ b off, a = ⟨b, off, none⟩ := by
      have := hlr 0 hp 0 _ rfl
      simp only [Nat.zero_mul] at this
      exact spot_none (v := _) (by simpa [Addr.add] using this)
    have h0 := hlr 0 hp 0 _ rfl
    refine ⟨b, off, rfl, ?_, fun k hk => ?_⟩
    · have := cell_lt h0
      exact (by simpa [Addr.add] using this : b < w.heap.size)
    · have q := hlr k hk
      simp only [add_plain'] at q
      exact ⟨q 0 _ rfl, q 1 _ rfl, q 2 _ rfl, q 3 _ rfl, q 4 _ rfl, q 5 _ rfl⟩

theorem trod_threads {t e ts es ti : TypeId} {g f0 f1 f2 f3 f4 f5 : Field} {fuel : Nat} {v : Value} {x : DataW H × List MemPlace} (ht : P.underlying t = some (.slice e)) (he : P.underlying e = some (.struct #[g])) (hone1 : oneCellFields P #[g] = true) (hC1 : P.cellsOf e = 1) (hg : g.type = ts)
    (hts : P.underlying ts = some (.slice es)) (hes : P.underlying es = some (.struct #[f0, f1, f2, f3, f4, f5])) (hone : oneCellFields P #[f0, f1, f2, f3, f4, f5] = true) (hC : P.cellsOf es = 6)
    (hf : f0.type = ti ∧ f1.type = ti ∧ f2.type = ti ∧ f3.type = ti ∧ f4.type = ti ∧ f5.type = ti) (hti : P.underlying ti = some (.int .i64))
    (h : DataW.trod enc P w 0 spare held fuel t [v] = some x) : ∃ A l c, v = .slice A (l : List (List InsD)).length c ∧ l.length ≤ c ∧ ThreadsAt w (Old w.heap.size) A l := by
  rcases open_slice ht h with ⟨hcs, _⟩ | ⟨a, len, cap, m, n, D, Pl, hcs, _, hl, hm, hmm, _, hi⟩
  · simp only [List.cons.injEq, and_true] at hcs
    exact ⟨none, [], 0, hcs, by simp, by simp, fun h => absurd h (by simp)⟩
  · simp only [List.cons.injEq, and_true] at hcs
    have hlm : len ≤ m := by rw [hmm]; split <;> omega
    unfold maxLen at hm
    have each : ∀ i, i < len → ∃ l : List InsD, ∃ A' c', w.cell? (a.add i) = some (.slice A' l.length c') ∧ l.length ≤ c' ∧ InssAt w (Old w.heap.size) A' l := by
      intro i hil
      obtain ⟨cs', hc, ht'⟩ := hi i (by omega)
      rw [hC1, Nat.mul_one] at hc
      obtain ⟨_, hcl, hat⟩ := World.cells?_some hc
      obtain ⟨ys, n', _, _, _, hyl, hfs⟩ := DataW.trod_struct he ht'
      match cs', hcl with
      | [c0], _ =>
        obtain ⟨o0, k0⟩ := hone_of hone1 0 g rfl
        match ys, hyl with
        | [y0], _ =>
          have g0 := hfs 0 g rfl
          rw [o0, k0, hg] at g0
          obtain ⟨A', l, c', e1, e3, e2⟩ := trod_inss hts hes hone hC hf hti (x := y0) (by simpa using g0)
          refine ⟨l, A', c', ?_, e3, e2⟩
          have := hat 0 (by omega)
          simpa [Addr.add, e1] using this
    obtain ⟨l, hll, hlr⟩ := choose_list [] len _ each
    refine ⟨some a, l, cap, by rw [hll]; exact hcs, by omega, by omega, fun hp => ?_⟩
    rw [hll] at hp ⊢
    obtain ⟨A0, c0, h0, _⟩ := hlr 0 hp
    obtain ⟨b, off, rfl⟩ : ∃ b off, a = ⟨b, off, none⟩ := spot_none (v := _) (by simpa [Addr.add] using h0)
    refine ⟨b, off, rfl, ?_, fun k hk => ?_⟩
    · have := cell_lt h0
      exact (by simpa [Addr.add] using this : b < w.heap.size)
    · obtain ⟨A', c', q1, q3, q2⟩ := hlr k hk
      rw [add_plain'] at q1
      exact ⟨A', c', q1, q3, q2⟩
end

section
variable {H : Type} {enc : TypeId × Value → H} {P : Program} {w : World} {base : Nat} {spare : Nat → Bool} {held : Bool}
theorem open_agg1 {r : Reach} {b0 : Nat} {t : TypeId} {f0 : Field} {v : Value} {d : DataW H} {p : List MemPlace} (hs : P.underlying t = some (.struct #[f0])) (hone : oneCellFields P #[f0] = true) (hC : P.cellsOf t = 1)
    (hv : Value.okWide P w r b0 t v) (h : DataW.Trod enc P w base spare held t v d p) :
    ∃ (v0 : Value) (y0 : DataW H × List MemPlace) (n : Nat), v = .agg #[v0] ∧ DataW.trod enc P w base spare held n f0.type [v0] = some y0 := by
  obtain ⟨cs, rfl, hsz⟩ := okWide_struct hs hv
  obtain ⟨l⟩ := cs
  match l, hsz.trans hC with
  | [c0], _ =>
    obtain ⟨fuel, hf⟩ := h
    obtain ⟨xs, n, _, hx, _, hlen, hg⟩ := DataW.trod_struct hs hf
    obtain ⟨o0, k0⟩ := hone_of hone 0 f0 rfl
    match xs, hlen with
    | [y0], _ =>
      exact ⟨c0, y0, n, rfl, by simpa [Value.cells, o0, k0] using hg 0 f0 rfl⟩
end

section
variable {H : Type} {enc : TypeId × Value → H} {P : Program} {w : World} {spare : Nat → Bool} {held : Bool}
theorem trod_flat {t e ti : TypeId} {fs : Array Field} {k : Nat} {fuel : Nat} {v : Value} {x : DataW H × List MemPlace} (ht : P.underlying t = some (.slice e)) (he : P.underlying e = some (.struct fs)) (hone : oneCellFields P fs = true) (hC : P.cellsOf e = k) (hk0 : 0 < k)
    (hk : fs.size = k) (hf : ∀ (i : Nat) (f : Field), fs[i]? = some f → f.type = ti) (hti : P.underlying ti = some (.int .i64))
    (h : DataW.trod enc P w 0 spare held fuel t [v] = some x) : ∃ A n c, v = .slice A n c ∧ n ≤ c ∧ n ≤ 9223372036854775807 ∧ (n * k ≤ 9223372036854775807 → ∃ zs : List Int, zs.length = n * k ∧ IntsAt w (Old w.heap.size) A zs) := by
  rcases open_slice ht h with ⟨hcs, _⟩ | ⟨a, len, cap, m, n, D, Pl, hcs, _, hl, hm, hmm, _, hi⟩
  · simp only [List.cons.injEq, and_true] at hcs
    exact ⟨none, 0, 0, hcs, Nat.le_refl _, by omega, fun _ => ⟨[], by simp, by simp, fun h => absurd h (by simp)⟩⟩
  · simp only [List.cons.injEq, and_true] at hcs
    have hlm : len ≤ m := by rw [hmm]; split <;> omega
    unfold maxLen at hm
    have each : ∀ i, i < len → ∀ j, j < k → ∃ y : Int, w.cell? ((a.add (i * k)).add j) = some (.int .i64 y) := by
      intro i hil j hj
      obtain ⟨cs', hc, ht'⟩ := hi i (by omega)
      rw [hC] at hc
      obtain ⟨_, hcl, hat⟩ := World.cells?_some hc
      obtain ⟨ys, n', _, _, _, hyl, hfs⟩ := DataW.trod_struct he ht'
      obtain ⟨f, hfj⟩ : ∃ f, fs[j]? = some f := ⟨_, Array.getElem?_eq_getElem (by omega)⟩
      obtain ⟨o0, k0⟩ := hone_of hone j f hfj
      have g0 := hfs j f hfj
      rw [k0, o0, hf j f hfj] at g0
      obtain ⟨c0, hc0⟩ : ∃ c, cs'[j]? = some c := ⟨_, List.getElem?_eq_getElem (by omega)⟩
      have e0 : (cs'.drop j).take 1 = [c0] := by
        have hj2 : j < cs'.length := by omega
        rw [List.drop_eq_getElem_cons hj2, List.take_succ_cons, List.take_zero]
        rw [List.getElem?_eq_getElem hj2] at hc0
        cases hc0
        rfl
      rw [e0] at g0
      obtain ⟨y, hy⟩ : ∃ y, ys[j]? = some y := ⟨_, List.getElem?_eq_getElem (by omega)⟩
      rw [hy] at g0
      obtain ⟨a0, t0, _, _⟩ := DataW.trod_int hti g0
      simp only [List.cons.injEq, and_true] at t0
      subst t0
      exact ⟨a0, by rw [hat j hj]; exact hc0⟩
    obtain ⟨zs, hzl, hzr⟩ := choose_list (0 : Int) (len * k) (fun q y => w.cell? ((a.add (q / k * k)).add (q % k)) = some (.int .i64 y)) (fun q hq => each (q / k) ((Nat.div_lt_iff_lt_mul hk0).2 hq) (q % k) (Nat.mod_lt _ hk0))
    refine ⟨some a, len, cap, hcs, by omega, by omega, fun hlen => ⟨zs, hzl, by rw [hzl]; exact hlen, fun hp => ?_⟩⟩
    obtain ⟨b, off, rfl⟩ : ∃ b off, a = ⟨b, off, none⟩ := by
      have h0 := hzr 0 (by omega)
      simp only [Nat.zero_div, Nat.zero_mul, Nat.zero_mod] at h0
      exact spot_none (v := .int .i64 (zs.getD 0 0)) (by simpa [Addr.add] using h0)
    have hall : ∀ q, q < zs.length → w.cell? ⟨b, off + q, none⟩ = some (.int .i64 (geti zs q)) := fun q hq => by
      have h1 := hzr q (by omega)
      rw [add_plain', add_plain', Nat.add_assoc, Nat.div_add_mod'] at h1
      exact h1
    exact ⟨b, off, rfl, cell_lt (hall 0 hp), hall⟩
end
end Go.Proofs.Ytfkaacfeikmabaa
