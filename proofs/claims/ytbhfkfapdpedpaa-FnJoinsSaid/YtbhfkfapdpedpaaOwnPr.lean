/- A program in the making: its rows, each in a block of its own. · The program in the making, its calls. -/
import Derived.Test.YtbhfkfapdpedpaaDThr
import Derived.Test.YtbhfkfapdpedpaaToP
namespace Go.Proofs.Ytbhfkfapdpedpaa
open Go.RowKit

def vat (vs : List Value) (k : Nat) : Value := vs.getD k undef

theorem own_lt {w : World} {B : Nat} {e : TypeId} {size : Nat} {v : Value} {n : Nat} {xs : List Value} (h : w.ownsRow B e size v n xs) {b : Nat} (hb : v.ownBlock = some b) : B ≤ b ∧ b < w.heap.size ∧ ∃ cur, w.heap[b]? = some (.cells cur e (0, 0)) := by
  rcases h.2 with ⟨rfl, _⟩ | ⟨q, cap, cur, rfl, hq, hh, _⟩
  · simp [Value.ownBlock] at hb
  · have : q = b := by simpa [Value.ownBlock] using hb
    subst this
    refine ⟨hq, ?_, cur, hh⟩
    rcases Nat.lt_or_ge q w.heap.size with hlt | hge
    · exact hlt
    · rw [Array.getElem?_eq_none hge] at hh; cases hh

/-- The two values own no block together. -/
theorem apart_type {w : World} {B B' : Nat} {e e' : TypeId} {s s' : Nat} {u v : Value} {n m : Nat} {xs ys : List Value} (h : w.ownsRow B e s u n xs) (k : w.ownsRow B' e' s' v m ys) (hne : e ≠ e') : Apart u v := fun b hu hv => by
  obtain ⟨_, _, cur, h1⟩ := own_lt h hu
  obtain ⟨_, _, cur', h2⟩ := own_lt k hv
  rw [h1] at h2
  cases h2
  exact hne rfl
theorem apart_new {w w' : World} {B B' : Nat} {e e' : TypeId} {s s' : Nat} {u v : Value} {n m : Nat} {xs ys : List Value} (h : w.ownsRow B e s u n xs) (k : w'.ownsRow B' e' s' v m ys) (hB : w.heap.size ≤ B') : Apart u v := fun b hu hv => by
  have := (own_lt h hu).2.1
  have := (own_lt k hv).1
  omega
theorem own_grown {w w1 : World} {B : Nat} {e : TypeId} {size : Nat} {u v : Value} {n : Nat} {xs : List Value} (h : w.ownsRow B e size u n xs) (hg : w.grownBy w1 v.ownBlock) (ha : Apart u v) : w1.ownsRow B e size u n xs := by
  refine ⟨h.1, h.2.imp id ?_⟩
  rintro ⟨q, cap, cur, rfl, hb, hh, rest⟩
  refine ⟨q, cap, cur, rfl, hb, ?_, rest⟩
  have hu : (Value.slice (some ⟨q, 0, none⟩) n cap).ownBlock = some q := rfl
  rw [hg.block q (own_lt h hu).2.1 (fun e => ha q hu e.symm), hh]

structure ProgOwn (w : World) (B : Nat) (zs : List Int) (v : Value) (ts : List (List InsD)) (vs : List Value) (tv : Value) : Prop where
  ints : w.ownsRow B 3 1 v zs.length (zs.map (Value.int .i64))
  rows : w.ownsRow B 118 1 tv ts.length vs
  thr : ∀ k, k < ts.length → w.ownsRow B 24 6 (vat vs k) (gett ts k).length (flat (gett ts k))
  apart : ∀ j k, j < k → k < ts.length → Apart (vat vs j) (vat vs k)

section
variable {w w1 : World} {B : Nat} {zs : List Int} {v tv : Value} {ts : List (List InsD)} {vs : List Value}
theorem ProgOwn.keep (h : ProgOwn w B zs v ts vs tv) (hk : ∀ b, B ≤ b → b < w.heap.size → w1.heap[b]? = w.heap[b]?) : ProgOwn w1 B zs v ts vs tv :=
  ⟨own_keep h.ints hk, own_keep h.rows hk, fun k hk' => own_keep (h.thr k hk') hk, h.apart⟩
theorem ProgOwn.base {B' : Nat} (h : ProgOwn w B zs v ts vs tv) (hB : B' ≤ B) : ProgOwn w B' zs v ts vs tv :=
  ⟨own_base h.ints hB, own_base h.rows hB, fun k hk' => own_base (h.thr k hk') hB, h.apart⟩
theorem ProgOwn.setCell (h : ProgOwn w B zs v ts vs tv) {p : Addr} (hp : p.block < B) (u : Value) : ProgOwn (w.setCell p u) B zs v ts vs tv :=
  h.keep (fun b hb _ => Below.heap_setCell w p u b (by omega))
theorem ProgOwn.len (h : ProgOwn w B zs v ts vs tv) : vs.length = ts.length := by simpa using h.rows.1
theorem ProgOwn.nil (w : World) (B : Nat) : ProgOwn w B [] (.slice none 0 0) [] [] (.slice none 0 0) :=
  ⟨⟨rfl, .inl ⟨rfl, rfl⟩⟩, ⟨rfl, .inl ⟨rfl, rfl⟩⟩, fun k hk => by simp at hk, fun j k _ hk => by simp at hk⟩
theorem ProgOwn.growInts (h : ProgOwn w B zs v ts vs tv) {x : Int} {v' : Value} {xs : List Value} (hxs : xs = zs.map (Value.int .i64) ++ [.int .i64 x]) (ho : w1.ownsRow B 3 1 v' (zs.length + 1) xs) (hg : w.grownBy w1 v.ownBlock) : ProgOwn w1 B (zs ++ [x]) v' ts vs tv :=
  ⟨by subst hxs; simpa using ho, own_grown h.rows hg (apart_type h.rows h.ints (by decide)), fun k hk => own_grown (h.thr k hk) hg (apart_type (h.thr k hk) h.ints (by decide)), h.apart⟩
theorem vat_append (vs : List Value) (u : Value) (k : Nat) : vat (vs ++ [u]) k = if k < vs.length then vat vs k else if k = vs.length then u else undef := by
  unfold vat
  rw [List.getD_eq_getElem?_getD, List.getD_eq_getElem?_getD, List.getElem?_append]
  split
  · rfl
  · next hk =>
    by_cases e : k = vs.length
    · subst e; simp
    · rw [if_neg e, List.getElem?_eq_none (by simp; omega)]; rfl
theorem gett_append (ts : List (List InsD)) (u : List InsD) (k : Nat) : gett (ts ++ [u]) k = if k < ts.length then gett ts k else if k = ts.length then u else [] := by
  unfold gett
  rw [List.getD_eq_getElem?_getD, List.getD_eq_getElem?_getD, List.getElem?_append]
  split
  · rfl
  · next hk =>
    by_cases e : k = ts.length
    · subst e; simp
    · rw [if_neg e, List.getElem?_eq_none (by simp; omega)]; rfl
theorem ProgOwn.growRows (h : ProgOwn w B zs v ts vs tv) {u tv' : Value} {l : List InsD} (hu : w.ownsRow B 24 6 u l.length (flat l)) (ha : ∀ k, k < ts.length → Apart (vat vs k) u) (ho : w1.ownsRow B 118 1 tv' (ts.length + 1) (vs ++ [u])) (hg : w.grownBy w1 tv.ownBlock) : ProgOwn w1 B zs v (ts ++ [l]) (vs ++ [u]) tv' := by
  have hl := h.len
  refine ⟨own_grown h.ints hg (apart_type h.ints h.rows (by decide)), by simpa using ho, fun k hk => ?_, fun j k hjk hk => ?_⟩
  · simp only [List.length_append, List.length_singleton] at hk
    rw [vat_append, gett_append, hl]
    by_cases e : k < ts.length
    · rw [if_pos e, if_pos e]
      exact own_grown (h.thr k e) hg (apart_type (h.thr k e) h.rows (by decide))
    · rw [if_neg e, if_neg e, if_pos (by omega), if_pos (by omega)]
      exact own_grown hu hg (apart_type hu h.rows (by decide))
  · simp only [List.length_append, List.length_singleton] at hk
    rw [vat_append, vat_append, hl]
    by_cases e : k < ts.length
    · rw [if_pos e, if_pos (by omega)]
      exact h.apart j k hjk e
    · rw [if_neg e, if_pos (show k = ts.length by omega), if_pos (show j < ts.length by omega)]
      exact ha j (by omega)
end
end Go.Proofs.Ytbhfkfapdpedpaa

namespace Go.Proofs.Ytbhfkfapdpedpaa
open Go.RowKit

attribute [local go_sem ↓] Go.wp_at_zero Go.wp_at_succ

theorem Try.infoThr : (Try.prog.info? 118).map (fun i => (i.zero, i.size, i.bytes)) = some (some (.agg #[.slice none 0 0]), 1, 24) := by kernel_rfl

theorem own_form {w : World} {B : Nat} {e : TypeId} {size : Nat} {v : Value} {n : Nat} {xs : List Value} (h : w.ownsRow B e size v n xs) : ∃ A c, v = .slice A n c ∧ n ≤ c := by
  rcases h.2 with ⟨rfl, rfl⟩ | ⟨q, cap, cur, rfl, _, _, hcap, _⟩
  · exact ⟨_, _, rfl, Nat.le_refl _⟩
  · exact ⟨_, _, rfl, hcap⟩

/-- A program in the making: its two slices in block T, its rows behind. -/
structure PrAt (g : Nat) (w0 : World) (T : Nat) (zs : List Int) (v : Value) (ts : List (List InsD)) (vs : List Value) (tv : Value) (w : World) : Prop where
  cur : Cur w g
  only : Only g w0 w
  blk : Blk w T 33 #[v, tv]
  own : ProgOwn w (T + 1) zs v ts vs tv
  lo : w0.heap.size + 1 = T
  out : ∃ u u', Blk w w0.heap.size 33 #[u, u']

section
variable {g T : Nat} {w0 w w' : World} {zs : List Int} {v tv : Value} {ts : List (List InsD)} {vs : List Value}
/-- What the walk reads. -/
def PrC (w : World) (T : Nat) (v tv : Value) : Prop := (w.cell? ⟨T, 0, none⟩ = some v ∧ w.cell? ⟨T, 1, none⟩ = some tv) ∧ (w.frozen? ⟨T, 0, none⟩ = false ∧ w.frozen? ⟨T, 1, none⟩ = false)
theorem PrAt.cells (h : PrAt g w0 T zs v ts vs tv w) : PrC w T v tv := ⟨⟨h.blk.cell 0, h.blk.cell 1⟩, h.blk.frozen 0, h.blk.frozen 1⟩
theorem PrAt.call (h : PrAt g w0 T zs v ts vs tv w) (hg : g < w0.heap.size) (hc : Cur w' g) (ho : Only g w w') : PrAt g w0 T zs v ts vs tv w' :=
  ⟨hc, h.only.trans ho, h.blk.only ho (by have := h.lo; omega), h.own.keep (fun b hb hlt => ho.block b hlt (by have := h.lo; omega)), h.lo, h.out.imp fun _ => Exists.imp fun _ k => k.only ho (by omega)⟩
theorem PrAt.drew (h : PrAt g w0 T zs v ts vs tv w) : PrAt g w0 T zs v ts vs tv w.drew := ⟨h.cur, h.only.drew, h.blk, ⟨h.own.ints, h.own.rows, h.own.thr, h.own.apart⟩, h.lo, h.out⟩
theorem PrAt.alloc (h : PrAt g w0 T zs v ts vs tv w) (o : Obj) : PrAt g w0 T zs v ts vs tv (w.alloc o) :=
  ⟨h.cur.alloc o, h.only.alloc o, h.blk.alloc o, h.own.keep (fun b _ hlt => Below.heap_alloc w o b hlt), h.lo, h.out.imp fun _ => Exists.imp fun _ k => k.alloc o⟩
theorem own_far {w : World} {B : Nat} {e : TypeId} {size : Nat} {v : Value} {n : Nat} {xs : List Value} (h : w.ownsRow B e size v n xs) {b : Nat} (hb : b < B) : some b ≠ v.ownBlock := fun e => by
  have := (own_lt h e.symm).1
  omega
theorem PrAt.grown (h : PrAt g w0 T zs v ts vs tv w) (hw : g < w0.heap.size) {w1 : World} {r : Value} (hr : ∀ b, b < T + 1 → some b ≠ r.ownBlock) (hgr : w.grownBy w1 r.ownBlock) {zs' : List Int} {v' tv' : Value} {ts' : List (List InsD)} {vs' : List Value}
    (ho : ProgOwn w1 (T + 1) zs' v' ts' vs' tv') (i : Nat) (u : Value) (hi : #[v, tv].setIfInBounds i u = #[v', tv']) : PrC w1 T v tv ∧ PrAt g w0 T zs' v' ts' vs' tv' (w1.setCell ⟨T, i, none⟩ u) := by
  have hT := h.blk.lt
  have hlo := h.lo
  have hB : Blk w1 T 33 #[v, tv] := (hgr.block T hT (hr T (by omega))).trans h.blk
  have hbel : Below (g + 1) w w1 := ⟨hgr.os, hgr.tape, hgr.output, hgr.size, fun k hk => hgr.block k (by omega) (hr k (by omega))⟩
  refine ⟨⟨⟨hB.cell 0, hB.cell 1⟩, hB.frozen 0, hB.frozen 1⟩, ⟨(h.cur.below hbel).setCell (by show g < T; omega) _, ?_, by have := hB.set_ i u; rwa [hi] at this, ?_, h.lo, h.out.imp fun _ => Exists.imp fun _ k => Blk.far ((hgr.block w0.heap.size (Blk.lt k) (hr _ (by omega))).trans k) (by show w0.heap.size ≠ T; omega) _⟩⟩
  · refine Only.setCell ?_ (.inr (by show w0.heap.size ≤ T; omega)) _
    have hz := h.only.size
    exact ⟨hgr.os.trans h.only.os, hgr.tape.trans h.only.tape, hgr.output.trans h.only.output, Nat.le_trans h.only.size hgr.size, fun k hk hk2 => (hgr.block k (by omega) (hr k (by omega))).trans (h.only.block k hk hk2)⟩
  · exact ho.keep (fun b hb _ => Below.heap_setCell w1 ⟨T, i, none⟩ u b (by show b ≠ T; omega))
theorem PrAt.growInts (h : PrAt g w0 T zs v ts vs tv w) (hw : g < w0.heap.size) {w1 : World} {v' : Value} {x : Int} {xs : List Value} (hxs : xs = zs.map (Value.int .i64) ++ [.int .i64 x]) (ho : w1.ownsRow (T + 1) 3 1 v' (zs.length + 1) xs) (hgr : w.grownBy w1 v.ownBlock) :
    PrC w1 T v tv ∧ PrAt g w0 T (zs ++ [x]) v' ts vs tv (w1.setCell ⟨T, 0, none⟩ v') :=
  h.grown hw (fun _ hb => own_far h.own.ints hb) hgr (h.own.growInts hxs ho hgr) 0 v' rfl
theorem PrAt.growRows (h : PrAt g w0 T zs v ts vs tv w) (hw : g < w0.heap.size) {w1 : World} {u tv' : Value} {l : List InsD} (hu : w.ownsRow (T + 1) 24 6 u l.length (flat l)) (ha : ∀ k, k < ts.length → Apart (vat vs k) u) (ho : w1.ownsRow (T + 1) 118 1 tv' (ts.length + 1) (vs ++ [u])) (hgr : w.grownBy w1 tv.ownBlock) :
    PrC w1 T v tv ∧ PrAt g w0 T zs v (ts ++ [l]) (vs ++ [u]) tv' (w1.setCell ⟨T, 1, none⟩ tv') :=
  h.grown hw (fun _ hb => own_far h.own.rows hb) hgr (h.own.growRows hu ha ho hgr) 1 tv' rfl

theorem l1Below_pr (n : Int) (hn : 1 ≤ n) (hn2 : n ≤ 100) (hg : g < w0.heap.size) (h : PrAt g w0 T zs v ts vs tv w) :
    Calls Try.prog 76 #[.pointer (some ⟨g, 0, none⟩), .int .i64 n] w fun e w' => ∃ x : Int, e = .returned (.int .i64 x) ∧ (0 ≤ x ∧ x < n) ∧ PrAt g w0 T zs v ts vs tv w' := by
  refine (l1Below_any g n w (by omega) (by omega) h.cur).mono ?_
  rintro e w' ⟨x, rfl, hx, hc, ho⟩
  exact ⟨x, rfl, belowP hx (by omega), h.call hg hc ho⟩
theorem l1Pick_pr (A : Option Addr) (xs : List Int) (hl : 0 < xs.length) (hl2 : xs.length ≤ 256) (c : Nat) (hg : g < w0.heap.size) (hin : IntsAt w (fun b => b < w.heap.size ∧ b ≠ g) A xs) (h : PrAt g w0 T zs v ts vs tv w) :
    Calls Try.prog 153 #[.pointer (some ⟨g, 0, none⟩), .slice A xs.length c] w fun e w' => ∃ x : Int, e = .returned (.int .i64 x) ∧ x ∈ xs ∧ PrAt g w0 T zs v ts vs tv w' ∧ PrC w' T v tv ∧ w.heap.size ≤ w'.heap.size := by
  refine (l1PickInt_any g A xs c w hl hl2 hin h.cur).mono ?_
  rintro e w' ⟨k, hk, rfl, hc, ho⟩
  have hh := h.call hg hc ho
  exact ⟨_, rfl, by simp [geti, List.getD_eq_getElem?_getD, List.getElem?_eq_getElem hk], hh, hh.cells, ho.size⟩
theorem l1thread_pr (cells most : Int) (hm : 1 ≤ most ∧ most ≤ 29) (hcl : 1 ≤ cells ∧ cells ≤ 6) (hg : g < w0.heap.size) (h : PrAt g w0 T zs v ts vs tv w) :
    Calls Try.prog 187 #[.pointer (some ⟨g, 0, none⟩), .int .i64 cells, .int .i64 most] w fun e w' => ∃ (A : Option Addr) (c : Nat) (l : List InsD), e = .returned (.agg #[.slice A l.length c]) ∧ (1 ≤ l.length ∧ (l.length : Int) ≤ most + 1) ∧ w'.ownsRow (T + 1) 24 6 (.slice A l.length c) l.length (flat l) ∧ (∀ d ∈ l, Small d) ∧ (∀ k, k < ts.length → Apart (vat vs k) (.slice A l.length c)) ∧ PrAt g w0 T zs v ts vs tv w' ∧ PrC w' T v tv ∧ w.heap.size ≤ w'.heap.size := by
  refine (l1thread_any g cells most w hm hcl h.cur).mono ?_
  rintro e w' ⟨u, l, rfl, hl, hu, hs, hc, ho⟩
  have hh := h.call hg hc ho
  obtain ⟨A, c, rfl, -, -⟩ := own_inss hu
  exact ⟨A, c, l, rfl, hl, own_base hu (by have := h.blk.lt; omega), hs, fun k hk => apart_new (h.own.thr k hk) hu (Nat.le_refl _), hh, hh.cells, ho.size⟩
end
end Go.Proofs.Ytbhfkfapdpedpaa
