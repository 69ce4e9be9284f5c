/- A program in the making: its rows, each in a block of its own. -/
import Derived.Test.YtbchiiggfhdnkaaDThr
namespace Go.Proofs.Ytbchiiggfhdnkaa
open Go.RowKit

def vat (vs : List Value) (k : Nat) : Value := vs.getD k undef

theorem own_lt {w : World} {B : Nat} {e : TypeId} {size : Nat} {v : Value} {n : Nat} {xs : List Value} (h : w.ownsRow B e size v n xs) {b : Nat} (hb : v.ownBlock = some b) : B ≤ b ∧ b < w.heap.size ∧ ∃ cur, w.heap[b]? = some (.cells cur e (0, 0)) := by
  rcases h.2 with ⟨rfl, _⟩ | ⟨q, cap, cur, rfl, hq, hh, _⟩
  · simp [Value.ownBlock] at hb
  · have : q = b := by simpa [Value.ownBlock] using hb
    subst this
    refine ⟨hq, ?_, cur, hh⟩
    rcases Nat.lt_or_ge q w.heap.size with hlt | hge
    · exact hlt
    · rw [Array.getElem?_eq_none hge] at hh; cases hh

/-- The two values own no block together. -/
def Apart (u v : Value) : Prop := ∀ b, u.ownBlock = some b → v.ownBlock ≠ some b
theorem Apart.symm {u v : Value} (h : Apart u v) : Apart v u := fun b hv hu => h b hu hv
theorem apart_type {w : World} {B B' : Nat} {e e' : TypeId} {s s' : Nat} {u v : Value} {n m : Nat} {xs ys : List Value} (h : w.ownsRow B e s u n xs) (k : w.ownsRow B' e' s' v m ys) (hne : e ≠ e') : Apart u v := fun b hu hv => by
  obtain ⟨_, _, cur, h1⟩ := own_lt h hu
  obtain ⟨_, _, cur', h2⟩ := own_lt k hv
  rw [h1] at h2
  cases h2
  exact hne rfl
theorem apart_new {w w' : World} {B B' : Nat} {e e' : TypeId} {s s' : Nat} {u v : Value} {n m : Nat} {xs ys : List Value} (h : w.ownsRow B e s u n xs) (k : w'.ownsRow B' e' s' v m ys) (hB : w.heap.size ≤ B') : Apart u v := fun b hu hv => by
  have := (own_lt h hu).2.1
  have := (own_lt k hv).1
  omega
theorem own_grown {w w1 : World} {B : Nat} {e : TypeId} {size : Nat} {u v : Value} {n : Nat} {xs : List Value} (h : w.ownsRow B e size u n xs) (hg : w.grownBy w1 v.ownBlock) (ha : Apart u v) : w1.ownsRow B e size u n xs := by
  refine ⟨h.1, h.2.imp id ?_⟩
  rintro ⟨q, cap, cur, rfl, hb, hh, rest⟩
  refine ⟨q, cap, cur, rfl, hb, ?_, rest⟩
  have hu : (Value.slice (some ⟨q, 0, none⟩) n cap).ownBlock = some q := rfl
  rw [hg.block q (own_lt h hu).2.1 (fun e => ha q hu e.symm), hh]

structure ProgOwn (w : World) (B : Nat) (zs : List Int) (v : Value) (ts : List (List InsD)) (vs : List Value) (tv : Value) : Prop where
  ints : w.ownsRow B 3 1 v zs.length (zs.map (Value.int .i64))
  rows : w.ownsRow B 100 1 tv ts.length vs
  thr : ∀ k, k < ts.length → w.ownsRow B 24 6 (vat vs k) (gett ts k).length (flat (gett ts k))
  apart : ∀ j k, j < k → k < ts.length → Apart (vat vs j) (vat vs k)

section
variable {w w1 : World} {B : Nat} {zs : List Int} {v tv : Value} {ts : List (List InsD)} {vs : List Value}
theorem ProgOwn.keep (h : ProgOwn w B zs v ts vs tv) (hk : ∀ b, B ≤ b → b < w.heap.size → w1.heap[b]? = w.heap[b]?) : ProgOwn w1 B zs v ts vs tv :=
  ⟨own_keep h.ints hk, own_keep h.rows hk, fun k hk' => own_keep (h.thr k hk') hk, h.apart⟩
theorem ProgOwn.base {B' : Nat} (h : ProgOwn w B zs v ts vs tv) (hB : B' ≤ B) : ProgOwn w B' zs v ts vs tv :=
  ⟨own_base h.ints hB, own_base h.rows hB, fun k hk' => own_base (h.thr k hk') hB, h.apart⟩
theorem ProgOwn.setCell (h : ProgOwn w B zs v ts vs tv) {p : Addr} (hp : p.block < B) (u : Value) : ProgOwn (w.setCell p u) B zs v ts vs tv :=
  h.keep (fun b hb _ => Below.heap_setCell w p u b (by omega))
theorem ProgOwn.len (h : ProgOwn w B zs v ts vs tv) : vs.length = ts.length := by simpa using h.rows.1
theorem ProgOwn.nil (w : World) (B : Nat) : ProgOwn w B [] (.slice none 0 0) [] [] (.slice none 0 0) :=
  ⟨⟨rfl, .inl ⟨rfl, rfl⟩⟩, ⟨rfl, .inl ⟨rfl, rfl⟩⟩, fun k hk => by simp at hk, fun j k _ hk => by simp at hk⟩
theorem ProgOwn.growInts (h : ProgOwn w B zs v ts vs tv) {x : Int} {v' : Value} {xs : List Value} (hxs : xs = zs.map (Value.int .i64) ++ [.int .i64 x]) (ho : w1.ownsRow B 3 1 v' (zs.length + 1) xs) (hg : w.grownBy w1 v.ownBlock) : ProgOwn w1 B (zs ++ [x]) v' ts vs tv :=
  ⟨by subst hxs; simpa using ho, own_grown h.rows hg (apart_type h.rows h.ints (by decide)), fun k hk => own_grown (h.thr k hk) hg (apart_type (h.thr k hk) h.ints (by decide)), h.apart⟩
theorem vat_append (vs : List Value) (u : Value) (k : Nat) : vat (vs ++ [u]) k = if k < vs.length then vat vs k else if k = vs.length then u else undef := by
  unfold vat
  rw [List.getD_eq_getElem?_getD, List.getD_eq_getElem?_getD, List.getElem?_append]
  split
  · rfl
  · next hk =>
    by_cases e : k = vs.length
    · subst e; simp
    · rw [if_neg e, List.getElem?_eq_none (by simp; omega)]; rfl
theorem gett_append (ts : List (List InsD)) (u : List InsD) (k : Nat) : gett (ts ++ [u]) k = if k < ts.length then gett ts k else if k = ts.length then u else [] := by
  unfold gett
  rw [List.getD_eq_getElem?_getD, List.getD_eq_getElem?_getD, List.getElem?_append]
  split
  · rfl
  · next hk =>
    by_cases e : k = ts.length
    · subst e; simp
    · rw [if_neg e, List.getElem?_eq_none (by simp; omega)]; rfl
theorem ProgOwn.growRows (h : ProgOwn w B zs v ts vs tv) {u tv' : Value} {l : List InsD} (hu : w.ownsRow B 24 6 u l.length (flat l)) (ha : ∀ k, k < ts.length → Apart (vat vs k) u) (ho : w1.ownsRow B 100 1 tv' (ts.length + 1) (vs ++ [u])) (hg : w.grownBy w1 tv.ownBlock) : ProgOwn w1 B zs v (ts ++ [l]) (vs ++ [u]) tv' := by
  have hl := h.len
  refine ⟨own_grown h.ints hg (apart_type h.ints h.rows (by decide)), by simpa using ho, fun k hk => ?_, fun j k hjk hk => ?_⟩
  · simp only [List.length_append, List.length_singleton] at hk
    rw [vat_append, gett_append, hl]
    by_cases e : k < ts.length
    · rw [if_pos e, if_pos e]
      exact own_grown (h.thr k e) hg (apart_type (h.thr k e) h.rows (by decide))
    · rw [if_neg e, if_neg e, if_pos (by omega), if_pos (by omega)]
      exact own_grown hu hg (apart_type hu h.rows (by decide))
  · simp only [List.length_append, List.length_singleton] at hk
    rw [vat_append, vat_append, hl]
    by_cases e : k < ts.length
    · rw [if_pos e, if_pos (by omega)]
      exact h.apart j k hjk e
    · rw [if_neg e, if_pos (show k = ts.length by omega), if_pos (show j < ts.length by omega)]
      exact ha j (by omega)
end
end Go.Proofs.Ytbchiiggfhdnkaa
