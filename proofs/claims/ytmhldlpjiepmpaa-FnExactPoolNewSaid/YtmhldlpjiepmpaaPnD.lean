/- A new pool, plain; rows of zeros in memory. -/
import Derived.Test.YtmhldlpjiepmpaaPlD9
import Derived.Test.YtmhldlpjiepmpaaJbO
namespace Go.Proofs.Ytmhldlpjiepmpaa
open Go.RowKit

/-- A pool of jobs that nobody has begun, of k workers. -/
def newP (l : List JobD) (k : Nat) : PoolD := { js := l, dq := [0] :: List.replicate (k - 1) [], ran := List.replicate l.length false, dn := List.replicate l.length false, lf := List.replicate l.length 0, sm := List.replicate l.length 0, vl := List.replicate l.length 0 }
/-- What PoolNew answers. -/
def newR (l : List JobD) (k : Int) : PoolD × Bool := if jobsB l && workB k then (newP l k.toNat, true) else (pool0, false)
theorem newR_yes {l : List JobD} {k : Int} (h : jobsB l = true) (hk : workB k = true) : newR l k = (newP l k.toNat, true) := by
  unfold newR
  rw [h, hk]
  rfl
theorem newR_no {l : List JobD} {k : Int} (h : jobsB l = false ∨ workB k = false) : newR l k = (pool0, false) := by
  unfold newR
  rcases h with h | h
  · rw [h]; rfl
  · rw [h, Bool.and_false]; rfl
section
variable {w : World} {f : Nat → Nat} {l B q n : Nat}
theorem gB_false (n : Nat) {k : Nat} : gB (List.replicate n false) k = .bool false := by
  unfold gB getb
  rw [List.getD_eq_getElem?_getD, List.getElem?_replicate]
  split <;> rfl
theorem gI_zero (n : Nat) {k : Nat} : gI (List.replicate n 0) k = .int .i64 0 := by
  unfold gI geti
  rw [List.getD_eq_getElem?_getD, List.getElem?_replicate]
  split <;> rfl
theorem Sl.flags (h : Blk w q 4 (zrow #[.bool false] n)) (hf : f q = l) (hB : B ≤ q) (hn : n ≤ 1048576) : Sl 4 1 w f l B (.slice (some ⟨q, 0, none⟩) n n) n (gB (List.replicate n false)) :=
  .new h hf hB (by omega) (by rw [zrow_size1']; omega) (fun k hk => by rw [zrow_get1' _ _ _ (by omega), gB_false])
theorem Sl.zeros (h : Blk w q 3 (zrow #[.int .i64 0] n)) (hf : f q = l) (hB : B ≤ q) (hn : n ≤ 1048576) : Sl 3 1 w f l B (.slice (some ⟨q, 0, none⟩) n n) n (gI (List.replicate n 0)) :=
  .new h hf hB (by omega) (by rw [zrow_size1']; omega) (fun k hk => by rw [zrow_get1' _ _ _ (by omega), gI_zero])
theorem Sl.rows0 (h : Blk w q 35 (zrow #[.slice none 0 0] n)) (hf : f q = l) (hB : B ≤ q) (hn : n ≤ 1048576) : Sl 35 1 w f l B (.slice (some ⟨q, 0, none⟩) n n) n (fun _ => .slice none 0 0) :=
  .new h hf hB (by omega) (by rw [zrow_size1']; omega) (fun k hk => zrow_get1' _ _ _ (by omega))
/-- The rows of a new pool: the first worker has job 0. -/
theorem RowsO.first {w : World} {f : Nat → Nat} {B q k : Nat} (h : Sl 35 1 w f 2 B (.slice (some ⟨q, 0, none⟩) k k) k (fun _ => .slice none 0 0)) (hk : 1 ≤ k) (hB : B ≤ w.heap.size) :
    RowsO ((w.setCell ⟨q, 0, none⟩ (.slice (some ⟨w.heap.size, 0, none⟩) 1 1)).alloc (.cells #[.int .i64 0] 3)) (lab f w.heap.size 9) B (.slice (some ⟨q, 0, none⟩) k k) ([0] :: List.replicate (k - 1) []) (updV (fun _ => .slice none 0 0) 0 (.slice (some ⟨w.heap.size, 0, none⟩) 1 1)) := by
  have hl : ([0] :: List.replicate (k - 1) ([] : List Int)).length = k := by simp; omega
  have h1 := (h.set_ (k := 0) rfl (by omega) (.slice (some ⟨w.heap.size, 0, none⟩) 1 1)).congr (g' := updV (fun _ => .slice none 0 0) 0 (.slice (some ⟨w.heap.size, 0, none⟩) 1 1)) (fun j _ => rfl)
  have h2 := (h1.relab (f' := lab f w.heap.size 9) (fun b hb => lab_old (by simpa using hb))).next (below1 _ (.cells #[.int .i64 0] 3))
  have hN := Blk.new (w.setCell ⟨q, 0, none⟩ (.slice (some ⟨w.heap.size, 0, none⟩) 1 1)) 3 #[.int .i64 0]
  rw [show (w.setCell ⟨q, 0, none⟩ (.slice (some ⟨w.heap.size, 0, none⟩) 1 1)).heap.size = w.heap.size by simp] at hN
  refine ⟨?_, fun j hj => ?_⟩
  · rw [hl]
    exact h2
  · by_cases e : j = 0
    · subst e
      rw [updV_at]
      exact .new hN (lab_at _ _ _) hB (by show 1 ≤ _; omega) (by show 1 * 1 ≤ 1; omega) (fun i hi => by
        have h0 : i = 0 := by have : i < 1 := hi; omega
        subst h0
        rfl)
    · rw [updV_far e]
      have h0 : getq ([0] :: List.replicate (k - 1) []) j = [] := by
        obtain ⟨m, rfl⟩ : ∃ m, j = m + 1 := ⟨j - 1, by omega⟩
        unfold getq
        rw [List.getD_eq_getElem?_getD, List.getElem?_cons_succ, List.getElem?_replicate]
        split <;> rfl
      rw [h0]
      exact Sl.nil _ _ _ _ _ _ _
theorem Sl.onlyf {t : TypeId} {sz : Nat} {w w' : World} {f f' : Nat → Nat} {l B q n : Nat} {v : Value} {g : Nat → Value} (h : Sl t sz w f l B v n g) (hl : l ≠ 0) (hO : Only q w w') (hf : ∀ b, b < w.heap.size → f' b = f b) (h0 : f q = 0) : Sl t sz w' f' l B v n g :=
  (h.relab hf).keep (fun b hb _ hlt => hO.block b hlt (fun e => by rw [hf b hlt, e, h0] at hb; exact hl hb.symm))
theorem JobsO.onlyf {w w' : World} {f f' : Nat → Nat} {B q : Nat} {v : Value} {l : List JobD} {kv : Nat → Value} (h : JobsO w f B v l kv) (hO : Only q w w') (hf : ∀ b, b < w.heap.size → f' b = f b) (h0 : f q = 0) : JobsO w' f' B v l kv :=
  ⟨h.heads.onlyf (by omega) hO hf h0, fun k hk => (h.each k hk).onlyf (by omega) hO hf h0⟩
theorem RowsO.onlyf {w w' : World} {f f' : Nat → Nat} {B q : Nat} {v : Value} {rs : List (List Int)} {rv : Nat → Value} (h : RowsO w f B v rs rv) (hO : Only q w w') (hf : ∀ b, b < w.heap.size → f' b = f b) (h0 : f q = 0) : RowsO w' f' B v rs rv :=
  ⟨h.heads.onlyf (by omega) hO hf h0, fun k hk => (h.each k hk).onlyf (by omega) hO hf h0⟩
/-- A box of seven cells whose first m are told by g. -/
def Box7 (t : TypeId) (w : World) (q m : Nat) (g : Nat → Value) : Prop := ∃ cs, Blk w q t cs ∧ cs.size = 7 ∧ ∀ k, k < m → cs[k]? = some (g k)
theorem Box7.lt {t : TypeId} {w : World} {q m : Nat} {g : Nat → Value} (h : Box7 t w q m g) : q < w.heap.size := by obtain ⟨cs, h, _⟩ := h; exact h.lt
theorem Box7.any {t : TypeId} {w : World} {q m : Nat} {g : Nat → Value} (h : Box7 t w q m g) : ∀ c, c < 7 → (∃ u, w.cell? ⟨q, c, none⟩ = some u) ∧ w.frozen? ⟨q, c, none⟩ = false := by
  obtain ⟨cs, h, hs, _⟩ := h
  exact fun c hc => ⟨⟨cs[c], (h.cell c).trans (Array.getElem?_eq_getElem (by omega))⟩, h.frozen c⟩
theorem Box7.told {t : TypeId} {w : World} {q m : Nat} {g : Nat → Value} (h : Box7 t w q m g) {k : Nat} (hk : k < m) : w.cell? ⟨q, k, none⟩ = some (g k) := by
  obtain ⟨cs, h, _, hg⟩ := h
  exact (h.cell k).trans (hg k hk)
theorem Box7.alloc {t : TypeId} {w : World} {q m : Nat} {g : Nat → Value} (h : Box7 t w q m g) (o : Obj) : Box7 t (w.alloc o) q m g := by
  obtain ⟨cs, h, hs, hg⟩ := h
  exact ⟨cs, h.alloc o, hs, hg⟩
theorem Box7.set_ {t : TypeId} {w : World} {q m : Nat} {g : Nat → Value} (h : Box7 t w q m g) {c : Nat} (hc : m ≤ c) (u : Value) : Box7 t (w.setCell ⟨q, c, none⟩ u) q m g := by
  obtain ⟨cs, h, hs, hg⟩ := h
  exact ⟨_, h.set_ c u, by simpa using hs, fun k hk => by rw [Array.getElem?_setIfInBounds_ne (by omega)]; exact hg k hk⟩
/-- .. and the next ones, too. -/
theorem Box7.more {t : TypeId} {w : World} {q m m' : Nat} {g g' : Nat → Value} (h : Box7 t w q m g) (hn : ∀ k, k < m' → w.cell? ⟨q, k, none⟩ = some (g' k)) : Box7 t w q m' g' := by
  obtain ⟨cs, h, hs, _⟩ := h
  exact ⟨cs, h, hs, fun k hk => (h.cell k).symm.trans (hn k hk)⟩
theorem Box7.drew {t : TypeId} {w : World} {q m : Nat} {g : Nat → Value} (h : Box7 t w q m g) : Box7 t w.drew q m g := by
  obtain ⟨cs, h, hs, hg⟩ := h
  exact ⟨cs, h.below (Below.refl _ _).drew h.lt, hs, hg⟩
theorem Only.belowW {q W : Nat} {w w' : World} (h : Only q w w') (hW : W ≤ w.heap.size) (hq : W ≤ q) : Below W w w' := ⟨h.os, h.tape, h.output, h.size, fun k hk => h.block k (by omega) (by omega)⟩
end
end Go.Proofs.Ytmhldlpjiepmpaa
