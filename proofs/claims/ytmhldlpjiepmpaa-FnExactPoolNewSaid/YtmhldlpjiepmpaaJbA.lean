/- How jobs lie in memory; rows of numbers that are told by a function. -/
import Derived.Test.YtmhldlpjiepmpaaJbD
import Derived.Test.YtmhldlpjiepmpaaExD
namespace Go.Proofs.Ytmhldlpjiepmpaa
open Go.RowKit

/-- A job at an address; its kids in blocks of S. -/
def JobIn (w : World) (S : Nat → Prop) (b off : Nat) (j : JobD) : Prop :=
  w.cell? ⟨b, off, none⟩ = some (.int .i64 j.v) ∧ ∃ A c, w.cell? ⟨b, off + 1, none⟩ = some (.slice A j.ks.length c) ∧ j.ks.length ≤ c ∧ IntsAt w S A j.ks
/-- A row of jobs in blocks of S. -/
def JobsAt (w : World) (S : Nat → Prop) (A : Option Addr) (l : List JobD) : Prop :=
  l.length ≤ 9223372036854775807 ∧ (0 < l.length → ∃ b off, A = some ⟨b, off, none⟩ ∧ S b ∧ ∀ k, k < l.length → JobIn w S b (off + k * 2) (getj l k))
section
variable {w w' : World} {S S' : Nat → Prop} {B b off : Nat} {A : Option Addr} {j : JobD} {l : List JobD}
theorem JobIn.keep (h : JobIn w S b off j) (hb : S b) (hk : ∀ b o, S b → w'.cell? ⟨b, o, none⟩ = w.cell? ⟨b, o, none⟩) (hS : ∀ b, S b → S' b) : JobIn w' S' b off j := by
  obtain ⟨h1, A, c, h2, h3, h4⟩ := h
  exact ⟨(hk b _ hb).trans h1, A, c, (hk b _ hb).trans h2, h3, h4.keep hk hS⟩
theorem JobsAt.keep (h : JobsAt w S A l) (hk : ∀ b o, S b → w'.cell? ⟨b, o, none⟩ = w.cell? ⟨b, o, none⟩) (hS : ∀ b, S b → S' b) : JobsAt w' S' A l :=
  ⟨h.1, fun hn => by
    obtain ⟨b, off, e, hb, hc⟩ := h.2 hn
    exact ⟨b, off, e, hS b hb, fun k hk' => (hc k hk').keep hb hk hS⟩⟩
theorem JobsAt.below (h : JobsAt w S A l) (hb : Below B w w') (hS : ∀ b, S b → b < B) : JobsAt w' S A l := h.keep (below_keep hb hS) (fun _ h => h)
theorem JobsAt.more (h : JobsAt w S A l) (hS : ∀ b, S b → S' b) : JobsAt w S' A l := h.keep (fun _ _ _ => rfl) hS
theorem JobsAt.next (h : JobsAt w S A l) (hS : ∀ b, S b → b < w.heap.size) (hb : Below w.heap.size w w') : JobsAt w' S A l := h.below hb hS
/-- A job of the row: its cells. -/
theorem JobsAt.at_ (h : JobsAt w S A l) {k : Nat} (hk : k < l.length) : ∃ b off, A = some ⟨b, off, none⟩ ∧ S b ∧ w.cell? ⟨b, off + k * 2, none⟩ = some (.int .i64 (getj l k).v) ∧ ∃ A' c', w.cell? ⟨b, off + k * 2 + 1, none⟩ = some (.slice A' (getj l k).ks.length c') ∧ (getj l k).ks.length ≤ c' ∧ IntsAt w S A' (getj l k).ks := by
  obtain ⟨b, off, e, hb, hc⟩ := h.2 (by omega)
  obtain ⟨h1, A', c', h2, h3, h4⟩ := hc k hk
  exact ⟨b, off, e, hb, h1, A', c', h2, h3, h4⟩
theorem IntsAt.at_ {zs : List Int} (h : IntsAt w S A zs) {k : Nat} (hk : k < zs.length) : ∃ b off, A = some ⟨b, off, none⟩ ∧ S b ∧ w.cell? ⟨b, off + k, none⟩ = some (.int .i64 (geti zs k)) := by
  obtain ⟨b, off, e, hb, hc⟩ := h.2 (by omega)
  exact ⟨b, off, e, hb, hc k hk⟩
end

theorem zrow_get1 (z : Value) (n m : Nat) (h : m < n) : (zrow #[z] n)[m]? = some z := by
  simp [zrow, madeCells, h, Nat.mod_one]

/-- A row of n numbers at the head of block q, told by a function. -/
def FnAt (w : World) (q n : Nat) (f : Nat → Int) : Prop := ∃ cs, Blk w q 3 cs ∧ cs.size = n ∧ ∀ m, m < n → cs[m]? = some (.int .i64 (f m))
def upd (f : Nat → Int) (k : Nat) (v : Int) : Nat → Int := fun m => if m = k then v else f m
section
variable {w w' : World} {q n g k : Nat} {f : Nat → Int}
theorem FnAt.lt (h : FnAt w q n f) : q < w.heap.size := by obtain ⟨_, h, _⟩ := h; exact h.lt
theorem FnAt.below {B : Nat} (h : FnAt w q n f) (hb : Below B w w') (hq : q < B) : FnAt w' q n f := by obtain ⟨cs, h1, h2⟩ := h; exact ⟨cs, h1.below hb hq, h2⟩
theorem FnAt.next (h : FnAt w q n f) (hb : Below w.heap.size w w') : FnAt w' q n f := h.below hb h.lt
theorem FnAt.only (h : FnAt w q n f) (ho : Only g w w') (hg : q ≠ g) : FnAt w' q n f := by obtain ⟨cs, h1, h2⟩ := h; exact ⟨cs, h1.only ho hg, h2⟩
theorem FnAt.far (h : FnAt w q n f) {p : Addr} (hp : q ≠ p.block) (u : Value) : FnAt (w.setCell p u) q n f := by obtain ⟨cs, h1, h2⟩ := h; exact ⟨cs, h1.far hp u, h2⟩
theorem FnAt.cell (h : FnAt w q n f) (hk : k < n) : w.cell? ⟨q, k, none⟩ = some (.int .i64 (f k)) ∧ w.frozen? ⟨q, k, none⟩ = false := by
  obtain ⟨cs, h1, h2, h3⟩ := h
  exact ⟨(h1.cell k).trans (h3 k hk), h1.frozen k⟩
theorem FnAt.set_ (h : FnAt w q n f) (hk : k < n) (v : Int) : FnAt (w.setCell ⟨q, k, none⟩ (.int .i64 v)) q n (upd f k v) := by
  obtain ⟨cs, h1, h2, h3⟩ := h
  refine ⟨cs.setIfInBounds k (.int .i64 v), h1.set_ _ _, by simpa using h2, fun m hm => ?_⟩
  rw [Array.getElem?_setIfInBounds]
  unfold upd
  by_cases e : k = m
  · subst e; rw [if_pos rfl, if_pos (by omega), if_pos rfl]
  · rw [if_neg e, if_neg (fun h => e h.symm)]; exact h3 m hm
theorem FnAt.congr {f' : Nat → Int} (h : FnAt w q n f) (hf : ∀ m, m < n → f' m = f m) : FnAt w q n f' := by
  obtain ⟨cs, h1, h2, h3⟩ := h
  exact ⟨cs, h1, h2, fun m hm => by rw [hf m hm]; exact h3 m hm⟩
theorem FnAt.zero (w : World) (n : Nat) : FnAt (w.alloc (.cells (zrow #[.int .i64 0] n) 3)) w.heap.size n (fun _ => 0) :=
  ⟨_, Blk.new _ _ _, zrow_size1 _ _, fun _ hm => zrow_get1 _ _ _ hm⟩
theorem FnAt.ints (h : FnAt w q n f) (hn : n ≤ 1048576) {S : Nat → Prop} (hS : S q) : IntsAt w S (some ⟨q, 0, none⟩) ((List.range n).map f) := by
  refine ⟨by simp; omega, fun _ => ⟨q, 0, rfl, hS, fun k hk => ?_⟩⟩
  have hk' : k < n := by simpa using hk
  rw [Nat.zero_add, (h.cell hk').1]
  simp [geti, List.getD_eq_getElem?_getD, hk']
end
end Go.Proofs.Ytmhldlpjiepmpaa
