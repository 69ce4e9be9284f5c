/- How histories lie in memory: rows of posts, rows of histories; what keeps them; how much they hold. For any world. -/
import Derived.Test.YtikfbhehnpogoaaMarks
namespace Go.Proofs.Ytikfbhehnpogoaa
open Go.RowKit

/-- A post: its number, its value, whether it is glue, its view. -/
structure PostD where
  id : Int
  val : Int
  glue : Bool
  view : List Int
def post0 : PostD := ⟨0, 0, false, []⟩
def getp (l : List PostD) (k : Nat) : PostD := l.getD k post0
def geth (l : List (List PostD)) (k : Nat) : List PostD := l.getD k []

/-- A post at an address. -/
def PostIn (w : World) (b off : Nat) (d : PostD) (V : Option Addr) (c : Nat) : Prop :=
  w.cell? ⟨b, off, none⟩ = some (.int .i64 d.id) ∧ w.cell? ⟨b, off + 1, none⟩ = some (.int .i64 d.val) ∧ w.cell? ⟨b, off + 2, none⟩ = some (.bool d.glue) ∧ w.cell? ⟨b, off + 3, none⟩ = some (.slice V d.view.length c)
/-- A row of posts in blocks of S. -/
def PostsAt (w : World) (S : Nat → Prop) (A : Option Addr) (l : List PostD) : Prop :=
  l.length ≤ 9223372036854775807 ∧ (0 < l.length → ∃ b off, A = some ⟨b, off, none⟩ ∧ S b ∧ ∀ k, k < l.length → ∃ V c, PostIn w b (off + k * 4) (getp l k) V c ∧ (getp l k).view.length ≤ c ∧ IntsAt w S V (getp l k).view)
/-- A row of histories in blocks of S. -/
def HistsAt (w : World) (S : Nat → Prop) (A : Option Addr) (hs : List (List PostD)) : Prop :=
  hs.length ≤ 9223372036854775807 ∧ (0 < hs.length → ∃ b off, A = some ⟨b, off, none⟩ ∧ S b ∧ ∀ k, k < hs.length → ∃ A' c', w.cell? ⟨b, off + k, none⟩ = some (.slice A' (geth hs k).length c') ∧ (geth hs k).length ≤ c' ∧ PostsAt w S A' (geth hs k))

section
variable {w w' : World} {S S' : Nat → Prop} {B : Nat} {A : Option Addr} {l : List PostD} {hs : List (List PostD)}
theorem PostsAt.keep (h : PostsAt w S A l) (hk : ∀ b o, S b → w'.cell? ⟨b, o, none⟩ = w.cell? ⟨b, o, none⟩) (hS : ∀ b, S b → S' b) : PostsAt w' S' A l :=
  ⟨h.1, fun hn => by
    obtain ⟨b, off, e, hb, hc⟩ := h.2 hn
    refine ⟨b, off, e, hS b hb, fun k hk' => ?_⟩
    obtain ⟨V, c, h1, h2, h3⟩ := hc k hk'
    exact ⟨V, c, ⟨(hk _ _ hb).trans h1.1, (hk _ _ hb).trans h1.2.1, (hk _ _ hb).trans h1.2.2.1, (hk _ _ hb).trans h1.2.2.2⟩, h2, h3.keep hk hS⟩⟩
theorem PostsAt.below (h : PostsAt w S A l) (hb : Below B w w') (hS : ∀ b, S b → b < B) : PostsAt w' S A l := h.keep (below_keep hb hS) (fun _ h => h)
theorem PostsAt.more (h : PostsAt w S A l) (hS : ∀ b, S b → S' b) : PostsAt w S' A l := h.keep (fun _ _ _ => rfl) hS
theorem PostsAt.set (h : PostsAt w S A l) {p : Addr} (u : Value) (hS : ¬ S p.block) : PostsAt (w.setCell p u) S A l := h.keep (set_keep u hS) (fun _ h => h)
theorem HistsAt.keep (h : HistsAt w S A hs) (hk : ∀ b o, S b → w'.cell? ⟨b, o, none⟩ = w.cell? ⟨b, o, none⟩) (hS : ∀ b, S b → S' b) : HistsAt w' S' A hs :=
  ⟨h.1, fun hn => by
    obtain ⟨b, off, e, hb, hc⟩ := h.2 hn
    refine ⟨b, off, e, hS b hb, fun k hk' => ?_⟩
    obtain ⟨A', c', h1, h3, h2⟩ := hc k hk'
    exact ⟨A', c', (hk b _ hb).trans h1, h3, h2.keep hk hS⟩⟩
theorem HistsAt.below (h : HistsAt w S A hs) (hb : Below B w w') (hS : ∀ b, S b → b < B) : HistsAt w' S A hs := h.keep (below_keep hb hS) (fun _ h => h)
theorem HistsAt.more (h : HistsAt w S A hs) (hS : ∀ b, S b → S' b) : HistsAt w S' A hs := h.keep (fun _ _ _ => rfl) hS
theorem HistsAt.set (h : HistsAt w S A hs) {p : Addr} (u : Value) (hS : ¬ S p.block) : HistsAt (w.setCell p u) S A hs := h.keep (set_keep u hS) (fun _ h => h)
end

/-- The sum of the first k of a row of sizes. -/
def sumTo (l : List Nat) (k : Nat) : Nat := (l.take k).sum
theorem sumTo_zero (l : List Nat) : sumTo l 0 = 0 := by simp [sumTo]
theorem sumTo_succ (l : List Nat) (k : Nat) (h : k < l.length) : sumTo l (k + 1) = sumTo l k + l.getD k 0 := by
  unfold sumTo
  rw [sum_take _ k h]
  simp [List.getD, List.getElem?_eq_getElem h]
theorem sumTo_le (l : List Nat) (k : Nat) : sumTo l k ≤ l.sum := sum_take_le l k
theorem sumTo_all (l : List Nat) : sumTo l l.length = l.sum := by unfold sumTo; rw [List.take_of_length_le (Nat.le_refl _)]

def viewLens (l : List PostD) : List Nat := l.map (fun d => d.view.length)
def postSize (l : List PostD) : Nat := l.length + (viewLens l).sum
def postLens (hs : List (List PostD)) : List Nat := hs.map postSize
def histSize (hs : List (List PostD)) : Nat := hs.length + (postLens hs).sum
theorem viewLens_len (l : List PostD) : (viewLens l).length = l.length := by simp [viewLens]
theorem viewLens_get (l : List PostD) (k : Nat) : (viewLens l).getD k 0 = (getp l k).view.length := by
  unfold viewLens getp
  rw [List.getD_eq_getElem?_getD, List.getD_eq_getElem?_getD, List.getElem?_map]
  cases l[k]? <;> rfl
theorem postLens_len (hs : List (List PostD)) : (postLens hs).length = hs.length := by simp [postLens]
theorem postLens_get (hs : List (List PostD)) (k : Nat) : (postLens hs).getD k 0 = postSize (geth hs k) := by
  unfold postLens geth
  rw [List.getD_eq_getElem?_getD, List.getD_eq_getElem?_getD, List.getElem?_map]
  cases hs[k]? <;> rfl
theorem view_le (l : List PostD) (k : Nat) (h : k < l.length) : (getp l k).view.length ≤ postSize l := by
  have h1 := sumTo_succ (viewLens l) k (by rw [viewLens_len]; exact h)
  have h2 := sumTo_le (viewLens l) (k + 1)
  rw [viewLens_get] at h1
  unfold postSize
  omega
theorem posts_le (hs : List (List PostD)) (k : Nat) (h : k < hs.length) : postSize (geth hs k) ≤ histSize hs := by
  have h1 := sumTo_succ (postLens hs) k (by rw [postLens_len]; exact h)
  have h2 := sumTo_le (postLens hs) (k + 1)
  rw [postLens_get] at h1
  unfold histSize
  omega

/-- A row of posts of its own: at the head of block q, its views at the heads of the blocks qs 0 < qs 1 < .., all from lo on and below hi. -/
structure PostsOwn (w : World) (lo hi q : Nat) (qs : Nat → Nat) (l : List PostD) : Prop where
  len : l.length ≤ 9223372036854775807
  row : ∃ cs, Blk w q 41 cs ∧ l.length * 4 ≤ cs.size ∧ ∀ k, k < l.length → ∃ c, (cs[k * 4]? = some (.int .i64 (getp l k).id) ∧ cs[k * 4 + 1]? = some (.int .i64 (getp l k).val) ∧ cs[k * 4 + 2]? = some (.bool (getp l k).glue) ∧ cs[k * 4 + 3]? = some (.slice (some ⟨qs k, 0, none⟩) (getp l k).view.length c)) ∧ (getp l k).view.length ≤ c
  views : ∀ k, k < l.length → RowB w (qs k) (getp l k).view ∧ (getp l k).view.length ≤ 9223372036854775807
  up : ∀ i j, i < j → j < l.length → qs i < qs j
  rng : (lo ≤ q ∧ q < hi) ∧ ∀ k, k < l.length → lo ≤ qs k ∧ qs k < hi
section
variable {w w' : World} {lo hi lo' hi' q : Nat} {qs : Nat → Nat} {l : List PostD}
theorem PostsOwn.at_ (h : PostsOwn w lo hi q qs l) : PostsAt w (New lo hi) (some ⟨q, 0, none⟩) l := by
  obtain ⟨cs, hb, -, hc⟩ := h.row
  refine ⟨h.len, fun _ => ⟨q, 0, rfl, h.rng.1, fun k hk => ?_⟩⟩
  obtain ⟨c, ⟨h1, h2, h3, h4⟩, h5⟩ := hc k hk
  refine ⟨some ⟨qs k, 0, none⟩, c, ⟨?_, ?_, ?_, ?_⟩, h5, ((h.views k hk).1.ints (h.views k hk).2).more (fun b e => by subst e; exact h.rng.2 k hk)⟩
  · rw [Nat.zero_add, hb.cell]; exact h1
  · rw [Nat.zero_add, hb.cell]; exact h2
  · rw [Nat.zero_add, hb.cell]; exact h3
  · rw [Nat.zero_add, hb.cell]; exact h4
theorem PostsOwn.keep (h : PostsOwn w lo hi q qs l) (hk : ∀ b, lo ≤ b → b < hi → b < w.heap.size → w'.heap[b]? = w.heap[b]?) : PostsOwn w' lo hi q qs l := by
  obtain ⟨cs, hb, h2, h3⟩ := h.row
  refine ⟨h.len, ⟨cs, (hk q h.rng.1.1 h.rng.1.2 hb.lt).trans hb, h2, h3⟩, fun k hkl => ⟨?_, (h.views k hkl).2⟩, h.up, h.rng⟩
  obtain ⟨ds, d1, d2⟩ := (h.views k hkl).1
  exact ⟨ds, (hk _ (h.rng.2 k hkl).1 (h.rng.2 k hkl).2 d1.lt).trans d1, d2⟩
theorem PostsOwn.next (h : PostsOwn w lo hi q qs l) (hb : Below w.heap.size w w') : PostsOwn w' lo hi q qs l := h.keep (fun b _ _ hl => hb.block b hl)
theorem PostsOwn.wide (h : PostsOwn w lo hi q qs l) (h1 : lo' ≤ lo) (h2 : hi ≤ hi') : PostsOwn w lo' hi' q qs l :=
  ⟨h.len, h.row, h.views, h.up, ⟨Nat.le_trans h1 h.rng.1.1, Nat.lt_of_lt_of_le h.rng.1.2 h2⟩, fun k hk => ⟨Nat.le_trans h1 (h.rng.2 k hk).1, Nat.lt_of_lt_of_le (h.rng.2 k hk).2 h2⟩⟩
end
/-- Of the blocks that were there none has changed but those from lo on and below hi. -/
structure Inn (lo hi : Nat) (w w' : World) : Prop where
  os : w'.os = w.os
  tape : w'.tape = w.tape
  output : w'.output = w.output
  size : w.heap.size ≤ w'.heap.size
  block : ∀ k, k < w.heap.size → ¬ (lo ≤ k ∧ k < hi) → w'.heap[k]? = w.heap[k]?
section
variable {w w' w'' : World} {lo hi lo' hi' g : Nat}
theorem Inn.refl (lo hi : Nat) (w : World) : Inn lo hi w w := ⟨rfl, rfl, rfl, Nat.le_refl _, fun _ _ _ => rfl⟩
theorem Inn.trans (h : Inn lo hi w w') (k : Inn lo hi w' w'') : Inn lo hi w w'' :=
  ⟨k.os.trans h.os, k.tape.trans h.tape, k.output.trans h.output, Nat.le_trans h.size k.size, fun i hi' hn => (k.block i (Nat.lt_of_lt_of_le hi' h.size) hn).trans (h.block i hi' hn)⟩
theorem Inn.of_only (h : Only g w w') (hg : lo ≤ g ∧ g < hi) : Inn lo hi w w' := ⟨h.os, h.tape, h.output, h.size, fun k hk hn => h.block k hk (fun e => hn (by rw [e]; exact hg))⟩
theorem Inn.of_below (h : Below w.heap.size w w') : Inn lo hi w w' := ⟨h.os, h.tape, h.output, h.size, fun k hk _ => h.block k hk⟩
theorem Inn.wide (h : Inn lo hi w w') (h1 : lo' ≤ lo) (h2 : hi ≤ hi') : Inn lo' hi' w w' := ⟨h.os, h.tape, h.output, h.size, fun k hk hn => h.block k hk (fun e => hn ⟨by omega, by omega⟩)⟩
theorem Inn.below (h : Inn lo hi w w') (hl : lo ≤ w.heap.size) : Below lo w w' := ⟨h.os, h.tape, h.output, h.size, fun k hk => h.block k (by omega) (fun e => by omega)⟩
end
end Go.Proofs.Ytikfbhehnpogoaa
