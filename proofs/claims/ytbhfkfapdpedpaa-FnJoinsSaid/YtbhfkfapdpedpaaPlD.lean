/- Where a post stands, what one may read and write, what two views know: plain functions. -/
import Derived.Test.YtbhfkfapdpedpaaHistD
namespace Go.Proofs.Ytbhfkfapdpedpaa
open Go.RowKit

/-- The numbers of the posts are ints; a row's numbers are. -/
def IdsWf (l : List PostD) : Prop := ∀ k, k < l.length → (Lit.int .i64 (getp l k).id).wf = true
def IntsWf (zs : List Int) : Prop := ∀ k, k < zs.length → (Lit.int .i64 (geti zs k)).wf = true
def idAt (l : List PostD) (k : Nat) : Int := (getp l k).id
/-- The place of the first post with that number; -1 where there is none. -/
def placeI (l : List PostD) (i : Int) : Int := match (List.range l.length).find? (fun k => idAt l k == i) with | some k => (k : Int) | none => -1
theorem place_miss {l : List PostD} {i : Int} (h : ∀ k, k < l.length → idAt l k ≠ i) : placeI l i = -1 := by
  have hf : (List.range l.length).find? (fun k => idAt l k == i) = none := by
    rw [List.find?_eq_none]
    intro k hk
    simpa using h k (by simpa using hk)
  unfold placeI
  rw [hf]
theorem place_hit {l : List PostD} {i : Int} {k : Nat} (hk : k < l.length) (hi : idAt l k = i) (h : ∀ j, j < k → idAt l j ≠ i) : placeI l i = k := by
  have hf : (List.range l.length).find? (fun k => idAt l k == i) = some k := by
    rw [List.find?_range_eq_some]
    exact ⟨by simpa using hi, by simpa using hk, fun j hj => by simpa using h j hj⟩
  unfold placeI
  rw [hf]
theorem place_cases (l : List PostD) (i : Int) : (placeI l i = -1 ∧ ∀ k, k < l.length → idAt l k ≠ i) ∨ ∃ k : Nat, placeI l i = k ∧ k < l.length ∧ idAt l k = i ∧ ∀ j, j < k → idAt l j ≠ i := by
  cases hf : (List.range l.length).find? (fun k => idAt l k == i) with
  | none =>
    rw [List.find?_eq_none] at hf
    have h : ∀ k, k < l.length → idAt l k ≠ i := fun k hk => by simpa using hf k (by simpa using hk)
    exact .inl ⟨place_miss h, h⟩
  | some k =>
    rw [List.find?_range_eq_some] at hf
    obtain ⟨h1, h2, h3⟩ := hf
    have h1' : idAt l k = i := by simpa using h1
    have h2' : k < l.length := by simpa using h2
    have h3' : ∀ j, j < k → idAt l j ≠ i := fun j hj => by simpa using h3 j hj
    exact .inr ⟨k, place_hit h2' h1' h3', h2', h1', h3'⟩
theorem place_range (l : List PostD) (i : Int) : -1 ≤ placeI l i ∧ placeI l i < l.length := by
  rcases place_cases l i with ⟨h, -⟩ | ⟨k, h, hk, -⟩ <;> omega

/-- a, a + 1 and so on, below n. -/
def fromTo (a n : Nat) : List Int := (List.range (n - a)).map (fun j => ((a + j : Nat) : Int))
theorem fromTo_len (a n : Nat) : (fromTo a n).length = n - a := by simp [fromTo]
theorem fromTo_self (a : Nat) : fromTo a a = [] := by simp [fromTo]
theorem fromTo_snoc {a n : Nat} (h : a ≤ n) : fromTo a (n + 1) = fromTo a n ++ [(n : Int)] := by
  unfold fromTo
  have e : n + 1 - a = (n - a) + 1 := by omega
  rw [e, List.range_succ, List.map_append]
  have e2 : a + (n - a) = n := by omega
  simp only [List.map_cons, List.map_nil, e2]

theorem fromTo_get {a n k : Nat} (h : k < n - a) : geti (fromTo a n) k = ((a + k : Nat) : Int) := by
  unfold geti fromTo
  rw [List.getD_eq_getElem?_getD, List.getElem?_map, List.getElem?_range h]
  rfl
/-- What one may read who knows of a post. -/
def readI (l : List PostD) (i : Int) : List Int := if placeI l i = -1 then [] else fromTo (placeI l i).toNat l.length
/-- May a post be put there? -/
def putB (l : List PostD) (k : Nat) : Bool := decide (l.length ≤ k) || !(getp l k).glue
/-- The places from a on, below n, at which a post may be put. -/
def putTo (l : List PostD) (a n : Nat) : List Int := ((List.range (n - a)).filter (fun j => putB l (a + j))).map (fun j => ((a + j : Nat) : Int))
theorem putTo_self (l : List PostD) (a : Nat) : putTo l a a = [] := by simp [putTo]
theorem putTo_yes {l : List PostD} {a n : Nat} (h : a ≤ n) (hp : putB l n = true) : putTo l a (n + 1) = putTo l a n ++ [(n : Int)] := by
  unfold putTo
  have e : n + 1 - a = (n - a) + 1 := by omega
  have e2 : a + (n - a) = n := by omega
  rw [e, List.range_succ, List.filter_append, List.map_append]
  have e3 : (List.filter (fun j => putB l (a + j)) [n - a]) = [n - a] := by simp [e2, hp]
  rw [e3, List.map_cons, List.map_nil, e2]
theorem putTo_no {l : List PostD} {a n : Nat} (h : a ≤ n) (hp : putB l n = false) : putTo l a (n + 1) = putTo l a n := by
  unfold putTo
  have e : n + 1 - a = (n - a) + 1 := by omega
  have e2 : a + (n - a) = n := by omega
  rw [e, List.range_succ, List.filter_append, List.map_append]
  simp [e2, hp]
theorem putTo_len (l : List PostD) (a n : Nat) : (putTo l a n).length ≤ n - a := by
  unfold putTo
  have h := List.length_filter_le (fun j => putB l (a + j)) (List.range (n - a))
  simpa using h
/-- Where one may write who knows of a post. -/
def writeI (l : List PostD) (i : Int) : List Int := if placeI l i = -1 then [] else putTo l ((placeI l i).toNat + 1) (l.length + 1)
theorem readI_len (l : List PostD) (i : Int) : (readI l i).length ≤ l.length := by
  unfold readI
  split
  · simp
  · rw [fromTo_len]; omega
theorem writeI_len (l : List PostD) (i : Int) : (writeI l i).length ≤ l.length := by
  unfold writeI
  split
  · simp
  · have := putTo_len l ((placeI l i).toNat + 1) (l.length + 1); omega

/-- Of two numbers that whose post stands further back. -/
def laterI (l : List PostD) (a b : Int) : Int := if placeI l b > placeI l a then b else a
/-- What two views know, of the first k cells. -/
def joinTo (hs : List (List PostD)) (a b : List Int) (k : Nat) : List Int := (List.range k).map (fun x => laterI (geth hs x) (geti a x) (geti b x))
theorem joinTo_len (hs : List (List PostD)) (a b : List Int) (k : Nat) : (joinTo hs a b k).length = k := by simp [joinTo]
theorem joinTo_zero (hs : List (List PostD)) (a b : List Int) : joinTo hs a b 0 = [] := by simp [joinTo]
theorem joinTo_succ (hs : List (List PostD)) (a b : List Int) (k : Nat) : joinTo hs a b (k + 1) = joinTo hs a b k ++ [laterI (geth hs k) (geti a k) (geti b k)] := by
  unfold joinTo
  rw [List.range_succ, List.map_append]
  rfl
theorem joinTo_get (hs : List (List PostD)) (a b : List Int) {k n : Nat} (h : k < n) : geti (joinTo hs a b n) k = laterI (geth hs k) (geti a k) (geti b k) := by
  unfold geti joinTo
  rw [List.getD_eq_getElem?_getD, List.getElem?_map, List.getElem?_range h]
  rfl
def joinI (hs : List (List PostD)) (a b : List Int) : List Int := if a.length = hs.length ∧ b.length = hs.length then joinTo hs a b hs.length else []
end Go.Proofs.Ytbhfkfapdpedpaa
