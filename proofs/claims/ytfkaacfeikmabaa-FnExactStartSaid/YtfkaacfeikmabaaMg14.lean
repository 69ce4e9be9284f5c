/- Where a post stands, what one may read and write, what two views know: plain functions. · Which cell's history has a post: the table of owners; when histories and views are right: plain lists. · laws.Hist and a row of them, opened. -/
import Derived.Test.YtfkaacfeikmabaaMg3
import Derived.Test.YtfkaacfeikmabaaMg13
namespace Go.Proofs.Ytfkaacfeikmabaa
open Go.RowKit

/-- The numbers of the posts are ints; a row's numbers are. -/
def IdsWf (l : List PostD) : Prop := ∀ k, k < l.length → (Lit.int .i64 (getp l k).id).wf = true
def idAt (l : List PostD) (k : Nat) : Int := (getp l k).id
/-- The place of the first post with that number; -1 where there is none. -/
def placeI (l : List PostD) (i : Int) : Int := match (List.range l.length).find? (fun k => idAt l k == i) with | some k => (k : Int) | none => -1
theorem place_miss {l : List PostD} {i : Int} (h : ∀ k, k < l.length → idAt l k ≠ i) : placeI l i = -1 := by
  have hf : (List.range l.length).find? (fun k => idAt l k == i) = none := by
    rw [List.find?_eq_none]
    intro k hk
    simpa using h k (by simpa using hk)
  unfold placeI
  rw [hf]
theorem place_hit {l : List PostD} {i : Int} {k : Nat} (hk : k < l.length) (hi : idAt l k = i) (h : ∀ j, j < k → idAt l j ≠ i) : placeI l i = k := by
  have hf : (List.range l.length).find? (fun k => idAt l k == i) = some k := by
    rw [List.find?_range_eq_some]
    exact ⟨by simpa using hi, by simpa using hk, fun j hj => by simpa using h j hj⟩
  unfold placeI
  rw [hf]
theorem place_cases (l : List PostD) (i : Int) : (placeI l i = -1 ∧ ∀ k, k < l.length → idAt l k ≠ i) ∨ ∃ k : Nat, placeI l i = k ∧ k < l.length ∧ idAt l k = i ∧ ∀ j, j < k → idAt l j ≠ i := by
  cases hf : (List.range l.length).find? (fun k => idAt l k == i) with
  | none =>
    rw [List.find?_eq_none] at hf
    have h : ∀ k, k < l.length → idAt l k ≠ i := fun k hk => by simpa using hf k (by simpa using hk)
    exact .inl ⟨place_miss h, h⟩
  | some k =>
    rw [List.find?_range_eq_some] at hf
    obtain ⟨h1, h2, h3⟩ := hf
    have h1' : idAt l k = i := by simpa using h1
    have h2' : k < l.length := by simpa using h2
    have h3' : ∀ j, j < k → idAt l j ≠ i := fun j hj => by simpa using h3 j hj
    exact .inr ⟨k, place_hit h2' h1' h3', h2', h1', h3'⟩
theorem place_range (l : List PostD) (i : Int) : -1 ≤ placeI l i ∧ placeI l i < l.length := by
  rcases place_cases l i with ⟨h, -⟩ | ⟨k, h, hk, -⟩ <;> omega

/-- a, a + 1 and so on, below n. -/
def fromTo (a n : Nat) : List Int := (List.range (n - a)).map (fun j => ((a + j : Nat) : Int))
theorem fromTo_len (a n : Nat) : (fromTo a n).length = n - a := by simp [fromTo]
theorem fromTo_self (a : Nat) : fromTo a a = [] := by simp [fromTo]
theorem fromTo_snoc {a n : Nat} (h : a ≤ n) : fromTo a (n + 1) = fromTo a n ++ [(n : Int)] := by
  unfold fromTo
  have e : n + 1 - a = (n - a) + 1 := by omega
  rw [e, List.range_succ, List.map_append]
  have e2 : a + (n - a) = n := by omega
  simp only [List.map_cons, List.map_nil, e2]

theorem fromTo_get {a n k : Nat} (h : k < n - a) : geti (fromTo a n) k = ((a + k : Nat) : Int) := by
  unfold geti fromTo
  rw [List.getD_eq_getElem?_getD, List.getElem?_map, List.getElem?_range h]
  rfl
/-- What one may read who knows of a post. -/
def readI (l : List PostD) (i : Int) : List Int := if placeI l i = -1 then [] else fromTo (placeI l i).toNat l.length
/-- May a post be put there? -/
def putB (l : List PostD) (k : Nat) : Bool := decide (l.length ≤ k) || !(getp l k).glue
/-- The places from a on, below n, at which a post may be put. -/
def putTo (l : List PostD) (a n : Nat) : List Int := ((List.range (n - a)).filter (fun j => putB l (a + j))).map (fun j => ((a + j : Nat) : Int))
theorem putTo_self (l : List PostD) (a : Nat) : putTo l a a = [] := by simp [putTo]
theorem putTo_yes {l : List PostD} {a n : Nat} (h : a ≤ n) (hp : putB l n = true) : putTo l a (n + 1) = putTo l a n ++ [(n : Int)] := by
  unfold putTo
  have e : n + 1 - a = (n - a) + 1 := by omega
  have e2 : a + (n - a) = n := by omega
  rw [e, List.range_succ, List.filter_append, List.map_append]
  have e3 : (List.filter (fun j => putB l (a + j)) [n - a]) = [n - a] := by simp [e2, hp]
  rw [e3, List.map_cons, List.map_nil, e2]
theorem putTo_no {l : List PostD} {a n : Nat} (h : a ≤ n) (hp : putB l n = false) : putTo l a (n + 1) = putTo l a n := by
  unfold putTo
  have e : n + 1 - a = (n - a) + 1 := by omega
  have e2 : a + (n - a) = n := by omega
  rw [e, List.range_succ, List.filter_append, List.map_append]
  simp [e2, hp]
theorem putTo_len (l : List PostD) (a n : Nat) : (putTo l a n).length ≤ n - a := by
  unfold putTo
  have h := List.length_filter_le (fun j => putB l (a + j)) (List.range (n - a))
  simpa using h
/-- Where one may write who knows of a post. -/
def writeI (l : List PostD) (i : Int) : List Int := if placeI l i = -1 then [] else putTo l ((placeI l i).toNat + 1) (l.length + 1)
theorem readI_len (l : List PostD) (i : Int) : (readI l i).length ≤ l.length := by
  unfold readI
  split
  · simp
  · rw [fromTo_len]; omega
theorem writeI_len (l : List PostD) (i : Int) : (writeI l i).length ≤ l.length := by
  unfold writeI
  split
  · simp
  · have := putTo_len l ((placeI l i).toNat + 1) (l.length + 1); omega

/-- Of two numbers that whose post stands further back. -/
def laterI (l : List PostD) (a b : Int) : Int := if placeI l b > placeI l a then b else a
/-- What two views know, of the first k cells. -/
def joinTo (hs : List (List PostD)) (a b : List Int) (k : Nat) : List Int := (List.range k).map (fun x => laterI (geth hs x) (geti a x) (geti b x))
theorem joinTo_len (hs : List (List PostD)) (a b : List Int) (k : Nat) : (joinTo hs a b k).length = k := by simp [joinTo]
theorem joinTo_zero (hs : List (List PostD)) (a b : List Int) : joinTo hs a b 0 = [] := by simp [joinTo]
theorem joinTo_succ (hs : List (List PostD)) (a b : List Int) (k : Nat) : joinTo hs a b (k + 1) = joinTo hs a b k ++ [laterI (geth hs k) (geti a k) (geti b k)] := by
  unfold joinTo
  rw [List.range_succ, List.map_append]
  rfl
theorem joinTo_get (hs : List (List PostD)) (a b : List Int) {k n : Nat} (h : k < n) : geti (joinTo hs a b n) k = laterI (geth hs k) (geti a k) (geti b k) := by
  unfold geti joinTo
  rw [List.getD_eq_getElem?_getD, List.getElem?_map, List.getElem?_range h]
  rfl
def joinI (hs : List (List PostD)) (a b : List Int) : List Int := if a.length = hs.length ∧ b.length = hs.length then joinTo hs a b hs.length else []
end Go.Proofs.Ytfkaacfeikmabaa

namespace Go.Proofs.Ytfkaacfeikmabaa
open Go.RowKit

def cellO (os : List Int) (i : Int) : Int := if i < 0 ∨ (os.length : Int) ≤ i then -1 else geti os i.toNat
/-- One post more in the table; none if its number is none below the table's length, or stands already. -/
def ownStep (x : Nat) (os : List Int) (d : PostD) : Option (List Int) := if d.id < 0 ∨ (os.length : Int) ≤ d.id ∨ geti os d.id.toNat ≠ -1 then none else some (os.set d.id.toNat x)
def ownTo (x : Nat) (l : List PostD) (os : List Int) : Nat → Option (List Int)
  | 0 => some os
  | k + 1 => (ownTo x l os k).bind (fun o => ownStep x o (getp l k))
def headB (l : List PostD) : Bool := decide (0 < l.length) && !(getp l 0).glue
def ownAll (next : Nat) (hs : List (List PostD)) : Nat → Option (List Int)
  | 0 => some (List.replicate next (-1))
  | x + 1 => (ownAll next hs x).bind (fun o => if headB (geth hs x) then ownTo x (geth hs x) o (geth hs x).length else none)
theorem ownTo_none {x : Nat} {l : List PostD} {os : List Int} {k m : Nat} (h : ownTo x l os k = none) (hm : k ≤ m) : ownTo x l os m = none := by
  induction m with
  | zero => obtain rfl : k = 0 := by omega
            exact h
  | succ m ih =>
    rcases Nat.lt_or_ge m k with hlt | hge
    · obtain rfl : k = m + 1 := by omega
      exact h
    · rw [ownTo, ih hge]; rfl
theorem ownAll_none {next : Nat} {hs : List (List PostD)} {k m : Nat} (h : ownAll next hs k = none) (hm : k ≤ m) : ownAll next hs m = none := by
  induction m with
  | zero => obtain rfl : k = 0 := by omega
            exact h
  | succ m ih =>
    rcases Nat.lt_or_ge m k with hlt | hge
    · obtain rfl : k = m + 1 := by omega
      exact h
    · rw [ownAll, ih hge]; rfl
theorem ownStep_len {x : Nat} {os os' : List Int} {d : PostD} (h : ownStep x os d = some os') : os'.length = os.length := by
  unfold ownStep at h
  split at h
  · cases h
  · cases h; simp
theorem ownTo_len {x : Nat} {l : List PostD} {os os' : List Int} {k : Nat} (h : ownTo x l os k = some os') : os'.length = os.length := by
  induction k generalizing os' with
  | zero => cases h; rfl
  | succ k ih =>
    rw [ownTo, Option.bind_eq_some_iff] at h
    obtain ⟨o, h1, h2⟩ := h
    rw [ownStep_len h2, ih h1]
theorem ownAll_len {next : Nat} {hs : List (List PostD)} {os : List Int} {k : Nat} (h : ownAll next hs k = some os) : os.length = next := by
  induction k generalizing os with
  | zero => cases h; simp
  | succ k ih =>
    rw [ownAll, Option.bind_eq_some_iff] at h
    obtain ⟨o, h1, h2⟩ := h
    split at h2
    · rw [ownTo_len h2, ih h1]
    · cases h2

/-- Does the number stand among the first k posts? -/
def Occ (l : List PostD) (k : Nat) (i : Int) : Prop := ∃ j, j < k ∧ idAt l j = i
theorem occ_place {l : List PostD} {i : Int} : Occ l l.length i ↔ 0 ≤ placeI l i := by
  rcases place_cases l i with ⟨h, h2⟩ | ⟨k, h, hk, h3, -⟩
  · rw [h]
    exact ⟨fun ⟨j, hj, e⟩ => absurd e (h2 j hj), fun h => by omega⟩
  · rw [h]
    exact ⟨fun _ => by omega, fun _ => ⟨k, hk, h3⟩⟩
theorem geti_set' {os : List Int} {n : Nat} {v : Int} (hn : n < os.length) (i : Nat) : geti (os.set n v) i = if i = n then v else geti os i := by
  unfold geti
  rw [List.getD_eq_getElem?_getD, List.getD_eq_getElem?_getD, List.getElem?_set]
  by_cases e : i = n
  · subst e; simp [hn]
  · rw [if_neg (fun h => e h.symm), if_neg e]
/-- What the table says behind the first k posts of history x. -/
structure OwnI (hs : List (List PostD)) (next x k : Nat) (os : List Int) : Prop where
  len : os.length = next
  iff : ∀ i : Nat, i < next → ∀ y : Nat, geti os i = y ↔ (y < x ∧ Occ (geth hs y) (geth hs y).length i) ∨ (y = x ∧ Occ (geth hs x) k i)
  neg : ∀ i : Nat, i < next → geti os i = -1 ∨ ∃ y : Nat, geti os i = y
  rng : ∀ y j, (y < x ∧ j < (geth hs y).length) ∨ (y = x ∧ j < k) → 0 ≤ idAt (geth hs y) j ∧ idAt (geth hs y) j < next
theorem OwnI.step {hs : List (List PostD)} {next x k : Nat} {os os' : List Int} (h : OwnI hs next x k os) (hs' : ownStep x os (getp (geth hs x) k) = some os') : OwnI hs next x (k + 1) os' := by
  unfold ownStep at hs'
  split at hs'
  · cases hs'
  · rename_i hc
    cases hs'
    have hid : (getp (geth hs x) k).id = idAt (geth hs x) k := rfl
    rw [hid] at hc ⊢
    rw [h.len] at hc
    have h0 : 0 ≤ idAt (geth hs x) k := by omega
    have h1 : idAt (geth hs x) k < next := by omega
    have h2 : geti os (idAt (geth hs x) k).toNat = -1 := by
      rcases Classical.em (geti os (idAt (geth hs x) k).toNat = -1) with e | e
      · exact e
      · exact absurd (.inr (.inr e)) hc
    obtain ⟨n, hn⟩ : ∃ n : Nat, idAt (geth hs x) k = n := ⟨_, (Int.toNat_of_nonneg h0).symm⟩
    rw [hn] at h2 h1 ⊢
    rw [Int.toNat_natCast] at h2 ⊢
    have hnl : n < os.length := by rw [h.len]; omega
    refine ⟨by rw [List.length_set]; exact h.len, fun i hi y => ?_, fun i hi => ?_, fun y j hj => ?_⟩
    · rw [geti_set' hnl]
      by_cases e : i = n
      · subst e
        rw [if_pos rfl]
        constructor
        · intro e
          have e' : x = y := by exact_mod_cast e
          exact .inr ⟨e'.symm, k, by omega, hn⟩
        · rintro (⟨hy, ho⟩ | ⟨hy, -⟩)
          · have := (h.iff i hi y).2 (.inl ⟨hy, ho⟩)
            omega
          · rw [hy]
      · rw [if_neg e, h.iff i hi y]
        have ho : Occ (geth hs x) (k + 1) i ↔ Occ (geth hs x) k i := by
          constructor
          · rintro ⟨j, hj, e2⟩
            rcases Nat.lt_succ_iff_lt_or_eq.1 hj with hj | rfl
            · exact ⟨j, hj, e2⟩
            · rw [hn] at e2
              exact absurd (by exact_mod_cast e2.symm) e
          · rintro ⟨j, hj, e2⟩
            exact ⟨j, by omega, e2⟩
        rw [ho]
    · rw [geti_set' hnl]
      by_cases e : i = n
      · rw [if_pos e]; exact .inr ⟨x, rfl⟩
      · rw [if_neg e]; exact h.neg i hi
    · rcases hj with hj | ⟨rfl, hj⟩
      · exact h.rng y j (.inl hj)
      · rcases Nat.lt_succ_iff_lt_or_eq.1 hj with hj | rfl
        · exact h.rng y j (.inr ⟨rfl, hj⟩)
        · rw [hn]; omega
theorem OwnI.to {hs : List (List PostD)} {next x k : Nat} {os os' : List Int} (h : OwnI hs next x 0 os) (ht : ownTo x (geth hs x) os k = some os') : OwnI hs next x k os' := by
  induction k generalizing os' with
  | zero => cases ht; exact h
  | succ k ih =>
    rw [ownTo, Option.bind_eq_some_iff] at ht
    obtain ⟨o, h1, h2⟩ := ht
    exact (ih h1).step h2
theorem OwnI.row {hs : List (List PostD)} {next x : Nat} {os : List Int} (h : OwnI hs next x (geth hs x).length os) : OwnI hs next (x + 1) 0 os := by
  refine ⟨h.len, fun i hi y => ?_, h.neg, fun y j hj => ?_⟩
  · rw [h.iff i hi y]
    constructor
    · rintro (⟨hy, ho⟩ | ⟨rfl, ho⟩)
      · exact .inl ⟨by omega, ho⟩
      · exact .inl ⟨by omega, ho⟩
    · rintro (⟨hy, ho⟩ | ⟨-, j, hj, -⟩)
      · rcases Nat.lt_succ_iff_lt_or_eq.1 hy with hy | rfl
        · exact .inl ⟨hy, ho⟩
        · exact .inr ⟨rfl, ho⟩
      · omega
  · rcases hj with ⟨hy, hj⟩ | ⟨-, hj⟩
    · rcases Nat.lt_succ_iff_lt_or_eq.1 hy with hy | rfl
      · exact h.rng y j (.inl ⟨hy, hj⟩)
      · exact h.rng y j (.inr ⟨rfl, hj⟩)
    · omega
theorem ownAll_own {next : Nat} {hs : List (List PostD)} {x : Nat} {os : List Int} (h : ownAll next hs x = some os) : OwnI hs next x 0 os := by
  induction x generalizing os with
  | zero =>
    cases h
    have hg : ∀ i : Nat, i < next → geti (List.replicate next (-1)) i = -1 := fun i hi => by
      unfold geti; rw [List.getD_eq_getElem?_getD, List.getElem?_replicate, if_pos hi]; rfl
    refine ⟨by simp, fun i hi y => ?_, fun i hi => .inl (hg i hi), fun y j hj => by omega⟩
    rw [hg i hi]
    constructor
    · intro e; omega
    · rintro (⟨hy, -⟩ | ⟨-, j, hj, -⟩) <;> omega
  | succ x ih =>
    rw [ownAll, Option.bind_eq_some_iff] at h
    obtain ⟨o, h1, h2⟩ := h
    split at h2
    · exact ((ih h1).to h2).row
    · cases h2
/-- The table tells of each number which history has it. -/
theorem own_iff {next : Nat} {hs : List (List PostD)} {os : List Int} {n : Nat} (h : ownAll next hs n = some os) {x : Nat} (hx : x < n) (i : Int) : cellO os i = x ↔ 0 ≤ placeI (geth hs x) i := by
  have k := ownAll_own h
  rw [← occ_place]
  unfold cellO
  by_cases hc : i < 0 ∨ (os.length : Int) ≤ i
  · rw [if_pos hc]
    constructor
    · intro e; omega
    · rintro ⟨j, hj, e⟩
      have := k.rng x j (.inl ⟨hx, hj⟩)
      rw [k.len] at hc
      omega
  · rw [if_neg hc]
    rw [k.len] at hc
    obtain ⟨m, rfl⟩ : ∃ m : Nat, i = m := ⟨i.toNat, by omega⟩
    rw [Int.toNat_natCast, k.iff m (by omega) x]
    constructor
    · rintro (⟨-, ho⟩ | ⟨rfl, -⟩)
      · exact ho
      · omega
    · exact fun ho => .inl ⟨hx, ho⟩

theorem allB_congr {f g : Nat → Bool} {n : Nat} (h : ∀ k, k < n → f k = g k) : allB f n = allB g n := by
  by_cases hf : allB f n = true
  · rw [hf, allB_yes (fun k hk => by rw [← h k hk]; exact allB_at hf hk)]
  · have hf' : allB f n = false := by simpa using hf
    rw [hf']
    by_cases hg : allB g n = true
    · exact absurd (allB_yes (fun k hk => by rw [h k hk]; exact allB_at hg hk)) hf
    · simpa using hg
/-- Is a view right: of each cell a post that there is. -/
def viewB (hs : List (List PostD)) (v : List Int) : Bool := decide (v.length = hs.length) && allB (fun x => decide (0 ≤ placeI (geth hs x) (geti v x))) hs.length
/-- The same by the table. -/
def ownB (n : Nat) (os : List Int) (v : List Int) : Bool := decide (v.length = n) && allB (fun x => decide (cellO os (geti v x) = x)) v.length
theorem ownB_view {next : Nat} {hs : List (List PostD)} {os : List Int} (h : ownAll next hs hs.length = some os) (v : List Int) : ownB hs.length os v = viewB hs v := by
  unfold ownB viewB
  by_cases hl : v.length = hs.length
  · rw [hl]
    have e : ∀ x, x < hs.length → decide (cellO os (geti v x) = x) = decide (0 ≤ placeI (geth hs x) (geti v x)) := fun x hx => by
      rw [decide_eq_decide]; exact own_iff h hx _
    rw [allB_congr e]
  · simp [hl]
/-- Is a post right, of history x? -/
def postB (hs : List (List PostD)) (x : Nat) (d : PostD) : Bool := viewB hs d.view && decide (geti d.view x = d.id)
def postsB (hs : List (List PostD)) : Bool := allB (fun x => allB (fun k => postB hs x (getp (geth hs x) k)) (geth hs x).length) hs.length
end Go.Proofs.Ytfkaacfeikmabaa

namespace Go.Proofs.Ytfkaacfeikmabaa
open Go.RowKit Go.Joins Go.ChangeShapes Go.WideShapes Go.Deep

section
variable {H : Type} {enc : TypeId × Value → H} {P : Program} {w : World} {spare : Nat → Bool} {held : Bool}
theorem trod_posts {t e ti tb ts : TypeId} {f0 f1 f2 f3 : Field} {fuel : Nat} {v : Value} {x : DataW H × List MemPlace} (ht : P.underlying t = some (.slice e)) (he : P.underlying e = some (.struct #[f0, f1, f2, f3])) (hone : oneCellFields P #[f0, f1, f2, f3] = true) (hC : P.cellsOf e = 4)
    (hf : f0.type = ti ∧ f1.type = ti ∧ f2.type = tb ∧ f3.type = ts) (hti : P.underlying ti = some (.int .i64)) (hci : P.cellsOf ti = 1) (htb : P.underlying tb = some .bool) (hts : P.underlying ts = some (.slice ti))
    (h : DataW.trod enc P w 0 spare held fuel t [v] = some x) : ∃ A l c, v = .slice A (l : List PostD).length c ∧ l.length ≤ c ∧ PostsAt w (Old w.heap.size) A l ∧ IdsWf l := by
  rcases open_slice ht h with ⟨hcs, _⟩ | ⟨a, len, cap, m, n, D, Pl, hcs, _, hl, hm, hmm, _, hi⟩
  · simp only [List.cons.injEq, and_true] at hcs
    exact ⟨none, [], 0, hcs, by simp, ⟨by simp, fun h => absurd h (by simp)⟩, fun k hk => absurd hk (by simp)⟩
  · simp only [List.cons.injEq, and_true] at hcs
    have hlm : len ≤ m := by rw [hmm]; split <;> omega
    unfold maxLen at hm
    have each : ∀ i, i < len → ∃ d : PostD, ∃ V c, (∀ j v, [Value.int .i64 d.id, .int .i64 d.val, .bool d.glue, .slice V d.view.length c][j]? = some v → w.cell? ((a.add (i * 4)).add j) = some v) ∧ d.view.length ≤ c ∧ IntsAt w (Old w.heap.size) V d.view ∧ (Lit.int .i64 d.id).wf = true := by
      intro i hil
      obtain ⟨cs', hc, ht'⟩ := hi i (by omega)
      rw [hC] at hc
      obtain ⟨_, hcl, hat⟩ := World.cells?_some hc
      obtain ⟨ys, n', _, _, _, hyl, hfs⟩ := DataW.trod_struct he ht'
      match cs', hcl with
      | [c0, c1, c2, c3], _ =>
        obtain ⟨o0, k0⟩ := hone_of hone 0 f0 rfl
        obtain ⟨o1, k1⟩ := hone_of hone 1 f1 rfl
        obtain ⟨o2, k2⟩ := hone_of hone 2 f2 rfl
        obtain ⟨o3, k3⟩ := hone_of hone 3 f3 rfl
        match ys, hyl with
        | [y0, y1, y2, y3], _ =>
          have g0 := hfs 0 f0 rfl; rw [o0, k0, hf.1] at g0
          have g1 := hfs 1 f1 rfl; rw [o1, k1, hf.2.1] at g1
          have g2 := hfs 2 f2 rfl; rw [o2, k2, hf.2.2.1] at g2
          have g3 := hfs 3 f3 rfl; rw [o3, k3, hf.2.2.2] at g3
          obtain ⟨a0, t0, _, hw0⟩ := DataW.trod_int hti (x := y0) (by simpa using g0)
          obtain ⟨a1, t1, _, _⟩ := DataW.trod_int hti (x := y1) (by simpa using g1)
          obtain ⟨a2, t2, _⟩ := DataW.trod_bool htb (x := y2) (by simpa using g2)
          obtain ⟨V, zs, cv, t3, hcap, hiv⟩ := trod_ints hts hti hci (x := y3) (by simpa using g3)
          simp only [List.cons.injEq, and_true] at t0 t1 t2
          subst t0 t1 t2 t3
          refine ⟨⟨a0, a1, a2, zs⟩, V, cv, fun j v hj => ?_, hcap, hiv, hw0⟩
          have hj4 : j < 4 := by
            have := (List.getElem?_eq_some_iff.1 hj).1
            simpa using this
          rw [hat j hj4]
          exact hj
    obtain ⟨l, hll, hlr⟩ := choose_list post0 len _ each
    refine ⟨some a, l, cap, by rw [hll]; exact hcs, by omega, ⟨by omega, fun hp => ?_⟩, fun k hk => by obtain ⟨_, _, _, _, _, hw⟩ := hlr k (by omega); exact hw⟩
    rw [hll] at hp ⊢
    obtain ⟨V0, c0, h0, _⟩ := hlr 0 hp
    have h00 := h0 0 _ rfl
    simp only [Nat.zero_mul] at h00
    obtain ⟨b, off, rfl⟩ : ∃ b off, a = ⟨b, off, none⟩ := spot_none (v := _) (by simpa [Addr.add] using h00)
    refine ⟨b, off, rfl, ?_, fun k hk => ?_⟩
    · have := cell_lt h00
      exact (by simpa [Addr.add] using this : b < w.heap.size)
    · obtain ⟨V, c, q, hcap, hiv, -⟩ := hlr k hk
      simp only [add_plain'] at q
      exact ⟨V, c, ⟨q 0 _ rfl, q 1 _ rfl, q 2 _ rfl, q 3 _ rfl⟩, hcap, hiv⟩
theorem trod_hists {t e ts es ti tb tv : TypeId} {g f0 f1 f2 f3 : Field} {fuel : Nat} {v : Value} {x : DataW H × List MemPlace} (ht : P.underlying t = some (.slice e)) (he : P.underlying e = some (.struct #[g])) (hone1 : oneCellFields P #[g] = true) (hC1 : P.cellsOf e = 1) (hg : g.type = ts)
    (hts : P.underlying ts = some (.slice es)) (hes : P.underlying es = some (.struct #[f0, f1, f2, f3])) (hone : oneCellFields P #[f0, f1, f2, f3] = true) (hC : P.cellsOf es = 4)
    (hf : f0.type = ti ∧ f1.type = ti ∧ f2.type = tb ∧ f3.type = tv) (hti : P.underlying ti = some (.int .i64)) (hci : P.cellsOf ti = 1) (htb : P.underlying tb = some .bool) (htv : P.underlying tv = some (.slice ti))
    (h : DataW.trod enc P w 0 spare held fuel t [v] = some x) : ∃ A l c, v = .slice A (l : List (List PostD)).length c ∧ l.length ≤ c ∧ HistsAt w (Old w.heap.size) A l ∧ ∀ k, k < l.length → IdsWf (geth l k) := by
  rcases open_slice ht h with ⟨hcs, _⟩ | ⟨a, len, cap, m, n, D, Pl, hcs, _, hl, hm, hmm, _, hi⟩
  · simp only [List.cons.injEq, and_true] at hcs
    exact ⟨none, [], 0, hcs, by simp, ⟨by simp, fun h => absurd h (by simp)⟩, fun k hk => absurd hk (by simp)⟩
  · simp only [List.cons.injEq, and_true] at hcs
    have hlm : len ≤ m := by rw [hmm]; split <;> omega
    unfold maxLen at hm
    have each : ∀ i, i < len → ∃ l : List PostD, ∃ A' c', w.cell? (a.add i) = some (.slice A' l.length c') ∧ l.length ≤ c' ∧ PostsAt w (Old w.heap.size) A' l ∧ IdsWf l := by
      intro i hil
      obtain ⟨cs', hc, ht'⟩ := hi i (by omega)
      rw [hC1, Nat.mul_one] at hc
      obtain ⟨_, hcl, hat⟩ := World.cells?_some hc
      obtain ⟨ys, n', _, _, _, hyl, hfs⟩ := DataW.trod_struct he ht'
      match cs', hcl with
      | [c0], _ =>
        obtain ⟨o0, k0⟩ := hone_of hone1 0 g rfl
        match ys, hyl with
        | [y0], _ =>
          have g0 := hfs 0 g rfl
          rw [o0, k0, hg] at g0
          obtain ⟨A', l, c', e1, e3, e2⟩ := trod_posts hts hes hone hC hf hti hci htb htv (x := y0) (by simpa using g0)
          refine ⟨l, A', c', ?_, e3, e2⟩
          have := hat 0 (by omega)
          simpa [Addr.add, e1] using this
    obtain ⟨l, hll, hlr⟩ := choose_list [] len _ each
    refine ⟨some a, l, cap, by rw [hll]; exact hcs, by omega, ⟨by omega, fun hp => ?_⟩, fun k hk => by obtain ⟨_, _, _, _, _, hw⟩ := hlr k (by omega); exact hw⟩
    rw [hll] at hp ⊢
    obtain ⟨A0, c0, h0, _⟩ := hlr 0 hp
    obtain ⟨b, off, rfl⟩ : ∃ b off, a = ⟨b, off, none⟩ := spot_none (v := _) (by simpa [Addr.add] using h0)
    refine ⟨b, off, rfl, ?_, fun k hk => ?_⟩
    · have := cell_lt h0
      exact (by simpa [Addr.add] using this : b < w.heap.size)
    · obtain ⟨A', c', q1, q3, q2, -⟩ := hlr k hk
      rw [add_plain'] at q1
      exact ⟨A', c', q1, q3, q2⟩
end
theorem cellsOfPostL : Try.prog.cellsOf 240 = 4 := by kernel_rfl
theorem cellsOfHistL : Try.prog.cellsOf 193 = 1 := by kernel_rfl
theorem cellsOfIntH : Try.prog.cellsOf 3 = 1 := by kernel_rfl

set_option maxRecDepth 100000 in
theorem open_hist {H : Type} {enc : TypeId × Value → H} {W : World} {r : Reach} {b0 : Nat} {spare : Nat → Bool} {held : Bool} {v : Value} {d : DataW H} {p : List MemPlace} (hv : Value.okWide Try.prog W r b0 193 v) (h : DataW.Trod enc Try.prog W 0 spare held 193 v d p) :
    ∃ A c, ∃ l : List PostD, v = .agg #[.slice A l.length c] ∧ l.length ≤ c ∧ PostsAt W (Old W.heap.size) A l ∧ IdsWf l := by
  obtain ⟨v0, y0, n, rfl, h0⟩ := open_agg1 Try.underlying193 (by kernel_rfl) cellsOfHistL hv h
  obtain ⟨A, l, c, rfl, hc, hi⟩ := trod_posts Try.underlying191 Try.underlying240 (by kernel_rfl) cellsOfPostL ⟨rfl, rfl, rfl, rfl⟩ Try.underlying3 cellsOfIntH Try.underlying4 Try.underlying22 h0
  exact ⟨A, c, l, rfl, hc, hi⟩
set_option maxRecDepth 100000 in
theorem open_hists {H : Type} {enc : TypeId × Value → H} {W : World} {r : Reach} {b0 : Nat} {spare : Nat → Bool} {held : Bool} {v : Value} {d : DataW H} {p : List MemPlace} (hv : Value.okWide Try.prog W r b0 56 v) (h : DataW.Trod enc Try.prog W 0 spare held 56 v d p) :
    ∃ A c, ∃ hs : List (List PostD), v = .slice A hs.length c ∧ hs.length ≤ c ∧ HistsAt W (Old W.heap.size) A hs ∧ ∀ k, k < hs.length → IdsWf (geth hs k) := by
  obtain ⟨a1, len, cap, rfl⟩ := okWide_slice Try.underlying56 hv
  obtain ⟨fuel, hf⟩ := h
  obtain ⟨A, hs, c, e, hc, hi⟩ := trod_hists Try.underlying56 Try.underlying193 (by kernel_rfl) cellsOfHistL rfl Try.underlying191 Try.underlying240 (by kernel_rfl) cellsOfPostL ⟨rfl, rfl, rfl, rfl⟩ Try.underlying3 cellsOfIntH Try.underlying4 Try.underlying22 (by simpa [Value.cells] using hf)
  exact ⟨A, c, hs, e, hc, hi⟩

set_option maxRecDepth 100000 in
theorem open_ints_wf {H : Type} {enc : TypeId × Value → H} {W : World} {r : Reach} {b0 : Nat} {spare : Nat → Bool} {held : Bool} {v : Value} {d : DataW H} {p : List MemPlace} (hv : Value.okWide Try.prog W r b0 22 v) (h : DataW.Trod enc Try.prog W 0 spare held 22 v d p) :
    ∃ A c, ∃ zs : List Int, v = .slice A zs.length c ∧ zs.length ≤ c ∧ IntsAt W (Old W.heap.size) A zs ∧ IntsWf zs := by
  obtain ⟨a1, len, cap, rfl⟩ := okWide_slice Try.underlying22 hv
  obtain ⟨fuel, hf⟩ := h
  obtain ⟨A, zs, c, e, hc, hi⟩ := trod_ints_wf Try.underlying22 Try.underlying3 cellsOfIntH (by simpa [Value.cells] using hf)
  exact ⟨A, c, zs, e, hc, hi⟩
end Go.Proofs.Ytfkaacfeikmabaa
