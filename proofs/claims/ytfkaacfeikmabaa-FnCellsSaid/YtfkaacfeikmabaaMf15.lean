/- impl.InsOk and spec.InsOk: both return insB, for every argument. · impl.Thread.ok and impl.ProgOk: what they return, for every program in memory. -/
import Derived.Test.YtfkaacfeikmabaaMf0
import Derived.Test.YtfkaacfeikmabaaMf2
import Derived.Test.YtfkaacfeikmabaaMf8
import Derived.Test.YtfkaacfeikmabaaMf9
import Derived.Test.YtfkaacfeikmabaaMf14
import Derived.Deep.QuietTactic
import Derived.BigQuiet
namespace Go.Proofs.Ytfkaacfeikmabaa
open Go.RowKit

set_option maxRecDepth 100000 in
set_option maxHeartbeats 3200000 in
theorem firstView_any (n : Nat) (w : World) (hn : n ≤ 1048576) :
    Calls Try.prog 187 #[.int .i64 (n : Int)] w fun e w' => e = .returned (.slice (some ⟨w.heap.size, 0, none⟩) n n) ∧ RowT 3 w' w.heap.size (idsL n) ∧ Below w.heap.size w w' := by
  have hmk := make_ints n hn
  go_enter Try.func187, Try.ntmps187
  go_wp2_with fail
  clear hmk
  go_loopw [9] (fun iv wr => ∃ (k : Nat) (ds : Array Value), k ≤ n ∧ iv = .int .i64 k ∧ Below w.heap.size w wr ∧ Blk wr w.heap.size 3 ds ∧ Hid (ds.size = n) ∧ Hid (∀ j, j < k → ds[j]? = some (.int .i64 (j : Int)))) (fun iv _ => n - (intOf iv).toNat)
  case atStart => exact ⟨0, _, Nat.zero_le _, rfl, below1 _ _, Blk.new _ _ _, hide (zrow_size1 (.int .i64 0) n), hide (fun j hj => by omega)⟩
  case round =>
    obtain ⟨k, ds, hk, rfl, hb, hD, hsz, hds⟩ := hrel
    by_cases hlt : k < n
    · have hlt' : (k : Int) < (n : Int) := by omega
      have hsz' := hsz.out
      obtain ⟨v0, hv0⟩ : ∃ v, ds[k]? = some v := ⟨_, Array.getElem?_eq_getElem (by omega)⟩
      have d0 := (hD.cell k).trans hv0
      have z0 := hD.frozen k
      have l0 := hD.lt
      replace hD := hide hD
      replace hb := hide hb
      clear hv0 hsz'
      go_wp2_with fail
      go_roundw
      case rel =>
        refine ⟨k + 1, ds.setIfInBounds k (.int .i64 (k : Int)), by omega, by go_num, hb.out.setCell (Nat.le_refl _) _, hD.out.set_ _ _, hide (by have := hsz.out; simpa using this), hide (fun j hj => ?_)⟩
        rw [Array.getElem?_setIfInBounds]
        by_cases e : k = j
        · subst e; rw [if_pos rfl, if_pos (by have := hsz.out; omega)]
        · rw [if_neg e]; exact hds.out j (by omega)
      case measure => simp [intOf]; omega
    · obtain rfl : k = n := by omega
      go_wp2_with fail
      go_ret
      exact ⟨rfl, ⟨ds, hD, by rw [idsL_len, hsz.out]; exact Nat.le_refl _, fun j hj => by rw [idsL_len] at hj; rw [idsL_get _ _ hj]; exact hds.out j hj⟩, hb⟩
end Go.Proofs.Ytfkaacfeikmabaa

namespace Go.Proofs.Ytfkaacfeikmabaa
open Go.RowKit

def IdsWf (l : List PostD) : Prop := ∀ k, k < l.length → (Lit.int .i64 (getp l k).id).wf = true
def idAt (l : List PostD) (k : Nat) : Int := (getp l k).id
def placeI (l : List PostD) (i : Int) : Int := match (List.range l.length).find? (fun k => idAt l k == i) with | some k => (k : Int) | none => -1
theorem place_miss {l : List PostD} {i : Int} (h : ∀ k, k < l.length → idAt l k ≠ i) : placeI l i = -1 := by
  have hf : (List.range l.length).find? (fun k => idAt l k == i) = none := by
    rw [List.find?_eq_none]
    intro k hk
    simpa using h k (by simpa using hk)
  unfold placeI
  rw [hf]
theorem place_hit {l : List PostD} {i : Int} {k : Nat} (hk : k < l.length) (hi : idAt l k = i) (h : ∀ j, j < k → idAt l j ≠ i) : placeI l i = k := by
  have hf : (List.range l.length).find? (fun k => idAt l k == i) = some k := by
    rw [List.find?_range_eq_some]
    exact ⟨by simpa using hi, by simpa using hk, fun j hj => by simpa using h j hj⟩
  unfold placeI
  rw [hf]
theorem place_cases (l : List PostD) (i : Int) : (placeI l i = -1 ∧ ∀ k, k < l.length → idAt l k ≠ i) ∨ ∃ k : Nat, placeI l i = k ∧ k < l.length ∧ idAt l k = i ∧ ∀ j, j < k → idAt l j ≠ i := by
  cases hf : (List.range l.length).find? (fun k => idAt l k == i) with
  | none =>
    rw [List.find?_eq_none] at hf
    have h : ∀ k, k < l.length → idAt l k ≠ i := fun k hk => by simpa using hf k (by simpa using hk)
    exact .inl ⟨place_miss h, h⟩
  | some k =>
    rw [List.find?_range_eq_some] at hf
    obtain ⟨h1, h2, h3⟩ := hf
    have h1' : idAt l k = i := by simpa using h1
    have h2' : k < l.length := by simpa using h2
    have h3' : ∀ j, j < k → idAt l j ≠ i := fun j hj => by simpa using h3 j hj
    exact .inr ⟨k, place_hit h2' h1' h3', h2', h1', h3'⟩
theorem place_range (l : List PostD) (i : Int) : -1 ≤ placeI l i ∧ placeI l i < l.length := by
  rcases place_cases l i with ⟨h, -⟩ | ⟨k, h, hk, -⟩ <;> omega

def fromTo (a n : Nat) : List Int := (List.range (n - a)).map (fun j => ((a + j : Nat) : Int))
theorem fromTo_len (a n : Nat) : (fromTo a n).length = n - a := by simp [fromTo]
theorem fromTo_self (a : Nat) : fromTo a a = [] := by simp [fromTo]
theorem fromTo_snoc {a n : Nat} (h : a ≤ n) : fromTo a (n + 1) = fromTo a n ++ [(n : Int)] := by
  unfold fromTo
  have e : n + 1 - a = (n - a) + 1 := by omega
  rw [e, List.range_succ, List.map_append]
  have e2 : a + (n - a) = n := by omega
  simp only [List.map_cons, List.map_nil, e2]

theorem fromTo_get {a n k : Nat} (h : k < n - a) : geti (fromTo a n) k = ((a + k : Nat) : Int) := by
  unfold geti fromTo
  rw [List.getD_eq_getElem?_getD, List.getElem?_map, List.getElem?_range h]
  rfl
def readI (l : List PostD) (i : Int) : List Int := if placeI l i = -1 then [] else fromTo (placeI l i).toNat l.length
def putB (l : List PostD) (k : Nat) : Bool := decide (l.length ≤ k) || !(getp l k).glue
def putTo (l : List PostD) (a n : Nat) : List Int := ((List.range (n - a)).filter (fun j => putB l (a + j))).map (fun j => ((a + j : Nat) : Int))
theorem putTo_self (l : List PostD) (a : Nat) : putTo l a a = [] := by simp [putTo]
theorem putTo_yes {l : List PostD} {a n : Nat} (h : a ≤ n) (hp : putB l n = true) : putTo l a (n + 1) = putTo l a n ++ [(n : Int)] := by
  unfold putTo
  have e : n + 1 - a = (n - a) + 1 := by omega
  have e2 : a + (n - a) = n := by omega
  rw [e, List.range_succ, List.filter_append, List.map_append]
  have e3 : (List.filter (fun j => putB l (a + j)) [n - a]) = [n - a] := by simp [e2, hp]
  rw [e3, List.map_cons, List.map_nil, e2]
theorem putTo_no {l : List PostD} {a n : Nat} (h : a ≤ n) (hp : putB l n = false) : putTo l a (n + 1) = putTo l a n := by
  unfold putTo
  have e : n + 1 - a = (n - a) + 1 := by omega
  have e2 : a + (n - a) = n := by omega
  rw [e, List.range_succ, List.filter_append, List.map_append]
  simp [e2, hp]
theorem putTo_len (l : List PostD) (a n : Nat) : (putTo l a n).length ≤ n - a := by
  unfold putTo
  have h := List.length_filter_le (fun j => putB l (a + j)) (List.range (n - a))
  simpa using h
def writeI (l : List PostD) (i : Int) : List Int := if placeI l i = -1 then [] else putTo l ((placeI l i).toNat + 1) (l.length + 1)
theorem readI_len (l : List PostD) (i : Int) : (readI l i).length ≤ l.length := by
  unfold readI
  split
  · simp
  · rw [fromTo_len]; omega
theorem writeI_len (l : List PostD) (i : Int) : (writeI l i).length ≤ l.length := by
  unfold writeI
  split
  · simp
  · have := putTo_len l ((placeI l i).toNat + 1) (l.length + 1); omega

def laterI (l : List PostD) (a b : Int) : Int := if placeI l b > placeI l a then b else a
def joinTo (hs : List (List PostD)) (a b : List Int) (k : Nat) : List Int := (List.range k).map (fun x => laterI (geth hs x) (geti a x) (geti b x))
theorem joinTo_len (hs : List (List PostD)) (a b : List Int) (k : Nat) : (joinTo hs a b k).length = k := by simp [joinTo]
theorem joinTo_zero (hs : List (List PostD)) (a b : List Int) : joinTo hs a b 0 = [] := by simp [joinTo]
theorem joinTo_succ (hs : List (List PostD)) (a b : List Int) (k : Nat) : joinTo hs a b (k + 1) = joinTo hs a b k ++ [laterI (geth hs k) (geti a k) (geti b k)] := by
  unfold joinTo
  rw [List.range_succ, List.map_append]
  rfl
theorem joinTo_get (hs : List (List PostD)) (a b : List Int) {k n : Nat} (h : k < n) : geti (joinTo hs a b n) k = laterI (geth hs k) (geti a k) (geti b k) := by
  unfold geti joinTo
  rw [List.getD_eq_getElem?_getD, List.getElem?_map, List.getElem?_range h]
  rfl
def joinI (hs : List (List PostD)) (a b : List Int) : List Int := if a.length = hs.length ∧ b.length = hs.length then joinTo hs a b hs.length else []
end Go.Proofs.Ytfkaacfeikmabaa

namespace Go.Proofs.Ytfkaacfeikmabaa
open Go.RowKit

def cellO (os : List Int) (i : Int) : Int := if i < 0 ∨ (os.length : Int) ≤ i then -1 else geti os i.toNat
def ownStep (x : Nat) (os : List Int) (d : PostD) : Option (List Int) := if d.id < 0 ∨ (os.length : Int) ≤ d.id ∨ geti os d.id.toNat ≠ -1 then none else some (os.set d.id.toNat x)
def ownTo (x : Nat) (l : List PostD) (os : List Int) : Nat → Option (List Int)
  | 0 => some os
  | k + 1 => (ownTo x l os k).bind (fun o => ownStep x o (getp l k))
def headB (l : List PostD) : Bool := decide (0 < l.length) && !(getp l 0).glue
def ownAll (next : Nat) (hs : List (List PostD)) : Nat → Option (List Int)
  | 0 => some (List.replicate next (-1))
  | x + 1 => (ownAll next hs x).bind (fun o => if headB (geth hs x) then ownTo x (geth hs x) o (geth hs x).length else none)
theorem ownTo_none {x : Nat} {l : List PostD} {os : List Int} {k m : Nat} (h : ownTo x l os k = none) (hm : k ≤ m) : ownTo x l os m = none := by
  induction m with
  | zero => obtain rfl : k = 0 := by omega
            exact h
  | succ m ih =>
    rcases Nat.lt_or_ge m k with hlt | hge
    · obtain rfl : k = m + 1 := by omega
      exact h
    · rw [ownTo, ih hge]; rfl
theorem ownAll_none {next : Nat} {hs : List (List PostD)} {k m : Nat} (h : ownAll next hs k = none) (hm : k ≤ m) : ownAll next hs m = none := by
  induction m with
  | zero => obtain rfl : k = 0 := by omega
            exact h
  | succ m ih =>
    rcases Nat.lt_or_ge m k with hlt | hge
    · obtain rfl : k = m + 1 := by omega
      exact h
    · rw [ownAll, ih hge]; rfl
theorem ownStep_len {x : Nat} {os os' : List Int} {d : PostD} (h : ownStep x os d = some os') : os'.length = os.length := by
  unfold ownStep at h
  split at h
  · cases h
  · cases h; simp
theorem ownTo_len {x : Nat} {l : List PostD} {os os' : List Int} {k : Nat} (h : ownTo x l os k = some os') : os'.length = os.length := by
  induction k generalizing os' with
  | zero => cases h; rfl
  | succ k ih =>
    rw [ownTo, Option.bind_eq_some_iff] at h
    obtain ⟨o, h1, h2⟩ := h
    rw [ownStep_len h2, ih h1]
theorem ownAll_len {next : Nat} {hs : List (List PostD)} {os : List Int} {k : Nat} (h : ownAll next hs k = some os) : os.length = next := by
  induction k generalizing os with
  | zero => cases h; simp
  | succ k ih =>
    rw [ownAll, Option.bind_eq_some_iff] at h
    obtain ⟨o, h1, h2⟩ := h
    split at h2
    · rw [ownTo_len h2, ih h1]
    · cases h2

def Occ (l : List PostD) (k : Nat) (i : Int) : Prop := ∃ j, j < k ∧ idAt l j = i
theorem occ_place {l : List PostD} {i : Int} : Occ l l.length i ↔ 0 ≤ placeI l i := by
  rcases place_cases l i with ⟨h, h2⟩ | ⟨k, h, hk, h3, -⟩
  · rw [h]
    exact ⟨fun ⟨j, hj, e⟩ => absurd e (h2 j hj), fun h => by omega⟩
  · rw [h]
    exact ⟨fun _ => by omega, fun _ => ⟨k, hk, h3⟩⟩
theorem geti_set' {os : List Int} {n : Nat} {v : Int} (hn : n < os.length) (i : Nat) : geti (os.set n v) i = if i = n then v else geti os i := by
  unfold geti
  rw [List.getD_eq_getElem?_getD, List.getD_eq_getElem?_getD, List.getElem?_set]
  by_cases e : i = n
  · subst e; simp [hn]
  · rw [if_neg (fun h => e h.symm), if_neg e]
structure OwnI (hs : List (List PostD)) (next x k : Nat) (os : List Int) : Prop where
  len : os.length = next
  iff : ∀ i : Nat, i < next → ∀ y : Nat, geti os i = y ↔ (y < x ∧ Occ (geth hs y) (geth hs y).length i) ∨ (y = x ∧ Occ (geth hs x) k i)
  neg : ∀ i : Nat, i < next → geti os i = -1 ∨ ∃ y : Nat, geti os i = y
  rng : ∀ y j, (y < x ∧ j < (geth hs y).length) ∨ (y = x ∧ j < k) → 0 ≤ idAt (geth hs y) j ∧ idAt (geth hs y) j < next
theorem OwnI.step {hs : List (List PostD)} {next x k : Nat} {os os' : List Int} (h : OwnI hs next x k os) (hs' : ownStep x os (getp (geth hs x) k) = some os') : OwnI hs next x (k + 1) os' := by
  unfold ownStep at hs'
  split at hs'
  · cases hs'
  · rename_i hc
    cases hs'
    have hid : (getp (geth hs x) k).id = idAt (geth hs x) k := rfl
    rw [hid] at hc ⊢
    rw [h.len] at hc
    have h0 : 0 ≤ idAt (geth hs x) k := by omega
    have h1 : idAt (geth hs x) k < next := by omega
    have h2 : geti os (idAt (geth hs x) k).toNat = -1 := by
      rcases Classical.em (geti os (idAt (geth hs x) k).toNat = -1) with e | e
      · exact e
      · exact absurd (.inr (.inr e)) hc
    obtain ⟨n, hn⟩ : ∃ n : Nat, idAt (geth hs x) k = n := ⟨_, (Int.toNat_of_nonneg h0).symm⟩
    rw [hn] at h2 h1 ⊢
    rw [Int.toNat_natCast] at h2 ⊢
    have hnl : n < os.length := by rw [h.len]; omega
    refine ⟨by rw [List.length_set]; exact h.len, fun i hi y => ?_, fun i hi => ?_, fun y j hj => ?_⟩
    · rw [geti_set' hnl]
      by_cases e : i = n
      · subst e
        rw [if_pos rfl]
        constructor
        · intro e
          have e' : x = y := by exact_mod_cast e
          exact .inr ⟨e'.symm, k, by omega, hn⟩
        · rintro (⟨hy, ho⟩ | ⟨hy, -⟩)
          · have := (h.iff i hi y).2 (.inl ⟨hy, ho⟩)
            omega
          · rw [hy]
      · rw [if_neg e, h.iff i hi y]
        have ho : Occ (geth hs x) (k + 1) i ↔ Occ (geth hs x) k i := by
          constructor
          · rintro ⟨j, hj, e2⟩
            rcases Nat.lt_succ_iff_lt_or_eq.1 hj with hj | rfl
            · exact ⟨j, hj, e2⟩
            · rw [hn] at e2
              exact absurd (by exact_mod_cast e2.symm) e
          · rintro ⟨j, hj, e2⟩
            exact ⟨j, by omega, e2⟩
        rw [ho]
    · rw [geti_set' hnl]
      by_cases e : i = n
      · rw [if_pos e]; exact .inr ⟨x, rfl⟩
      · rw [if_neg e]; exact h.neg i hi
    · rcases hj with hj | ⟨rfl, hj⟩
      · exact h.rng y j (.inl hj)
      · rcases Nat.lt_succ_iff_lt_or_eq.1 hj with hj | rfl
        · exact h.rng y j (.inr ⟨rfl, hj⟩)
        · rw [hn]; omega
theorem OwnI.to {hs : List (List PostD)} {next x k : Nat} {os os' : List Int} (h : OwnI hs next x 0 os) (ht : ownTo x (geth hs x) os k = some os') : OwnI hs next x k os' := by
  induction k generalizing os' with
  | zero => cases ht; exact h
  | succ k ih =>
    rw [ownTo, Option.bind_eq_some_iff] at ht
    obtain ⟨o, h1, h2⟩ := ht
    exact (ih h1).step h2
theorem OwnI.row {hs : List (List PostD)} {next x : Nat} {os : List Int} (h : OwnI hs next x (geth hs x).length os) : OwnI hs next (x + 1) 0 os := by
  refine ⟨h.len, fun i hi y => ?_, h.neg, fun y j hj => ?_⟩
  · rw [h.iff i hi y]
    constructor
    · rintro (⟨hy, ho⟩ | ⟨rfl, ho⟩)
      · exact .inl ⟨by omega, ho⟩
      · exact .inl ⟨by omega, ho⟩
    · rintro (⟨hy, ho⟩ | ⟨-, j, hj, -⟩)
      · rcases Nat.lt_succ_iff_lt_or_eq.1 hy with hy | rfl
        · exact .inl ⟨hy, ho⟩
        · exact .inr ⟨rfl, ho⟩
      · omega
  · rcases hj with ⟨hy, hj⟩ | ⟨-, hj⟩
    · rcases Nat.lt_succ_iff_lt_or_eq.1 hy with hy | rfl
      · exact h.rng y j (.inl ⟨hy, hj⟩)
      · exact h.rng y j (.inr ⟨rfl, hj⟩)
    · omega
theorem ownAll_own {next : Nat} {hs : List (List PostD)} {x : Nat} {os : List Int} (h : ownAll next hs x = some os) : OwnI hs next x 0 os := by
  induction x generalizing os with
  | zero =>
    cases h
    have hg : ∀ i : Nat, i < next → geti (List.replicate next (-1)) i = -1 := fun i hi => by
      unfold geti; rw [List.getD_eq_getElem?_getD, List.getElem?_replicate, if_pos hi]; rfl
    refine ⟨by simp, fun i hi y => ?_, fun i hi => .inl (hg i hi), fun y j hj => by omega⟩
    rw [hg i hi]
    constructor
    · intro e; omega
    · rintro (⟨hy, -⟩ | ⟨-, j, hj, -⟩) <;> omega
  | succ x ih =>
    rw [ownAll, Option.bind_eq_some_iff] at h
    obtain ⟨o, h1, h2⟩ := h
    split at h2
    · exact ((ih h1).to h2).row
    · cases h2
theorem own_iff {next : Nat} {hs : List (List PostD)} {os : List Int} {n : Nat} (h : ownAll next hs n = some os) {x : Nat} (hx : x < n) (i : Int) : cellO os i = x ↔ 0 ≤ placeI (geth hs x) i := by
  have k := ownAll_own h
  rw [← occ_place]
  unfold cellO
  by_cases hc : i < 0 ∨ (os.length : Int) ≤ i
  · rw [if_pos hc]
    constructor
    · intro e; omega
    · rintro ⟨j, hj, e⟩
      have := k.rng x j (.inl ⟨hx, hj⟩)
      rw [k.len] at hc
      omega
  · rw [if_neg hc]
    rw [k.len] at hc
    obtain ⟨m, rfl⟩ : ∃ m : Nat, i = m := ⟨i.toNat, by omega⟩
    rw [Int.toNat_natCast, k.iff m (by omega) x]
    constructor
    · rintro (⟨-, ho⟩ | ⟨rfl, -⟩)
      · exact ho
      · omega
    · exact fun ho => .inl ⟨hx, ho⟩

theorem allB_congr {f g : Nat → Bool} {n : Nat} (h : ∀ k, k < n → f k = g k) : allB f n = allB g n := by
  by_cases hf : allB f n = true
  · rw [hf, allB_yes (fun k hk => by rw [← h k hk]; exact allB_at hf hk)]
  · have hf' : allB f n = false := by simpa using hf
    rw [hf']
    by_cases hg : allB g n = true
    · exact absurd (allB_yes (fun k hk => by rw [h k hk]; exact allB_at hg hk)) hf
    · simpa using hg
def viewB (hs : List (List PostD)) (v : List Int) : Bool := decide (v.length = hs.length) && allB (fun x => decide (0 ≤ placeI (geth hs x) (geti v x))) hs.length
def ownB (n : Nat) (os : List Int) (v : List Int) : Bool := decide (v.length = n) && allB (fun x => decide (cellO os (geti v x) = x)) v.length
theorem ownB_view {next : Nat} {hs : List (List PostD)} {os : List Int} (h : ownAll next hs hs.length = some os) (v : List Int) : ownB hs.length os v = viewB hs v := by
  unfold ownB viewB
  by_cases hl : v.length = hs.length
  · rw [hl]
    have e : ∀ x, x < hs.length → decide (cellO os (geti v x) = x) = decide (0 ≤ placeI (geth hs x) (geti v x)) := fun x hx => by
      rw [decide_eq_decide]; exact own_iff h hx _
    rw [allB_congr e]
  · simp [hl]
def postB (hs : List (List PostD)) (x : Nat) (d : PostD) : Bool := viewB hs d.view && decide (geti d.view x = d.id)
def postsB (hs : List (List PostD)) : Bool := allB (fun x => allB (fun k => postB hs x (getp (geth hs x) k)) (geth hs x).length) hs.length
end Go.Proofs.Ytfkaacfeikmabaa

namespace Go.Proofs.Ytfkaacfeikmabaa
open Go.RowKit

set_option maxHeartbeats 1600000 in
theorem ins_any (o r a b x n i cells m : Int) (w : World) (hc1 : -9223372036854775808 ≤ cells) (hc2 : cells ≤ 9223372036854775807) :
    Calls Try.prog 135 #[.agg #[.int .i64 o, .int .i64 r, .int .i64 a, .int .i64 b, .int .i64 x, .int .i64 n], .int .i64 i, .int .i64 cells, .int .i64 m] w fun e w' => e = .returned (.bool (insB o r a b x n i cells m)) ∧ Below w.heap.size w w' := by
  have HF := hide (show insB o r a b x n i cells m = (knownB o && zeroB o r a b x n && regsB r a b && cellsB o x n cells && jumpB o n i m) from rfl)
  have k1 := hide (fun w => known_any o w)
  have k2 := hide (fun w => zero_any o r a b x n w)
  have k3 := hide (fun w => regs_any o r a b x n w)
  have k4 := hide (fun w => cells_any o r a b x n cells w hc1 hc2)
  have k5 := hide (fun w => jump_any o r a b x n i m w)
  clear hc1 hc2
  generalize knownB o = p1 at *
  generalize zeroB o r a b x n = p2 at *
  generalize regsB r a b = p3 at *
  generalize cellsB o x n cells = p4 at *
  generalize jumpB o n i m = p5 at *
  cases p1
  · go_enter Try.func135, Try.ntmps135
    go_wp2_with (first | (go_at_call 117; refine (kind_any _ _ _ _ _ _ _).mono ?_; rintro e w1 ⟨rfl, hb1⟩; obtain ⟨hcl1, hfz1⟩ := bcell hb1; have hz1 := size_step hb1) | (go_at_call 169; refine (k1.out _).mono ?_; rintro e w2 ⟨rfl, rfl⟩))
    go_ret
    exact ⟨ret_bool (by rw [HF.out]; rfl), below_step hb1⟩
  cases p2
  · go_enter Try.func135, Try.ntmps135
    go_wp2_with (first | (go_at_call 117; refine (kind_any _ _ _ _ _ _ _).mono ?_; rintro e w1 ⟨rfl, hb1⟩; obtain ⟨hcl1, hfz1⟩ := bcell hb1; have hz1 := size_step hb1) | (go_at_call 169; refine (k1.out _).mono ?_; rintro e w2 ⟨rfl, rfl⟩) | (go_at_call 175; refine (k2.out _).mono ?_; rintro e w2 ⟨rfl, hb2⟩; obtain ⟨hcl2, hfz2⟩ := bcell hb2; have hz2 := Nat.lt_of_lt_of_le hz1 hb2.size))
    go_ret
    exact ⟨ret_bool (by rw [HF.out]; rfl), below_then (below_step hb1) hb2⟩
  cases p3
  · go_enter Try.func135, Try.ntmps135
    go_wp2_with (first | (go_at_call 117; refine (kind_any _ _ _ _ _ _ _).mono ?_; rintro e w1 ⟨rfl, hb1⟩; obtain ⟨hcl1, hfz1⟩ := bcell hb1; have hz1 := size_step hb1) | (go_at_call 169; refine (k1.out _).mono ?_; rintro e w2 ⟨rfl, rfl⟩) | (go_at_call 175; refine (k2.out _).mono ?_; rintro e w2 ⟨rfl, hb2⟩; obtain ⟨hcl2, hfz2⟩ := bcell hb2; have hz2 := Nat.lt_of_lt_of_le hz1 hb2.size) | (go_at_call 120; refine (k3.out _).mono ?_; rintro e w3 ⟨rfl, hb3⟩; obtain ⟨hcl3, hfz3⟩ := bcell hb3; have hz3 := Nat.lt_of_lt_of_le hz2 hb3.size))
    go_ret
    exact ⟨ret_bool (by rw [HF.out]; rfl), below_then (below_then (below_step hb1) hb2) hb3⟩
  cases p4
  · go_enter Try.func135, Try.ntmps135
    go_wp2_with (first | (go_at_call 117; refine (kind_any _ _ _ _ _ _ _).mono ?_; rintro e w1 ⟨rfl, hb1⟩; obtain ⟨hcl1, hfz1⟩ := bcell hb1; have hz1 := size_step hb1) | (go_at_call 169; refine (k1.out _).mono ?_; rintro e w2 ⟨rfl, rfl⟩) | (go_at_call 175; refine (k2.out _).mono ?_; rintro e w2 ⟨rfl, hb2⟩; obtain ⟨hcl2, hfz2⟩ := bcell hb2; have hz2 := Nat.lt_of_lt_of_le hz1 hb2.size) | (go_at_call 120; refine (k3.out _).mono ?_; rintro e w3 ⟨rfl, hb3⟩; obtain ⟨hcl3, hfz3⟩ := bcell hb3; have hz3 := Nat.lt_of_lt_of_le hz2 hb3.size) | (go_at_call 176; refine (k4.out _).mono ?_; rintro e w4 ⟨rfl, hb4⟩; obtain ⟨hcl4, hfz4⟩ := bcell hb4; have hz4 := Nat.lt_of_lt_of_le hz3 hb4.size))
    go_ret
    exact ⟨ret_bool (by rw [HF.out]; rfl), below_then (below_then (below_then (below_step hb1) hb2) hb3) hb4⟩
  go_enter Try.func135, Try.ntmps135
  go_wp2_with (first | (go_at_call 117; refine (kind_any _ _ _ _ _ _ _).mono ?_; rintro e w1 ⟨rfl, hb1⟩; obtain ⟨hcl1, hfz1⟩ := bcell hb1; have hz1 := size_step hb1) | (go_at_call 169; refine (k1.out _).mono ?_; rintro e w2 ⟨rfl, rfl⟩) | (go_at_call 175; refine (k2.out _).mono ?_; rintro e w2 ⟨rfl, hb2⟩; obtain ⟨hcl2, hfz2⟩ := bcell hb2; have hz2 := Nat.lt_of_lt_of_le hz1 hb2.size) | (go_at_call 120; refine (k3.out _).mono ?_; rintro e w3 ⟨rfl, hb3⟩; obtain ⟨hcl3, hfz3⟩ := bcell hb3; have hz3 := Nat.lt_of_lt_of_le hz2 hb3.size) | (go_at_call 176; refine (k4.out _).mono ?_; rintro e w4 ⟨rfl, hb4⟩; obtain ⟨hcl4, hfz4⟩ := bcell hb4; have hz4 := Nat.lt_of_lt_of_le hz3 hb4.size) | (go_at_call 177; refine (k5.out _).mono ?_; rintro e w5 ⟨rfl, hb5⟩))
  go_ret
  exact ⟨ret_bool (by rw [HF.out]; rfl), below_then (below_then (below_then (below_then (below_step hb1) hb2) hb3) hb4) hb5⟩
end Go.Proofs.Ytfkaacfeikmabaa

namespace Go.Proofs.Ytfkaacfeikmabaa
open Go.RowKit

def insBD (d : InsD) (i cells m : Int) : Bool := insB d.o d.r d.a d.b d.x d.n i cells m
def thrB (l : List InsD) (cells : Nat) : Bool := decide (l.length ≤ 24) && allB (fun k => insBD (getd l k) k cells l.length) l.length
def sizesB (p : ProgD) : Bool := decide (1 ≤ p.init.length ∧ p.init.length ≤ 6 ∧ 1 ≤ p.ts.length ∧ p.ts.length ≤ 3)
def progB (p : ProgD) : Bool := sizesB p && allB (fun k => thrB (gett p.ts k) p.init.length) p.ts.length

theorem insBD_any (d : InsD) (i cells m : Int) (w : World) (hc1 : -9223372036854775808 ≤ cells) (hc2 : cells ≤ 9223372036854775807) :
    Calls Try.prog 135 #[.agg #[.int .i64 d.o, .int .i64 d.r, .int .i64 d.a, .int .i64 d.b, .int .i64 d.x, .int .i64 d.n], .int .i64 i, .int .i64 cells, .int .i64 m] w fun e w' => e = .returned (.bool (insBD d i cells m)) ∧ Below w.heap.size w w' :=
  ins_any d.o d.r d.a d.b d.x d.n i cells m w hc1 hc2

set_option maxHeartbeats 800000 in
theorem thrOk_any (A : Option Addr) (l : List InsD) (c cells : Nat) (S : Nat → Prop) (w : World) (hcells : cells ≤ 9223372036854775807) (hS : ∀ b, S b → b < w.heap.size) (ha : InssAt w S A l) :
    Calls Try.prog 113 #[.agg #[.slice A l.length c], .int .i64 cells] w fun e w' => e = .returned (.bool (thrB l cells)) ∧ Below w.heap.size w w' := by
  have hn := ha.1
  by_cases h24 : 24 < l.length
  · have HF := hide (show thrB l cells = false by unfold thrB; simp; omega)
    have h24' : (24 : Int) < (l.length : Int) := by omega
    go_enter Try.func113, Try.ntmps113
    go_wp2
    go_ret
    exact ⟨ret_bool HF.out.symm, below1 _ _⟩
  · have hle : (l.length : Int) ≤ 24 := by omega
    have hb0 := below1 w (Obj.cells #[Value.slice A l.length c] 99)
    go_enter Try.func113, Try.ntmps113
    go_wp2
    go_loopw [14] (fun i wr => ∃ (k : Nat), k ≤ l.length ∧ i = .int .i64 k ∧ Hid (∀ j, j < k → insBD (getd l j) j cells l.length = true) ∧ Below (w.alloc (Obj.cells #[Value.slice A l.length c] 99)).heap.size (w.alloc (Obj.cells #[Value.slice A l.length c] 99)) wr) (fun i _ => l.length - (intOf i).toNat)
    case atStart => exact ⟨0, Nat.zero_le _, rfl, hide (fun j hj => by omega), Below.refl _ _⟩
    case round =>
      obtain ⟨k, hk, rfl, hj, hb⟩ := hrel
      by_cases hlt : k < l.length
      · obtain ⟨b, off, rfl, hbB, hc⟩ := ((ha.below hb0 hS).below hb (fun b h => Nat.lt_of_lt_of_le (hS b h) hb0.size)).2 (by omega)
        obtain ⟨c0, c1, c2, c3, c4, c5⟩ := hc k hlt
        obtain ⟨hcl, hfz⟩ := bcell hb
        have hsz := size_step hb
        have kc := hide (fun w => insBD_any (getd l k) k cells l.length w (by omega) (by omega))
        clear hc
        cases hr : insBD (getd l k) k cells l.length
        · have HF := hide (show thrB l cells = false by unfold thrB; rw [allB_no hlt hr]; simp)
          rw [hr] at kc
          clear hr
          go_wp2_with (go_at_call 135; refine (kc.out _).mono ?_; rintro e w3 ⟨rfl, hb3⟩)
          go_ret
          exact ⟨ret_bool HF.out.symm, below_then (below_then hb0 hb) (below_step hb3)⟩
        · rw [hr] at kc
          have HR := hide hr
          clear hr
          go_wp2_with (go_at_call 135; refine (kc.out _).mono ?_; rintro e w3 ⟨rfl, hb3⟩)
          go_roundw
          case rel =>
            refine ⟨k + 1, by omega, by go_num, hide (fun j hjk => ?_), hb.trans ((below_step hb3).mono hb.size)⟩
            by_cases e : j = k
            · subst e; exact HR.out
            · exact hj.out j (by omega)
          case measure => simp [intOf]; omega
      · obtain rfl : k = l.length := by omega
        have HF := hide (show thrB l cells = true by unfold thrB; rw [allB_yes hj.out]; simp; omega)
        go_wp2
        go_ret
        exact ⟨ret_bool HF.out.symm, below_then hb0 hb⟩

set_option maxHeartbeats 800000 in
theorem progOk_any (v : Value) (p : ProgD) (S : Nat → Prop) (w : World) (hS : ∀ b, S b → b < w.heap.size) (hp : ProgAt w S v p) :
    Calls Try.prog 39 #[v] w fun e w' => e = .returned (.bool (progB p)) ∧ Below w.heap.size w w' := by
  obtain ⟨A, c, A', c', rfl, hcc, hi, ht⟩ := hp
  have hn := hi.1
  have hn' := ht.1
  have hb0 := below1 w (Obj.cells #[Value.slice A p.init.length c, Value.slice A' p.ts.length c'] 31)
  by_cases hs : 1 ≤ p.init.length ∧ p.init.length ≤ 6 ∧ 1 ≤ p.ts.length ∧ p.ts.length ≤ 3
  · obtain ⟨s1, s2, s3, s4⟩ := hs
    have HSz := hide (show sizesB p = true by unfold sizesB; simp; omega)
    have q1 : decide ((p.init.length : Int) < 1) = false := by simp; omega
    have q2 : decide ((6 : Int) < (p.init.length : Int)) = false := by simp; omega
    have q3 : decide ((p.ts.length : Int) < 1) = false := by simp; omega
    have q4 : decide ((3 : Int) < (p.ts.length : Int)) = false := by simp; omega
    go_enter Try.func39, Try.ntmps39
    go_wp2
    go_quiet (fail)
    go_wp2
    clear q1 q2 q3 q4
    have hbq := below_drewN hb0 nq
    generalize hW : (w.alloc (Obj.cells #[Value.slice A p.init.length c, Value.slice A' p.ts.length c'] 31)).drewN nq = W at *
    clear hW
    go_loopw [30] (fun i wr => ∃ (k : Nat), k ≤ p.ts.length ∧ i = .int .i64 k ∧ Hid (∀ j, j < k → thrB (gett p.ts j) p.init.length = true) ∧ Below w.heap.size w wr) (fun i _ => p.ts.length - (intOf i).toNat)
    case atStart => exact ⟨0, Nat.zero_le _, rfl, hide (fun j hj => by omega), hbq⟩
    case round =>
      obtain ⟨k, hk, rfl, hj, hb⟩ := hrel
      by_cases hlt : k < p.ts.length
      · obtain ⟨b, off, rfl, hbB, hc⟩ := (ht.below hb hS).2 (by omega)
        obtain ⟨A2, c2, hcell, hcap, hin⟩ := hc k hlt
        have hin1 := fun o => hin.below (below1 wr o) (fun b h => Nat.lt_of_lt_of_le (hS b h) hb.size)
        have kc := hide (fun w hS ha => thrOk_any A2 (gett p.ts k) c2 p.init.length S w hn hS ha)
        have HIN := hide hin1
        clear hc hin hin1
        cases hr : thrB (gett p.ts k) p.init.length
        · have HF := hide (show progB p = false by unfold progB; rw [allB_no hlt hr]; simp)
          rw [hr] at kc
          clear hr
          go_wp2_with (go_at_call 113; refine (kc.out _ (fun b h => Nat.lt_of_lt_of_le (Nat.lt_of_lt_of_le (hS b h) hb.size) (below1 _ _).size) (HIN.out _)).mono ?_; rintro e w3 ⟨rfl, hb3⟩)
          go_ret
          exact ⟨ret_bool HF.out.symm, below_then hb (below_step hb3)⟩
        · rw [hr] at kc
          have HR := hide hr
          clear hr
          go_wp2_with (go_at_call 113; refine (kc.out _ (fun b h => Nat.lt_of_lt_of_le (Nat.lt_of_lt_of_le (hS b h) hb.size) (below1 _ _).size) (HIN.out _)).mono ?_; rintro e w3 ⟨rfl, hb3⟩)
          go_roundw
          case rel =>
            refine ⟨k + 1, by omega, by go_num, hide (fun j hjk => ?_), below_then hb (below_step hb3)⟩
            by_cases e : j = k
            · subst e; exact HR.out
            · exact hj.out j (by omega)
          case measure => simp [intOf]; omega
      · obtain rfl : k = p.ts.length := by omega
        have HF := hide (show progB p = true by unfold progB; rw [allB_yes hj.out, HSz.out]; rfl)
        go_wp2
        go_ret
        exact ⟨ret_bool HF.out.symm, hb⟩
  · have HF := hide (show progB p = false by unfold progB sizesB; rw [decide_eq_false hs]; simp)
    by_cases h1 : p.init.length < 1
    · have q1 : decide ((p.init.length : Int) < 1) = true := by simp; omega
      clear hs
      go_enter Try.func39, Try.ntmps39
      go_wp2
      go_quiet (fail)
      go_wp2
      go_ret
      exact ⟨ret_bool HF.out.symm, below_drewN hb0 _⟩
    have q1 : decide ((p.init.length : Int) < 1) = false := by simp; omega
    by_cases h2 : 6 < p.init.length
    · have q2 : decide ((6 : Int) < (p.init.length : Int)) = true := by simp; omega
      clear hs
      go_enter Try.func39, Try.ntmps39
      go_wp2
      go_quiet (fail)
      go_wp2
      go_ret
      exact ⟨ret_bool HF.out.symm, below_drewN hb0 _⟩
    have q2 : decide ((6 : Int) < (p.init.length : Int)) = false := by simp; omega
    by_cases h3 : p.ts.length < 1
    · have q3 : decide ((p.ts.length : Int) < 1) = true := by simp; omega
      clear hs
      go_enter Try.func39, Try.ntmps39
      go_wp2
      go_quiet (fail)
      go_wp2
      go_ret
      exact ⟨ret_bool HF.out.symm, below_drewN hb0 _⟩
    have q3 : decide ((p.ts.length : Int) < 1) = false := by simp; omega
    have q4 : decide ((3 : Int) < (p.ts.length : Int)) = true := by simp; omega
    clear hs
    go_enter Try.func39, Try.ntmps39
    go_wp2
    go_quiet (fail)
    go_wp2
    go_ret
    exact ⟨ret_bool HF.out.symm, below_drewN hb0 _⟩
end Go.Proofs.Ytfkaacfeikmabaa
