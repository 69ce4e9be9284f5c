/- How jobs lie in memory; rows of numbers that are told by a function. -/
import Derived.Test.YtfnphnjadknoaaaMp0
import Derived.Test.YtfnphnjadknoaaaMp1
namespace Go.Proofs.Ytfnphnjadknoaaa
open Go.RowKit

structure JobD where
  v : Int
  ks : List Int
def job0 : JobD := ⟨0, []⟩
def getj (l : List JobD) (k : Nat) : JobD := l.getD k job0
theorem getj_eq {l : List JobD} {k : Nat} (h : k < l.length) : getj l k = l[k] := by simp [getj, List.getD_eq_getElem?_getD, List.getElem?_eq_getElem h]
theorem geti_eq {l : List Int} {k : Nat} (h : k < l.length) : geti l k = l[k] := by simp [geti, List.getD_eq_getElem?_getD, List.getElem?_eq_getElem h]

def cntJ (l : List JobD) (J : Nat) (x : Int) : Nat := ((l.take J).map (fun j => j.ks.count x)).sum
def cntK (l : List JobD) (J K : Nat) (x : Int) : Nat := cntJ l J x + ((getj l J).ks.take K).count x
theorem cntJ_zero (l : List JobD) (x : Int) : cntJ l 0 x = 0 := by simp [cntJ]
theorem cntK_zero (l : List JobD) (J : Nat) (x : Int) : cntK l J 0 x = cntJ l J x := by simp [cntK]
theorem cntJ_succ {l : List JobD} {J : Nat} (h : J < l.length) (x : Int) : cntJ l (J + 1) x = cntJ l J x + (getj l J).ks.count x := by
  unfold cntJ
  rw [List.take_succ_eq_append_getElem h, List.map_append, List.sum_append, getj_eq h]
  simp
theorem cntK_all {l : List JobD} {J K : Nat} (h : J < l.length) (hK : (getj l J).ks.length ≤ K) (x : Int) : cntK l J K x = cntJ l (J + 1) x := by
  unfold cntK
  rw [cntJ_succ h, List.take_of_length_le hK]
theorem cntK_succ {l : List JobD} {J K : Nat} (h : K < (getj l J).ks.length) (x : Int) : cntK l J (K + 1) x = cntK l J K x + if geti (getj l J).ks K = x then 1 else 0 := by
  unfold cntK
  rw [List.take_succ_eq_append_getElem h, List.count_append, geti_eq h, List.count_singleton]
  by_cases e : (getj l J).ks[K] = x
  · simp [e]; omega
  · simp [e]
theorem cntJ_mono (l : List JobD) (J : Nat) (x : Int) : cntJ l J x ≤ cntJ l l.length x := by
  unfold cntJ
  rw [List.take_of_length_le (Nat.le_refl _)]
  conv => rhs; rw [← List.take_append_drop J l, List.map_append, List.sum_append]
  omega
theorem cntK_le {l : List JobD} {J K : Nat} (h : J < l.length) (x : Int) : cntK l J K x ≤ cntJ l l.length x := by
  refine Nat.le_trans ?_ (cntJ_mono l (J + 1) x)
  rw [cntJ_succ h]
  unfold cntK
  have := (List.take_sublist K (getj l J).ks).count_le x
  omega

theorem cntJ_bound {l : List JobD} (hsz : ∀ k, (getj l k).ks.length ≤ 1048576) {J : Nat} (hJ : J ≤ l.length) (x : Int) : cntJ l J x ≤ J * 1048576 := by
  induction J with
  | zero => exact Nat.le_trans (Nat.le_of_eq (cntJ_zero l x)) (Nat.zero_le _)
  | succ J ih =>
    have ih := ih (by omega)
    rw [cntJ_succ (by omega)]
    have h1 := hsz J
    have h2 : (getj l J).ks.count x ≤ (getj l J).ks.length := List.count_le_length
    omega
theorem cntK_bound {l : List JobD} (hsz : ∀ k, (getj l k).ks.length ≤ 1048576) {J : Nat} (hJ : J < l.length) (K : Nat) (x : Int) : cntK l J K x ≤ l.length * 1048576 :=
  Nat.le_trans (cntK_le hJ x) (cntJ_bound hsz (Nat.le_refl _) x)

def kidB (n i : Nat) (x : Int) : Bool := decide ((i : Int) < x) && decide (x < (n : Int))
def jobsB (l : List JobD) : Bool :=
  decide (1 ≤ l.length) && decide (l.length ≤ 30) && (allB (fun i => allB (fun k => kidB l.length i (geti (getj l i).ks k)) (getj l i).ks.length) l.length && allB (fun m => decide (cntJ l l.length ((m + 1 : Nat) : Int) = 1)) (l.length - 1))
structure Tree (l : List JobD) : Prop where
  one : 1 ≤ l.length
  top : l.length ≤ 30
  kid : ∀ i, i < l.length → ∀ k, k < (getj l i).ks.length → (i : Int) < geti (getj l i).ks k ∧ geti (getj l i).ks k < l.length
  uses : ∀ m : Nat, 1 ≤ m → m < l.length → cntJ l l.length (m : Int) = 1
theorem jobsB_tree {l : List JobD} (h : jobsB l = true) : Tree l := by
  unfold jobsB at h
  simp only [Bool.and_eq_true, decide_eq_true_eq] at h
  obtain ⟨⟨h1, h2⟩, h3, h4⟩ := h
  refine ⟨h1, h2, fun i hi k hk => ?_, fun m hm hl => ?_⟩
  · have h5 : allB (fun k => kidB l.length i (geti (getj l i).ks k)) (getj l i).ks.length = true := allB_at (f := fun i => allB (fun k => kidB l.length i (geti (getj l i).ks k)) (getj l i).ks.length) h3 hi
    have := allB_at h5 hk
    unfold kidB at this
    simp only [Bool.and_eq_true, decide_eq_true_eq] at this
    exact this
  · have := allB_at h4 (k := m - 1) (by omega)
    rw [show m - 1 + 1 = m by omega] at this
    simpa using this
theorem jobsB_yes {l : List JobD} (h : Tree l) : jobsB l = true := by
  unfold jobsB
  rw [decide_eq_true h.one, decide_eq_true h.top, Bool.and_self, Bool.true_and]
  rw [allB_yes (fun i hi => allB_yes (fun k hk => ?_)), Bool.true_and]
  · exact allB_yes (fun m hm => decide_eq_true (h.uses (m + 1) (by omega) (by omega)))
  · have := h.kid i hi k hk
    unfold kidB
    rw [decide_eq_true this.1, decide_eq_true this.2, Bool.and_self]
theorem jobsB_len {l : List JobD} (h : l.length < 1 ∨ 30 < l.length) : jobsB l = false := by
  cases hb : jobsB l
  · rfl
  · have := jobsB_tree hb
    have h1 := this.one
    have h2 := this.top
    omega
theorem jobsB_kid {l : List JobD} {i k : Nat} (hi : i < l.length) (hk : k < (getj l i).ks.length) (h : geti (getj l i).ks k ≤ i ∨ (l.length : Int) ≤ geti (getj l i).ks k) : jobsB l = false := by
  cases hb : jobsB l
  · rfl
  · have := (jobsB_tree hb).kid i hi k hk
    omega
theorem jobsB_uses {l : List JobD} {m : Nat} (h1 : 1 ≤ m) (hl : m < l.length) (h : cntJ l l.length (m : Int) ≠ 1) : jobsB l = false := by
  cases hb : jobsB l
  · rfl
  · exact absurd ((jobsB_tree hb).uses m h1 hl) h

def parI (l : List JobD) : Nat → Int → Int
  | 0, _ => -1
  | J + 1, x => if parI l J x = -1 then (if (getj l J).ks.count x = 0 then -1 else (J : Int)) else parI l J x
theorem parI_zero (l : List JobD) (x : Int) : parI l 0 x = -1 := rfl
theorem parI_rng (l : List JobD) (J : Nat) (x : Int) : -1 ≤ parI l J x ∧ parI l J x < J := by
  induction J with
  | zero => simp [parI]
  | succ J ih =>
    unfold parI
    split
    · split <;> omega
    · omega
theorem parI_none (l : List JobD) {J : Nat} (hJ : J ≤ l.length) (x : Int) : parI l J x = -1 ↔ cntJ l J x = 0 := by
  induction J with
  | zero => simp [parI, cntJ]
  | succ J ih =>
    have ih := ih (by omega)
    rw [cntJ_succ (by omega)]
    unfold parI
    by_cases h : parI l J x = -1
    · rw [if_pos h]
      have h0 := ih.1 h
      by_cases hc : (getj l J).ks.count x = 0
      · rw [if_pos hc]; simp [h0, hc]
      · rw [if_neg hc]
        constructor
        · intro e; omega
        · intro e; omega
    · rw [if_neg h]
      have h0 : cntJ l J x ≠ 0 := fun e => h (ih.2 e)
      constructor
      · intro e; exact absurd e h
      · intro e; omega
theorem parI_stays (l : List JobD) {J J' : Nat} (hJ : J ≤ J') (x : Int) (h : parI l J x ≠ -1) : parI l J' x = parI l J x := by
  induction J' with
  | zero => rw [Nat.le_zero.1 hJ]
  | succ J' ih =>
    by_cases e : J = J' + 1
    · rw [e]
    · have ih := ih (by omega)
      show (if parI l J' x = -1 then (if (getj l J').ks.count x = 0 then -1 else (J' : Int)) else parI l J' x) = _
      rw [if_neg (by rw [ih]; exact h), ih]
def parK (l : List JobD) (J K : Nat) (x : Int) : Int := if parI l J x = -1 then (if ((getj l J).ks.take K).count x = 0 then -1 else (J : Int)) else parI l J x
theorem parK_zero (l : List JobD) (J : Nat) (x : Int) : parK l J 0 x = parI l J x := by
  unfold parK
  by_cases h : parI l J x = -1
  · rw [if_pos h, if_pos (by simp), h]
  · rw [if_neg h]
theorem parK_all (l : List JobD) {J K : Nat} (hK : (getj l J).ks.length ≤ K) (x : Int) : parK l J K x = parI l (J + 1) x := by
  unfold parK
  rw [List.take_of_length_le hK]
  rfl
theorem parK_none {l : List JobD} {J : Nat} (hJ : J ≤ l.length) (K : Nat) (x : Int) : parK l J K x = -1 ↔ cntK l J K x = 0 := by
  have h := parI_none l hJ x
  unfold parK cntK
  by_cases h1 : parI l J x = -1
  · rw [if_pos h1]
    have h2 := h.1 h1
    by_cases h3 : ((getj l J).ks.take K).count x = 0
    · rw [if_pos h3]; omega
    · rw [if_neg h3]; omega
  · rw [if_neg h1]
    have h2 : cntJ l J x ≠ 0 := fun e => h1 (h.2 e)
    omega
theorem parK_succ {l : List JobD} {J K : Nat} (hK : K < (getj l J).ks.length) (h1 : parK l J K (geti (getj l J).ks K) = -1) (x : Int) : parK l J (K + 1) x = if x = geti (getj l J).ks K then (J : Int) else parK l J K x := by
  have h2 : ∀ y, ((getj l J).ks.take (K + 1)).count y = ((getj l J).ks.take K).count y + if geti (getj l J).ks K = y then 1 else 0 := fun y => by
    rw [List.take_succ_eq_append_getElem hK, List.count_append, geti_eq hK, List.count_singleton]
    by_cases e : (getj l J).ks[K] = y <;> simp [e]
  by_cases e : x = geti (getj l J).ks K
  · subst e
    rw [if_pos rfl]
    unfold parK at h1 ⊢
    rw [h2, if_pos rfl]
    by_cases h3 : parI l J (geti (getj l J).ks K) = -1
    · rw [if_pos h3, if_neg (by omega)]
    · rw [if_neg h3] at h1
      exact absurd h1 h3
  · rw [if_neg e]
    unfold parK
    have h4 : ((getj l J).ks.take (K + 1)).count x = ((getj l J).ks.take K).count x := by rw [h2, if_neg (fun h => e h.symm), Nat.add_zero]
    rw [h4]
theorem parI_mem (l : List JobD) (J : Nat) (x : Int) (h : parI l J x ≠ -1) : ∃ i : Nat, i < J ∧ parI l J x = i ∧ x ∈ (getj l i).ks := by
  induction J with
  | zero => exact absurd rfl h
  | succ J ih =>
    unfold parI at h ⊢
    by_cases h1 : parI l J x = -1
    · rw [if_pos h1] at h ⊢
      by_cases hc : (getj l J).ks.count x = 0
      · rw [if_pos hc] at h; exact absurd rfl h
      · rw [if_neg hc]
        exact ⟨J, by omega, rfl, List.count_pos_iff.1 (by omega)⟩
    · rw [if_neg h1]
      obtain ⟨i, h2, h3, h4⟩ := ih h1
      exact ⟨i, by omega, h3, h4⟩
theorem Tree.par {l : List JobD} (h : Tree l) {i : Nat} (hi : i < l.length) {x : Int} (hx : x ∈ (getj l i).ks) : parI l l.length x = i := by
  obtain ⟨k, hk, e⟩ := List.getElem_of_mem hx
  have h1 := h.kid i hi k hk
  rw [geti_eq hk, e] at h1
  have h2 : cntJ l l.length x = 1 := by
    have := h.uses x.toNat (by omega) (by omega)
    rwa [show ((x.toNat : Nat) : Int) = x by omega] at this
  have hpos : 0 < (getj l i).ks.count x := List.count_pos_iff.2 hx
  have h3 := cntJ_mono l (i + 1) x
  rw [cntJ_succ hi, h2] at h3
  have h4 : parI l i x = -1 := (parI_none l (by omega) x).2 (by omega)
  have h5 : parI l (i + 1) x = i := by
    show (if parI l i x = -1 then (if (getj l i).ks.count x = 0 then -1 else (i : Int)) else parI l i x) = _
    rw [if_pos h4, if_neg (by omega)]
  rw [parI_stays l (J := i + 1) (by omega) x (by omega), h5]
theorem Tree.parent {l : List JobD} (h : Tree l) {j : Nat} (h1 : 1 ≤ j) (hj : j < l.length) : ∃ i : Nat, parI l l.length j = i ∧ i < j ∧ (j : Int) ∈ (getj l i).ks := by
  have h2 := h.uses j h1 hj
  obtain ⟨i, h3, h4, h5⟩ := parI_mem l l.length j (fun e => by have := (parI_none l (Nat.le_refl _) j).1 e; omega)
  refine ⟨i, h4, ?_, h5⟩
  obtain ⟨k, hk, e⟩ := List.getElem_of_mem h5
  have := h.kid i h3 k hk
  rw [geti_eq hk, e] at this
  omega
theorem Tree.root {l : List JobD} (h : Tree l) : parI l l.length 0 = -1 := by
  rw [parI_none l (Nat.le_refl _)]
  refine Nat.eq_zero_of_not_pos (fun hp => ?_)
  have : parI l l.length 0 ≠ -1 := fun e => by have := (parI_none l (Nat.le_refl _) 0).1 e; omega
  obtain ⟨i, h3, h4, h5⟩ := parI_mem l l.length 0 this
  obtain ⟨k, hk, e⟩ := List.getElem_of_mem h5
  have := h.kid i h3 k hk
  rw [geti_eq hk, e] at this
  omega

def sumK (f : Int → Int) (ks : List Int) : Int := ks.foldl (fun n x => wrap64 (n + f x)) 0
def valF (l : List JobD) : Nat → Int → Int
  | 0, _ => 0
  | d + 1, j => wrap64 ((getj l j.toNat).v + wrap64 (2 * sumK (valF l d) (getj l j.toNat).ks))
def valJ (l : List JobD) (j : Nat) : Int := valF l (l.length - j) j
theorem sumK_congr {f g : Int → Int} {ks : List Int} (h : ∀ x ∈ ks, f x = g x) : sumK f ks = sumK g ks := by
  unfold sumK
  generalize (0 : Int) = a
  induction ks generalizing a with
  | nil => rfl
  | cons x ks ih =>
    rw [List.foldl_cons, List.foldl_cons, h x (by simp)]
    exact ih (fun y hy => h y (by simp [hy])) _
theorem sumK_snoc (f : Int → Int) (ks : List Int) (x : Int) : sumK f (ks ++ [x]) = wrap64 (sumK f ks + f x) := by
  unfold sumK
  rw [List.foldl_append]
  rfl
theorem sumK_take (f : Int → Int) {ks : List Int} {k : Nat} (h : k < ks.length) : sumK f (ks.take (k + 1)) = wrap64 (sumK f (ks.take k) + f (geti ks k)) := by
  rw [List.take_succ_eq_append_getElem h, sumK_snoc, geti_eq h]
theorem Tree.deep {l : List JobD} (h : Tree l) (d : Nat) : ∀ (d' j : Nat), j < l.length → l.length - j ≤ d → l.length - j ≤ d' → valF l d j = valF l d' j := by
  induction d with
  | zero => intro d' j hj h1; omega
  | succ d ih =>
    intro d' j hj h1 h2
    obtain ⟨d', rfl⟩ : ∃ m, d' = m + 1 := ⟨d' - 1, by omega⟩
    show wrap64 _ = wrap64 _
    rw [sumK_congr (g := valF l d')]
    intro x hx
    obtain ⟨k, hk, e⟩ := List.getElem_of_mem hx
    have h3 := h.kid j hj k (by simpa using hk)
    rw [geti_eq (by simpa using hk)] at h3
    simp only [Int.toNat_natCast] at e hk
    rw [e] at h3
    have := ih d' x.toNat (by omega) (by omega) (by omega)
    rwa [show ((x.toNat : Nat) : Int) = x by omega] at this
theorem Tree.val {l : List JobD} (h : Tree l) {j : Nat} (hj : j < l.length) : valJ l j = wrap64 ((getj l j).v + wrap64 (2 * sumK (fun x => valJ l x.toNat) (getj l j).ks)) := by
  unfold valJ
  obtain ⟨d, hd⟩ : ∃ d, l.length - j = d + 1 := ⟨l.length - j - 1, by omega⟩
  rw [hd]
  show wrap64 _ = _
  rw [Int.toNat_natCast, sumK_congr (g := fun x => valF l (l.length - x.toNat) x.toNat)]
  intro x hx
  obtain ⟨k, hk, e⟩ := List.getElem_of_mem hx
  have h3 := h.kid j hj k hk
  rw [geti_eq hk, e] at h3
  have := h.deep d (l.length - x.toNat) x.toNat (by omega) (by omega) (by omega)
  rwa [show ((x.toNat : Nat) : Int) = x by omega] at this ⊢
def serialI (l : List JobD) : Int := if jobsB l then valJ l 0 else 0
end Go.Proofs.Ytfnphnjadknoaaa

namespace Go.Proofs.Ytfnphnjadknoaaa
open Go.RowKit

def JobIn (w : World) (S : Nat → Prop) (b off : Nat) (j : JobD) : Prop :=
  w.cell? ⟨b, off, none⟩ = some (.int .i64 j.v) ∧ ∃ A c, w.cell? ⟨b, off + 1, none⟩ = some (.slice A j.ks.length c) ∧ j.ks.length ≤ c ∧ IntsAt w S A j.ks
def JobsAt (w : World) (S : Nat → Prop) (A : Option Addr) (l : List JobD) : Prop :=
  l.length ≤ 9223372036854775807 ∧ (0 < l.length → ∃ b off, A = some ⟨b, off, none⟩ ∧ S b ∧ ∀ k, k < l.length → JobIn w S b (off + k * 2) (getj l k))
section
variable {w w' : World} {S S' : Nat → Prop} {B b off : Nat} {A : Option Addr} {j : JobD} {l : List JobD}
theorem JobIn.keep (h : JobIn w S b off j) (hb : S b) (hk : ∀ b o, S b → w'.cell? ⟨b, o, none⟩ = w.cell? ⟨b, o, none⟩) (hS : ∀ b, S b → S' b) : JobIn w' S' b off j := by
  obtain ⟨h1, A, c, h2, h3, h4⟩ := h
  exact ⟨(hk b _ hb).trans h1, A, c, (hk b _ hb).trans h2, h3, h4.keep hk hS⟩
theorem JobsAt.keep (h : JobsAt w S A l) (hk : ∀ b o, S b → w'.cell? ⟨b, o, none⟩ = w.cell? ⟨b, o, none⟩) (hS : ∀ b, S b → S' b) : JobsAt w' S' A l :=
  ⟨h.1, fun hn => by
    obtain ⟨b, off, e, hb, hc⟩ := h.2 hn
    exact ⟨b, off, e, hS b hb, fun k hk' => (hc k hk').keep hb hk hS⟩⟩
theorem JobsAt.below (h : JobsAt w S A l) (hb : Below B w w') (hS : ∀ b, S b → b < B) : JobsAt w' S A l := h.keep (below_keep hb hS) (fun _ h => h)
theorem JobsAt.more (h : JobsAt w S A l) (hS : ∀ b, S b → S' b) : JobsAt w S' A l := h.keep (fun _ _ _ => rfl) hS
theorem JobsAt.next (h : JobsAt w S A l) (hS : ∀ b, S b → b < w.heap.size) (hb : Below w.heap.size w w') : JobsAt w' S A l := h.below hb hS
theorem JobsAt.at_ (h : JobsAt w S A l) {k : Nat} (hk : k < l.length) : ∃ b off, A = some ⟨b, off, none⟩ ∧ S b ∧ w.cell? ⟨b, off + k * 2, none⟩ = some (.int .i64 (getj l k).v) ∧ ∃ A' c', w.cell? ⟨b, off + k * 2 + 1, none⟩ = some (.slice A' (getj l k).ks.length c') ∧ (getj l k).ks.length ≤ c' ∧ IntsAt w S A' (getj l k).ks := by
  obtain ⟨b, off, e, hb, hc⟩ := h.2 (by omega)
  obtain ⟨h1, A', c', h2, h3, h4⟩ := hc k hk
  exact ⟨b, off, e, hb, h1, A', c', h2, h3, h4⟩
theorem IntsAt.at_ {zs : List Int} (h : IntsAt w S A zs) {k : Nat} (hk : k < zs.length) : ∃ b off, A = some ⟨b, off, none⟩ ∧ S b ∧ w.cell? ⟨b, off + k, none⟩ = some (.int .i64 (geti zs k)) := by
  obtain ⟨b, off, e, hb, hc⟩ := h.2 (by omega)
  exact ⟨b, off, e, hb, hc k hk⟩
end

theorem zrow_get1 (z : Value) (n m : Nat) (h : m < n) : (zrow #[z] n)[m]? = some z := by
  simp [zrow, madeCells, h, Nat.mod_one]

def FnAt (w : World) (q n : Nat) (f : Nat → Int) : Prop := ∃ cs, Blk w q 3 cs ∧ cs.size = n ∧ ∀ m, m < n → cs[m]? = some (.int .i64 (f m))
def upd (f : Nat → Int) (k : Nat) (v : Int) : Nat → Int := fun m => if m = k then v else f m
section
variable {w w' : World} {q n g k : Nat} {f : Nat → Int}
theorem FnAt.lt (h : FnAt w q n f) : q < w.heap.size := by obtain ⟨_, h, _⟩ := h; exact h.lt
theorem FnAt.below {B : Nat} (h : FnAt w q n f) (hb : Below B w w') (hq : q < B) : FnAt w' q n f := by obtain ⟨cs, h1, h2⟩ := h; exact ⟨cs, h1.below hb hq, h2⟩
theorem FnAt.next (h : FnAt w q n f) (hb : Below w.heap.size w w') : FnAt w' q n f := h.below hb h.lt
theorem FnAt.only (h : FnAt w q n f) (ho : Only g w w') (hg : q ≠ g) : FnAt w' q n f := by obtain ⟨cs, h1, h2⟩ := h; exact ⟨cs, h1.only ho hg, h2⟩
theorem FnAt.far (h : FnAt w q n f) {p : Addr} (hp : q ≠ p.block) (u : Value) : FnAt (w.setCell p u) q n f := by obtain ⟨cs, h1, h2⟩ := h; exact ⟨cs, h1.far hp u, h2⟩
theorem FnAt.cell (h : FnAt w q n f) (hk : k < n) : w.cell? ⟨q, k, none⟩ = some (.int .i64 (f k)) ∧ w.frozen? ⟨q, k, none⟩ = false := by
  obtain ⟨cs, h1, h2, h3⟩ := h
  exact ⟨(h1.cell k).trans (h3 k hk), h1.frozen k⟩
theorem FnAt.set_ (h : FnAt w q n f) (hk : k < n) (v : Int) : FnAt (w.setCell ⟨q, k, none⟩ (.int .i64 v)) q n (upd f k v) := by
  obtain ⟨cs, h1, h2, h3⟩ := h
  refine ⟨cs.setIfInBounds k (.int .i64 v), h1.set_ _ _, by simpa using h2, fun m hm => ?_⟩
  rw [Array.getElem?_setIfInBounds]
  unfold upd
  by_cases e : k = m
  · subst e; rw [if_pos rfl, if_pos (by omega), if_pos rfl]
  · rw [if_neg e, if_neg (fun h => e h.symm)]; exact h3 m hm
theorem FnAt.congr {f' : Nat → Int} (h : FnAt w q n f) (hf : ∀ m, m < n → f' m = f m) : FnAt w q n f' := by
  obtain ⟨cs, h1, h2, h3⟩ := h
  exact ⟨cs, h1, h2, fun m hm => by rw [hf m hm]; exact h3 m hm⟩
theorem FnAt.zero (w : World) (n : Nat) : FnAt (w.alloc (.cells (zrow #[.int .i64 0] n) 3)) w.heap.size n (fun _ => 0) :=
  ⟨_, Blk.new _ _ _, zrow_size1 _ _, fun _ hm => zrow_get1 _ _ _ hm⟩
theorem FnAt.ints (h : FnAt w q n f) (hn : n ≤ 1048576) {S : Nat → Prop} (hS : S q) : IntsAt w S (some ⟨q, 0, none⟩) ((List.range n).map f) := by
  refine ⟨by simp; omega, fun _ => ⟨q, 0, rfl, hS, fun k hk => ?_⟩⟩
  have hk' : k < n := by simpa using hk
  rw [Nat.zero_add, (h.cell hk').1]
  simp [geti, List.getD_eq_getElem?_getD, hk']
end
end Go.Proofs.Ytfnphnjadknoaaa
