/- laws.eqIntS. -/
import Derived.Test.YtfnphnjadknoaaaMp0
import Derived.Test.YtfnphnjadknoaaaMp1
import Derived.Test.YtfnphnjadknoaaaMp3
import Derived.Deep.QuietTactic
import Derived.BigQuiet
import Derived.StillTailTactics
namespace Go.Proofs.Ytfnphnjadknoaaa
open Go.RowKit

structure PoolD where
  js : List JobD
  dq : List (List Int)
  ran : List Bool
  dn : List Bool
  lf : List Int
  sm : List Int
  vl : List Int
def pool0 : PoolD := ⟨[], [], [], [], [], [], []⟩
def getb (l : List Bool) (k : Nat) : Bool := l.getD k false
def getq (l : List (List Int)) (k : Nat) : List Int := l.getD k []
theorem getb_eq {l : List Bool} {k : Nat} (h : k < l.length) : getb l k = l[k] := by simp [getb, List.getD_eq_getElem?_getD, List.getElem?_eq_getElem h]
theorem getq_eq {l : List (List Int)} {k : Nat} (h : k < l.length) : getq l k = l[k] := by simp [getq, List.getD_eq_getElem?_getD, List.getElem?_eq_getElem h]
theorem getb_set (l : List Bool) (i k : Nat) (b : Bool) : getb (l.set i b) k = if k = i ∧ i < l.length then b else getb l k := by
  simp only [getb, List.getD_eq_getElem?_getD, List.getElem?_set]
  by_cases h : i = k
  · subst h
    by_cases hl : i < l.length
    · simp [hl]
    · simp [hl]
  · rw [if_neg h, if_neg (fun e => h e.1.symm)]
theorem getz_set (l : List Int) (i k : Nat) (b : Int) : geti (l.set i b) k = if k = i ∧ i < l.length then b else geti l k := by
  simp only [geti, List.getD_eq_getElem?_getD, List.getElem?_set]
  by_cases h : i = k
  · subst h
    by_cases hl : i < l.length
    · simp [hl]
    · simp [hl]
  · rw [if_neg h, if_neg (fun e => h e.1.symm)]
theorem getq_set (l : List (List Int)) (i k : Nat) (b : List Int) : getq (l.set i b) k = if k = i ∧ i < l.length then b else getq l k := by
  simp only [getq, List.getD_eq_getElem?_getD, List.getElem?_set]
  by_cases h : i = k
  · subst h
    by_cases hl : i < l.length
    · simp [hl]
    · simp [hl]
  · rw [if_neg h, if_neg (fun e => h e.1.symm)]

theorem getb_far {l : List Bool} {i k : Nat} {b : Bool} (h : k ≠ i) : getb (l.set i b) k = getb l k := by rw [getb_set, if_neg (fun e => h e.1)]
theorem getb_at {l : List Bool} {i : Nat} {b : Bool} (h : i < l.length) : getb (l.set i b) i = b := by rw [getb_set, if_pos ⟨rfl, h⟩]
theorem getz_far {l : List Int} {i k : Nat} {b : Int} (h : k ≠ i) : geti (l.set i b) k = geti l k := by rw [getz_set, if_neg (fun e => h e.1)]
theorem getz_at {l : List Int} {i : Nat} {b : Int} (h : i < l.length) : geti (l.set i b) i = b := by rw [getz_set, if_pos ⟨rfl, h⟩]
theorem getq_far {l : List (List Int)} {i k : Nat} {b : List Int} (h : k ≠ i) : getq (l.set i b) k = getq l k := by rw [getq_set, if_neg (fun e => h e.1)]
theorem getq_at {l : List (List Int)} {i : Nat} {b : List Int} (h : i < l.length) : getq (l.set i b) i = b := by rw [getq_set, if_pos ⟨rfl, h⟩]

def parD (p : PoolD) (x : Int) : Int := parI p.js p.js.length x
def cntQ (dq : List (List Int)) (x : Int) : Nat := (dq.map (fun r => r.count x)).sum
def reachB (p : PoolD) (j : Nat) : Bool := decide (j = 0) || getb p.ran (parD p j).toNat
def leftN (dn : List Bool) (ks : List Int) : Nat := ks.countP (fun x => !getb dn x.toNat)
def leftD (p : PoolD) (j : Nat) : Int := if getb p.ran j then (leftN p.dn (getj p.js j).ks : Int) else 0
def sumF (dn : List Bool) (vl : List Int) (ks : List Int) : Int := ks.foldl (fun n x => if getb dn x.toNat then wrap64 (n + geti vl x.toNat) else n) 0
def sumD (p : PoolD) (j : Nat) : Int := if getb p.ran j then sumF p.dn p.vl (getj p.js j).ks else 0
def worth (v s : Int) : Int := wrap64 (v + wrap64 (2 * s))
def innB (p : PoolD) : Bool := allB (fun w => allB (fun i => decide (0 ≤ geti (getq p.dq w) i) && decide (geti (getq p.dq w) i < (p.js.length : Int))) (getq p.dq w).length) p.dq.length
def rowB (p : PoolD) (j : Nat) : Bool := decide (cntQ p.dq j = if !getb p.ran j && reachB p j then 1 else 0) && (!getb p.ran j || reachB p j)
def accB (p : PoolD) (j : Nat) : Bool :=
  decide (geti p.lf j = leftD p j) && decide (geti p.sm j = sumD p j) && decide (geti p.vl j = if getb p.dn j then worth (getj p.js j).v (sumD p j) else 0) && (getb p.dn j == (getb p.ran j && decide (leftD p j = 0)))
def lensB (p : PoolD) : Bool := decide (p.ran.length = p.js.length) && decide (p.dn.length = p.js.length) && decide (p.lf.length = p.js.length) && decide (p.sm.length = p.js.length) && decide (p.vl.length = p.js.length)
def workB (n : Int) : Bool := decide (1 ≤ n) && decide (n ≤ 4)
def poolB (p : PoolD) : Bool := jobsB p.js && workB p.dq.length && lensB p && innB p && allB (rowB p) p.js.length && allB (accB p) p.js.length

structure PInv (p : PoolD) (e : Int) : Prop where
  tree : Tree p.js
  wk : 1 ≤ p.dq.length ∧ p.dq.length ≤ 4
  lran : p.ran.length = p.js.length
  ldn : p.dn.length = p.js.length
  llf : p.lf.length = p.js.length
  lsm : p.sm.length = p.js.length
  lvl : p.vl.length = p.js.length
  inn : ∀ w, w < p.dq.length → ∀ x ∈ getq p.dq w, 0 ≤ x ∧ x < p.js.length
  row : ∀ j, j < p.js.length → cntQ p.dq j = if (!getb p.ran j && reachB p j) = true then 1 else 0
  rch : ∀ j, j < p.js.length → getb p.ran j = true → reachB p j = true
  lft : ∀ j, j < p.js.length → geti p.lf j = leftD p j
  sum : ∀ j, j < p.js.length → geti p.sm j = sumD p j
  val : ∀ j, j < p.js.length → geti p.vl j = if getb p.dn j then worth (getj p.js j).v (sumD p j) else 0
  don : ∀ j : Nat, j < p.js.length → (j : Int) ≠ e → getb p.dn j = (getb p.ran j && decide (leftD p j = 0))
  exc : 0 ≤ e → e < p.js.length ∧ getb p.ran e.toNat = true ∧ getb p.dn e.toNat = false ∧ leftD p e.toNat = 0

theorem poolB_inv {p : PoolD} (h : poolB p = true) : PInv p (-1) := by
  unfold poolB at h
  simp only [Bool.and_eq_true] at h
  obtain ⟨⟨⟨⟨⟨h1, h2⟩, h3⟩, h4⟩, h5⟩, h6⟩ := h
  simp only [workB, lensB, Bool.and_eq_true, decide_eq_true_eq] at h2 h3
  have hr : ∀ j, j < p.js.length → cntQ p.dq j = (if (!getb p.ran j && reachB p j) = true then 1 else 0) ∧ (getb p.ran j = true → reachB p j = true) := fun j hj => by
    have h := allB_at (f := rowB p) h5 hj
    unfold rowB at h
    simp only [Bool.and_eq_true, decide_eq_true_eq, Bool.or_eq_true] at h
    refine ⟨by simpa only [Bool.and_eq_true] using h.1, fun e => h.2.resolve_left (by simp [e])⟩
  have ha : ∀ j, j < p.js.length → geti p.lf j = leftD p j ∧ geti p.sm j = sumD p j ∧ geti p.vl j = (if getb p.dn j then worth (getj p.js j).v (sumD p j) else 0) ∧ getb p.dn j = (getb p.ran j && decide (leftD p j = 0)) := fun j hj => by
    have h := allB_at (f := accB p) h6 hj
    unfold accB at h
    simp only [Bool.and_eq_true, decide_eq_true_eq, beq_iff_eq] at h
    exact ⟨h.1.1.1, h.1.1.2, h.1.2, h.2⟩
  refine ⟨jobsB_tree h1, by omega, h3.1.1.1.1, h3.1.1.1.2, h3.1.1.2, h3.1.2, h3.2, fun w hw x hx => ?_, fun j hj => (hr j hj).1, fun j hj => (hr j hj).2, fun j hj => (ha j hj).1, fun j hj => (ha j hj).2.1, fun j hj => (ha j hj).2.2.1, fun j hj _ => (ha j hj).2.2.2, fun h => absurd h (by omega)⟩
  obtain ⟨k, hk, e⟩ := List.getElem_of_mem hx
  have h7 := allB_at (f := fun w => allB (fun i => decide (0 ≤ geti (getq p.dq w) i) && decide (geti (getq p.dq w) i < (p.js.length : Int))) (getq p.dq w).length) h4 hw
  have h8 := allB_at (f := fun i => decide (0 ≤ geti (getq p.dq w) i) && decide (geti (getq p.dq w) i < (p.js.length : Int))) h7 hk
  simp only [Bool.and_eq_true, decide_eq_true_eq] at h8
  rwa [geti_eq hk, e] at h8
theorem poolB_yes {p : PoolD} (h : PInv p (-1)) : poolB p = true := by
  unfold poolB
  rw [jobsB_yes h.tree, Bool.true_and]
  rw [show workB p.dq.length = true by have := h.wk; unfold workB; rw [decide_eq_true (by omega), decide_eq_true (by omega), Bool.and_self], Bool.true_and]
  rw [show lensB p = true by unfold lensB; rw [decide_eq_true h.lran, decide_eq_true h.ldn, decide_eq_true h.llf, decide_eq_true h.lsm, decide_eq_true h.lvl]; rfl, Bool.true_and]
  rw [show innB p = true from allB_yes (fun w hw => allB_yes (fun i hi => by
    have := h.inn w hw (geti (getq p.dq w) i) (by rw [geti_eq hi]; exact List.getElem_mem _)
    rw [decide_eq_true this.1, decide_eq_true this.2, Bool.and_self])), Bool.true_and]
  rw [allB_yes (f := rowB p) (fun j hj => ?_), allB_yes (f := accB p) (fun j hj => ?_), Bool.and_self]
  · unfold accB
    rw [decide_eq_true (h.lft j hj), decide_eq_true (h.sum j hj), decide_eq_true (h.val j hj), h.don j hj (by omega)]
    simp
  · unfold rowB
    rw [decide_eq_true (h.row j hj), Bool.true_and]
    cases hr : getb p.ran j
    · rfl
    · rw [h.rch j hj hr]; rfl

theorem wrap_add (a b : Int) : wrap64 (wrap64 a + b) = wrap64 (a + b) := by unfold wrap64; omega
theorem wrap_id {a : Int} (h1 : -9223372036854775808 ≤ a) (h2 : a ≤ 9223372036854775807) : wrap64 a = a := by unfold wrap64; omega
theorem wrap_wrap (a : Int) : wrap64 (wrap64 a) = wrap64 a := by unfold wrap64; omega
def sumZ (dn : List Bool) (vl : List Int) (ks : List Int) : Int := (ks.map (fun x => if getb dn x.toNat then geti vl x.toNat else 0)).sum
theorem sumF_eq (dn : List Bool) (vl ks : List Int) : sumF dn vl ks = wrap64 (sumZ dn vl ks) := by
  have key : ∀ (ks : List Int) (a b : Int), a = wrap64 b → ks.foldl (fun n x => if getb dn x.toNat then wrap64 (n + geti vl x.toNat) else n) a = wrap64 (b + sumZ dn vl ks) := by
    intro ks
    induction ks with
    | nil => intro a b h; simp [sumZ, h]
    | cons x ks ih =>
      intro a b h
      rw [List.foldl_cons]
      have hz : sumZ dn vl (x :: ks) = (if getb dn x.toNat then geti vl x.toNat else 0) + sumZ dn vl ks := by simp [sumZ]
      rw [hz]
      by_cases hd : getb dn x.toNat = true
      · rw [if_pos hd, if_pos hd, ih _ (b + geti vl x.toNat) (by rw [h, wrap_add]), Int.add_assoc]
      · rw [if_neg hd, if_neg hd, ih _ b h, Int.zero_add]
  have := key ks 0 0 (by unfold wrap64; omega)
  rwa [Int.zero_add] at this
theorem sum_turn (f g : Int → Int) (x : Int) (ks : List Int) (h : ∀ y ∈ ks, y ≠ x → g y = f y) : (ks.map g).sum = (ks.map f).sum + (ks.count x : Int) * (g x - f x) := by
  induction ks with
  | nil => simp
  | cons y ks ih =>
    have ih := ih (fun z hz => h z (by simp [hz]))
    rw [List.map_cons, List.sum_cons, List.map_cons, List.sum_cons, ih, List.count_cons]
    by_cases e : y = x
    · subst e
      simp only [BEq.rfl, if_true]
      rw [Int.natCast_add, Int.add_mul]
      omega
    · rw [h y (by simp) e]
      simp [e]
      omega
theorem count_turn (f g : Int → Bool) (x : Int) (ks : List Int) (h : ∀ y ∈ ks, y ≠ x → g y = f y) (hf : f x = true) (hg : g x = false) : ks.countP g + ks.count x = ks.countP f := by
  induction ks with
  | nil => simp
  | cons y ks ih =>
    have ih := ih (fun z hz => h z (by simp [hz]))
    rw [List.countP_cons, List.countP_cons, List.count_cons]
    by_cases e : y = x
    · subst e
      simp [hf, hg]
      omega
    · rw [h y (by simp) e]
      simp [e]
      omega

/-! ### A job is done -/
def doneP (p : PoolD) (j : Nat) : PoolD := { p with dn := p.dn.set j true, vl := p.vl.set j (worth (getj p.js j).v (geti p.sm j)) }
def paidP (p : PoolD) (j i : Nat) : PoolD := { p with sm := p.sm.set i (wrap64 (geti p.sm i + geti p.vl j)), lf := p.lf.set i (wrap64 (geti p.lf i - 1)) }
def finP : Nat → PoolD → Nat → PoolD
  | 0, p, _ => p
  | d + 1, p, j =>
    if parD p j = -1 then doneP p j
    else if geti (paidP (doneP p j) j (parD p j).toNat).lf (parD p j).toNat = 0 then finP d (paidP (doneP p j) j (parD p j).toNat) (parD p j).toNat
    else paidP (doneP p j) j (parD p j).toNat

theorem cast_ne {a b : Nat} (h : a ≠ b) : (a : Int) ≠ (b : Int) := by omega
section
variable {p : PoolD} {j : Nat}
theorem Tree.mem {l : List JobD} (h : Tree l) {i : Nat} (hi : i < l.length) {x : Int} (hx : x ∈ (getj l i).ks) : (i : Int) < x ∧ x < l.length := by
  obtain ⟨k, hk, e⟩ := List.getElem_of_mem hx
  have := h.kid i hi k hk
  rwa [geti_eq hk, e] at this
theorem Tree.once {l : List JobD} (h : Tree l) {i : Nat} (hi : i < l.length) {x : Int} (hx : x ∈ (getj l i).ks) : (getj l i).ks.count x = 1 := by
  have hm := h.mem hi hx
  have h2 : cntJ l l.length x = 1 := by
    have := h.uses x.toNat (by omega) (by omega)
    rwa [show ((x.toNat : Nat) : Int) = x by omega] at this
  have hpos : 0 < (getj l i).ks.count x := List.count_pos_iff.2 hx
  have h3 := cntJ_mono l (i + 1) x
  rw [cntJ_succ hi, h2] at h3
  omega
theorem PInv.step (h : PInv p (j : Int)) (hpar : parD p j = -1) : PInv (doneP p j) (-1) := by
  obtain ⟨hj, hr, hd, hl⟩ := h.exc (by omega)
  simp only [Int.toNat_natCast] at hr hd hl
  have hj : j < p.js.length := by omega
  have hno : ∀ i, i < p.js.length → (j : Int) ∉ (getj p.js i).ks := fun i hi hm => by
    have := h.tree.par hi hm
    unfold parD at hpar
    omega
  have hdn : ∀ i, i < p.js.length → leftN (p.dn.set j true) (getj p.js i).ks = leftN p.dn (getj p.js i).ks := fun i hi => by
    unfold leftN
    refine List.countP_congr (fun x hx => ?_)
    have hm := h.tree.mem hi hx
    rw [getb_set, if_neg (fun e => hno i hi (by have : x = (j : Int) := by omega
                                                rwa [this] at hx))]
  have hsm : ∀ i, i < p.js.length → sumF (p.dn.set j true) (p.vl.set j (worth (getj p.js j).v (geti p.sm j))) (getj p.js i).ks = sumF p.dn p.vl (getj p.js i).ks := fun i hi => by
    rw [sumF_eq, sumF_eq]
    congr 1
    unfold sumZ
    congr 1
    refine List.map_congr_left (fun x hx => ?_)
    have hm := h.tree.mem hi hx
    have hne : ¬ (x.toNat = j) := fun e => hno i hi (by have : x = (j : Int) := by omega
                                                        rwa [this] at hx)
    rw [getb_far hne, getz_far hne]
  have hL : ∀ i, i < p.js.length → leftD (doneP p j) i = leftD p i := fun i hi => by
    show (if getb p.ran i then ((leftN (p.dn.set j true) (getj p.js i).ks : Nat) : Int) else 0) = _
    rw [hdn i hi]
    rfl
  have hS : ∀ i, i < p.js.length → sumD (doneP p j) i = sumD p i := fun i hi => by
    show (if getb p.ran i then sumF (p.dn.set j true) (p.vl.set j (worth (getj p.js j).v (geti p.sm j))) (getj p.js i).ks else 0) = _
    rw [hsm i hi]
    rfl
  refine ⟨h.tree, h.wk, h.lran, by show (p.dn.set j true).length = _; rw [List.length_set]; exact h.ldn, h.llf, h.lsm, by show (p.vl.set j _).length = _; rw [List.length_set]; exact h.lvl, h.inn, h.row, h.rch, fun i hi => ?_, fun i hi => ?_, fun i hi => ?_, fun i hi _ => ?_, fun e => absurd e (by omega)⟩
  · rw [hL i hi]; exact h.lft i hi
  · rw [hS i hi]; exact h.sum i hi
  · rw [hS i hi]
    show geti (p.vl.set j _) i = if getb (p.dn.set j true) i then worth (getj p.js i).v (sumD p i) else 0
    by_cases e : i = j
    · subst e
      rw [getz_at (by rw [h.lvl]; exact hi), getb_at (by rw [h.ldn]; exact hi), if_pos rfl, h.sum i hi]
    · rw [getz_far e, getb_far e]
      exact h.val i hi
  · rw [hL i hi]
    show getb (p.dn.set j true) i = _
    by_cases e : i = j
    · subst e
      rw [getb_at (by rw [h.ldn]; exact hi)]
      show true = (getb p.ran i && decide (leftD p i = 0))
      rw [hr, hl]
      rfl
    · rw [getb_far e]
      exact h.don i hi (cast_ne e)
theorem PInv.waits (h : PInv p (j : Int)) (hpar : parD p j ≠ -1) : ∃ i : Nat, parD p j = i ∧ i < j ∧ (j : Int) ∈ (getj p.js i).ks ∧ i < p.js.length ∧ getb p.ran i = true ∧ getb p.dn i = false ∧ 1 ≤ geti p.lf i ∧ geti p.lf i ≤ (getj p.js i).ks.length := by
  obtain ⟨hj, hr, hd, hl⟩ := h.exc (by omega)
  simp only [Int.toNat_natCast] at hr hd hl
  have hj' : j < p.js.length := by omega
  have hj0 : j ≠ 0 := fun e => by
    subst e
    exact hpar h.tree.root
  obtain ⟨i, h1, h2, h3⟩ := h.tree.parent (j := j) (by omega) hj'
  have hi : i < p.js.length := by omega
  have hri : getb p.ran i = true := by
    have := h.rch j hj' hr
    unfold reachB at this
    rw [show parD p j = (i : Int) from h1] at this
    simpa [hj0] using this
  have hle : leftN p.dn (getj p.js i).ks ≤ (getj p.js i).ks.length := List.countP_le_length
  have hpos : 0 < leftN p.dn (getj p.js i).ks := List.countP_pos_iff.2 ⟨j, h3, by simp [hd]⟩
  have hlf : geti p.lf i = (leftN p.dn (getj p.js i).ks : Int) := by
    rw [h.lft i hi]
    show (if getb p.ran i then _ else _) = _
    rw [if_pos hri]
  refine ⟨i, h1, h2, h3, hi, hri, ?_, by omega, by omega⟩
  have := h.don i hi (by omega)
  rw [hri, Bool.true_and] at this
  rw [this]
  refine decide_eq_false ?_
  rw [← h.lft i hi]
  omega
theorem PInv.up (h : PInv p (j : Int)) {i : Nat} (hpar : parD p j = i) (hsz : ∀ k, (getj p.js k).ks.length ≤ 1048576) : PInv (paidP (doneP p j) j i) (if geti (paidP (doneP p j) j i).lf i = 0 then (i : Int) else -1) := by
  obtain ⟨i', h1, hij, hmem, hi, hri, hdi, hl1, hl2⟩ := h.waits (by omega)
  obtain rfl : i' = i := by omega
  obtain ⟨hj, hr, hd, hl⟩ := h.exc (by omega)
  simp only [Int.toNat_natCast] at hr hd hl
  have hj : j < p.js.length := by omega
  have hlfi : i' < p.lf.length := by rw [h.llf]; exact hi
  have hsmi : i' < p.sm.length := by rw [h.lsm]; exact hi
  have hdnj : j < p.dn.length := by rw [h.ldn]; exact hj
  have hvlj : j < p.vl.length := by rw [h.lvl]; exact hj
  have hsz := hsz i'
  -- the new numbers
  have eLf : geti (paidP (doneP p j) j i').lf i' = geti p.lf i' - 1 := by
    show geti (p.lf.set i' (wrap64 (geti p.lf i' - 1))) i' = _
    rw [getz_set, if_pos ⟨rfl, hlfi⟩, wrap_id (by omega) (by omega)]
  have eVl : geti (p.vl.set j (worth (getj p.js j).v (geti p.sm j))) j = worth (getj p.js j).v (geti p.sm j) := by rw [getz_set, if_pos ⟨rfl, hvlj⟩]
  have eDn : getb (p.dn.set j true) j = true := by rw [getb_set, if_pos ⟨rfl, hdnj⟩]
  have hoth : ∀ k, k < p.js.length → k ≠ i' → (j : Int) ∉ (getj p.js k).ks := fun k hk hne hm => by
    have := h.tree.par hk hm
    unfold parD at h1
    omega
  have hdn : ∀ k, k < p.js.length → k ≠ i' → leftN (p.dn.set j true) (getj p.js k).ks = leftN p.dn (getj p.js k).ks := fun k hk hne => by
    unfold leftN
    refine List.countP_congr (fun x hx => ?_)
    have hm := h.tree.mem hk hx
    rw [getb_set, if_neg (fun e => hoth k hk hne (by have : x = (j : Int) := by omega
                                                     rwa [this] at hx))]
  have hdi2 : leftN (p.dn.set j true) (getj p.js i').ks + 1 = leftN p.dn (getj p.js i').ks := by
    unfold leftN
    rw [← h.tree.once hi hmem]
    refine count_turn _ _ _ _ (fun y hy hne => ?_) (by simp [hd]) (by simp [eDn])
    have hm := h.tree.mem hi hy
    rw [getb_set, if_neg (fun e => hne (by omega))]
  have hsm : ∀ k, k < p.js.length → k ≠ i' → sumF (p.dn.set j true) (p.vl.set j (worth (getj p.js j).v (geti p.sm j))) (getj p.js k).ks = sumF p.dn p.vl (getj p.js k).ks := fun k hk hne => by
    rw [sumF_eq, sumF_eq]
    congr 1
    unfold sumZ
    congr 1
    refine List.map_congr_left (fun x hx => ?_)
    have hm := h.tree.mem hk hx
    have hne : ¬ (x.toNat = j) := fun e => hoth k hk hne (by have : x = (j : Int) := by omega
                                                             rwa [this] at hx)
    rw [getb_far hne, getz_far hne]
  have hsi : sumF (p.dn.set j true) (p.vl.set j (worth (getj p.js j).v (geti p.sm j))) (getj p.js i').ks = wrap64 (sumF p.dn p.vl (getj p.js i').ks + worth (getj p.js j).v (geti p.sm j)) := by
    rw [sumF_eq, sumF_eq, wrap_add]
    congr 1
    unfold sumZ
    rw [sum_turn (fun x => if getb p.dn x.toNat then geti p.vl x.toNat else 0) _ (j : Int)]
    · rw [h.tree.once hi hmem, Int.toNat_natCast, eDn, eVl, hd]
      simp
    · intro y hy hne
      have hm := h.tree.mem hi hy
      have hne' : ¬ (y.toNat = j) := fun e => hne (by omega)
      rw [getb_far hne', getz_far hne']
  have hL : ∀ k, k < p.js.length → leftD (paidP (doneP p j) j i') k = if k = i' then leftD p i' - 1 else leftD p k := fun k hk => by
    show (if getb p.ran k then ((leftN (p.dn.set j true) (getj p.js k).ks : Nat) : Int) else 0) = _
    by_cases e : k = i'
    · subst e
      rw [if_pos rfl, if_pos hri]
      unfold leftD
      rw [if_pos hri]
      omega
    · rw [if_neg e, hdn k hk e]
      rfl
  have hS : ∀ k, k < p.js.length → sumD (paidP (doneP p j) j i') k = if k = i' then wrap64 (sumD p i' + worth (getj p.js j).v (geti p.sm j)) else sumD p k := fun k hk => by
    show (if getb p.ran k then sumF (p.dn.set j true) (p.vl.set j (worth (getj p.js j).v (geti p.sm j))) (getj p.js k).ks else 0) = _
    by_cases e : k = i'
    · subst e
      rw [if_pos rfl, if_pos hri, hsi]
      unfold sumD
      rw [if_pos hri]
    · rw [if_neg e, hsm k hk e]
      rfl
  refine ⟨h.tree, h.wk, h.lran, by show (p.dn.set j true).length = _; rw [List.length_set]; exact h.ldn, by show (p.lf.set _ _).length = _; rw [List.length_set]; exact h.llf, by show (p.sm.set _ _).length = _; rw [List.length_set]; exact h.lsm, by show (p.vl.set j _).length = _; rw [List.length_set]; exact h.lvl, h.inn, h.row, h.rch, fun k hk => ?_, fun k hk => ?_, fun k hk => ?_, fun k hk hne => ?_, fun hp => ?_⟩
  · rw [hL k hk]
    by_cases e : k = i'
    · rw [e, eLf, if_pos rfl, h.lft i' hi]
    · rw [if_neg e]
      show geti (p.lf.set i' _) k = _
      rw [getz_set, if_neg (fun q => e q.1)]
      exact h.lft k hk
  · rw [hS k hk]
    show geti (p.sm.set i' (wrap64 (geti p.sm i' + geti (p.vl.set j (worth (getj p.js j).v (geti p.sm j))) j))) k = _
    rw [getz_set, eVl]
    by_cases e : k = i'
    · rw [e, if_pos ⟨rfl, hsmi⟩, if_pos rfl, h.sum i' hi]
    · rw [if_neg (fun q => e q.1), if_neg e]
      exact h.sum k hk
  · rw [hS k hk]
    show geti (p.vl.set j _) k = if getb (p.dn.set j true) k then worth (getj p.js k).v (if k = i' then wrap64 (sumD p i' + worth (getj p.js j).v (geti p.sm j)) else sumD p k) else 0
    by_cases e : k = j
    · rw [e, getz_at hvlj, getb_at hdnj, if_pos rfl, if_neg (by omega), h.sum j hj]
    · rw [getz_far e, getb_far e]
      by_cases e2 : k = i'
      · have := h.val i' hi
        rw [hdi] at this
        rw [e2, hdi]
        exact this
      · rw [if_neg e2]
        exact h.val k hk
  · rw [hL k hk]
    show getb (p.dn.set j true) k = (getb p.ran k && decide ((if k = i' then leftD p i' - 1 else leftD p k) = 0))
    by_cases e : k = j
    · rw [e, getb_at hdnj, hr, if_neg (by omega), hl]
      rfl
    · rw [getb_far e]
      by_cases e2 : k = i'
      · subst e2
        rw [if_pos rfl, hdi]
        rw [eLf, h.lft k hk] at hne
        by_cases e3 : leftD p k - 1 = 0
        · rw [if_pos e3] at hne
          exact absurd rfl hne
        · rw [decide_eq_false e3, Bool.and_false]
      · rw [if_neg e2]
        exact h.don k hk (cast_ne e)
  · by_cases e3 : geti (paidP (doneP p j) j i').lf i' = 0
    · rw [if_pos e3]
      refine ⟨by show (i' : Int) < p.js.length; omega, hri, ?_, ?_⟩
      · show getb (p.dn.set j true) (i' : Int).toNat = false
        rw [Int.toNat_natCast, getb_set, if_neg (fun q => by omega)]
        exact hdi
      · rw [Int.toNat_natCast, hL i' hi, if_pos rfl, ← h.lft i' hi, ← eLf]
        exact e3
    · rw [if_neg e3] at hp
      omega
theorem finP_inv : ∀ (d : Nat) (p : PoolD) (j : Nat), j < d → PInv p (j : Int) → (∀ k, (getj p.js k).ks.length ≤ 1048576) → PInv (finP d p j) (-1) ∧ (finP d p j).js = p.js ∧ (finP d p j).dq = p.dq ∧ (finP d p j).ran = p.ran := by
  intro d
  induction d with
  | zero => intro p j h; omega
  | succ d ih =>
    intro p j hjd h hsz
    unfold finP
    by_cases hp : parD p j = -1
    · rw [if_pos hp]
      exact ⟨h.step hp, rfl, rfl, rfl⟩
    · rw [if_neg hp]
      obtain ⟨i, h1, h2, _⟩ := h.waits hp
      have h3 := h.up h1 hsz
      rw [h1, Int.toNat_natCast]
      by_cases h4 : geti (paidP (doneP p j) j i).lf i = 0
      · rw [if_pos h4]
        rw [if_pos h4] at h3
        obtain ⟨k1, k2, k3, k4⟩ := ih _ i (by omega) h3 hsz
        exact ⟨k1, k2, k3, k4⟩
      · rw [if_neg h4]
        rw [if_neg h4] at h3
        exact ⟨h3, rfl, rfl, rfl⟩
end
end Go.Proofs.Ytfnphnjadknoaaa

namespace Go.Proofs.Ytfnphnjadknoaaa
open Go.RowKit

def sumTo (l : List Nat) (k : Nat) : Nat := (l.take k).sum
theorem sumTo_zero (l : List Nat) : sumTo l 0 = 0 := by simp [sumTo]
theorem sumTo_succ (l : List Nat) (k : Nat) (h : k < l.length) : sumTo l (k + 1) = sumTo l k + l.getD k 0 := by
  unfold sumTo
  rw [sum_take _ k h]
  simp [List.getD, List.getElem?_eq_getElem h]
theorem sumTo_le (l : List Nat) (k : Nat) : sumTo l k ≤ l.sum := sum_take_le l k
theorem sumTo_all (l : List Nat) : sumTo l l.length = l.sum := by unfold sumTo; rw [List.take_of_length_le (Nat.le_refl _)]

structure Inn (lo hi : Nat) (w w' : World) : Prop where
  os : w'.os = w.os
  tape : w'.tape = w.tape
  output : w'.output = w.output
  size : w.heap.size ≤ w'.heap.size
  block : ∀ k, k < w.heap.size → ¬ (lo ≤ k ∧ k < hi) → w'.heap[k]? = w.heap[k]?
section
variable {w w' w'' : World} {lo hi lo' hi' g : Nat}
theorem Inn.refl (lo hi : Nat) (w : World) : Inn lo hi w w := ⟨rfl, rfl, rfl, Nat.le_refl _, fun _ _ _ => rfl⟩
theorem Inn.trans (h : Inn lo hi w w') (k : Inn lo hi w' w'') : Inn lo hi w w'' :=
  ⟨k.os.trans h.os, k.tape.trans h.tape, k.output.trans h.output, Nat.le_trans h.size k.size, fun i hi' hn => (k.block i (Nat.lt_of_lt_of_le hi' h.size) hn).trans (h.block i hi' hn)⟩
theorem Inn.of_only (h : Only g w w') (hg : lo ≤ g ∧ g < hi) : Inn lo hi w w' := ⟨h.os, h.tape, h.output, h.size, fun k hk hn => h.block k hk (fun e => hn (by rw [e]; exact hg))⟩
theorem Inn.of_below (h : Below w.heap.size w w') : Inn lo hi w w' := ⟨h.os, h.tape, h.output, h.size, fun k hk _ => h.block k hk⟩
theorem Inn.wide (h : Inn lo hi w w') (h1 : lo' ≤ lo) (h2 : hi ≤ hi') : Inn lo' hi' w w' := ⟨h.os, h.tape, h.output, h.size, fun k hk hn => h.block k hk (fun e => hn ⟨by omega, by omega⟩)⟩
theorem Inn.below (h : Inn lo hi w w') (hl : lo ≤ w.heap.size) : Below lo w w' := ⟨h.os, h.tape, h.output, h.size, fun k hk => h.block k (by omega) (fun e => by omega)⟩
end
end Go.Proofs.Ytfnphnjadknoaaa

namespace Go.Proofs.Ytfnphnjadknoaaa
open Go.RowKit
set_option maxHeartbeats 400000 in
theorem szIntS_any (A : Option Addr) (n c : Nat) (left : Int) (w : World) (h0 : 0 ≤ left) (h1 : left ≤ 1048576) (hn : n ≤ 9223372036854775807) :
    Calls Try.prog 92 #[.slice A n c, .int .i64 left] w fun e w' => e = .returned (.int .i64 (szR left n)) ∧ w = w' := by
  by_cases h : left < n
  · have HF := hide (show szR left n = -1 by unfold szR; rw [if_pos h])
    go_enter Try.func92, Try.ntmps92
    go_wp2
    go_ret
    exact ⟨ret_int HF.out.symm, rfl⟩
  · have HF := hide (show szR left n = left - n by unfold szR; rw [if_neg h])
    go_enter Try.func92, Try.ntmps92
    go_wp2
    go_ret
    exact ⟨ret_int HF.out.symm, rfl⟩

end Go.Proofs.Ytfnphnjadknoaaa

namespace Go.Proofs.Ytfnphnjadknoaaa
open Go.RowKit
set_option maxHeartbeats 800000 in
theorem eqIntS_any (A A' : Option Addr) (zs : List Int) (c c' : Nat) (S : Nat → Prop) (w : World) (hS : ∀ b, S b → b < w.heap.size) (ha : IntsAt w S A zs) (ha' : IntsAt w S A' zs) :
    Calls Try.prog 82 #[.slice A zs.length c, .slice A' zs.length c'] w fun e w' => e = .returned (.bool true) ∧ Below w.heap.size w w' := by
  have hn := ha.1
  go_enter Try.func82, Try.ntmps82
  go_wp2
  go_loopw [5] (fun i wr => ∃ (k : Nat), k ≤ zs.length ∧ i = .int .i64 k ∧ Below w.heap.size w wr) (fun i _ => zs.length - (intOf i).toNat)
  case atStart => exact ⟨0, Nat.zero_le _, rfl, Below.refl _ _⟩
  case round =>
    obtain ⟨k, hk, rfl, hb⟩ := hrel
    by_cases hlt : k < zs.length
    · obtain ⟨b, off, rfl, hbB, hc⟩ := (ha.below hb hS).2 (by omega)
      obtain ⟨b', off', rfl, hbB', hc'⟩ := (ha'.below hb hS).2 (by omega)
      have hcell := hc k hlt
      have hcell' := hc' k hlt
      have hx : ((k : Int) < (zs.length : Int)) := by omega
      clear hc hc'
      go_wp2
      go_quiet (fail)
      go_wp2
      go_roundw
      case rel => exact ⟨k + 1, by omega, by go_num, below_drewN hb _⟩
      case measure => simp [intOf]; omega
    · obtain rfl : k = zs.length := by omega
      go_wp2
      go_ret
      exact ⟨rfl, hb⟩

theorem eqIntSI {w : World} {lo hi lo' hi' n c c' : Nat} {A A' : Option Addr} {zs : List Int} (hz : zs.length = n) (hn : n ≤ 9223372036854775807) (h : RvI 3 w lo hi (.slice A n c) n zs) (k : RvI 3 w lo' hi' (.slice A' n c') n zs) :
    Calls Try.prog 82 #[.slice A n c, .slice A' n c'] w fun e w' => e = .returned (.bool true) ∧ Below w.heap.size w w' := by
  subst hz
  exact eqIntS_any A A' zs c c' _ w (fun _ h => h) (h.src hn rfl) (k.src hn rfl)
end Go.Proofs.Ytfnphnjadknoaaa
