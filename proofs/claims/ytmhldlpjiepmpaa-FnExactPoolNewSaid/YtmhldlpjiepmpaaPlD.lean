/- Pools: a job is run, a job is stolen; what keeps a pool under way. Of no function of the program. -/
import Derived.Test.YtmhldlpjiepmpaaPoD
namespace Go.Proofs.Ytmhldlpjiepmpaa
open Go.RowKit

theorem cntQ_set {dq : List (List Int)} {w : Nat} (hw : w < dq.length) (r : List Int) (x : Int) : cntQ (dq.set w r) x + (getq dq w).count x = cntQ dq x + r.count x := by
  induction dq generalizing w with
  | nil => simp at hw
  | cons a dq ih =>
    rcases w with _ | w
    · simp only [List.set_cons_zero, cntQ, List.map_cons, List.sum_cons, getq, List.getD_cons_zero]
      omega
    · have := ih (w := w) (by simpa using hw)
      simp only [List.set_cons_succ, cntQ, List.map_cons, List.sum_cons, getq, List.getD_cons_succ] at this ⊢
      omega
theorem cntQ_ge {dq : List (List Int)} {w : Nat} (hw : w < dq.length) (x : Int) : (getq dq w).count x ≤ cntQ dq x := by
  have := cntQ_set hw [] x
  simp only [List.count_nil, Nat.add_zero] at this
  omega
theorem mem_row {dq : List (List Int)} {w : Nat} {x : Int} (hw : w < dq.length) (hx : x ∈ getq dq w) : 1 ≤ cntQ dq x := Nat.le_trans (List.count_pos_iff.2 hx) (cntQ_ge hw x)

section
variable {p : PoolD} {w j : Nat}
/-- What stands in a row waits to be run. -/
theorem PInv.stands (h : PInv p (-1)) (hw : w < p.dq.length) (hx : (j : Int) ∈ getq p.dq w) : j < p.js.length ∧ cntQ p.dq j = 1 ∧ getb p.ran j = false ∧ reachB p j = true ∧ getb p.dn j = false := by
  have hj : j < p.js.length := by have := h.inn w hw _ hx; omega
  have h1 := mem_row hw hx
  have h2 := h.row j hj
  by_cases e : (!getb p.ran j && reachB p j) = true
  · rw [if_pos e] at h2
    simp only [Bool.and_eq_true, Bool.not_eq_true'] at e
    refine ⟨hj, h2, e.1, e.2, ?_⟩
    rw [h.don j hj (by omega), e.1, Bool.false_and]
  · rw [if_neg e] at h2
    omega
/-- A kid of a job that has not run: not run, not done, in no row. -/
theorem PInv.kid (h : PInv p (-1)) (hj : j < p.js.length) (hr : getb p.ran j = false) {i : Nat} (hi : (i : Int) ∈ (getj p.js j).ks) : i < p.js.length ∧ j < i ∧ getb p.ran i = false ∧ getb p.dn i = false ∧ cntQ p.dq i = 0 ∧ parD p i = j := by
  have h1 := h.tree.mem hj hi
  have hil : i < p.js.length := by omega
  have hp : parD p i = j := h.tree.par hj hi
  have hre : reachB p i = false := by
    unfold reachB
    rw [hp, Int.toNat_natCast, hr, decide_eq_false (by omega)]
    rfl
  have hri : getb p.ran i = false := by
    cases e : getb p.ran i
    · rfl
    · have := h.rch i hil e
      rw [hre] at this
      cases this
  refine ⟨hil, by omega, hri, ?_, ?_, hp⟩
  · rw [h.don i hil (by omega), hri, Bool.false_and]
  · rw [h.row i hil, hre, Bool.and_false]
    rfl
/-- Job j, which stood in row w, is run: the row is then r. -/
def ranP (p : PoolD) (w j : Nat) (r : List Int) : PoolD := { p with dq := p.dq.set w r, ran := p.ran.set j true, lf := p.lf.set j (((getj p.js j).ks.length : Nat) : Int) }
theorem leftN_all {dn : List Bool} {ks : List Int} (h : ∀ x ∈ ks, getb dn x.toNat = false) : leftN dn ks = ks.length := by
  unfold leftN
  rw [List.countP_eq_length]
  intro x hx
  rw [h x hx]; rfl
theorem sumF_none {dn : List Bool} {vl ks : List Int} (h : ∀ x ∈ ks, getb dn x.toNat = false) : sumF dn vl ks = 0 := by
  unfold sumF
  induction ks with
  | nil => rfl
  | cons a ks ih =>
    rw [List.foldl_cons, h a (by simp)]
    exact ih (fun x hx => h x (by simp [hx]))
theorem PInv.took (h : PInv p (-1)) (hw : w < p.dq.length) {init : List Int} (hrow : getq p.dq w = init ++ [(j : Int)]) :
    PInv (ranP p w j (init ++ (getj p.js j).ks)) (if (getj p.js j).ks.length = 0 then (j : Int) else -1) := by
  obtain ⟨hj, hc1, hrj, hre, hdj⟩ := h.stands hw (j := j) (by rw [hrow]; simp)
  have hkid := fun (i : Nat) hi => h.kid hj hrj (i := i) hi
  have hkd : ∀ x ∈ (getj p.js j).ks, getb p.dn x.toNat = false := fun x hx => by
    have h1 := h.tree.mem hj hx
    have := hkid x.toNat (by rwa [show ((x.toNat : Nat) : Int) = x by omega])
    exact this.2.2.2.1
  have hjr : j < p.ran.length := by rw [h.lran]; exact hj
  have hjl : j < p.lf.length := by rw [h.llf]; exact hj
  have hcnt : ∀ x, cntQ (p.dq.set w (init ++ (getj p.js j).ks)) x + [(j : Int)].count x = cntQ p.dq x + (getj p.js j).ks.count x := fun x => by
    have := cntQ_set hw (init ++ (getj p.js j).ks) x
    rw [hrow, List.count_append, List.count_append] at this
    omega
  have hran : ∀ i, getb (p.ran.set j true) i = if i = j then true else getb p.ran i := fun i => by
    rw [getb_set]
    by_cases e : i = j
    · rw [if_pos ⟨e, hjr⟩, if_pos e]
    · rw [if_neg (fun q => e q.1), if_neg e]
  have hL : ∀ i, i < p.js.length → leftD (ranP p w j (init ++ (getj p.js j).ks)) i = if i = j then (((getj p.js j).ks.length : Nat) : Int) else leftD p i := fun i hi => by
    show (if getb (p.ran.set j true) i then (leftN p.dn (getj p.js i).ks : Int) else 0) = _
    rw [hran]
    by_cases e : i = j
    · rw [if_pos e, if_pos rfl, if_pos e, e, leftN_all hkd]
    · rw [if_neg e, if_neg e]; rfl
  have hS : ∀ i, i < p.js.length → sumD (ranP p w j (init ++ (getj p.js j).ks)) i = if i = j then 0 else sumD p i := fun i hi => by
    show (if getb (p.ran.set j true) i then sumF p.dn p.vl (getj p.js i).ks else 0) = _
    rw [hran]
    by_cases e : i = j
    · rw [if_pos e, if_pos rfl, if_pos e, e, sumF_none hkd]
    · rw [if_neg e, if_neg e]; rfl
  have hsj : sumD p j = 0 := by unfold sumD; rw [hrj]; rfl
  have hreach : ∀ i, i < p.js.length → reachB (ranP p w j (init ++ (getj p.js j).ks)) i = (reachB p i || decide ((i : Int) ∈ (getj p.js j).ks)) := fun i hi => by
    show (decide (i = 0) || getb (p.ran.set j true) (parD p i).toNat) = _
    by_cases hm : (i : Int) ∈ (getj p.js j).ks
    · rw [(hkid i hm).2.2.2.2.2, Int.toNat_natCast, hran, if_pos rfl, decide_eq_true hm, Bool.or_true, Bool.or_true]
    · rw [decide_eq_false hm, Bool.or_false]
      unfold reachB
      by_cases hi0 : i = 0
      · rw [decide_eq_true hi0, Bool.true_or, Bool.true_or]
      · obtain ⟨u, h1, h2, h3⟩ := h.tree.parent (j := i) (by omega) hi
        have h1' : parD p i = u := h1
        rw [h1', Int.toNat_natCast, hran, if_neg (fun e => hm (by rw [← e]; exact h3))]
  refine ⟨h.tree, by show 1 ≤ (p.dq.set w _).length ∧ (p.dq.set w _).length ≤ 4; rw [List.length_set]; exact h.wk, by show (p.ran.set j true).length = _; rw [List.length_set]; exact h.lran, h.ldn, by show (p.lf.set j _).length = _; rw [List.length_set]; exact h.llf, h.lsm, h.lvl, ?_, ?_, ?_, ?_, ?_, ?_, ?_, ?_⟩
  · intro v hv x hx
    have hv : v < p.dq.length := by simpa [ranP] using hv
    have hx : x ∈ getq (p.dq.set w (init ++ (getj p.js j).ks)) v := hx
    rw [getq_set] at hx
    by_cases e : v = w ∧ w < p.dq.length
    · rw [if_pos e] at hx
      rcases List.mem_append.1 hx with hx | hx
      · exact h.inn w hw x (by rw [hrow]; simp [hx])
      · have := h.tree.mem hj hx
        exact ⟨by omega, this.2⟩
    · rw [if_neg e] at hx
      exact h.inn v hv x hx
  · intro i hi
    have hi : i < p.js.length := hi
    show cntQ (p.dq.set w (init ++ (getj p.js j).ks)) i = if (!getb (p.ran.set j true) i && reachB (ranP p w j (init ++ (getj p.js j).ks)) i) = true then 1 else 0
    rw [hran, hreach i hi]
    have hc := hcnt i
    by_cases e : i = j
    · subst e
      have hk0 : (getj p.js i).ks.count (i : Int) = 0 := List.count_eq_zero.2 (fun hm => by have := hkid i hm; omega)
      have h1 : [(i : Int)].count (i : Int) = 1 := by simp
      rw [if_pos rfl]
      rw [hk0, h1, hc1] at hc
      simp only [Bool.not_true, Bool.false_and, Bool.false_eq_true, if_false]
      omega
    · rw [if_neg e]
      have h1 : [(j : Int)].count (i : Int) = 0 := List.count_eq_zero.2 (by simp; omega)
      rw [h1] at hc
      by_cases hm : (i : Int) ∈ (getj p.js j).ks
      · obtain ⟨_, _, k3, _, k5, _⟩ := hkid i hm
        have ko := h.tree.once hj hm
        rw [k3, decide_eq_true hm]
        rw [ko, k5] at hc
        simp only [Bool.not_false, Bool.or_true, Bool.and_self, if_true]
        omega
      · rw [decide_eq_false hm, Bool.or_false]
        rw [List.count_eq_zero.2 hm] at hc
        rw [← h.row i hi]
        omega
  · intro i hi hr
    have hi : i < p.js.length := hi
    have hr : getb (p.ran.set j true) i = true := hr
    rw [hran] at hr
    rw [hreach i hi]
    by_cases e : i = j
    · rw [e, hre, Bool.true_or]
    · rw [if_neg e] at hr
      rw [h.rch i hi hr, Bool.true_or]
  · intro i hi
    have hi : i < p.js.length := hi
    rw [hL i hi]
    show geti (p.lf.set j _) i = _
    rw [getz_set]
    by_cases e : i = j
    · rw [if_pos ⟨e, hjl⟩, if_pos e]
    · rw [if_neg (fun q => e q.1), if_neg e]
      exact h.lft i hi
  · intro i hi
    have hi : i < p.js.length := hi
    rw [hS i hi]
    show geti p.sm i = _
    rw [h.sum i hi]
    by_cases e : i = j
    · rw [if_pos e, e, hsj]
    · rw [if_neg e]
  · intro i hi
    have hi : i < p.js.length := hi
    rw [hS i hi]
    show geti p.vl i = if getb p.dn i then worth (getj p.js i).v _ else 0
    rw [h.val i hi]
    by_cases e : i = j
    · rw [e, hdj]; rfl
    · rw [if_neg e]
  · intro i hi he
    have hi : i < p.js.length := hi
    rw [hL i hi]
    show getb p.dn i = (getb (p.ran.set j true) i && _)
    rw [hran]
    by_cases e : i = j
    · subst e
      rw [if_pos rfl, if_pos rfl, hdj]
      by_cases e0 : (getj p.js i).ks.length = 0
      · rw [if_pos e0] at he
        exact absurd rfl he
      · rw [decide_eq_false (by omega)]; rfl
    · rw [if_neg e, if_neg e]
      exact h.don i hi (by omega)
  · intro he
    by_cases e0 : (getj p.js j).ks.length = 0
    · rw [if_pos e0, Int.toNat_natCast]
      refine ⟨by show (j : Int) < p.js.length; omega, ?_, hdj, ?_⟩
      · show getb (p.ran.set j true) j = true
        rw [hran, if_pos rfl]
      · rw [hL j hj, if_pos rfl, e0]; rfl
    · rw [if_neg e0] at he
      omega
/-- The rows stand otherwise, and what stands in them is the same. -/
theorem PInv.shuffle (h : PInv p (-1)) {dq : List (List Int)} (hl : dq.length = p.dq.length) (hc : ∀ x, cntQ dq x = cntQ p.dq x) : PInv { p with dq := dq } (-1) := by
  refine ⟨h.tree, by show 1 ≤ dq.length ∧ dq.length ≤ 4; rw [hl]; exact h.wk, h.lran, h.ldn, h.llf, h.lsm, h.lvl, ?_, ?_, h.rch, h.lft, h.sum, h.val, h.don, h.exc⟩
  · intro v hv x hx
    have hv : v < dq.length := hv
    have h1 : 1 ≤ cntQ p.dq x := by rw [← hc]; exact mem_row hv hx
    have : ∃ u, u < p.dq.length ∧ x ∈ getq p.dq u := by
      by_cases hex : ∃ u, u < p.dq.length ∧ x ∈ getq p.dq u
      · exact hex
      · exfalso
        have hz : cntQ p.dq x = 0 := by
          unfold cntQ
          rw [List.sum_eq_zero_iff_forall_eq_nat]
          intro n hn
          obtain ⟨r, hr, rfl⟩ := List.mem_map.1 hn
          obtain ⟨u, hu, e⟩ := List.getElem_of_mem hr
          exact List.count_eq_zero.2 (fun hm => hex ⟨u, hu, by rw [getq_eq hu, e]; exact hm⟩)
        omega
    obtain ⟨u, hu, hm⟩ := this
    exact h.inn u hu x hm
  · intro i hi
    show cntQ dq i = _
    rw [hc]
    exact h.row i hi
/-- Job j goes from the front of row v to the end of row w. -/
theorem PInv.stole (h : PInv p (-1)) {v : Nat} (hw : w < p.dq.length) (hv : v < p.dq.length) (hne : w ≠ v) {x : Int} {rest : List Int} (hrow : getq p.dq v = x :: rest) :
    PInv { p with dq := (p.dq.set v rest).set w (getq p.dq w ++ [x]) } (-1) := by
  refine h.shuffle (by simp) (fun y => ?_)
  have h1 := cntQ_set hv rest y
  have h2 := cntQ_set (dq := p.dq.set v rest) (w := w) (by simpa using hw) (getq p.dq w ++ [x]) y
  rw [getq_far hne, List.count_append] at h2
  rw [hrow] at h1
  have h3 : (x :: rest).count y = [x].count y + rest.count y := by
    rw [show x :: rest = [x] ++ rest from rfl, List.count_append]
  omega
end
end Go.Proofs.Ytmhldlpjiepmpaa
