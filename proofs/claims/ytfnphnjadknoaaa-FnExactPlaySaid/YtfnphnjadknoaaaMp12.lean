/- What Take and Steal answer, plain. Of no function of the program. -/
import Derived.Test.YtfnphnjadknoaaaMp0
import Derived.Test.YtfnphnjadknoaaaMp4
import Derived.Test.YtfnphnjadknoaaaMp8
import Derived.Test.YtfnphnjadknoaaaMp9
import Derived.Test.YtfnphnjadknoaaaMp11
namespace Go.Proofs.Ytfnphnjadknoaaa
open Go.RowKit

def JobsI (w : World) (lo hi : Nat) (v : Value) (l : List JobD) : Prop := ∃ f kv, JobsO w f lo v l kv ∧ ∀ b, f b ≠ 0 → lo ≤ b ∧ b < hi
section
variable {w w' : World} {lo hi lo' hi' B : Nat} {v v' : Value} {l : List JobD} {p : PoolD} {x y : PV} {f : Nat → Nat} {kv : Nat → Value}
theorem JobsI.of (h : JobsO w f B v l kv) : JobsI w B w.heap.size v l :=
  ⟨fun b => if B ≤ b ∧ b < w.heap.size then f b else 0, kv, ⟨h.heads.cut, fun k hk => (h.each k hk).cut⟩, fun b hb => by
    by_cases e : B ≤ b ∧ b < w.heap.size
    · exact e
    · exact absurd (if_neg e) hb⟩
theorem JobsI.next (h : JobsI w lo hi v l) (hb : Below w.heap.size w w') : JobsI w' lo hi v l := by
  obtain ⟨f, kv, h1, h2⟩ := h
  exact ⟨f, kv, h1.next hb, h2⟩
theorem JobsI.at_ (h : JobsI w lo hi v l) : ∃ A c, v = .slice A l.length c ∧ JobsAt w (Old w.heap.size) A l := by
  obtain ⟨f, kv, h1, h2⟩ := h
  obtain ⟨A, c, e⟩ := h1.form
  exact ⟨A, c, e, h1.atO e⟩
theorem markJobs_i (k : Nat) (hz : sizeJ l ≤ 1048576) (hk : k ≤ 2097152) (h : JobsI w lo hi v l) :
    Calls Try.prog 41 #[v, .int .i64 k] w fun e w' => e = .returned (.int .i64 ((k + sizeJ l : Nat) : Int)) ∧ Inn lo hi w w' := by
  obtain ⟨f, kv, h1, h2⟩ := h
  refine (markJobS_o k w hz hk h1).mono ?_
  rintro e w' ⟨he, -, hs, ⟨o1, o2, o3⟩, hb⟩
  exact ⟨he, o1, o2, o3, hs, fun b hl hn => hb b hl (fun e => hn (h2 b (by omega)))⟩
theorem eqJobs_i (h : JobsI w lo hi v l) (k : JobsI w lo' hi' v' l) :
    Calls Try.prog 37 #[v, v'] w fun e w' => e = .returned (.bool true) ∧ Below w.heap.size w w' := by
  obtain ⟨A, c, rfl, ha⟩ := h.at_
  obtain ⟨A', c', rfl, ha'⟩ := k.at_
  exact eqJobS_any A A' l c c' _ w (fun _ h => h) ha ha'
theorem toJobs_i (A : Option Addr) (c : Nat) (S : Nat → Prop) (hz : sizeJ l ≤ 1048576) (hS : ∀ b, S b → b < w.heap.size) (ha : JobsAt w S A l) :
    Calls Try.prog 36 #[.slice A l.length c] w fun e w' => ∃ v, e = .returned v ∧ JobsI w' w.heap.size w'.heap.size v l ∧ Below w.heap.size w w' := by
  have h1 : l.length ≤ sizeJ l := by unfold sizeJ; omega
  refine (toJobS_any (fun _ => 0) A l c S w (by omega) (fun k => Nat.le_trans (sizeJ_kids k) hz) hS ha).mono ?_
  rintro e w' ⟨v, f, kv, rfl, hJ, hb, -⟩
  exact ⟨v, rfl, .of hJ, hb⟩
theorem eqPool_i (h : PoolI w lo hi x p) (k : PoolI w lo' hi' y p) :
    Calls Try.prog 40 #[.agg #[x.L, x.D, x.R, x.N, x.F, x.M, x.V], .agg #[y.L, y.D, y.R, y.N, y.F, y.M, y.V]] w fun e w' => e = .returned (.bool true) ∧ Below w.heap.size w w' := by
  obtain ⟨a, ea, ha⟩ := h.at_
  obtain ⟨b, eb, hb⟩ := k.at_
  have h := eqPool_any a b p _ w (fun _ h => h) ha hb
  rw [← ea, ← eb] at h
  exact h
theorem markPool_i (k : Nat) (hz : poolSize p ≤ 1048576) (hk : k ≤ 2097152) (hhi : hi ≤ w.heap.size) (h : PoolI w lo hi x p) :
    Calls Try.prog 42 #[.agg #[x.L, x.D, x.R, x.N, x.F, x.M, x.V], .int .i64 k] w fun e w' => e = .returned (.int .i64 ((k + poolMarks p : Nat) : Int)) ∧ PoolI w' lo hi x (markP k p) ∧ Inn lo hi w w' := markPool_o k w hz hk hhi h
theorem heldPool_i (k : Nat) (hz : poolSize p ≤ 1048576) (hk : k ≤ 2097152) (h : PoolI w lo hi x (markP k p)) :
    Calls Try.prog 43 #[.agg #[x.L, x.D, x.R, x.N, x.F, x.M, x.V], .int .i64 k] w fun e w' => e = .returned (.int .i64 ((k + poolMarks p : Nat) : Int)) ∧ Below w.heap.size w w' := heldPool_o k w hz hk h
theorem PoolI.slices (h : PoolI w lo hi x p) : ∃ A0 A1 A2 A3 A4 A5 A6 c0 c1 c2 c3 c4 c5 c6, x = ⟨.slice A0 p.js.length c0, .slice A1 p.dq.length c1, .slice A2 p.ran.length c2, .slice A3 p.dn.length c3, .slice A4 p.lf.length c4, .slice A5 p.sm.length c5, .slice A6 p.vl.length c6, x.kv, x.rv⟩ := by
  obtain ⟨f, h, -⟩ := h
  obtain ⟨L, D, R, N, F, M, V, kv, rv⟩ := x
  obtain ⟨A0, c0, e0⟩ := h.jobs.form
  obtain ⟨A1, c1, e1⟩ := h.rows.heads.form
  obtain ⟨A2, c2, e2⟩ := h.ran.form
  obtain ⟨A3, c3, e3⟩ := h.dn.form
  obtain ⟨A4, c4, e4⟩ := h.lf.form
  obtain ⟨A5, c5, e5⟩ := h.sm.form
  obtain ⟨A6, c6, e6⟩ := h.vl.form
  dsimp only at e0 e1 e2 e3 e4 e5 e6
  subst e0 e1 e2 e3 e4 e5 e6
  exact ⟨_, _, _, _, _, _, _, _, _, _, _, _, _, _, rfl⟩
structure ArgJ (n : Nat) (w0 : World) (A : Option Addr) (l : List JobD) (w : World) : Prop where
  at_ : JobsAt w (Old n) A l
  le : n ≤ w.heap.size
  since : Below n w0 w
theorem ArgJ.next {n : Nat} {w0 : World} {A : Option Addr} (h : ArgJ n w0 A l w) (hb : Below w.heap.size w w') : ArgJ n w0 A l w' :=
  ⟨h.at_.below hb (fun _ hbn => Nat.lt_of_lt_of_le hbn h.le), Nat.le_trans h.le hb.size, ⟨hb.os.trans h.since.os, hb.tape.trans h.since.tape, hb.output.trans h.since.output, Nat.le_trans h.since.size hb.size, fun k hk => (hb.block k (Nat.lt_of_lt_of_le hk h.le)).trans (h.since.block k hk)⟩⟩
theorem ArgJ.inn {n : Nat} {w0 : World} {A : Option Addr} (h : ArgJ n w0 A l w) (hI : Inn lo hi w w') (hn : n ≤ lo) : ArgJ n w0 A l w' := by
  have hb : Below n w w' := ⟨hI.os, hI.tape, hI.output, hI.size, fun k hk => hI.block k (Nat.lt_of_lt_of_le hk h.le) (by omega)⟩
  exact ⟨h.at_.below hb (fun _ hbn => hbn), Nat.le_trans h.le hI.size, ⟨hb.os.trans h.since.os, hb.tape.trans h.since.tape, hb.output.trans h.since.output, Nat.le_trans h.since.size hI.size, fun k hk => (hb.block k hk).trans (h.since.block k hk)⟩⟩
structure BoxI (b lo hi : Nat) (x : PV) (p : PoolD) (w : World) : Prop where
  box : Blk w b 28 #[x.L, x.D, x.R, x.N, x.F, x.M, x.V]
  pool : PoolI w lo hi x p
theorem BoxI.next {b : Nat} (h : BoxI b lo hi x p w) (hb : Below w.heap.size w w') : BoxI b lo hi x p w' := ⟨h.box.below hb h.box.lt, h.pool.next hb⟩
theorem BoxI.inn {b : Nat} (h : BoxI b lo hi x p w) (hI : Inn lo' hi' w w') (ha : hi ≤ lo' ∨ hi' ≤ lo) (hb : b < lo' ∨ hi' ≤ b) : BoxI b lo hi x p w' :=
  ⟨(hI.block b h.box.lt (by omega)).trans h.box, h.pool.inn hI ha⟩
theorem BoxI.cells {b : Nat} (h : BoxI b lo hi x p w) : (w.cell? ⟨b, 0, none⟩ = some x.L ∧ w.cell? ⟨b, 1, none⟩ = some x.D ∧ w.cell? ⟨b, 2, none⟩ = some x.R ∧ w.cell? ⟨b, 3, none⟩ = some x.N ∧ w.cell? ⟨b, 4, none⟩ = some x.F ∧ w.cell? ⟨b, 5, none⟩ = some x.M ∧ w.cell? ⟨b, 6, none⟩ = some x.V) ∧ b < w.heap.size := box7 h.box
end
end Go.Proofs.Ytfnphnjadknoaaa

namespace Go.Proofs.Ytfnphnjadknoaaa
open Go.RowKit

theorem cntQ_set {dq : List (List Int)} {w : Nat} (hw : w < dq.length) (r : List Int) (x : Int) : cntQ (dq.set w r) x + (getq dq w).count x = cntQ dq x + r.count x := by
  induction dq generalizing w with
  | nil => simp at hw
  | cons a dq ih =>
    rcases w with _ | w
    · simp only [List.set_cons_zero, cntQ, List.map_cons, List.sum_cons, getq, List.getD_cons_zero]
      omega
    · have := ih (w := w) (by simpa using hw)
      simp only [List.set_cons_succ, cntQ, List.map_cons, List.sum_cons, getq, List.getD_cons_succ] at this ⊢
      omega
theorem cntQ_ge {dq : List (List Int)} {w : Nat} (hw : w < dq.length) (x : Int) : (getq dq w).count x ≤ cntQ dq x := by
  have := cntQ_set hw [] x
  simp only [List.count_nil, Nat.add_zero] at this
  omega
theorem mem_row {dq : List (List Int)} {w : Nat} {x : Int} (hw : w < dq.length) (hx : x ∈ getq dq w) : 1 ≤ cntQ dq x := Nat.le_trans (List.count_pos_iff.2 hx) (cntQ_ge hw x)

section
variable {p : PoolD} {w j : Nat}
theorem PInv.stands (h : PInv p (-1)) (hw : w < p.dq.length) (hx : (j : Int) ∈ getq p.dq w) : j < p.js.length ∧ cntQ p.dq j = 1 ∧ getb p.ran j = false ∧ reachB p j = true ∧ getb p.dn j = false := by
  have hj : j < p.js.length := by have := h.inn w hw _ hx; omega
  have h1 := mem_row hw hx
  have h2 := h.row j hj
  by_cases e : (!getb p.ran j && reachB p j) = true
  · rw [if_pos e] at h2
    simp only [Bool.and_eq_true, Bool.not_eq_true'] at e
    refine ⟨hj, h2, e.1, e.2, ?_⟩
    rw [h.don j hj (by omega), e.1, Bool.false_and]
  · rw [if_neg e] at h2
    omega
theorem PInv.kid (h : PInv p (-1)) (hj : j < p.js.length) (hr : getb p.ran j = false) {i : Nat} (hi : (i : Int) ∈ (getj p.js j).ks) : i < p.js.length ∧ j < i ∧ getb p.ran i = false ∧ getb p.dn i = false ∧ cntQ p.dq i = 0 ∧ parD p i = j := by
  have h1 := h.tree.mem hj hi
  have hil : i < p.js.length := by omega
  have hp : parD p i = j := h.tree.par hj hi
  have hre : reachB p i = false := by
    unfold reachB
    rw [hp, Int.toNat_natCast, hr, decide_eq_false (by omega)]
    rfl
  have hri : getb p.ran i = false := by
    cases e : getb p.ran i
    · rfl
    · have := h.rch i hil e
      rw [hre] at this
      cases this
  refine ⟨hil, by omega, hri, ?_, ?_, hp⟩
  · rw [h.don i hil (by omega), hri, Bool.false_and]
  · rw [h.row i hil, hre, Bool.and_false]
    rfl
def ranP (p : PoolD) (w j : Nat) (r : List Int) : PoolD := { p with dq := p.dq.set w r, ran := p.ran.set j true, lf := p.lf.set j (((getj p.js j).ks.length : Nat) : Int) }
theorem leftN_all {dn : List Bool} {ks : List Int} (h : ∀ x ∈ ks, getb dn x.toNat = false) : leftN dn ks = ks.length := by
  unfold leftN
  rw [List.countP_eq_length]
  intro x hx
  rw [h x hx]; rfl
theorem sumF_none {dn : List Bool} {vl ks : List Int} (h : ∀ x ∈ ks, getb dn x.toNat = false) : sumF dn vl ks = 0 := by
  unfold sumF
  induction ks with
  | nil => rfl
  | cons a ks ih =>
    rw [List.foldl_cons, h a (by simp)]
    exact ih (fun x hx => h x (by simp [hx]))
theorem PInv.took (h : PInv p (-1)) (hw : w < p.dq.length) {init : List Int} (hrow : getq p.dq w = init ++ [(j : Int)]) :
    PInv (ranP p w j (init ++ (getj p.js j).ks)) (if (getj p.js j).ks.length = 0 then (j : Int) else -1) := by
  obtain ⟨hj, hc1, hrj, hre, hdj⟩ := h.stands hw (j := j) (by rw [hrow]; simp)
  have hkid := fun (i : Nat) hi => h.kid hj hrj (i := i) hi
  have hkd : ∀ x ∈ (getj p.js j).ks, getb p.dn x.toNat = false := fun x hx => by
    have h1 := h.tree.mem hj hx
    have := hkid x.toNat (by rwa [show ((x.toNat : Nat) : Int) = x by omega])
    exact this.2.2.2.1
  have hjr : j < p.ran.length := by rw [h.lran]; exact hj
  have hjl : j < p.lf.length := by rw [h.llf]; exact hj
  have hcnt : ∀ x, cntQ (p.dq.set w (init ++ (getj p.js j).ks)) x + [(j : Int)].count x = cntQ p.dq x + (getj p.js j).ks.count x := fun x => by
    have := cntQ_set hw (init ++ (getj p.js j).ks) x
    rw [hrow, List.count_append, List.count_append] at this
    omega
  have hran : ∀ i, getb (p.ran.set j true) i = if i = j then true else getb p.ran i := fun i => by
    rw [getb_set]
    by_cases e : i = j
    · rw [if_pos ⟨e, hjr⟩, if_pos e]
    · rw [if_neg (fun q => e q.1), if_neg e]
  have hL : ∀ i, i < p.js.length → leftD (ranP p w j (init ++ (getj p.js j).ks)) i = if i = j then (((getj p.js j).ks.length : Nat) : Int) else leftD p i := fun i hi => by
    show (if getb (p.ran.set j true) i then (leftN p.dn (getj p.js i).ks : Int) else 0) = _
    rw [hran]
    by_cases e : i = j
    · rw [if_pos e, if_pos rfl, if_pos e, e, leftN_all hkd]
    · rw [if_neg e, if_neg e]; rfl
  have hS : ∀ i, i < p.js.length → sumD (ranP p w j (init ++ (getj p.js j).ks)) i = if i = j then 0 else sumD p i := fun i hi => by
    show (if getb (p.ran.set j true) i then sumF p.dn p.vl (getj p.js i).ks else 0) = _
    rw [hran]
    by_cases e : i = j
    · rw [if_pos e, if_pos rfl, if_pos e, e, sumF_none hkd]
    · rw [if_neg e, if_neg e]; rfl
  have hsj : sumD p j = 0 := by unfold sumD; rw [hrj]; rfl
  have hreach : ∀ i, i < p.js.length → reachB (ranP p w j (init ++ (getj p.js j).ks)) i = (reachB p i || decide ((i : Int) ∈ (getj p.js j).ks)) := fun i hi => by
    show (decide (i = 0) || getb (p.ran.set j true) (parD p i).toNat) = _
    by_cases hm : (i : Int) ∈ (getj p.js j).ks
    · rw [(hkid i hm).2.2.2.2.2, Int.toNat_natCast, hran, if_pos rfl, decide_eq_true hm, Bool.or_true, Bool.or_true]
    · rw [decide_eq_false hm, Bool.or_false]
      unfold reachB
      by_cases hi0 : i = 0
      · rw [decide_eq_true hi0, Bool.true_or, Bool.true_or]
      · obtain ⟨u, h1, h2, h3⟩ := h.tree.parent (j := i) (by omega) hi
        have h1' : parD p i = u := h1
        rw [h1', Int.toNat_natCast, hran, if_neg (fun e => hm (by rw [← e]; exact h3))]
  refine ⟨h.tree, by show 1 ≤ (p.dq.set w _).length ∧ (p.dq.set w _).length ≤ 4; rw [List.length_set]; exact h.wk, by show (p.ran.set j true).length = _; rw [List.length_set]; exact h.lran, h.ldn, by show (p.lf.set j _).length = _; rw [List.length_set]; exact h.llf, h.lsm, h.lvl, ?_, ?_, ?_, ?_, ?_, ?_, ?_, ?_⟩
  · intro v hv x hx
    have hv : v < p.dq.length := by simpa [ranP] using hv
    have hx : x ∈ getq (p.dq.set w (init ++ (getj p.js j).ks)) v := hx
    rw [getq_set] at hx
    by_cases e : v = w ∧ w < p.dq.length
    · rw [if_pos e] at hx
      rcases List.mem_append.1 hx with hx | hx
      · exact h.inn w hw x (by rw [hrow]; simp [hx])
      · have := h.tree.mem hj hx
        exact ⟨by omega, this.2⟩
    · rw [if_neg e] at hx
      exact h.inn v hv x hx
  · intro i hi
    have hi : i < p.js.length := hi
    show cntQ (p.dq.set w (init ++ (getj p.js j).ks)) i = if (!getb (p.ran.set j true) i && reachB (ranP p w j (init ++ (getj p.js j).ks)) i) = true then 1 else 0
    rw [hran, hreach i hi]
    have hc := hcnt i
    by_cases e : i = j
    · subst e
      have hk0 : (getj p.js i).ks.count (i : Int) = 0 := List.count_eq_zero.2 (fun hm => by have := hkid i hm; omega)
      have h1 : [(i : Int)].count (i : Int) = 1 := by simp
      rw [if_pos rfl]
      rw [hk0, h1, hc1] at hc
      simp only [Bool.not_true, Bool.false_and, Bool.false_eq_true, if_false]
      omega
    · rw [if_neg e]
      have h1 : [(j : Int)].count (i : Int) = 0 := List.count_eq_zero.2 (by simp; omega)
      rw [h1] at hc
      by_cases hm : (i : Int) ∈ (getj p.js j).ks
      · obtain ⟨_, _, k3, _, k5, _⟩ := hkid i hm
        have ko := h.tree.once hj hm
        rw [k3, decide_eq_true hm]
        rw [ko, k5] at hc
        simp only [Bool.not_false, Bool.or_true, Bool.and_self, if_true]
        omega
      · rw [decide_eq_false hm, Bool.or_false]
        rw [List.count_eq_zero.2 hm] at hc
        rw [← h.row i hi]
        omega
  · intro i hi hr
    have hi : i < p.js.length := hi
    have hr : getb (p.ran.set j true) i = true := hr
    rw [hran] at hr
    rw [hreach i hi]
    by_cases e : i = j
    · rw [e, hre, Bool.true_or]
    · rw [if_neg e] at hr
      rw [h.rch i hi hr, Bool.true_or]
  · intro i hi
    have hi : i < p.js.length := hi
    rw [hL i hi]
    show geti (p.lf.set j _) i = _
    rw [getz_set]
    by_cases e : i = j
    · rw [if_pos ⟨e, hjl⟩, if_pos e]
    · rw [if_neg (fun q => e q.1), if_neg e]
      exact h.lft i hi
  · intro i hi
    have hi : i < p.js.length := hi
    rw [hS i hi]
    show geti p.sm i = _
    rw [h.sum i hi]
    by_cases e : i = j
    · rw [if_pos e, e, hsj]
    · rw [if_neg e]
  · intro i hi
    have hi : i < p.js.length := hi
    rw [hS i hi]
    show geti p.vl i = if getb p.dn i then worth (getj p.js i).v _ else 0
    rw [h.val i hi]
    by_cases e : i = j
    · rw [e, hdj]; rfl
    · rw [if_neg e]
  · intro i hi he
    have hi : i < p.js.length := hi
    rw [hL i hi]
    show getb p.dn i = (getb (p.ran.set j true) i && _)
    rw [hran]
    by_cases e : i = j
    · subst e
      rw [if_pos rfl, if_pos rfl, hdj]
      by_cases e0 : (getj p.js i).ks.length = 0
      · rw [if_pos e0] at he
        exact absurd rfl he
      · rw [decide_eq_false (by omega)]; rfl
    · rw [if_neg e, if_neg e]
      exact h.don i hi (by omega)
  · intro he
    by_cases e0 : (getj p.js j).ks.length = 0
    · rw [if_pos e0, Int.toNat_natCast]
      refine ⟨by show (j : Int) < p.js.length; omega, ?_, hdj, ?_⟩
      · show getb (p.ran.set j true) j = true
        rw [hran, if_pos rfl]
      · rw [hL j hj, if_pos rfl, e0]; rfl
    · rw [if_neg e0] at he
      omega
theorem PInv.shuffle (h : PInv p (-1)) {dq : List (List Int)} (hl : dq.length = p.dq.length) (hc : ∀ x, cntQ dq x = cntQ p.dq x) : PInv { p with dq := dq } (-1) := by
  refine ⟨h.tree, by show 1 ≤ dq.length ∧ dq.length ≤ 4; rw [hl]; exact h.wk, h.lran, h.ldn, h.llf, h.lsm, h.lvl, ?_, ?_, h.rch, h.lft, h.sum, h.val, h.don, h.exc⟩
  · intro v hv x hx
    have hv : v < dq.length := hv
    have h1 : 1 ≤ cntQ p.dq x := by rw [← hc]; exact mem_row hv hx
    have : ∃ u, u < p.dq.length ∧ x ∈ getq p.dq u := by
      by_cases hex : ∃ u, u < p.dq.length ∧ x ∈ getq p.dq u
      · exact hex
      · exfalso
        have hz : cntQ p.dq x = 0 := by
          unfold cntQ
          rw [List.sum_eq_zero_iff_forall_eq_nat]
          intro n hn
          obtain ⟨r, hr, rfl⟩ := List.mem_map.1 hn
          obtain ⟨u, hu, e⟩ := List.getElem_of_mem hr
          exact List.count_eq_zero.2 (fun hm => hex ⟨u, hu, by rw [getq_eq hu, e]; exact hm⟩)
        omega
    obtain ⟨u, hu, hm⟩ := this
    exact h.inn u hu x hm
  · intro i hi
    show cntQ dq i = _
    rw [hc]
    exact h.row i hi
theorem PInv.stole (h : PInv p (-1)) {v : Nat} (hw : w < p.dq.length) (hv : v < p.dq.length) (hne : w ≠ v) {x : Int} {rest : List Int} (hrow : getq p.dq v = x :: rest) :
    PInv { p with dq := (p.dq.set v rest).set w (getq p.dq w ++ [x]) } (-1) := by
  refine h.shuffle (by simp) (fun y => ?_)
  have h1 := cntQ_set hv rest y
  have h2 := cntQ_set (dq := p.dq.set v rest) (w := w) (by simpa using hw) (getq p.dq w ++ [x]) y
  rw [getq_far hne, List.count_append] at h2
  rw [hrow] at h1
  have h3 : (x :: rest).count y = [x].count y + rest.count y := by
    rw [show x :: rest = [x] ++ rest from rfl, List.count_append]
  omega
end
end Go.Proofs.Ytfnphnjadknoaaa

namespace Go.Proofs.Ytfnphnjadknoaaa
open Go.RowKit

theorem once_len : ∀ (n : Nat) (r : List Int), (∀ x ∈ r, 0 ≤ x ∧ x < n) → (∀ x, r.count x ≤ 1) → r.length ≤ n
  | 0, r, h, _ => by
    rcases r with _ | ⟨a, r⟩
    · simp
    · have := h a (by simp); omega
  | n + 1, r, h, h1 => by
    have ih := once_len n (r.filter (fun x => x != (n : Int))) (fun x hx => by
      rw [List.mem_filter] at hx
      have h2 := h x hx.1
      have h3 : x ≠ n := by simpa using hx.2
      omega) (fun x => Nat.le_trans (List.Sublist.count_le x List.filter_sublist) (h1 x))
    have h4 : r.length = r.count (n : Int) + (r.filter (fun x => x != (n : Int))).length := by
      clear ih h h1
      induction r with
      | nil => rfl
      | cons a r ih =>
        by_cases e : a = n
        · subst e; simp; omega
        · have e' : (a != (n : Int)) = true := by simpa using e
          rw [List.length_cons, List.filter_cons, if_pos e', List.length_cons, List.count_cons, if_neg (by simpa using e)]
          omega
    have := h1 n
    omega
section
variable {p : PoolD} {w v j : Nat}
theorem PInv.row_len (h : PInv p (-1)) (hw : w < p.dq.length) : (getq p.dq w).length ≤ p.js.length := by
  refine once_len _ _ (h.inn w hw) (fun x => ?_)
  by_cases hx : x ∈ getq p.dq w
  · have h1 := h.inn w hw x hx
    have h2 := h.row x.toNat (by omega)
    rw [show ((x.toNat : Nat) : Int) = x by omega] at h2
    have := cntQ_ge hw x
    split at h2 <;> omega
  · rw [List.count_eq_zero.2 hx]; omega
theorem getq_last {r : List Int} (h : r ≠ []) : r = r.dropLast ++ [r.getLast h] := (List.dropLast_concat_getLast h).symm
def lastJ (p : PoolD) (w : Nat) : Nat := (geti (getq p.dq w) ((getq p.dq w).length - 1)).toNat
def takeP (p : PoolD) (w : Nat) : PoolD :=
  if (getj p.js (lastJ p w)).ks.length = 0 then finP (lastJ p w + 1) (ranP p w (lastJ p w) ((getq p.dq w).dropLast ++ (getj p.js (lastJ p w)).ks)) (lastJ p w)
  else ranP p w (lastJ p w) ((getq p.dq w).dropLast ++ (getj p.js (lastJ p w)).ks)
def stealP (p : PoolD) (w v : Nat) : PoolD := { p with dq := (p.dq.set v (getq p.dq v).tail).set w (getq p.dq w ++ [geti (getq p.dq v) 0]) }
theorem PInv.last (h : PInv p (-1)) (hw : w < p.dq.length) (hn : 0 < (getq p.dq w).length) : getq p.dq w = (getq p.dq w).dropLast ++ [(lastJ p w : Int)] ∧ lastJ p w < p.js.length ∧ geti (getq p.dq w) ((getq p.dq w).length - 1) = lastJ p w := by
  have h0 : getq p.dq w ≠ [] := fun e => by rw [e] at hn; simp at hn
  have h1 := getq_last h0
  have h2 : (getq p.dq w).getLast h0 = geti (getq p.dq w) ((getq p.dq w).length - 1) := by
    rw [List.getLast_eq_getElem, geti_eq (by omega)]
  have h3 := h.inn w hw _ (List.getLast_mem h0)
  rw [h2] at h1 h3
  have h4 : (lastJ p w : Int) = geti (getq p.dq w) ((getq p.dq w).length - 1) := by unfold lastJ; omega
  exact ⟨by rw [h4]; exact h1, by omega, h4.symm⟩
theorem PInv.take (h : PInv p (-1)) (hw : w < p.dq.length) (hn : 0 < (getq p.dq w).length) (hsz : ∀ k, (getj p.js k).ks.length ≤ 1048576) : PInv (takeP p w) (-1) ∧ (takeP p w).js = p.js ∧ (takeP p w).dq.length = p.dq.length := by
  obtain ⟨h1, h2, -⟩ := h.last hw hn
  have h3 := h.took hw h1
  unfold takeP
  by_cases e : (getj p.js (lastJ p w)).ks.length = 0
  · rw [if_pos e] at h3 ⊢
    obtain ⟨k1, k2, k3, -⟩ := finP_inv (lastJ p w + 1) _ (lastJ p w) (by omega) h3 hsz
    exact ⟨k1, k2, by rw [k3]; simp [ranP]⟩
  · rw [if_neg e] at h3 ⊢
    exact ⟨h3, rfl, by simp [ranP]⟩
theorem PInv.steal (h : PInv p (-1)) (hw : w < p.dq.length) (hv : v < p.dq.length) (hne : w ≠ v) (hn : 0 < (getq p.dq v).length) : PInv (stealP p w v) (-1) ∧ (stealP p w v).js = p.js ∧ (stealP p w v).dq.length = p.dq.length := by
  unfold stealP
  obtain ⟨x, rest, e⟩ : ∃ x rest, getq p.dq v = x :: rest := by
    cases hr : getq p.dq v with
    | nil => rw [hr] at hn; simp at hn
    | cons x rest => exact ⟨x, rest, rfl⟩
  have := h.stole hw hv hne e
  rw [e]
  exact ⟨this, rfl, by simp⟩
end
def mayP (p : PoolD) (w v : Int) : Bool :=
  decide (0 ≤ w) && decide (w < (p.dq.length : Int)) && decide (0 ≤ v) && decide (v < (p.dq.length : Int)) && decide (0 < (getq p.dq v.toNat).length)
def pickP (p : PoolD) (w v : Int) : PoolD := if mayP p w v then (if w = v then takeP p w.toNat else stealP p w.toNat v.toNat) else p
theorem PInv.pick {p : PoolD} (h : PInv p (-1)) (w v : Int) (hsz : ∀ k, (getj p.js k).ks.length ≤ 1048576) : PInv (pickP p w v) (-1) ∧ (pickP p w v).js = p.js ∧ (pickP p w v).dq.length = p.dq.length := by
  unfold pickP
  by_cases hm : mayP p w v = true
  · rw [if_pos hm]
    unfold mayP at hm
    simp only [Bool.and_eq_true, decide_eq_true_eq] at hm
    obtain ⟨⟨⟨⟨h1, h2⟩, h3⟩, h4⟩, h5⟩ := hm
    by_cases e : w = v
    · subst e
      rw [if_pos rfl]
      exact h.take (by omega) h5 hsz
    · rw [if_neg e]
      exact h.steal (by omega) (by omega) (by omega) h5
  · rw [if_neg hm]
    exact ⟨h, rfl, rfl⟩
def playP : PoolD → List (Int × Int) → PoolD × Nat
  | p, [] => (p, 0)
  | p, (w, v) :: l => ((playP (pickP p w v) l).1, (mayP p w v).toNat + (playP (pickP p w v) l).2)
theorem PInv.play : ∀ (l : List (Int × Int)) {p : PoolD}, PInv p (-1) → (∀ k, (getj p.js k).ks.length ≤ 1048576) → PInv (playP p l).1 (-1) ∧ (playP p l).1.js = p.js
  | [], p, h, _ => ⟨h, rfl⟩
  | (w, v) :: l, p, h, hsz => by
    obtain ⟨h1, h2, -⟩ := h.pick w v hsz
    obtain ⟨k1, k2⟩ := PInv.play l h1 (by rw [h2]; exact hsz)
    exact ⟨k1, k2.trans h2⟩
theorem playP_snoc : ∀ (l : List (Int × Int)) (p : PoolD) (w v : Int), playP p (l ++ [(w, v)]) = (pickP (playP p l).1 w v, (playP p l).2 + (mayP (playP p l).1 w v).toNat)
  | [], p, w, v => by simp [playP]
  | (a, b) :: l, p, w, v => by
    rw [List.cons_append]
    simp only [playP]
    rw [playP_snoc l]
    simp only [Nat.add_assoc]
end Go.Proofs.Ytfnphnjadknoaaa

namespace Go.Proofs.Ytfnphnjadknoaaa
open Go.RowKit

def picksI (zs : List Int) (k : Nat) : List (Int × Int) := (List.range k).map fun i => (geti zs (i * 2), geti zs (i * 2 + 1))
theorem picksI_zero (zs : List Int) : picksI zs 0 = [] := rfl
theorem picksI_succ (zs : List Int) (k : Nat) : picksI zs (k + 1) = picksI zs k ++ [(geti zs (k * 2), geti zs (k * 2 + 1))] := by
  unfold picksI
  rw [List.range_succ, List.map_append, List.map_singleton]
def playK (p : PoolD) (zs : List Int) (k : Nat) : PoolD × Nat := playP p (picksI zs k)
theorem playK_zero (p : PoolD) (zs : List Int) : playK p zs 0 = (p, 0) := rfl
theorem playK_succ (p : PoolD) (zs : List Int) (k : Nat) : playK p zs (k + 1) = (pickP (playK p zs k).1 (geti zs (k * 2)) (geti zs (k * 2 + 1)), (playK p zs k).2 + (mayP (playK p zs k).1 (geti zs (k * 2)) (geti zs (k * 2 + 1))).toNat) := by
  unfold playK
  rw [picksI_succ, playP_snoc]
theorem playK_le (p : PoolD) (zs : List Int) : ∀ k, (playK p zs k).2 ≤ k
  | 0 => Nat.le_refl _
  | k + 1 => by
    rw [playK_succ]
    have := playK_le p zs k
    have h2 : (mayP (playK p zs k).1 (geti zs (k * 2)) (geti zs (k * 2 + 1))).toNat ≤ 1 := Bool.toNat_le _
    show (playK p zs k).2 + _ ≤ k + 1
    omega
theorem playK_inv {p : PoolD} (zs : List Int) (k : Nat) (h : PInv p (-1)) (hsz : ∀ k, (getj p.js k).ks.length ≤ 1048576) : PInv (playK p zs k).1 (-1) ∧ (playK p zs k).1.js = p.js := PInv.play _ h hsz
def playR (p : PoolD) (zs : List Int) (n : Nat) : PoolD × Nat := if poolB p && decide (n ≤ 2000) then playK p zs n else (pool0, 0)
theorem playR_yes {p : PoolD} {zs : List Int} {n : Nat} (h : poolB p = true) (hn : n ≤ 2000) : playR p zs n = playK p zs n := by
  unfold playR
  rw [h, decide_eq_true hn]
  rfl
theorem playR_no {p : PoolD} {zs : List Int} {n : Nat} (h : poolB p = false ∨ ¬ n ≤ 2000) : playR p zs n = (pool0, 0) := by
  unfold playR
  rcases h with h | h
  · rw [h]; rfl
  · rw [decide_eq_false h, Bool.and_false]; rfl
def pv0 : PV := ⟨.slice none 0 0, .slice none 0 0, .slice none 0 0, .slice none 0 0, .slice none 0 0, .slice none 0 0, .slice none 0 0, fun _ => .slice none 0 0, fun _ => .slice none 0 0⟩
theorem PoolO.zero (w : World) (f : Nat → Nat) (B : Nat) : PoolO w f B pv0 pool0 :=
  ⟨⟨.nil _ _ _ _ _ _ _, fun k hk => absurd hk (Nat.not_lt_zero k)⟩, ⟨.nil _ _ _ _ _ _ _, fun k hk => absurd hk (Nat.not_lt_zero k)⟩, .nil _ _ _ _ _ _ _, .nil _ _ _ _ _ _ _, .nil _ _ _ _ _ _ _, .nil _ _ _ _ _ _ _, .nil _ _ _ _ _ _ _⟩
end Go.Proofs.Ytfnphnjadknoaaa

namespace Go.Proofs.Ytfnphnjadknoaaa
open Go.RowKit

def oneP (p : PoolD) (w v : Int) : PoolD × Bool := if poolB p && mayP p w v then (pickP p w v, true) else (pool0, false)
def stealR (p : PoolD) (w v : Int) : PoolD × Bool := if w = v then (pool0, false) else oneP p w v
theorem oneP_yes {p : PoolD} {w v : Int} (h : poolB p = true) (hm : mayP p w v = true) : oneP p w v = (pickP p w v, true) := by
  unfold oneP
  rw [h, hm]
  rfl
theorem oneP_no {p : PoolD} {w v : Int} (h : poolB p = false ∨ mayP p w v = false) : oneP p w v = (pool0, false) := by
  unfold oneP
  rcases h with h | h
  · rw [h]; rfl
  · rw [h, Bool.and_false]; rfl
theorem playR_one (p : PoolD) (w v : Int) : playR p [w, v] 1 = if poolB p then (pickP p w v, (mayP p w v).toNat) else (pool0, 0) := by
  cases h : poolB p
  · rw [playR_no (.inl h), if_neg (by simp)]
  · rw [playR_yes h (by omega), if_pos rfl, playK_succ, playK_zero]
    show (pickP p (geti [w, v] 0) (geti [w, v] 1), 0 + (mayP p (geti [w, v] 0) (geti [w, v] 1)).toNat) = _
    rw [Nat.zero_add]
    rfl
end Go.Proofs.Ytfnphnjadknoaaa
