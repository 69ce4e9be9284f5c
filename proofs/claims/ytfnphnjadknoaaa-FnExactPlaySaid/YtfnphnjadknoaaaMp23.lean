/- A region that draws its order, by an invariant: what is held when some of its operations have come up, whichever. Each operation is looked at once, not once an order. Of no function of the program. -/
import Derived.Test.YtfnphnjadknoaaaMp0
import Derived.Test.YtfnphnjadknoaaaMp6
import Derived.Deep.RegionHeld
namespace Go.Proofs.Ytfnphnjadknoaaa
open Go.RowKit

section
variable {P : Program} {ops : Array Oper} {Q : Exit → Act → World → Prop} {md : Region.Mode} {S : World → Prop}

def aheadB (md : Region.Mode) (ops : Array Oper) : Bool :=
  (List.range ops.size).all fun i => (ops[i]?.map (·.after.all fun e => !Region.binds md e || decide (e.on < i))).getD true
def onAt (L : Nat → Bool) (i : Nat) : Nat → Bool := fun j => if j = i then true else L j
theorem onAt_at (L : Nat → Bool) (i : Nat) : onAt L i i = true := if_pos rfl
theorem onAt_far {L : Nat → Bool} {i j : Nat} (h : j ≠ i) : onAt L i j = L j := if_neg h

theorem aheadB_spec (h : aheadB md ops = true) {i : Nat} {o : Oper} (ho : ops[i]? = some o) : ∀ e ∈ o.after, Region.binds md e = true → e.on < i := by
  intro e he hb
  have hi : i < ops.size := (Array.getElem?_eq_some_iff.1 ho).1
  unfold aheadB at h
  rw [List.all_eq_true] at h
  have h1 := h i (by simpa using hi)
  rw [ho] at h1
  simp only [Option.map_some, Option.getD_some] at h1
  rw [Array.all_eq_true_iff_forall_mem] at h1
  have h2 := h1 e he
  rw [hb] at h2
  simpa using h2

theorem mem_readyL {listed : Array Bool} {i : Nat} : i ∈ Region.ready md ops listed ↔ i < ops.size ∧ listed.getD i true = false ∧ ∃ o, ops[i]? = some o ∧ ∀ e ∈ o.after, Region.binds md e = true → listed.getD e.on false = true := by
  unfold Region.ready
  rw [List.mem_filter, List.mem_range]
  constructor
  · rintro ⟨h1, h2⟩
    rw [Bool.and_eq_true, Bool.not_eq_true'] at h2
    refine ⟨h1, h2.1, ops[i], Array.getElem?_eq_getElem h1, fun e he hb => ?_⟩
    have h3 := h2.2
    rw [Array.getElem?_eq_getElem h1] at h3
    simp only [Option.map_some, Option.getD_some] at h3
    rw [Array.all_eq_true_iff_forall_mem] at h3
    have h4 := h3 e he
    rw [hb] at h4
    simpa using h4
  · rintro ⟨h1, h2, o, ho, h3⟩
    refine ⟨h1, ?_⟩
    rw [h2, ho]
    simp only [Option.map_some, Option.getD_some, Bool.not_false, Bool.true_and]
    rw [Array.all_eq_true_iff_forall_mem]
    intro e he
    cases hb : Region.binds md e
    · rfl
    · rw [h3 e he hb]; rfl

theorem wpAnyH_inv (ha : aheadB md ops = true) (Inv : (Nat → Bool) → Act → World → Prop) (hS : ∀ L a w, Inv L a w → S w)
    (hstep : ∀ i o, ops[i]? = some o → ∀ L a w, Inv L a w → L i = false → (∀ e ∈ o.after, Region.binds md e = true → L e.on = true) → wpOp P ops Q i (Inv (onAt L i)) a w)
    (hdone : ∀ L a w, (∀ i, i < ops.size → L i = true) → Inv L a w → Q .normal a w) :
    ∀ (fuel : Nat) (listed : Array Bool) (L : Nat → Bool) (a : Act) (w : World), listed.size = ops.size → (∀ i (h : i < listed.size), listed[i] = L i) → listed.count false ≤ fuel → Inv L a w → wpAnyH P md ops Q S fuel listed a w := by
  -- where nothing may come up all has
  have hend : ∀ (listed : Array Bool) (L : Nat → Bool), listed.size = ops.size → (∀ i (h : i < listed.size), listed[i] = L i) → Region.ready md ops listed = [] → ∀ i, i < ops.size → L i = true := by
    intro listed L hz hL hr i
    induction i using Nat.strongRecOn with
    | _ i ih =>
      intro hi
      cases hb : L i
      · have hm : i ∈ Region.ready md ops listed := mem_readyL.2 ⟨hi, by
          rw [Array.getD_eq_getD_getElem?, Array.getElem?_eq_getElem (by omega), Option.getD_some, hL i (by omega)]; exact hb, ops[i], Array.getElem?_eq_getElem hi, fun e he hbd => by
          have h1 := aheadB_spec ha (Array.getElem?_eq_getElem hi) e he hbd
          rw [Array.getD_eq_getD_getElem?, Array.getElem?_eq_getElem (by omega), Option.getD_some, hL e.on (by omega)]
          exact ih e.on h1 (by omega)⟩
        rw [hr] at hm
        cases hm
      · rfl
  intro fuel
  induction fuel with
  | zero =>
    intro listed L a w hz hL hc hI
    have hr : Region.ready md ops listed = [] := by
      rw [List.eq_nil_iff_forall_not_mem]
      intro i hi
      obtain ⟨h1, h2, -⟩ := mem_readyL.1 hi
      rw [Array.getD_eq_getD_getElem?, Array.getElem?_eq_getElem (by omega), Option.getD_some] at h2
      have h3 : false ∈ listed := by rw [← h2]; exact Array.getElem_mem (by omega)
      have h4 := Array.count_pos_iff.2 h3
      omega
    exact ⟨hr, hdone L a w (hend listed L hz hL hr) hI⟩
  | succ fuel ih =>
    intro listed L a w hz hL hc hI
    refine ⟨fun hr => hdone L a w (hend listed L hz hL hr) hI, fun i hi => ?_⟩
    obtain ⟨h1, h2, o, ho, h3⟩ := mem_readyL.1 hi
    rw [Array.getD_eq_getD_getElem?, Array.getElem?_eq_getElem (by omega), Option.getD_some] at h2
    refine wpOp_mono (fun a' w' hI' => ⟨hS _ a' w' hI', ih _ (onAt L i) a' w' (by simpa using hz) (fun j hj => ?_) ?_ hI'⟩) (hstep i o ho L a w hI (by rw [← hL i (by omega)]; exact h2) (fun e he hb => ?_))
    · have hj2 : j < listed.size := by simpa using hj
      rw [Array.getElem_setIfInBounds]
      by_cases e : i = j
      · subst e
        rw [if_pos rfl, onAt_at]
      · rw [if_neg e, onAt_far (Ne.symm e)]
        exact hL j hj2
    · have h6 : (listed.setIfInBounds i true).count false + 1 = listed.count false := by
        have hil : i < listed.size := by omega
        have h7 := Array.count_set (xs := listed) (a := true) (b := false) hil
        have h8 : 0 < listed.count false := Array.count_pos_iff.2 (by rw [← h2]; exact Array.getElem_mem hil)
        rw [h2] at h7
        have e : listed.setIfInBounds i true = listed.set i true hil := by simp [Array.setIfInBounds, hil]
        rw [e, h7]
        simp
        omega
      omega
    · have h4 := h3 e he hb
      have h5 := aheadB_spec ha ho e he hb
      rw [Array.getD_eq_getD_getElem?, Array.getElem?_eq_getElem (by omega), Option.getD_some] at h4
      rw [← hL e.on (by omega)]
      exact h4
theorem wp_region_inv {id : Nat} {a : Act} {w : World} (hm : P.follows .mixedOrders = true) (ha : aheadB .any ops = true) (Inv : (Nat → Bool) → Act → World → Prop) (h0 : Inv (fun _ => false) a w.drew)
    (hstep : ∀ i o, ops[i]? = some o → ∀ L a w, Inv L a w → L i = false → (∀ e ∈ o.after, Region.binds .any e = true → L e.on = true) → wpOp P ops Q i (Inv (onAt L i)) a w)
    (hdone : ∀ L a w, (∀ i, i < ops.size → L i = true) → Inv L a w → Q .normal a w) : (Code.region id ops true).wp P Q a w :=
  wp_region_held (S := fun _ => True) hm (wpAnyH_inv ha Inv (fun _ _ _ _ => trivial) hstep hdone _ _ (fun _ => false) a w.drew (by simp) (fun i hi => by simp) (by simp) h0)
def Closed (md : Region.Mode) (ops : Array Oper) (L : Nat → Bool) : Prop := ∀ i o, ops[i]? = some o → L i = true → ∀ e ∈ o.after, Region.binds md e = true → L e.on = true
def waitsB (md : Region.Mode) (ops : Array Oper) : Nat → Nat → Nat → Bool
  | 0, _, _ => false
  | n + 1, i, j => (ops[i]?.map (·.after.any fun e => Region.binds md e && (decide (e.on = j) || waitsB md ops n e.on j))).getD false
theorem waitsB_spec {L : Nat → Bool} (hc : Closed md ops L) : ∀ (n i j : Nat) (o : Oper), ops[i]? = some o → (∀ e ∈ o.after, Region.binds md e = true → L e.on = true) → waitsB md ops n i j = true → L j = true
  | 0, _, _, _, _, _, h => by cases h
  | n + 1, i, j, o, ho, hd, h => by
    unfold waitsB at h
    rw [ho] at h
    simp only [Option.map_some, Option.getD_some] at h
    rw [Array.any_eq_true] at h
    obtain ⟨k, hk, h1⟩ := h
    rw [Bool.and_eq_true, Bool.or_eq_true, decide_eq_true_eq] at h1
    have h2 := hd _ (Array.getElem_mem hk) h1.1
    rcases h1.2 with h3 | h3
    · rw [← h3]; exact h2
    · cases n with
      | zero => cases h3
      | succ n =>
        have h4 : ∃ o2, ops[o.after[k].on]? = some o2 := by
          cases h5 : ops[o.after[k].on]? with
          | none => unfold waitsB at h3; rw [h5] at h3; cases h3
          | some o2 => exact ⟨o2, rfl⟩
        obtain ⟨o2, h5⟩ := h4
        exact waitsB_spec hc (n + 1) _ j o2 h5 (hc _ o2 h5 h2) h3
def tailB (md : Region.Mode) (ops : Array Oper) (n : Nat) : Bool :=
  decide (0 < n) && (decide (n ≤ ops.size) && (List.range ops.size).all fun i => decide (i < n) || (List.range i).all fun j => waitsB md ops 9 i j)
theorem tailB_spec {n : Nat} (h : tailB md ops n = true) : 0 < n ∧ n ≤ ops.size ∧ ∀ i o, n ≤ i → ops[i]? = some o → ∀ j, j < i → waitsB md ops 9 i j = true := by
  unfold tailB at h
  rw [Bool.and_eq_true, decide_eq_true_eq, Bool.and_eq_true, decide_eq_true_eq, List.all_eq_true] at h
  refine ⟨h.1, h.2.1, fun i o hni ho j hj => ?_⟩
  have hi : i < ops.size := (Array.getElem?_eq_some_iff.1 ho).1
  have h1 := h.2.2 i (by simpa using hi)
  rw [decide_eq_false (by omega), Bool.false_or, List.all_eq_true] at h1
  exact h1 j (by simpa using hj)
theorem wp_region_facts {id : Nat} {a : Act} {w : World} (n : Nat) (hm : P.follows .mixedOrders = true) (ha : aheadB .any ops = true) (hl : tailB .any ops n = true)
    (tm : (Nat → Value) → Array Value) (us0 : Nat → Value) (f0 : Nat → Nat) (hA : a = ⟨tm us0, []⟩) (dst : Nat → Nat) (hd : ∀ i, i < n → ∀ j, j < n → i ≠ j → dst i ≠ dst j)
    (Fact : Nat → Value → (Nat → Nat) → World → Prop) (hst : ∀ i v f w f' w', i < n → (∀ b, b < w.heap.size → f' b = f b) → Below w.heap.size w w' → Fact i v f w → Fact i v f' w')
    (hstep : ∀ i o, i < n → ops[i]? = some o → ∀ us f w', Below w.heap.size w w' → (∀ b, b < w.heap.size → f b = f0 b) → (∀ e ∈ o.after, Region.binds .any e = true → Fact e.on (us (dst e.on)) f w') →
      ∀ K : Act → World → Prop, (∀ v f' w'', (∀ b, b < w'.heap.size → f' b = f b) → Below w'.heap.size w' w'' → Fact i v f' w'' → K ⟨tm (updV us (dst i) v), []⟩ w'') →
        if Region.wanted o (yielded ops (tm us)) = true then Oper.wp P o ⟨tm us, []⟩ w' K Q else K (Act.put ⟨tm us, []⟩ o.dst undef) w')
    (htail : ∀ us f w', Below w.heap.size w w' → (∀ b, b < w.heap.size → f b = f0 b) → (∀ i, i < n → Fact i (us (dst i)) f w') → wpList P ops Q (ops.toList.drop n) ⟨tm us, []⟩ w') :
    (Code.region id ops true).wp P Q a w := by
  obtain ⟨hn0, hnz, hwait⟩ := tailB_spec hl
  refine wp_region_inv hm ha (fun L a' w' => Closed .any ops L ∧
      ((¬ ∀ j, j < n → L j = true) → (∀ j, n ≤ j → j < ops.size → L j = false) ∧ ∃ us f, a' = ⟨tm us, []⟩ ∧ Below w.heap.size w w' ∧ (∀ b, b < w.heap.size → f b = f0 b) ∧ ∀ i, i < n → L i = true → Fact i (us (dst i)) f w') ∧
      ((∀ j, j < n → L j = true) → ∃ k, n ≤ k ∧ k ≤ ops.size ∧ (∀ j, j < k → L j = true) ∧ (∀ j, k ≤ j → j < ops.size → L j = false) ∧ wpList P ops Q (ops.toList.drop k) a' w'))
    ⟨fun _ _ _ h => (by cases h), fun _ => ⟨fun _ _ _ => rfl, us0, f0, hA, (Below.refl _ _).drew, fun _ _ => rfl, fun i _ h => (by cases h)⟩, fun h => absurd (h 0 hn0) (by simp)⟩ ?_ (fun L a' w' hL hI => ?_)
  · intro i o ho L a' w' hI hLi hdep
    obtain ⟨hcl, hI⟩ := hI
    have hin : i < ops.size := (Array.getElem?_eq_some_iff.1 ho).1
    have hcl2 : Closed .any ops (onAt L i) := by
      intro j o2 ho2 hj e he hb
      have h1 : L e.on = true := by
        by_cases e2 : j = i
        · subst e2
          rw [ho] at ho2
          cases ho2
          exact hdep e he hb
        · rw [onAt_far e2] at hj
          exact hcl j o2 ho2 hj e he hb
      unfold onAt
      split
      · rfl
      · exact h1
    by_cases hA : ∀ j, j < n → L j = true
    · -- in the tail
      obtain ⟨k, hnk, hkz, hk1, hk2, hw⟩ := hI.2 hA
      have hki : k ≤ i := by
        rcases Nat.lt_or_ge i k with h | h
        · rw [hk1 i h] at hLi
          cases hLi
        · exact h
      have hik : i = k := by
        rcases Nat.lt_or_ge k i with h | h
        · have h3 := waitsB_spec hcl 9 i k o ho hdep (hwait i o (by omega) ho k h)
          rw [hk2 k (Nat.le_refl _) (by omega)] at h3
          cases h3
        · omega
      subst hik
      have hdr : ops.toList.drop i = o :: ops.toList.drop (i + 1) := by
        have h1 : ops.toList[i]? = some o := by rw [Array.getElem?_toList]; exact ho
        have h2 : i < ops.toList.length := by simpa using hin
        rw [List.getElem?_eq_getElem h2] at h1
        rw [← Option.some.inj h1]
        exact List.drop_eq_getElem_cons h2
      rw [hdr] at hw
      have hnew : ∀ a2 w2, wpList P ops Q (ops.toList.drop (i + 1)) a2 w2 → Closed .any ops (onAt L i) ∧
          ((¬ ∀ j, j < n → onAt L i j = true) → (∀ j, n ≤ j → j < ops.size → onAt L i j = false) ∧ ∃ us f, a2 = ⟨tm us, []⟩ ∧ Below w.heap.size w w2 ∧ (∀ b, b < w.heap.size → f b = f0 b) ∧ ∀ i_1, i_1 < n → onAt L i i_1 = true → Fact i_1 (us (dst i_1)) f w2) ∧
          ((∀ j, j < n → onAt L i j = true) → ∃ k, n ≤ k ∧ k ≤ ops.size ∧ (∀ j, j < k → onAt L i j = true) ∧ (∀ j, k ≤ j → j < ops.size → onAt L i j = false) ∧ wpList P ops Q (ops.toList.drop k) a2 w2) := fun a2 w2 h => by
        refine ⟨hcl2, fun hA2 => absurd (fun j hj => ?_) hA2, fun _ => ⟨i + 1, by omega, by omega, fun j hj => ?_, fun j hj hz => ?_, h⟩⟩
        · rw [onAt_far (by omega)]
          exact hA j hj
        · by_cases e : j = i
          · rw [e, onAt_at]
          · rw [onAt_far e]
            exact hk1 j (by omega)
        · rw [onAt_far (by omega)]
          exact hk2 j (by omega) hz
      unfold wpOp
      rw [ho]
      unfold wpList at hw
      show if Region.wanted o (yielded ops a'.tmps) = true then _ else _
      split
      · rename_i hwt
        rw [if_pos hwt] at hw
        exact hw.imp (Oper.wp_mono hnew) (fun h => h)
      · rename_i hwt
        rw [if_neg hwt] at hw
        exact hnew _ _ hw
    · obtain ⟨hfar, us, f, rfl, hB, hf, hF⟩ := hI.1 hA
      have hi : i < n := by
        rcases Nat.lt_or_ge i n with h | h
        · exact h
        · exfalso
          exact hA (fun j hj => waitsB_spec hcl 9 i j o ho hdep (hwait i o h ho j (by omega)))
      refine wpOp_step ho (fun K hK => hstep i o hi ho us f w' hB hf (fun e he hb => hF _ (by have := aheadB_spec ha ho e he hb; omega) (hdep e he hb)) K (fun v f' w'' hf' hb' hv => hK _ _ ?_))
      have hB2 := below_then hB hb'
      have hf2 : ∀ b, b < w.heap.size → f' b = f0 b := fun b hb => (hf' b (Nat.lt_of_lt_of_le hb hB.size)).trans (hf b hb)
      have hF2 : ∀ j, j < n → onAt L i j = true → Fact j (updV us (dst i) v (dst j)) f' w'' := fun j hj hLj => by
        by_cases e2 : j = i
        · subst e2
          rw [updV_at]
          exact hv
        · rw [onAt_far e2] at hLj
          rw [updV_far (hd j hj i hi e2)]
          exact hst j _ f w' f' w'' hj hf' hb' (hF j hj hLj)
      have hfar2 : ∀ j, n ≤ j → j < ops.size → onAt L i j = false := fun j hj hz => by
        rw [onAt_far (by omega)]
        exact hfar j hj hz
      exact ⟨hcl2, fun _ => ⟨hfar2, _, f', rfl, hB2, hf2, hF2⟩, fun hA2 => ⟨n, Nat.le_refl _, hnz, hA2, hfar2, htail _ f' w'' hB2 hf2 (fun j hj => hF2 j hj (hA2 j hj))⟩⟩
  · obtain ⟨k, -, hkz, -, hk2, hw⟩ := hI.2.2 (fun j hj => hL j (by omega))
    have hk : k = ops.size := by
      rcases Nat.lt_or_ge k ops.size with h | h
      · have := hk2 k (Nat.le_refl _) h
        rw [hL k h] at this
        cases this
      · omega
    rw [hk, List.drop_of_length_le (by simp)] at hw
    exact hw
theorem wp_region_only {id : Nat} {a : Act} {w : World} (g : Nat) (hm : P.follows .mixedOrders = true) (ha : aheadB .any ops = true)
    (tm : (Nat → Value) → Array Value) (us0 : Nat → Value) (f0 : Nat → Nat) (hA : a = ⟨tm us0, []⟩) (dst : Nat → Nat) (hd : ∀ i, i < ops.size → ∀ j, j < ops.size → i ≠ j → dst i ≠ dst j)
    (Fact : Nat → Value → (Nat → Nat) → World → Prop) (I : (Nat → Nat) → World → Prop) (hI : I f0 w.drew)
    (hstep : ∀ i o, i < ops.size → ops[i]? = some o → ∀ us f w', Only g w w' → (∀ b, b < w.heap.size → f b = f0 b) → I f w' → (∀ e ∈ o.after, Region.binds .any e = true → Fact e.on (us (dst e.on)) f w') →
      ∀ K : Act → World → Prop, (∀ v f' w'', (∀ b, b < w'.heap.size → f' b = f b) → Only g w' w'' → I f' w'' → (∀ j, j < ops.size → j ≠ i → Fact j (us (dst j)) f w' → Fact j (us (dst j)) f' w'') → Fact i v f' w'' → K ⟨tm (updV us (dst i) v), []⟩ w'') →
        if Region.wanted o (yielded ops (tm us)) = true then Oper.wp P o ⟨tm us, []⟩ w' K Q else K (Act.put ⟨tm us, []⟩ o.dst undef) w')
    (hend : ∀ us f w', Only g w w' → (∀ b, b < w.heap.size → f b = f0 b) → I f w' → (∀ i, i < ops.size → Fact i (us (dst i)) f w') → Q .normal ⟨tm us, []⟩ w') :
    (Code.region id ops true).wp P Q a w := by
  refine wp_region_inv hm ha (fun L a' w' => ∃ us f, a' = ⟨tm us, []⟩ ∧ Only g w w' ∧ (∀ b, b < w.heap.size → f b = f0 b) ∧ I f w' ∧ ∀ i, i < ops.size → L i = true → Fact i (us (dst i)) f w')
    ⟨us0, f0, hA, (Only.refl _ _).drew, fun _ _ => rfl, hI, fun i _ h => (by cases h)⟩ ?_ (fun L a' w' hL hI => ?_)
  · rintro i o ho L a' w' ⟨us, f, rfl, hO, hf, hI, hF⟩ hLi hdep
    have hin : i < ops.size := (Array.getElem?_eq_some_iff.1 ho).1
    refine wpOp_step ho (fun K hK => hstep i o hin ho us f w' hO hf hI (fun e he hb => hF _ (by have := aheadB_spec ha ho e he hb; omega) (hdep e he hb)) K (fun v f' w'' hf' hO' hI' hk hv => hK _ _ ⟨_, f', rfl, hO.trans hO', fun b hb => (hf' b (Nat.lt_of_lt_of_le hb hO.size)).trans (hf b hb), hI', fun j hj hLj => ?_⟩))
    by_cases e2 : j = i
    · subst e2
      rw [updV_at]
      exact hv
    · rw [onAt_far e2] at hLj
      rw [updV_far (hd j hj i hin e2)]
      exact hk j hj e2 (hF j hj hLj)
  · obtain ⟨us, f, rfl, hO, hf, hI2, hF⟩ := hI
    exact hend us f w' hO hf hI2 (fun i hi => hF i hi (hL i hi))
theorem step_skip {o : Oper} {a : Act} {w w' : World} {K : Act → World → Prop} (hw : Region.wanted o (yielded ops a.tmps) = true) (hr : (execOp a.eval o).run P w = .ok .skip w') (h : K (a.put o.dst undef) w') :
    if Region.wanted o (yielded ops a.tmps) = true then Oper.wp P o a w K Q else K (a.put o.dst undef) w := by
  rw [if_pos hw]
  unfold Oper.wp
  rw [hr]
  exact h
theorem step_value {o : Oper} {a : Act} {w w' : World} {K : Act → World → Prop} {v : Value} (hw : Region.wanted o (yielded ops a.tmps) = true) (hr : (execOp a.eval o).run P w = .ok (.value v) w') (h : K (a.put o.dst v) w') :
    if Region.wanted o (yielded ops a.tmps) = true then Oper.wp P o a w K Q else K (a.put o.dst undef) w := by
  rw [if_pos hw]
  unfold Oper.wp
  rw [hr]
  exact h
theorem step_call {o : Oper} {a : Act} {w : World} {K : Act → World → Prop} {g : FuncId} {args : Array Value} (hw : Region.wanted o (yielded ops a.tmps) = true) (hr : (execOp a.eval o).run P w = .ok (.enter g args) w)
    {R : Ending → World → Prop} (hc : Calls P g args w R) (h : ∀ e w', R e w' → ∃ v, e = .returned v ∧ K (a.put o.dst v) w') :
    if Region.wanted o (yielded ops a.tmps) = true then Oper.wp P o a w K Q else K (a.put o.dst undef) w := by
  rw [if_pos hw]
  unfold Oper.wp
  rw [hr]
  refine Calls.mono hc (fun e w' he => ?_)
  obtain ⟨v, rfl, hk⟩ := h e w' he
  exact hk
end
end Go.Proofs.Ytfnphnjadknoaaa
