/- small facts for l1ins. -/
import Derived.Test.YtfkaacfeikmabaaMx0
import Derived.Test.YtfkaacfeikmabaaMx2
import Derived.Test.YtfkaacfeikmabaaMx3
import Derived.Test.YtfkaacfeikmabaaMx4
namespace Go.Proofs.Ytfkaacfeikmabaa
open Go.RowKit

def leapB (o : Int) : Bool := o == 13 || o == 14
def fenB (o : Int) : Bool := o == 12 || o == 11
def farI (l : List InsD) : Nat → Int
  | 0 => 0
  | k + 1 => if leapB (getd l k).o then max (farI l k) (getd l k).n else farI l k
def openI (l : List InsD) : Nat → Bool
  | 0 => false
  | k + 1 => if storeB (getd l k).o then true else if fenB (getd l k).o then (openI l k && decide ((k : Int) < farI l k)) else openI l k
def atsI (l : List InsD) : Nat → List Int
  | 0 => []
  | k + 1 => if loadB (getd l k).o && openI l k then atsI l k ++ [(k : Int)] else atsI l k
def pairsT (t : Int) (zs : List Int) : List Int := zs.flatMap fun a => [t, a]
def spotsT (ts : List (List InsD)) : Nat → List Int
  | 0 => []
  | k + 1 => spotsT ts k ++ pairsT (k : Int) (atsI (gett ts k) (gett ts k).length)
theorem load_of_fen {o : Int} (h : fenB o = true) : loadB o = false := by
  unfold fenB at h
  unfold loadB
  simp only [Bool.or_eq_true, beq_iff_eq] at h
  rcases h with rfl | rfl <;> rfl
theorem load_of_store {o : Int} (h : storeB o = true) : loadB o = false := by
  unfold storeB at h
  unfold loadB
  simp only [Bool.or_eq_true, beq_iff_eq] at h
  rcases h with rfl | rfl <;> rfl
theorem fen_no {o : Int} (h : fenB o = false) : (o == 12) = false ∧ (o == 11) = false := by
  unfold fenB at h
  simpa only [Bool.or_eq_false_iff] using h
theorem farI_mono (l : List InsD) {i k : Nat} (h : i ≤ k) : farI l i ≤ farI l k := by
  induction k with
  | zero => obtain rfl : i = 0 := by omega
            exact Int.le_refl _
  | succ k ih =>
    rcases Nat.lt_or_ge k i with h1 | h1
    · obtain rfl : i = k + 1 := by omega
      exact Int.le_refl _
    · have h2 := ih h1
      show farI l i ≤ if leapB (getd l k).o then max (farI l k) (getd l k).n else farI l k
      split
      · omega
      · exact h2
theorem farI_jump {l : List InsD} {k : Nat} (h : leapB (getd l k).o = true) : farI l (k + 1) = max (farI l k) (getd l k).n := by
  show (if leapB (getd l k).o then max (farI l k) (getd l k).n else farI l k) = _
  rw [if_pos h]
theorem farI_stay {l : List InsD} {k : Nat} (h : leapB (getd l k).o = false) : farI l (k + 1) = farI l k := by
  show (if leapB (getd l k).o then max (farI l k) (getd l k).n else farI l k) = _
  rw [if_neg (by rw [h]; decide)]
theorem openI_store {l : List InsD} {k : Nat} (h : storeB (getd l k).o = true) : openI l (k + 1) = true := by
  show (if storeB (getd l k).o then true else _) = _
  rw [if_pos h]
theorem openI_fen {l : List InsD} {k : Nat} (h : storeB (getd l k).o = false) (h1 : fenB (getd l k).o = true) : openI l (k + 1) = (openI l k && decide ((k : Int) < farI l k)) := by
  show (if storeB (getd l k).o then true else if fenB (getd l k).o then (openI l k && decide ((k : Int) < farI l k)) else openI l k) = _
  rw [if_neg (by rw [h]; decide), if_pos h1]
theorem openI_stay {l : List InsD} {k : Nat} (h : storeB (getd l k).o = false) (h1 : fenB (getd l k).o = false) : openI l (k + 1) = openI l k := by
  show (if storeB (getd l k).o then true else if fenB (getd l k).o then (openI l k && decide ((k : Int) < farI l k)) else openI l k) = _
  rw [if_neg (by rw [h]; decide), if_neg (by rw [h1]; decide)]
theorem atsI_load {l : List InsD} {k : Nat} (h : loadB (getd l k).o = true) (h1 : openI l k = true) : atsI l (k + 1) = atsI l k ++ [(k : Int)] := by
  show (if loadB (getd l k).o && openI l k then atsI l k ++ [(k : Int)] else atsI l k) = _
  rw [if_pos (by rw [h, h1]; rfl)]
theorem atsI_stay {l : List InsD} {k : Nat} (h : (loadB (getd l k).o && openI l k) = false) : atsI l (k + 1) = atsI l k := by
  show (if loadB (getd l k).o && openI l k then atsI l k ++ [(k : Int)] else atsI l k) = _
  rw [if_neg (by rw [h]; decide)]
theorem atsI_len (l : List InsD) (k : Nat) : (atsI l k).length ≤ k := by
  induction k with
  | zero => simp [atsI]
  | succ k ih =>
    cases h : (loadB (getd l k).o && openI l k)
    · rw [atsI_stay h]; omega
    · simp only [Bool.and_eq_true] at h
      rw [atsI_load h.1 h.2, List.length_append, List.length_singleton]; omega
theorem atsI_mono (l : List InsD) {i k : Nat} (h : i ≤ k) : (atsI l i).length ≤ (atsI l k).length := by
  induction k with
  | zero => obtain rfl : i = 0 := by omega
            exact Nat.le_refl _
  | succ k ih =>
    rcases Nat.lt_or_ge k i with h1 | h1
    · obtain rfl : i = k + 1 := by omega
      exact Nat.le_refl _
    · have h2 := ih h1
      cases h3 : (loadB (getd l k).o && openI l k)
      · rw [atsI_stay h3]; exact h2
      · simp only [Bool.and_eq_true] at h3
        rw [atsI_load h3.1 h3.2, List.length_append]; omega
theorem pairsT_len (t : Int) (zs : List Int) : (pairsT t zs).length = zs.length * 2 := by
  induction zs with
  | nil => rfl
  | cons z zs ih =>
    unfold pairsT at ih ⊢
    rw [List.flatMap_cons, List.length_append, ih, List.length_cons]
    simp
    omega
theorem pairsT_more (t : Int) (zs : List Int) (z : Int) : pairsT t (zs ++ [z]) = pairsT t zs ++ [t, z] := by
  unfold pairsT
  rw [List.flatMap_append]
  simp
theorem spotsT_succ (ts : List (List InsD)) (k : Nat) : spotsT ts (k + 1) = spotsT ts k ++ pairsT (k : Int) (atsI (gett ts k) (gett ts k).length) := rfl
def spotsN (ts : List (List InsD)) : Nat → Nat
  | 0 => 0
  | k + 1 => spotsN ts k + (atsI (gett ts k) (gett ts k).length).length
theorem spotsT_len (ts : List (List InsD)) (k : Nat) : (spotsT ts k).length = spotsN ts k * 2 := by
  induction k with
  | zero => rfl
  | succ k ih =>
    rw [spotsT_succ, List.length_append, ih, pairsT_len]
    show _ = (spotsN ts k + (atsI (gett ts k) (gett ts k).length).length) * 2
    omega
theorem spotsN_le (ts : List (List InsD)) (k : Nat) (h : ∀ j, j < k → (gett ts j).length ≤ 24) : spotsN ts k ≤ k * 24 := by
  induction k with
  | zero => simp [spotsN]
  | succ k ih =>
    have h1 := ih (fun j hj => h j (by omega))
    have h2 := h k (by omega)
    have h3 := atsI_len (gett ts k) (gett ts k).length
    show spotsN ts k + (atsI (gett ts k) (gett ts k).length).length ≤ _
    omega
end Go.Proofs.Ytfkaacfeikmabaa

namespace Go.Proofs.Ytfkaacfeikmabaa
open Go.RowKit

def spotsL (p : ProgD) : List Int := if progB p then spotsT p.ts p.ts.length else []
def spotsK (p : ProgD) : Nat := if progB p then spotsN p.ts p.ts.length else 0
theorem prog_thr {p : ProgD} (h : progB p = true) : p.init.length ≤ 6 ∧ p.ts.length ≤ 3 ∧ ∀ j, j < p.ts.length → (gett p.ts j).length ≤ 24 := by
  unfold progB sizesB at h
  simp only [Bool.and_eq_true, decide_eq_true_eq] at h
  obtain ⟨h1, h2⟩ := h
  refine ⟨by omega, by omega, fun j hj => ?_⟩
  have h3 := allB_at h2 hj
  unfold thrB at h3
  simp only [Bool.and_eq_true, decide_eq_true_eq] at h3
  exact h3.1
theorem spotsN_72 {p : ProgD} (h : progB p = true) {k : Nat} (hk : k ≤ p.ts.length) : spotsN p.ts k ≤ 72 := by
  obtain ⟨_, h1, h2⟩ := prog_thr h
  have := spotsN_le p.ts k (fun j hj => h2 j (by omega))
  omega
theorem spotsL_len (p : ProgD) : (spotsL p).length = spotsK p * 2 := by
  unfold spotsL spotsK
  cases progB p
  · rfl
  · simp only [if_true]
    exact spotsT_len _ _
theorem spotsK_le (p : ProgD) : spotsK p ≤ 72 := by
  unfold spotsK
  cases h : progB p
  · simp
  · simp only [if_true]
    exact spotsN_72 h (Nat.le_refl _)
end Go.Proofs.Ytfkaacfeikmabaa

namespace Go.Proofs.Ytfkaacfeikmabaa
open Go.RowKit

def cmpI (x y : Int) : Int := if x < y then -1 else if y < x then 1 else 0
set_option maxHeartbeats 800000 in
theorem cmpNaN_any (x : Int) (w : World) : Calls Try.prog 200 #[.int .i64 x] w fun e w' => e = .returned (.bool false) ∧ w = w' := by
  have hx : (x != x) = false := by simp
  go_enter Try.func200, Try.ntmps200
  go_wp2
  go_ret
  exact ⟨rfl, rfl⟩
set_option maxHeartbeats 800000 in
theorem slNaN_any (x : Int) (w : World) : Calls Try.prog 185 #[.int .i64 x] w fun e w' => e = .returned (.bool false) ∧ w = w' := by
  have hx : (x != x) = false := by simp
  go_enter Try.func185, Try.ntmps185
  go_wp2
  go_ret
  exact ⟨rfl, rfl⟩
set_option maxHeartbeats 1600000 in
theorem compare_any (x y : Int) (w : World) : Calls Try.prog 183 #[.int .i64 x, .int .i64 y] w fun e w' => e = .returned (.int .i64 (cmpI x y)) ∧ w = w' := by
  have k := hide cmpNaN_any
  by_cases h1 : x < y
  · have hE := hide (show cmpI x y = -1 from by unfold cmpI; rw [if_pos h1])
    have h1' : decide (x < y) = true := decide_eq_true h1
    go_enter Try.func183, Try.ntmps183
    go_wp2_with (go_at_call 200; refine (k.out _ _).mono ?_; rintro e wx ⟨rfl, rfl⟩)
    go_ret
    exact ⟨ret_int hE.out.symm, rfl⟩
  · have h1' : decide (x < y) = false := decide_eq_false h1
    by_cases h2 : y < x
    · have hE := hide (show cmpI x y = 1 from by unfold cmpI; rw [if_neg h1, if_pos h2])
      have h2' : decide (y < x) = true := decide_eq_true h2
      go_enter Try.func183, Try.ntmps183
      go_wp2_with (go_at_call 200; refine (k.out _ _).mono ?_; rintro e wx ⟨rfl, rfl⟩)
      go_ret
      exact ⟨ret_int hE.out.symm, rfl⟩
    · have hE := hide (show cmpI x y = 0 from by unfold cmpI; rw [if_neg h1, if_neg h2])
      have h2' : decide (y < x) = false := decide_eq_false h2
      go_enter Try.func183, Try.ntmps183
      go_wp2_with (go_at_call 200; refine (k.out _ _).mono ?_; rintro e wx ⟨rfl, rfl⟩)
      go_ret
      exact ⟨ret_int hE.out.symm, rfl⟩
set_option maxHeartbeats 1600000 in
theorem less_any (x y : Int) (w : World) : Calls Try.prog 184 #[.int .i64 x, .int .i64 y] w fun e w' => e = .returned (.bool (decide (x < y))) ∧ w = w' := by
  have k := hide cmpNaN_any
  by_cases h1 : x < y
  all_goals
    first
      | (have h1' : decide (x < y) = true := decide_eq_true h1)
      | (have h1' : decide (x < y) = false := decide_eq_false h1)
    have hE := hide h1'
    go_enter Try.func184, Try.ntmps184
    go_wp2_with (go_at_call 200; refine (k.out _ _).mono ?_; rintro e wx ⟨rfl, rfl⟩)
    go_ret
    exact ⟨ret_bool hE.out.symm, rfl⟩
set_option maxHeartbeats 1600000 in
theorem or_any (a b : Int) (q c : Nat) (w : World) (hq : IntsAt w (Old w.heap.size) (some ⟨q, 0, none⟩) [a, b]) : Calls Try.prog 182 #[.slice (some ⟨q, 0, none⟩) 2 c] w fun e w' => e = .returned (.int .i64 (if a = 0 then b else a)) ∧ w = w' := by
  obtain ⟨b0, off, e, -, hc⟩ := hq.2 (by simp)
  cases e
  have c0 : w.cell? ⟨q, 0, none⟩ = some (.int .i64 a) := hc 0 (by simp)
  have c1 : w.cell? ⟨q, 1, none⟩ = some (.int .i64 b) := hc 1 (by simp)
  clear hc hq
  by_cases ha : a = 0
  · subst ha
    rw [if_pos rfl]
    by_cases hb : b = 0
    · subst hb
      go_enter Try.func182, Try.ntmps182
      go_wp2
      go_loop [8] (fun i => i = .int .i64 0 ∨ i = .int .i64 1 ∨ i = .int .i64 2) (fun i => 3 - (intOf i).toNat)
      case atStart => exact Or.inl rfl
      case round =>
        rcases hrel with rfl | rfl | rfl
        · go_wp2_with fail
          exact ⟨Or.inr (Or.inl rfl), by decide⟩
        · go_wp2_with fail
          exact ⟨Or.inr (Or.inr rfl), by decide⟩
        · go_wp2_with fail
          go_ret
          exact ⟨rfl, rfl⟩
    · have hb' : (b != 0) = true := by rw [bne_iff_ne]; exact hb
      go_enter Try.func182, Try.ntmps182
      go_wp2
      go_loop [8] (fun i => i = .int .i64 0 ∨ i = .int .i64 1) (fun i => 3 - (intOf i).toNat)
      case atStart => exact Or.inl rfl
      case round =>
        rcases hrel with rfl | rfl
        · go_wp2_with fail
          exact ⟨Or.inr rfl, by decide⟩
        · go_wp2_with fail
          go_ret
          exact ⟨rfl, rfl⟩
  · rw [if_neg ha]
    have ha' : (a != 0) = true := by rw [bne_iff_ne]; exact ha
    go_enter Try.func182, Try.ntmps182
    go_wp2
    go_loop [8] (fun i => i = .int .i64 0) (fun i => 3 - (intOf i).toNat)
    case atStart => rfl
    case round =>
      subst hrel
      go_wp2_with fail
      go_ret
      exact ⟨rfl, rfl⟩
end Go.Proofs.Ytfkaacfeikmabaa

namespace Go.Proofs.Ytfkaacfeikmabaa
open Go.RowKit

def spT (zs : List Int) (k : Nat) : Int := geti zs (k * 2)
def spA (zs : List Int) (k : Nat) : Int := geti zs (k * 2 + 1)
def standB (ts : List (List InsD)) (t a : Int) : Bool := decide (0 ≤ t) && (decide (t < (ts.length : Int)) && (decide (0 ≤ a) && decide (a < ((gett ts t.toNat).length : Int))))
def aheadB (t a u b : Int) : Bool := decide (t < u) || (decide (t = u) && decide (a < b))
def spotB (ts : List (List InsD)) (zs : List Int) (k : Nat) : Bool := standB ts (spT zs k) (spA zs k) && (decide (k = 0) || aheadB (spT zs (k - 1)) (spA zs (k - 1)) (spT zs k) (spA zs k))
def spotsB (ts : List (List InsD)) (zs : List Int) (n : Nat) : Bool := allB (spotB ts zs) n
def cmpS (t a u b : Int) : Int := if cmpI t u = 0 then cmpI a b else cmpI t u
theorem cmpI_neg {x y : Int} : cmpI x y < 0 ↔ x < y := by
  unfold cmpI
  split
  · omega
  · split <;> omega
theorem cmpI_zero {x y : Int} : cmpI x y = 0 ↔ x = y := by
  unfold cmpI
  split
  · omega
  · split <;> omega
theorem cmpS_ahead (t a u b : Int) : decide (0 ≤ cmpS t a u b) = !aheadB t a u b := by
  have h1 := @cmpI_neg t u
  have h2 := @cmpI_zero t u
  have h3 := @cmpI_neg a b
  unfold cmpS aheadB
  by_cases e : t = u
  · rw [if_pos (h2.2 e), decide_eq_false (p := t < u) (by omega), decide_eq_true (p := t = u) e]
    by_cases f : a < b
    · rw [decide_eq_true f, decide_eq_false (by have := h3.2 f; omega)]; rfl
    · rw [decide_eq_false f, decide_eq_true (by have : ¬ cmpI a b < 0 := fun h => f (h3.1 h); omega)]; rfl
  · rw [if_neg (fun h => e (h2.1 h)), decide_eq_false (p := t = u) e]
    by_cases f : t < u
    · rw [decide_eq_true f, decide_eq_false (by have := h1.2 f; omega)]; rfl
    · rw [decide_eq_false f, decide_eq_true (by have : ¬ cmpI t u < 0 := fun h => f (h1.1 h); omega)]; rfl
def atsS (zs : List Int) (t : Int) : Nat → List Int
  | 0 => []
  | k + 1 => if spT zs k = t then atsS zs t k ++ [spA zs k] else atsS zs t k
def lowN (x : Int) (l : List Int) : Nat := (l.filter fun a => decide (a < x)).length
def hasL (l : List Int) (x : Int) : Bool := l.contains x
theorem hasL_more (l : List Int) (a x : Int) : hasL (l ++ [a]) x = (hasL l x || (x == a)) := by
  unfold hasL
  rw [List.contains_append, List.contains_cons, List.contains_nil, Bool.or_false]
def fence0 : InsD := ⟨12, 0, 0, 0, 0, 0⟩
def movedI (l : List Int) (d : InsD) : InsD := if leapB d.o then ⟨d.o, d.r, d.a, d.b, d.x, d.n + lowN d.n l⟩ else d
def fenI (l : List Int) (is : List InsD) : Nat → List InsD
  | 0 => []
  | k + 1 => if hasL l (k : Int) then fenI l is k ++ [fence0, movedI l (getd is k)] else fenI l is k ++ [movedI l (getd is k)]
def fenP (p : ProgD) (zs : List Int) (n : Nat) : ProgD := ⟨p.init, (List.range p.ts.length).map fun (t : Nat) => fenI (atsS zs (t : Int) n) (gett p.ts t) (gett p.ts t).length⟩
def fncB (p : ProgD) (zs : List Int) (n : Nat) : Bool := progB p && spotsB p.ts zs n && progB (fenP p zs n)
theorem lowN_nil (x : Int) : lowN x [] = 0 := rfl
theorem lowN_more (x a : Int) (l : List Int) : lowN x (l ++ [a]) = lowN x l + if a < x then 1 else 0 := by
  unfold lowN
  rw [List.filter_append, List.length_append]
  by_cases h : a < x
  · simp [h]
  · simp [h]
theorem lowN_le (x : Int) (l : List Int) : lowN x l ≤ l.length := List.length_filter_le _ _
theorem atsS_len (zs : List Int) (t : Int) (k : Nat) : (atsS zs t k).length ≤ k := by
  induction k with
  | zero => exact Nat.le_refl _
  | succ k ih =>
    show (if spT zs k = t then atsS zs t k ++ [spA zs k] else atsS zs t k).length ≤ _
    split
    · rw [List.length_append, List.length_singleton]; omega
    · omega
theorem atsS_yes {zs : List Int} {t : Int} {k : Nat} (h : spT zs k = t) : atsS zs t (k + 1) = atsS zs t k ++ [spA zs k] := by
  show (if spT zs k = t then _ else _) = _
  rw [if_pos h]
theorem atsS_no {zs : List Int} {t : Int} {k : Nat} (h : ¬ spT zs k = t) : atsS zs t (k + 1) = atsS zs t k := by
  show (if spT zs k = t then _ else _) = _
  rw [if_neg h]
end Go.Proofs.Ytfkaacfeikmabaa

namespace Go.Proofs.Ytfkaacfeikmabaa
open Go.RowKit

def upB (l : List Int) : Prop := ∀ i j, i < j → j < l.length → geti l i < geti l j
theorem lowN_split {x : Int} {l : List Int} {m : Nat} (hm : m ≤ l.length) (h1 : ∀ i, i < m → geti l i < x) (h2 : ∀ i, m ≤ i → i < l.length → ¬ geti l i < x) : lowN x l = m := by
  induction l generalizing m with
  | nil => simp [lowN] at hm ⊢; omega
  | cons a l ih =>
    have g0 : geti (a :: l) 0 = a := rfl
    have gs : ∀ i, geti (a :: l) (i + 1) = geti l i := fun i => rfl
    cases m with
    | zero =>
      have ha : ¬ a < x := by have := h2 0 (Nat.zero_le _) (by simp); rwa [g0] at this
      have := ih (m := 0) (Nat.zero_le _) (fun i hi => by omega) (fun i _ hi => by have := h2 (i + 1) (by omega) (by simp; omega); rwa [gs] at this)
      unfold lowN at this ⊢
      rw [List.filter_cons, if_neg (by simpa using ha)]
      exact this
    | succ m =>
      have ha : a < x := by have := h1 0 (by omega); rwa [g0] at this
      have := ih (m := m) (by simp at hm; omega) (fun i hi => by have := h1 (i + 1) (by omega); rwa [gs] at this) (fun i hi hl => by have := h2 (i + 1) (by omega) (by simp; omega); rwa [gs] at this)
      unfold lowN at this ⊢
      rw [List.filter_cons, if_pos (by simpa using ha), List.length_cons, this]
theorem hasL_iff {l : List Int} {x : Int} : hasL l x = true ↔ ∃ k, k < l.length ∧ geti l k = x := by
  unfold hasL
  rw [List.contains_iff_mem, List.mem_iff_getElem]
  constructor
  · rintro ⟨k, hk, e⟩
    exact ⟨k, hk, by unfold geti; rw [List.getD_eq_getElem?_getD, List.getElem?_eq_getElem hk]; exact e⟩
  · rintro ⟨k, hk, e⟩
    refine ⟨k, hk, ?_⟩
    unfold geti at e
    rw [List.getD_eq_getElem?_getD, List.getElem?_eq_getElem hk] at e
    exact e
theorem hasL_out {l : List Int} {x : Int} (h : ∀ k, k < l.length → geti l k < x) : hasL l x = false := by
  cases e : hasL l x
  · rfl
  · obtain ⟨k, hk, e⟩ := hasL_iff.1 e
    have := h k hk
    omega
theorem hasL_low {l : List Int} {x : Int} {a : Nat} (hu : upB l) (ha : a < l.length) (h1 : ∀ k, k < a → geti l k < x) (h2 : ∀ k, a ≤ k → k < l.length → x ≤ geti l k) : hasL l x = (geti l a == x) := by
  rw [Bool.eq_iff_iff, hasL_iff, beq_iff_eq]
  constructor
  · rintro ⟨k, hk, e⟩
    rcases Nat.lt_trichotomy k a with h | h | h
    · have := h1 k h; omega
    · rw [← h]; exact e
    · have := hu a k h hk
      have := h2 a (Nat.le_refl _) ha
      omega
  · exact fun e => ⟨a, ha, e⟩
set_option maxRecDepth 100000 in
set_option maxHeartbeats 3200000 in
theorem search_any (A : Option Addr) (l : List Int) (c : Nat) (x : Int) (S : Nat → Prop) (w : World) (hn : l.length ≤ 1048576) (hu : upB l) (ha : IntsAt w S A l) :
    Calls Try.prog 141 #[.slice A l.length c, .int .i64 x] w fun e w' => e = .returned (.tuple #[.int .i64 (lowN x l), .bool (hasL l x)]) ∧ w = w' := by
  have kL := hide (fun a w => less_any a x w)
  have kN := hide slNaN_any
  go_enter Try.func141, Try.ntmps141
  go_wp2_with fail
  go_loop [7, 8] (fun i j => ∃ (a b : Nat), a ≤ b ∧ b ≤ l.length ∧ i = .int .i64 a ∧ j = .int .i64 b ∧ Hid (∀ k, k < a → geti l k < x) ∧ Hid (∀ k, b ≤ k → k < l.length → x ≤ geti l k)) (fun i j => (intOf j).toNat - (intOf i).toNat)
  case atStart => exact ⟨0, l.length, Nat.zero_le _, Nat.le_refl _, rfl, rfl, hide (fun k hk => by omega), hide (fun k h1 h2 => by omega)⟩
  case round =>
    obtain ⟨a, b, hab, hb, rfl, rfl, h1, h2⟩ := hrel
    by_cases hlt : a < b
    · have hm1 : a ≤ (a + b) / 2 ∧ (a + b) / 2 < b := by omega
      obtain ⟨q, off, rfl, -, hc⟩ := ha.2 (by omega)
      have d0 := hc ((a + b) / 2) (by omega)
      have hlt' : decide ((a : Int) < (b : Int)) = true := decide_eq_true (by omega)
      have hml : (a + b) / 2 < l.length := by omega
      clear hc
      by_cases hx : geti l ((a + b) / 2) < x
      · have hx' : decide (geti l ((a + b) / 2) < x) = true := decide_eq_true hx
        have hA := hide (show ∀ k, k < (a + b) / 2 + 1 → geti l k < x from fun k hk => by
          rcases Nat.lt_or_ge k ((a + b) / 2) with h | h
          · have := hu k ((a + b) / 2) h hml; omega
          · obtain rfl : k = (a + b) / 2 := by omega
            exact hx)
        clear hx
        go_wp2_with (go_at_call 184; refine (kL.out _ _).mono ?_; rintro e wx ⟨rfl, rfl⟩)
        exact ⟨⟨(a + b) / 2 + 1, b, by omega, hb, by congr 1, rfl, hA, h2⟩, by simp [intOf]; omega⟩
      · have hx' : decide (geti l ((a + b) / 2) < x) = false := decide_eq_false hx
        have hA := hide (show ∀ k, (a + b) / 2 ≤ k → k < l.length → x ≤ geti l k from fun k hk hl => by
          rcases Nat.lt_or_ge ((a + b) / 2) k with h | h
          · have := hu ((a + b) / 2) k h hl; omega
          · obtain rfl : k = (a + b) / 2 := by omega
            omega)
        clear hx
        go_wp2_with (go_at_call 184; refine (kL.out _ _).mono ?_; rintro e wx ⟨rfl, rfl⟩)
        exact ⟨⟨a, (a + b) / 2, by omega, by omega, rfl, by congr 1, h1, hA⟩, by simp [intOf]; omega⟩
    · obtain rfl : a = b := by omega
      have hlt' : decide ((a : Int) < (a : Int)) = false := decide_eq_false (by omega)
      have hlo := hide (lowN_split hb h1.out (fun i hi hl => by have := h2.out i hi hl; omega))
      by_cases hal : a < l.length
      · have hal' : decide ((a : Int) < (l.length : Int)) = true := decide_eq_true (by omega)
        obtain ⟨q, off, rfl, -, hc⟩ := ha.2 (by omega)
        have d0 := hc a hal
        have hH := hasL_low hu hal h1.out h2.out
        clear hc
        by_cases hx : geti l a = x
        · have hx' : (geti l a == x) = true := by rw [beq_iff_eq]; exact hx
          have hH := hide (show hasL l x = true from by rw [hH, hx'])
          clear hx
          go_wp2_with fail
          refine bodyPost_ret (v := .tuple #[.int .i64 (a : Int), .bool true]) (by simp [results, Try.results141, go_sem]; done) rfl ⟨by first | (rw [hlo.out, hH.out]; done) | (rw [hlo.out]; done), rfl⟩
        · have hx' : (geti l a == x) = false := by rw [beq_eq_false_iff_ne]; exact hx
          have hH := hide (show hasL l x = false from by rw [hH, hx'])
          clear hx
          go_wp2_with (go_at_call 185; refine (kN.out _ _).mono ?_; rintro e wx ⟨rfl, rfl⟩)
          refine bodyPost_ret (v := .tuple #[.int .i64 (a : Int), .bool false]) (by simp [results, Try.results141, go_sem]; done) rfl ⟨by first | (rw [hlo.out, hH.out]; done) | (rw [hlo.out]; done), rfl⟩
      · have hal' : decide ((a : Int) < (l.length : Int)) = false := decide_eq_false (by omega)
        have hH := hide (show hasL l x = false from hasL_out (fun k hk => h1.out k (by omega)))
        go_wp2_with fail
        refine bodyPost_ret (v := .tuple #[.int .i64 (a : Int), .bool false]) (by simp [results, Try.results141, go_sem]; done) rfl ⟨by first | (rw [hlo.out, hH.out]; done) | (rw [hlo.out]; done), rfl⟩
end Go.Proofs.Ytfkaacfeikmabaa

namespace Go.Proofs.Ytfkaacfeikmabaa
open Go.RowKit

def Small (d : InsD) : Prop := (-1 ≤ d.o ∧ d.o ≤ 30) ∧ (-1 ≤ d.r ∧ d.r ≤ 30) ∧ (0 ≤ d.a ∧ d.a ≤ 5) ∧ (-1 ≤ d.b ∧ d.b ≤ 30) ∧ (-1 ≤ d.x ∧ d.x ≤ 30) ∧ (-1 ≤ d.n ∧ d.n ≤ 30)

theorem ints_of_blk {w : World} {b : Nat} {t : TypeId} {zs : List Int} {S : Nat → Prop} (h : Blk w b t (zs.map (Value.int .i64)).toArray) (hl : zs.length ≤ 9223372036854775807) (hS : S b) : IntsAt w S (some ⟨b, 0, none⟩) zs :=
  ⟨hl, fun _ => ⟨b, 0, rfl, hS, fun k hk => by
    rw [Nat.zero_add, h.cell]
    simp [geti, List.getElem?_eq_getElem hk, List.getD]⟩⟩
theorem blk6 {w : World} {b : Nat} {t : TypeId} {v0 v1 v2 v3 v4 v5 : Value} (h : Blk w b t #[v0, v1, v2, v3, v4, v5]) :
    (w.cell? ⟨b, 0, none⟩ = some v0 ∧ w.cell? ⟨b, 1, none⟩ = some v1 ∧ w.cell? ⟨b, 2, none⟩ = some v2 ∧ w.cell? ⟨b, 3, none⟩ = some v3 ∧ w.cell? ⟨b, 4, none⟩ = some v4 ∧ w.cell? ⟨b, 5, none⟩ = some v5) ∧
    (w.frozen? ⟨b, 0, none⟩ = false ∧ w.frozen? ⟨b, 1, none⟩ = false ∧ w.frozen? ⟨b, 2, none⟩ = false ∧ w.frozen? ⟨b, 3, none⟩ = false ∧ w.frozen? ⟨b, 4, none⟩ = false ∧ w.frozen? ⟨b, 5, none⟩ = false) :=
  ⟨⟨h.cell 0, h.cell 1, h.cell 2, h.cell 3, h.cell 4, h.cell 5⟩, h.frozen 0, h.frozen 1, h.frozen 2, h.frozen 3, h.frozen 4, h.frozen 5⟩
theorem blk5 {w : World} {b : Nat} {t : TypeId} {v0 v1 v2 v3 v4 : Value} (h : Blk w b t #[v0, v1, v2, v3, v4]) :
    w.cell? ⟨b, 0, none⟩ = some v0 ∧ w.cell? ⟨b, 1, none⟩ = some v1 ∧ w.cell? ⟨b, 2, none⟩ = some v2 ∧ w.cell? ⟨b, 3, none⟩ = some v3 ∧ w.cell? ⟨b, 4, none⟩ = some v4 :=
  ⟨h.cell 0, h.cell 1, h.cell 2, h.cell 3, h.cell 4⟩
theorem below3 {x : Int} (h : BelowR 3 x) : 0 ≤ x ∧ x ≤ 2 := by have := h.2 (by omega); omega
theorem below2' {x : Int} (h : BelowR 2 x) : 0 ≤ x ∧ x ≤ 1 := by have := h.2 (by omega); omega
theorem belowP {n x : Int} (h : BelowR n x) (hn : 0 < n) : 0 ≤ x ∧ x < n := h.2 hn
theorem picked (k : Nat) (hk : k < 14) : geti [7, 7, 7, 8, 8, 8, 8, 11, 12, 1, 3, 13, 9, 10] k = 7 ∨ geti [7, 7, 7, 8, 8, 8, 8, 11, 12, 1, 3, 13, 9, 10] k = 8 ∨ geti [7, 7, 7, 8, 8, 8, 8, 11, 12, 1, 3, 13, 9, 10] k = 11 ∨ geti [7, 7, 7, 8, 8, 8, 8, 11, 12, 1, 3, 13, 9, 10] k = 12 ∨ geti [7, 7, 7, 8, 8, 8, 8, 11, 12, 1, 3, 13, 9, 10] k = 1 ∨ geti [7, 7, 7, 8, 8, 8, 8, 11, 12, 1, 3, 13, 9, 10] k = 3 ∨ geti [7, 7, 7, 8, 8, 8, 8, 11, 12, 1, 3, 13, 9, 10] k = 13 ∨ geti [7, 7, 7, 8, 8, 8, 8, 11, 12, 1, 3, 13, 9, 10] k = 9 ∨ geti [7, 7, 7, 8, 8, 8, 8, 11, 12, 1, 3, 13, 9, 10] k = 10 := by
  have : ∀ k : Fin 14, geti [7, 7, 7, 8, 8, 8, 8, 11, 12, 1, 3, 13, 9, 10] k = 7 ∨ geti [7, 7, 7, 8, 8, 8, 8, 11, 12, 1, 3, 13, 9, 10] k = 8 ∨ geti [7, 7, 7, 8, 8, 8, 8, 11, 12, 1, 3, 13, 9, 10] k = 11 ∨ geti [7, 7, 7, 8, 8, 8, 8, 11, 12, 1, 3, 13, 9, 10] k = 12 ∨ geti [7, 7, 7, 8, 8, 8, 8, 11, 12, 1, 3, 13, 9, 10] k = 1 ∨ geti [7, 7, 7, 8, 8, 8, 8, 11, 12, 1, 3, 13, 9, 10] k = 3 ∨ geti [7, 7, 7, 8, 8, 8, 8, 11, 12, 1, 3, 13, 9, 10] k = 13 ∨ geti [7, 7, 7, 8, 8, 8, 8, 11, 12, 1, 3, 13, 9, 10] k = 9 ∨ geti [7, 7, 7, 8, 8, 8, 8, 11, 12, 1, 3, 13, 9, 10] k = 10 := by decide
  exact this ⟨k, hk⟩

end Go.Proofs.Ytfkaacfeikmabaa
