/- Rows of instructions, programs of their own, in the making: of no function of the program. -/
import Derived.Test.YtjendjbbhohjcaaMc0
import Derived.Test.YtjendjbbhohjcaaMc3
import Derived.Test.YtjendjbbhohjcaaRows
import Derived.Deep.QuietTactic
import Derived.BigQuiet
import Derived.StillTailTactics
import Derived.Deep.OwnRows
import Derived.Deep.AppendLies
import Derived.Laws.OwnMore
namespace Go.Proofs.Ytjendjbbhohjcaa
open Go.RowKit

set_option maxHeartbeats 400000 in
theorem szInsS_any (A : Option Addr) (n c : Nat) (left : Int) (w : World) (h0 : 0 ≤ left) (h1 : left ≤ 1048576) (hn : n ≤ 9223372036854775807) :
    Calls Try.prog 120 #[.slice A n c, .int .i64 left] w fun e w' => e = .returned (.int .i64 (szR left n)) ∧ w = w' := by
  by_cases h : left < n
  · have HF := hide (show szR left n = -1 by unfold szR; rw [if_pos h])
    go_enter Try.func120, Try.ntmps120
    go_wp2
    go_ret
    exact ⟨ret_int HF.out.symm, rfl⟩
  · have HF := hide (show szR left n = left - n by unfold szR; rw [if_neg h])
    go_enter Try.func120, Try.ntmps120
    go_wp2
    go_ret
    exact ⟨ret_int HF.out.symm, rfl⟩

set_option maxHeartbeats 400000 in
theorem szThread_any (A : Option Addr) (n c : Nat) (left : Int) (w : World) (h0 : 0 ≤ left) (h1 : left ≤ 1048576) (hn : n ≤ 9223372036854775807) :
    Calls Try.prog 104 #[.agg #[.slice A n c], .int .i64 left] w fun e w' => e = .returned (.int .i64 (szR left n)) ∧ Below w.heap.size w w' := by
  have k1 := hide (fun w => szInsS_any A n c left w h0 h1 hn)
  have hs : szR left n < 0 ∨ 0 ≤ szR left n := by omega
  have hs2 : szR left n < 0 → szR left n = -1 := by unfold szR; split <;> omega
  have hs3 := hide hs2
  clear hs2 h0 h1 hn
  generalize szR left n = r at *
  rcases hs with hs | hs
  · go_enter Try.func104, Try.ntmps104
    go_wp2_with (go_at_call 120; refine (k1.out _).mono ?_; rintro e w1 ⟨rfl, rfl⟩)
    go_ret
    exact ⟨ret_int (hs3.out hs).symm, below1 _ _⟩
  · go_enter Try.func104, Try.ntmps104
    go_wp2_with (go_at_call 120; refine (k1.out _).mono ?_; rintro e w1 ⟨rfl, rfl⟩)
    go_ret
    exact ⟨rfl, below1 _ _⟩

set_option maxHeartbeats 800000 in
theorem szThreadS_any (A : Option Addr) (ts : List (List InsD)) (c : Nat) (S : Nat → Prop) (left : Int) (w : World) (h0 : 0 ≤ left) (h1 : left ≤ 1048576) (hS : ∀ b, S b → b < w.heap.size) (ha : ThreadsAt w S A ts) :
    Calls Try.prog 79 #[.slice A ts.length c, .int .i64 left] w fun e w' => e = .returned (.int .i64 (szR left (tsSize ts))) ∧ Below w.heap.size w w' := by
  have hn := ha.1
  have Hle := hide (insTo_le ts)
  have Hsucc := hide (insTo_succ ts)
  have Hall := hide (insTo_all ts)
  have Hz := hide (insTo_zero ts)
  by_cases h : left < ts.length
  · have HF := hide (szR_neg (left := left) (n := tsSize ts) (by have := Hle.out 0; omega))
    go_enter Try.func79, Try.ntmps79
    go_wp2
    go_ret
    exact ⟨ret_int HF.out.symm, Below.refl _ _⟩
  · go_enter Try.func79, Try.ntmps79
    go_wp2
    go_loopw [1, 5] (fun l i wr => ∃ k : Nat, k ≤ ts.length ∧ (insTo ts k : Int) ≤ left - ts.length ∧ i = .int .i64 k ∧ l = .int .i64 (left - ts.length - insTo ts k) ∧ Below w.heap.size w wr) (fun _ i _ => ts.length - (intOf i).toNat)
    case atStart => exact ⟨0, Nat.zero_le _, by rw [Hz.out]; omega, rfl, by rw [Hz.out]; simp, Below.refl _ _⟩
    case round =>
      obtain ⟨k, hk, hl, rfl, rfl, hb⟩ := hrel
      by_cases hlt : k < ts.length
      · obtain ⟨b, off, rfl, hbB, hc⟩ := (ha.below hb hS).2 (by omega)
        obtain ⟨A', c', hcell, hcap, hin⟩ := hc k hlt
        have hn' := hin.1
        have hs := Hsucc.out k hlt
        by_cases hx : left - ts.length - insTo ts k < (gett ts k).length
        · have HF := hide (szR_neg (left := left) (n := tsSize ts) (by have := Hle.out (k + 1); omega))
          have kc := fun w => szThread_any A' (gett ts k).length c' (left - ts.length - insTo ts k) w (by omega) (by omega) hn'
          simp only [szR_neg hx] at kc
          have KC := hide kc
          clear kc hx hs
          go_wp2_with (go_at_call 104; refine (KC.out _).mono ?_; rintro e w1 ⟨rfl, hb1⟩)
          go_ret
          exact ⟨ret_int HF.out.symm, below_then hb hb1⟩
        · have kc := fun w => szThread_any A' (gett ts k).length c' (left - ts.length - insTo ts k) w (by omega) (by omega) hn'
          simp only [szR_pos hx] at kc
          have KC := hide kc
          have HX : 0 ≤ left - ts.length - insTo ts k - (gett ts k).length := by omega
          have HS := hide hs
          clear kc hx hs
          go_wp2_with (go_at_call 104; refine (KC.out _).mono ?_; rintro e w1 ⟨rfl, hb1⟩)
          go_roundw
          case rel => exact ⟨k + 1, by omega, by rw [HS.out]; omega, by go_num, by rw [HS.out]; go_num, below_then hb hb1⟩
          case measure => simp [intOf]; omega
      · obtain rfl : k = ts.length := by omega
        have HF := hide (show szR left (tsSize ts) = left - ts.length - insTo ts ts.length by rw [szR_pos (by have := Hall.out; omega)]; have := Hall.out; omega)
        go_wp2
        go_ret
        exact ⟨ret_int HF.out.symm, hb⟩

set_option maxHeartbeats 800000 in
theorem szProg_any (p : ProgD) (v : Value) (S : Nat → Prop) (left : Int) (w : World) (h0 : 0 ≤ left) (h1 : left ≤ 1048576) (hS : ∀ b, S b → b < w.heap.size) (hp : ProgAt w S v p) :
    Calls Try.prog 39 #[v, .int .i64 left] w fun e w' => e = .returned (.int .i64 (szR left (progSize p))) ∧ Below w.heap.size w w' := by
  obtain ⟨A, c, A', c', rfl, hcc, hi, ht⟩ := hp
  by_cases h : left < p.init.length
  · have HF := hide (szR_neg (left := left) (n := progSize p) (by unfold progSize; omega))
    have kc := fun w => szIntS_any A p.init.length c left w h0 h1 hi.1
    simp only [szR_neg h] at kc
    have KC := hide kc
    clear kc h
    go_enter Try.func39, Try.ntmps39
    go_wp2_with (go_at_call 74; refine (KC.out _).mono ?_; rintro e w1 ⟨rfl, rfl⟩)
    go_ret
    exact ⟨ret_int HF.out.symm, below1 _ _⟩
  · have kc := fun w => szIntS_any A p.init.length c left w h0 h1 hi.1
    simp only [szR_pos h] at kc
    have KC := hide kc
    have h2 : 0 ≤ left - p.init.length := by omega
    have kd := fun (w1 : World) (h : ThreadsAt w1 S A' p.ts) (hS : ∀ b, S b → b < w1.heap.size) => szThreadS_any A' p.ts c' S (left - p.init.length) w1 h2 (by omega) hS h
    by_cases hx : left - p.init.length < tsSize p.ts
    · have HF := hide (szR_neg (left := left) (n := progSize p) (by unfold progSize; omega))
      simp only [szR_neg hx] at kd
      have KD := hide kd
      clear kc kd h hx
      go_enter Try.func39, Try.ntmps39
      go_wp2_with (first | (go_at_call 74; refine (KC.out _).mono ?_; rintro e w1 ⟨rfl, rfl⟩) | (go_at_call 79; refine (KD.out _ (ht.below (below1 _ _) hS) (fun b h => Nat.lt_of_lt_of_le (hS b h) (below1 _ _).size)).mono ?_; rintro e w1 ⟨rfl, hb1⟩))
      go_ret
      exact ⟨ret_int HF.out.symm, below_step hb1⟩
    · have HF := hide (show szR left (progSize p) = left - p.init.length - tsSize p.ts by rw [szR_pos (by unfold progSize; omega)]; unfold progSize; omega)
      simp only [szR_pos hx] at kd
      have KD := hide kd
      have h3 : 0 ≤ left - p.init.length - tsSize p.ts := by omega
      clear kc kd h hx
      go_enter Try.func39, Try.ntmps39
      go_wp2_with (first | (go_at_call 74; refine (KC.out _).mono ?_; rintro e w1 ⟨rfl, rfl⟩) | (go_at_call 79; refine (KD.out _ (ht.below (below1 _ _) hS) (fun b h => Nat.lt_of_lt_of_le (hS b h) (below1 _ _).size)).mono ?_; rintro e w1 ⟨rfl, hb1⟩))
      go_ret
      exact ⟨ret_int HF.out.symm, below_step hb1⟩
end Go.Proofs.Ytjendjbbhohjcaa

namespace Go.Proofs.Ytjendjbbhohjcaa
open Go.RowKit

theorem Try.infoIns : (Try.prog.info? 89).map (fun i => (i.zero, i.size, i.bytes)) = some (some (.agg #[.int .i64 0, .int .i64 0, .int .i64 0, .int .i64 0, .int .i64 0, .int .i64 0]), 6, 48) := by kernel_rfl
def leapB (o : Int) : Bool := o == 13 || o == 14
theorem small_in {x : Int} (h : 0 ≤ x ∧ x ≤ 1000) : IntKind.i64.wrap x = x := by rw [IntKind.wrap_i64]; omega

def insVals (d : InsD) : List Value := [.int .i64 d.o, .int .i64 d.r, .int .i64 d.a, .int .i64 d.b, .int .i64 d.x, .int .i64 d.n]
def flat (l : List InsD) : List Value := l.flatMap insVals

theorem own_keep {w w' : World} {base : Nat} {e : TypeId} {size : Nat} {v : Value} {n : Nat} {xs : List Value} (h : w.ownsRow base e size v n xs)
    (hk : ∀ b, base ≤ b → b < w.heap.size → w'.heap[b]? = w.heap[b]?) : w'.ownsRow base e size v n xs := by
  refine ⟨h.1, h.2.imp id ?_⟩
  rintro ⟨g, cap, cur, hv, hb, hg, rest⟩
  refine ⟨g, cap, cur, hv, hb, ?_, rest⟩
  rw [hk g hb, hg]
  rcases Nat.lt_or_ge g w.heap.size with hlt | hge
  · exact hlt
  · rw [Array.getElem?_eq_none hge] at hg; cases hg

theorem own_base {w : World} {B B' : Nat} {e : TypeId} {size : Nat} {v : Value} {n : Nat} {xs : List Value} (h : w.ownsRow B e size v n xs) (hB : B' ≤ B) : w.ownsRow B' e size v n xs :=
  ⟨h.1, h.2.imp id (fun ⟨q, cap, cur, h1, h2, h3⟩ => ⟨q, cap, cur, h1, Nat.le_trans hB h2, h3⟩)⟩

theorem flat_get (l : List InsD) (k j : Nat) (hk : k < l.length) (hj : j < 6) : (flat l)[k * 6 + j]? = (insVals (getd l k))[j]? := by
  induction l generalizing k with
  | nil => simp at hk
  | cons d l ih =>
    have e : flat (d :: l) = insVals d ++ flat l := by simp [flat]
    rw [e]
    cases k with
    | zero =>
      rw [List.getElem?_append_left (by simp [insVals]; omega)]
      simp [getd]
    | succ k =>
      rw [List.getElem?_append_right (by simp [insVals]; omega)]
      have h2 := ih k (by simpa using hk)
      have e2 : (k + 1) * 6 + j - (insVals d).length = k * 6 + j := by simp [insVals]; omega
      rw [e2, h2]
      simp [getd]

theorem own_inss {B : Nat} {w : World} {l : List InsD} {v : Value} (h : w.ownsRow B 89 6 v l.length (flat l)) : ∃ A c, v = .slice A l.length c ∧ l.length ≤ c ∧ InssAt w (fun b => some b = v.ownBlock ∧ B ≤ b ∧ b < w.heap.size) A l := by
  rcases h.2 with ⟨hv, hn⟩ | ⟨q, cap, cur, hv, hq, hh, hcap, hmax, hcs, ht⟩
  · refine ⟨none, 0, by rw [hn]; exact hv, by omega, by omega, fun hl => by omega⟩
  · have hmx : maxLen = 9223372036854775807 := rfl
    have hlt : q < w.heap.size := by
      rcases Nat.lt_or_ge q w.heap.size with hlt | hge
      · exact hlt
      · rw [Array.getElem?_eq_none hge] at hh; cases hh
    refine ⟨_, _, hv, hcap, by omega, fun _ => ⟨q, 0, rfl, ⟨by rw [hv]; rfl, hq, hlt⟩, fun k hk => ?_⟩⟩
    have hc : ∀ j, j < 6 → w.cell? ⟨q, 0 + k * 6 + j, none⟩ = (insVals (getd l k))[j]? := fun j hj => by
      rw [cell_of_row w q _ cur _ (0, 0) hh, ← flat_get l k j hk hj, ← ht, List.getElem?_take, if_pos (by omega), Array.getElem?_toList, Nat.zero_add]
    exact ⟨by have := hc 0 (by omega); simpa [insVals] using this, hc 1 (by omega), hc 2 (by omega), hc 3 (by omega), hc 4 (by omega), hc 5 (by omega)⟩

def vat (vs : List Value) (k : Nat) : Value := vs.getD k undef

theorem own_lt {w : World} {B : Nat} {e : TypeId} {size : Nat} {v : Value} {n : Nat} {xs : List Value} (h : w.ownsRow B e size v n xs) {b : Nat} (hb : v.ownBlock = some b) : B ≤ b ∧ b < w.heap.size ∧ ∃ cur, w.heap[b]? = some (.cells cur e (0, 0)) := by
  rcases h.2 with ⟨rfl, _⟩ | ⟨q, cap, cur, rfl, hq, hh, _⟩
  · simp [Value.ownBlock] at hb
  · have : q = b := by simpa [Value.ownBlock] using hb
    subst this
    refine ⟨hq, ?_, cur, hh⟩
    rcases Nat.lt_or_ge q w.heap.size with hlt | hge
    · exact hlt
    · rw [Array.getElem?_eq_none hge] at hh; cases hh

theorem apart_type {w : World} {B B' : Nat} {e e' : TypeId} {s s' : Nat} {u v : Value} {n m : Nat} {xs ys : List Value} (h : w.ownsRow B e s u n xs) (k : w.ownsRow B' e' s' v m ys) (hne : e ≠ e') : Apart u v := fun b hu hv => by
  obtain ⟨_, _, cur, h1⟩ := own_lt h hu
  obtain ⟨_, _, cur', h2⟩ := own_lt k hv
  rw [h1] at h2
  cases h2
  exact hne rfl
theorem apart_new {w w' : World} {B B' : Nat} {e e' : TypeId} {s s' : Nat} {u v : Value} {n m : Nat} {xs ys : List Value} (h : w.ownsRow B e s u n xs) (k : w'.ownsRow B' e' s' v m ys) (hB : w.heap.size ≤ B') : Apart u v := fun b hu hv => by
  have := (own_lt h hu).2.1
  have := (own_lt k hv).1
  omega
theorem own_grown {w w1 : World} {B : Nat} {e : TypeId} {size : Nat} {u v : Value} {n : Nat} {xs : List Value} (h : w.ownsRow B e size u n xs) (hg : w.grownBy w1 v.ownBlock) (ha : Apart u v) : w1.ownsRow B e size u n xs := by
  refine ⟨h.1, h.2.imp id ?_⟩
  rintro ⟨q, cap, cur, rfl, hb, hh, rest⟩
  refine ⟨q, cap, cur, rfl, hb, ?_, rest⟩
  have hu : (Value.slice (some ⟨q, 0, none⟩) n cap).ownBlock = some q := rfl
  rw [hg.block q (own_lt h hu).2.1 (fun e => ha q hu e.symm), hh]

structure ProgOwn (w : World) (B : Nat) (zs : List Int) (v : Value) (ts : List (List InsD)) (vs : List Value) (tv : Value) : Prop where
  ints : w.ownsRow B 3 1 v zs.length (zs.map (Value.int .i64))
  rows : w.ownsRow B 45 1 tv ts.length vs
  thr : ∀ k, k < ts.length → w.ownsRow B 89 6 (vat vs k) (gett ts k).length (flat (gett ts k))
  apart : ∀ j k, j < k → k < ts.length → Apart (vat vs j) (vat vs k)

section
variable {w w1 : World} {B : Nat} {zs : List Int} {v tv : Value} {ts : List (List InsD)} {vs : List Value}
theorem ProgOwn.keep (h : ProgOwn w B zs v ts vs tv) (hk : ∀ b, B ≤ b → b < w.heap.size → w1.heap[b]? = w.heap[b]?) : ProgOwn w1 B zs v ts vs tv :=
  ⟨own_keep h.ints hk, own_keep h.rows hk, fun k hk' => own_keep (h.thr k hk') hk, h.apart⟩
theorem ProgOwn.base {B' : Nat} (h : ProgOwn w B zs v ts vs tv) (hB : B' ≤ B) : ProgOwn w B' zs v ts vs tv :=
  ⟨own_base h.ints hB, own_base h.rows hB, fun k hk' => own_base (h.thr k hk') hB, h.apart⟩
theorem ProgOwn.setCell (h : ProgOwn w B zs v ts vs tv) {p : Addr} (hp : p.block < B) (u : Value) : ProgOwn (w.setCell p u) B zs v ts vs tv :=
  h.keep (fun b hb _ => Below.heap_setCell w p u b (by omega))
theorem ProgOwn.len (h : ProgOwn w B zs v ts vs tv) : vs.length = ts.length := by simpa using h.rows.1
theorem ProgOwn.nil (w : World) (B : Nat) : ProgOwn w B [] (.slice none 0 0) [] [] (.slice none 0 0) :=
  ⟨⟨rfl, .inl ⟨rfl, rfl⟩⟩, ⟨rfl, .inl ⟨rfl, rfl⟩⟩, fun k hk => by simp at hk, fun j k _ hk => by simp at hk⟩
theorem ProgOwn.growInts (h : ProgOwn w B zs v ts vs tv) {x : Int} {v' : Value} {xs : List Value} (hxs : xs = zs.map (Value.int .i64) ++ [.int .i64 x]) (ho : w1.ownsRow B 3 1 v' (zs.length + 1) xs) (hg : w.grownBy w1 v.ownBlock) : ProgOwn w1 B (zs ++ [x]) v' ts vs tv :=
  ⟨by subst hxs; simpa using ho, own_grown h.rows hg (apart_type h.rows h.ints (by decide)), fun k hk => own_grown (h.thr k hk) hg (apart_type (h.thr k hk) h.ints (by decide)), h.apart⟩
theorem vat_append (vs : List Value) (u : Value) (k : Nat) : vat (vs ++ [u]) k = if k < vs.length then vat vs k else if k = vs.length then u else undef := by
  unfold vat
  rw [List.getD_eq_getElem?_getD, List.getD_eq_getElem?_getD, List.getElem?_append]
  split
  · rfl
  · next hk =>
    by_cases e : k = vs.length
    · subst e; simp
    · rw [if_neg e, List.getElem?_eq_none (by simp; omega)]; rfl
theorem gett_append (ts : List (List InsD)) (u : List InsD) (k : Nat) : gett (ts ++ [u]) k = if k < ts.length then gett ts k else if k = ts.length then u else [] := by
  unfold gett
  rw [List.getD_eq_getElem?_getD, List.getD_eq_getElem?_getD, List.getElem?_append]
  split
  · rfl
  · next hk =>
    by_cases e : k = ts.length
    · subst e; simp
    · rw [if_neg e, List.getElem?_eq_none (by simp; omega)]; rfl
theorem ProgOwn.growRows (h : ProgOwn w B zs v ts vs tv) {u tv' : Value} {l : List InsD} (hu : w.ownsRow B 89 6 u l.length (flat l)) (ha : ∀ k, k < ts.length → Apart (vat vs k) u) (ho : w1.ownsRow B 45 1 tv' (ts.length + 1) (vs ++ [u])) (hg : w.grownBy w1 tv.ownBlock) : ProgOwn w1 B zs v (ts ++ [l]) (vs ++ [u]) tv' := by
  have hl := h.len
  refine ⟨own_grown h.ints hg (apart_type h.ints h.rows (by decide)), by simpa using ho, fun k hk => ?_, fun j k hjk hk => ?_⟩
  · simp only [List.length_append, List.length_singleton] at hk
    rw [vat_append, gett_append, hl]
    by_cases e : k < ts.length
    · rw [if_pos e, if_pos e]
      exact own_grown (h.thr k e) hg (apart_type (h.thr k e) h.rows (by decide))
    · rw [if_neg e, if_neg e, if_pos (by omega), if_pos (by omega)]
      exact own_grown hu hg (apart_type hu h.rows (by decide))
  · simp only [List.length_append, List.length_singleton] at hk
    rw [vat_append, vat_append, hl]
    by_cases e : k < ts.length
    · rw [if_pos e, if_pos (by omega)]
      exact h.apart j k hjk e
    · rw [if_neg e, if_pos (show k = ts.length by omega), if_pos (show j < ts.length by omega)]
      exact ha j (by omega)
end
theorem Try.infoThr : (Try.prog.info? 45).map (fun i => (i.zero, i.size, i.bytes)) = some (some (.agg #[.slice none 0 0]), 1, 24) := by kernel_rfl

theorem own_form {w : World} {B : Nat} {e : TypeId} {size : Nat} {v : Value} {n : Nat} {xs : List Value} (h : w.ownsRow B e size v n xs) : ∃ A c, v = .slice A n c ∧ n ≤ c := by
  rcases h.2 with ⟨rfl, rfl⟩ | ⟨q, cap, cur, rfl, _, _, hcap, _⟩
  · exact ⟨_, _, rfl, Nat.le_refl _⟩
  · exact ⟨_, _, rfl, hcap⟩

def PrC (w : World) (T : Nat) (v tv : Value) : Prop := (w.cell? ⟨T, 0, none⟩ = some v ∧ w.cell? ⟨T, 1, none⟩ = some tv) ∧ (w.frozen? ⟨T, 0, none⟩ = false ∧ w.frozen? ⟨T, 1, none⟩ = false)
theorem own_far {w : World} {B : Nat} {e : TypeId} {size : Nat} {v : Value} {n : Nat} {xs : List Value} (h : w.ownsRow B e size v n xs) {b : Nat} (hb : b < B) : some b ≠ v.ownBlock := fun e => by
  have := (own_lt h e.symm).1
  omega
theorem insVals_len (d : InsD) : (insVals d).length = 6 := rfl
theorem flat_len (l : List InsD) : (flat l).length = l.length * 6 := by
  induction l with
  | nil => rfl
  | cons d l ih =>
    have e : flat (d :: l) = insVals d ++ flat l := by simp [flat]
    rw [e, List.length_append, ih, insVals_len, List.length_cons]
    omega
theorem rows_at {w : World} {B : Nat} {tv : Value} {n : Nat} {vs : List Value} (h : w.ownsRow B 45 1 tv n vs) (hn : 0 < n) :
    ∃ b c, tv = .slice (some ⟨b, 0, none⟩) n c ∧ B ≤ b ∧ b < w.heap.size ∧ ∀ k, k < n → w.cell? ⟨b, k, none⟩ = some (vat vs k) := by
  rcases h.2 with ⟨_, h0⟩ | ⟨q, cap, cur, rfl, hb, hh, hcap, hmax, hcs, ht⟩
  · omega
  · have hlt : q < w.heap.size := by
      rcases Nat.lt_or_ge q w.heap.size with hlt | hge
      · exact hlt
      · rw [Array.getElem?_eq_none hge] at hh; cases hh
    refine ⟨q, cap, rfl, hb, hlt, fun k hk => ?_⟩
    have hl := h.1
    rw [cell_of_row w q k cur _ (0, 0) hh, ← Array.getElem?_toList]
    have h1 : cur.toList[k]? = vs[k]? := by rw [← ht, List.getElem?_take, if_pos (by omega)]
    rw [h1, vat, List.getD_eq_getElem?_getD, List.getElem?_eq_getElem (show k < vs.length by omega)]
    rfl
theorem inss_at {w : World} {B : Nat} {v : Value} {l : List InsD} (h : w.ownsRow B 89 6 v l.length (flat l)) (hn : 0 < l.length) :
    ∃ q c, v = .slice (some ⟨q, 0, none⟩) l.length c ∧ B ≤ q ∧ q < w.heap.size ∧ (∃ cur, Blk w q 89 cur ∧ l.length * 6 ≤ cur.size) := by
  rcases h.2 with ⟨_, h0⟩ | ⟨q, cap, cur, rfl, hb, hh, hcap, hmax, hcs, ht⟩
  · omega
  · exact ⟨q, cap, rfl, hb, Blk.lt (t := 89) (cs := cur) hh, cur, hh, by omega⟩
theorem own_setFar {w : World} {B : Nat} {e : TypeId} {size : Nat} {u : Value} {n : Nat} {xs : List Value} (h : w.ownsRow B e size u n xs) {p : Addr} (hp : u.ownBlock ≠ some p.block) (x : Value) : (w.setCell p x).ownsRow B e size u n xs := by
  refine ⟨h.1, h.2.imp id ?_⟩
  rintro ⟨q, cap, cur, rfl, hb, hh, rest⟩
  refine ⟨q, cap, cur, rfl, hb, ?_, rest⟩
  have : q ≠ p.block := fun e => hp (by rw [← e]; rfl)
  rw [Below.heap_setCell w p x q this, hh]

theorem blk_far {w : World} {T B : Nat} {t e : TypeId} {cs : Array Value} {size : Nat} {v : Value} {n : Nat} {xs : List Value} (hb : Blk w T t cs) (h : w.ownsRow B e size v n xs) (hne : e ≠ t) : some T ≠ v.ownBlock := fun he => by
  obtain ⟨_, _, cur, h1⟩ := own_lt h he.symm
  have h2 : w.heap[T]? = some (.cells cs t (0, 0)) := hb
  rw [h1] at h2
  cases h2
  exact hne rfl

theorem rows_cell {w : World} {B b c n : Nat} {vs : List Value} (h : w.ownsRow B 45 1 (.slice (some ⟨b, 0, none⟩) n c) n vs) {k : Nat} (hk : k < n) : w.cell? ⟨b, k, none⟩ = some (vat vs k) := by
  obtain ⟨b', c', e, _, _, hc⟩ := rows_at h (by omega)
  cases e
  exact hc k hk
theorem mem_gett {ts : List (List InsD)} {k : Nat} (hk : k < ts.length) : gett ts k ∈ ts := by
  unfold gett
  rw [List.getD_eq_getElem?_getD, List.getElem?_eq_getElem hk]
  exact List.getElem_mem hk
theorem Blk.drew {w : World} {g : Nat} {t : TypeId} {cs : Array Value} (h : Blk w g t cs) : Blk w.drew g t cs := h
theorem ProgAt.drew {w : World} {S : Nat → Prop} {v : Value} {p : ProgD} (h : ProgAt w S v p) : ProgAt w.drew S v p := h

theorem own_ints {B : Nat} {w : World} {zs : List Int} {v : Value} (h : w.ownsRow B 3 1 v zs.length (zs.map (Value.int .i64))) : ∃ A c, v = .slice A zs.length c ∧ zs.length ≤ c ∧ IntsAt w (New B w.heap.size) A zs := by
  rcases h.2 with ⟨hv, hn⟩ | ⟨q, cap, cur, hv, hq, hh, hcap, hmax, hcs, ht⟩
  · exact ⟨none, 0, by rw [hn]; exact hv, by omega, by omega, fun hl => by omega⟩
  · have hmx : maxLen = 9223372036854775807 := rfl
    have hlt : q < w.heap.size := by
      rcases Nat.lt_or_ge q w.heap.size with hlt | hge
      · exact hlt
      · rw [Array.getElem?_eq_none hge] at hh; cases hh
    refine ⟨_, _, hv, hcap, by omega, fun _ => ⟨q, 0, rfl, ⟨hq, hlt⟩, fun k hk => ?_⟩⟩
    have h1 : cur.toList[k]? = (zs.map (Value.int .i64))[k]? := by rw [← ht, List.getElem?_take, if_pos (by omega)]
    rw [cell_of_row w q _ cur _ (0, 0) hh, Nat.zero_add, ← Array.getElem?_toList, h1]
    simp [geti, List.getD_eq_getElem?_getD, List.getElem?_eq_getElem hk]

theorem ProgOwn.at_ {w : World} {B : Nat} {zs : List Int} {v tv : Value} {ts : List (List InsD)} {vs : List Value} (h : ProgOwn w B zs v ts vs tv) : ProgAt w (New B w.heap.size) (.agg #[v, tv]) ⟨zs, ts⟩ := by
  obtain ⟨A, c, rfl, hc, hi⟩ := own_ints h.ints
  obtain ⟨A', c', rfl, hc'⟩ := own_form h.rows
  have hm : ts.length ≤ 9223372036854775807 := by
    have hmx : maxLen = 9223372036854775807 := rfl
    rcases h.rows.2 with ⟨hv, hn⟩ | ⟨q, cap, cur, hv, hq, hh, hcap, hmax, hcs, ht⟩ <;> omega
  refine ⟨A, c, A', c', rfl, ⟨hc, hc'⟩, hi, hm, fun hn => ?_⟩
  obtain ⟨b, c2, e, hb, hlt, hcl⟩ := rows_at h.rows hn
  cases e
  refine ⟨b, 0, rfl, ⟨hb, hlt⟩, fun k hk => ?_⟩
  obtain ⟨A3, c3, e3, hc3, hin⟩ := own_inss (h.thr k hk)
  refine ⟨A3, c3, ?_, hc3, hin.more (fun b hb => ⟨hb.2.1, hb.2.2⟩)⟩
  rw [Nat.zero_add, hcl k hk, e3]
structure CrAt (w0 : World) (T : Nat) (zs : List Int) (v : Value) (ts : List (List InsD)) (vs : List Value) (tv : Value) (w : World) : Prop where
  below : Below w0.heap.size w0 w
  blk : Blk w T 37 #[v, tv]
  own : ProgOwn w (w0.heap.size + 1) zs v ts vs tv
  lo : w0.heap.size + 1 ≤ T
  out : ∃ u u', Blk w w0.heap.size 37 #[u, u']

structure LAt (w0 : World) (T : Nat) (zs : List Int) (v : Value) (ts : List (List InsD)) (vs : List Value) (tv : Value) (l : List InsD) (lv : Value) (w : World) : Prop where
  cr : CrAt w0 T zs v ts vs tv w
  row : w.ownsRow (w0.heap.size + 1) 89 6 lv l.length (flat l)
  ap : ∀ k, k < ts.length → Apart (vat vs k) lv

section
variable {T : Nat} {w0 w w1 : World} {zs : List Int} {v tv lv : Value} {ts : List (List InsD)} {vs : List Value} {l : List InsD}
theorem CrAt.cells (h : CrAt w0 T zs v ts vs tv w) : PrC w T v tv := ⟨⟨h.blk.cell 0, h.blk.cell 1⟩, h.blk.frozen 0, h.blk.frozen 1⟩
theorem CrAt.alloc (h : CrAt w0 T zs v ts vs tv w) (o : Obj) : CrAt w0 T zs v ts vs tv (w.alloc o) :=
  ⟨h.below.alloc h.below.size o, h.blk.alloc o, h.own.keep (fun b _ hlt => Below.heap_alloc w o b hlt), h.lo, h.out.imp fun _ => Exists.imp fun _ k => k.alloc o⟩
theorem LAt.alloc (h : LAt w0 T zs v ts vs tv l lv w) (o : Obj) : LAt w0 T zs v ts vs tv l lv (w.alloc o) :=
  ⟨h.cr.alloc o, own_keep h.row (fun b _ hlt => Below.heap_alloc w o b hlt), h.ap⟩
theorem own_lit (w : World) (B : Nat) (e : TypeId) (size n : Nat) (cs : Array Value) (hB : B ≤ w.heap.size) (hn : n ≤ 1000) (hs : cs.size = n * size) : (w.alloc (.cells cs e)).ownsRow B e size (.slice (some ⟨w.heap.size, 0, none⟩) n n) n cs.toList :=
  ⟨by simpa using hs, .inr ⟨_, n, cs, rfl, hB, heap_alloc_new w _, Nat.le_refl _, by have : maxLen = 9223372036854775807 := rfl; omega, hs, List.take_of_length_le (by simp [hs])⟩⟩
theorem LAt.start (h : CrAt w0 T zs v ts vs tv w) {cs : Array Value} (hn : l.length ≤ 1000) (hcs : cs.toList = flat l) : LAt w0 T zs v ts vs tv l (.slice (some ⟨w.heap.size, 0, none⟩) l.length l.length) (w.alloc (.cells cs 89)) := by
  have hs : cs.size = l.length * 6 := by rw [← flat_len, ← hcs]; simp
  have hz := h.below.size
  have hb := h.blk.lt
  have hlo := h.lo
  have hr := own_lit w w.heap.size 89 6 l.length cs (Nat.le_refl _) hn hs
  rw [hcs] at hr
  exact ⟨h.alloc _, own_base hr (by omega), fun k hk => apart_new (h.own.thr k hk) hr (Nat.le_refl _)⟩
theorem CrAt.drew (h : CrAt w0 T zs v ts vs tv w) : CrAt w0 T zs v ts vs tv w.drew := ⟨h.below.drew, h.blk, ⟨h.own.ints, h.own.rows, h.own.thr, h.own.apart⟩, h.lo, h.out⟩
theorem LAt.drew (h : LAt w0 T zs v ts vs tv l lv w) : LAt w0 T zs v ts vs tv l lv w.drew := ⟨h.cr.drew, h.row, h.ap⟩
theorem LAt.startCap (h : CrAt w0 T zs v ts vs tv w) {cs : Array Value} {K : Nat} (hK : l.length ≤ K) (hm : K ≤ maxLen) (hs : cs.size = K * 6) (ht : cs.toList.take (l.length * 6) = flat l) : LAt w0 T zs v ts vs tv l (.slice (some ⟨w.heap.size, 0, none⟩) l.length K) (w.alloc (.cells cs 89)) := by
  have hz := h.below.size
  have hb := h.blk.lt
  have hlo := h.lo
  have hr : (w.alloc (.cells cs 89)).ownsRow w.heap.size 89 6 (.slice (some ⟨w.heap.size, 0, none⟩) l.length K) l.length (flat l) := ⟨flat_len l, .inr ⟨_, K, cs, rfl, Nat.le_refl _, heap_alloc_new w _, hK, hm, hs, ht⟩⟩
  exact ⟨h.alloc _, own_base hr (by omega), fun k hk => apart_new (h.own.thr k hk) hr (Nat.le_refl _)⟩
theorem LAt.growL {gg n cap : Nat} {d : InsD} {xs : List Value} (h : LAt w0 T zs v ts vs tv l lv w) (hxs : xs = flat l ++ insVals d) (ho : w1.ownsRow (w0.heap.size + 1) 89 6 (.slice (some ⟨gg, 0, none⟩) n cap) (l.length + 1) xs) (hgr : w.grownBy w1 lv.ownBlock) (hat : lv.ownBlock = some gg ∨ gg = w.heap.size) :
    LAt w0 T zs v ts vs tv (l ++ [d]) (.slice (some ⟨gg, 0, none⟩) n cap) w1 := by
  subst hxs
  have hfl : flat (l ++ [d]) = flat l ++ insVals d := by simp [flat]
  have hlo := h.cr.lo
  have hT := h.cr.blk.lt
  have hr : ∀ k, k < w0.heap.size + 1 → some k ≠ lv.ownBlock := fun _ hk => own_far h.row hk
  have hB : Blk w1 T 37 #[v, tv] := (hgr.block T hT (blk_far h.cr.blk h.row (by decide))).trans h.cr.blk
  refine ⟨⟨?_, hB, ⟨own_grown h.cr.own.ints hgr (apart_type h.cr.own.ints h.row (by decide)), own_grown h.cr.own.rows hgr (apart_type h.cr.own.rows h.row (by decide)), fun k hk => own_grown (h.cr.own.thr k hk) hgr (h.ap k hk), h.cr.own.apart⟩, hlo, h.cr.out.imp fun _ => Exists.imp fun _ k => (hgr.block w0.heap.size (Blk.lt k) (hr _ (by omega))).trans k⟩, by rw [hfl, List.length_append]; exact ho, fun k hk x hx hy => ?_⟩
  · have hz := h.cr.below.size
    exact ⟨hgr.os.trans h.cr.below.os, hgr.tape.trans h.cr.below.tape, hgr.output.trans h.cr.below.output, Nat.le_trans h.cr.below.size hgr.size, fun k hk => (hgr.block k (by omega) (hr k (by omega))).trans (h.cr.below.block k hk)⟩
  · have e : gg = x := by simpa [Value.ownBlock] using hy
    subst e
    rcases hat with h1 | h1
    · exact h.ap k hk gg hx h1
    · have := (own_lt (h.cr.own.thr k hk) hx).2.1
      omega
theorem LAt.growRows {tv' : Value} (h : LAt w0 T zs v ts vs tv l lv w) {xs : List Value} (hxs : xs = vs ++ [lv]) (ho : w1.ownsRow (w0.heap.size + 1) 45 1 tv' (ts.length + 1) xs) (hgr : w.grownBy w1 tv.ownBlock) :
    PrC w1 T v tv ∧ CrAt w0 T zs v (ts ++ [l]) (vs ++ [lv]) tv' (w1.setCell ⟨T, 1, none⟩ tv') := by
  subst hxs
  have hlo := h.cr.lo
  have hT := h.cr.blk.lt
  have hr : ∀ k, k < w0.heap.size + 1 → some k ≠ tv.ownBlock := fun _ hk => own_far h.cr.own.rows hk
  have hB : Blk w1 T 37 #[v, tv] := (hgr.block T hT (blk_far h.cr.blk h.cr.own.rows (by decide))).trans h.cr.blk
  have hB1 : Blk (w1.setCell ⟨T, 1, none⟩ tv') T 37 #[v, tv'] := by have := hB.set_ 1 tv'; simpa using this
  have ho2 := h.cr.own.growRows h.row h.ap ho hgr
  have far := fun {e : TypeId} {size : Nat} {u' : Value} {n : Nat} {xs : List Value} (k : w1.ownsRow (w0.heap.size + 1) e size u' n xs) (hne : e ≠ 37) => own_setFar k (p := ⟨T, 1, none⟩) (fun e2 => blk_far hB k hne e2.symm) tv'
  refine ⟨⟨⟨hB.cell 0, hB.cell 1⟩, hB.frozen 0, hB.frozen 1⟩, ⟨?_, hB1, ⟨far ho2.ints (by decide), far ho2.rows (by decide), fun k hk => far (ho2.thr k hk) (by decide), ho2.apart⟩, hlo, h.cr.out.imp fun _ => Exists.imp fun _ k => Blk.far ((hgr.block w0.heap.size (Blk.lt k) (hr _ (by omega))).trans k) (by show w0.heap.size ≠ T; omega) _⟩⟩
  have hz := h.cr.below.size
  refine Below.setCell ?_ (by show w0.heap.size ≤ T; omega) _
  exact ⟨hgr.os.trans h.cr.below.os, hgr.tape.trans h.cr.below.tape, hgr.output.trans h.cr.below.output, Nat.le_trans h.cr.below.size hgr.size, fun k hk => (hgr.block k (by omega) (hr k (by omega))).trans (h.cr.below.block k hk)⟩
end
theorem ins6 {w : World} {g : Nat} {a b c d e f : Value} (h : Blk w g 89 #[a, b, c, d, e, f]) : (w.cell? ⟨g, 0, none⟩ = some a ∧ w.cell? ⟨g, 1, none⟩ = some b ∧ w.cell? ⟨g, 2, none⟩ = some c ∧ w.cell? ⟨g, 3, none⟩ = some d ∧ w.cell? ⟨g, 4, none⟩ = some e ∧ w.cell? ⟨g, 5, none⟩ = some f) ∧ g < w.heap.size :=
  ⟨⟨h.cell 0, h.cell 1, h.cell 2, h.cell 3, h.cell 4, h.cell 5⟩, h.lt⟩
end Go.Proofs.Ytjendjbbhohjcaa
