/- What the walks of the exact laws over a program and a row of numbers carry. -/
import Derived.Test.YtjendjbbhohjcaaMc0
import Derived.Test.YtjendjbbhohjcaaMc3
import Derived.Test.YtjendjbbhohjcaaMc4
import Derived.Test.YtjendjbbhohjcaaMc5
import Derived.Test.YtjendjbbhohjcaaMc6
namespace Go.Proofs.Ytjendjbbhohjcaa
open Go.RowKit

structure Sets (S : Nat → Prop) (w w' : World) : Prop where
  os : w'.os = w.os
  tape : w'.tape = w.tape
  output : w'.output = w.output
  size : w.heap.size ≤ w'.heap.size
  block : ∀ b, b < w.heap.size → ¬ S b → w'.heap[b]? = w.heap[b]?
theorem Sets.refl (S : Nat → Prop) (w : World) : Sets S w w := ⟨rfl, rfl, rfl, Nat.le_refl _, fun _ _ _ => rfl⟩
theorem Sets.trans {S : Nat → Prop} {a b c : World} (h : Sets S a b) (k : Sets S b c) : Sets S a c :=
  ⟨k.os.trans h.os, k.tape.trans h.tape, k.output.trans h.output, Nat.le_trans h.size k.size, fun x hx hS => (k.block x (Nat.lt_of_lt_of_le hx h.size) hS).trans (h.block x hx hS)⟩
theorem Sets.of_grown {S : Nat → Prop} {a b : World} {r : Option Nat} (h : a.grownBy b r) (hr : ∀ x, r = some x → S x) : Sets S a b :=
  ⟨h.os, h.tape, h.output, h.size, fun x hx hS => h.block x hx (fun e => hS (hr x e.symm))⟩
theorem Sets.of_below {S : Nat → Prop} {a b : World} (h : Below a.heap.size a b) : Sets S a b := ⟨h.os, h.tape, h.output, h.size, fun x hx _ => h.block x hx⟩
theorem Sets.below {S : Nat → Prop} {a b : World} {B : Nat} (h : Sets S a b) (hS : ∀ x, S x → B ≤ x) (hB : B ≤ a.heap.size) : Below B a b :=
  ⟨h.os, h.tape, h.output, h.size, fun x hx => h.block x (Nat.lt_of_lt_of_le hx hB) (fun e => by have := hS x e; omega)⟩

def markI (k : Nat) : InsD := ⟨((k : Nat) : Int), ((k + 1 : Nat) : Int), ((k + 2 : Nat) : Int), ((k + 3 : Nat) : Int), ((k + 4 : Nat) : Int), ((k + 5 : Nat) : Int)⟩
def markL (k n : Nat) : List InsD := (List.range n).map fun i => markI (k + i * 6)
theorem markL_len (k n : Nat) : (markL k n).length = n := by simp [markL]
theorem markL_get (k n i : Nat) (h : i < n) : getd (markL k n) i = markI (k + i * 6) := by
  unfold getd markL
  rw [List.getD_eq_getElem?_getD, List.getElem?_map, List.getElem?_range h]
  rfl
theorem flat_markL (k n : Nat) : flat (markL k n) = (List.range (n * 6)).map fun m => Value.int .i64 ((k + m : Nat) : Int) := by
  induction n with
  | zero => rfl
  | succ n ih =>
    have h1 : markL k (n + 1) = markL k n ++ [markI (k + n * 6)] := by unfold markL; rw [List.range_succ, List.map_append]; rfl
    have h2 : (n + 1) * 6 = n * 6 + 6 := by omega
    rw [h1, h2, List.range_add, List.map_append, ← ih]
    simp [flat, insVals, markI, Nat.add_assoc, List.range_succ]
def markTo (ts : List (List InsD)) (k j : Nat) : List (List InsD) := (List.range ts.length).map fun i => if i < j then markL (k + insTo ts i * 6) (gett ts i).length else gett ts i
theorem markTo_len (ts : List (List InsD)) (k j : Nat) : (markTo ts k j).length = ts.length := by simp [markTo]
theorem markTo_get (ts : List (List InsD)) (k j i : Nat) (h : i < ts.length) : gett (markTo ts k j) i = if i < j then markL (k + insTo ts i * 6) (gett ts i).length else gett ts i := by
  unfold markTo
  conv => lhs; unfold gett
  rw [List.getD_eq_getElem?_getD, List.getElem?_map, List.getElem?_range h]
  rfl
theorem markTo_zero (ts : List (List InsD)) (k : Nat) : markTo ts k 0 = ts := by
  unfold markTo
  refine List.ext_getElem? fun i => ?_
  by_cases h : i < ts.length
  · rw [List.getElem?_map, List.getElem?_range h]
    simp [gett, List.getD_eq_getElem?_getD, List.getElem?_eq_getElem h]
  · rw [List.getElem?_eq_none (by simpa using h), List.getElem?_eq_none (by omega)]
theorem set_six {cs : Array Value} {k j : Nat} (K : Int) (hK : K = ((k + j * 6 : Nat) : Int)) (hs : j * 6 + 5 < cs.size) (hcs : ∀ m, m < j * 6 → cs[m]? = some (.int .i64 ((k + m : Nat) : Int))) (m : Nat) (hm : m < (j + 1) * 6) :
    ((((((cs.setIfInBounds (j * 6) (.int .i64 K)).setIfInBounds (j * 6 + 1) (.int .i64 (K + 1))).setIfInBounds (j * 6 + 2) (.int .i64 (K + 1 + 1))).setIfInBounds (j * 6 + 3) (.int .i64 (K + 1 + 1 + 1))).setIfInBounds (j * 6 + 4) (.int .i64 (K + 1 + 1 + 1 + 1))).setIfInBounds (j * 6 + 5) (.int .i64 (K + 1 + 1 + 1 + 1 + 1)))[m]? = some (.int .i64 ((k + m : Nat) : Int)) := by
  simp only [Array.getElem?_setIfInBounds, Array.size_setIfInBounds]
  by_cases e5 : j * 6 + 5 = m
  · subst e5; rw [if_pos rfl, if_pos (by omega), hK]; congr 2
  · rw [if_neg e5]
    by_cases e4 : j * 6 + 4 = m
    · subst e4; rw [if_pos rfl, if_pos (by omega), hK]; congr 2
    · rw [if_neg e4]
      by_cases e3 : j * 6 + 3 = m
      · subst e3; rw [if_pos rfl, if_pos (by omega), hK]; congr 2
      · rw [if_neg e3]
        by_cases e2 : j * 6 + 2 = m
        · subst e2; rw [if_pos rfl, if_pos (by omega), hK]; congr 2
        · rw [if_neg e2]
          by_cases e1 : j * 6 + 1 = m
          · subst e1; rw [if_pos rfl, if_pos (by omega), hK]; congr 2
          · rw [if_neg e1]
            by_cases e0 : j * 6 = m
            · subst e0; rw [if_pos rfl, if_pos (by omega), hK]
            · rw [if_neg e0]; exact hcs m (by omega)

set_option maxRecDepth 100000 in
set_option maxHeartbeats 6400000 in
theorem markInsS_full (q : Nat) (cs0 : Array Value) (n c k : Nat) (w : World) (hn : n ≤ 1048576) (hk : k ≤ 16777216) (h : Blk w q 89 cs0) (hs : n * 6 ≤ cs0.size) :
    Calls Try.prog 109 #[.slice (some ⟨q, 0, none⟩) n c, .int .i64 k] w fun e w' => e = .returned (.int .i64 ((k + n * 6 : Nat) : Int)) ∧ (∃ cs', Blk w' q 89 cs' ∧ cs'.size = cs0.size ∧ ∀ m, m < n * 6 → cs'[m]? = some (.int .i64 ((k + m : Nat) : Int))) ∧ Only q w w' := by
  go_enter Try.func109, Try.ntmps109
  go_wp2_with fail
  go_loopw [1, 5] (fun l i wr => ∃ (j : Nat) (cs : Array Value), j ≤ n ∧ i = .int .i64 j ∧ l = .int .i64 ((k + j * 6 : Nat) : Int) ∧ Blk wr q 89 cs ∧ Hid (n * 6 ≤ cs.size ∧ cs.size = cs0.size) ∧ Hid (∀ m, m < j * 6 → cs[m]? = some (.int .i64 ((k + m : Nat) : Int))) ∧ Only q w wr) (fun _ i _ => n - (intOf i).toNat)
  case atStart => exact ⟨0, cs0, Nat.zero_le _, rfl, rfl, h, hide ⟨hs, rfl⟩, hide (fun m hm => by omega), Only.refl _ _⟩
  case round =>
    obtain ⟨j, cs, hj, rfl, rfl, hblk, hsz, hcs, ho⟩ := hrel
    by_cases hlt : j < n
    · have hsz' := hsz.out
      obtain ⟨v0, hv0⟩ : ∃ v, cs[j * 6]? = some v := ⟨_, Array.getElem?_eq_getElem (by omega)⟩
      obtain ⟨v1, hv1⟩ : ∃ v, cs[j * 6 + 1]? = some v := ⟨_, Array.getElem?_eq_getElem (by omega)⟩
      obtain ⟨v2, hv2⟩ : ∃ v, cs[j * 6 + 2]? = some v := ⟨_, Array.getElem?_eq_getElem (by omega)⟩
      obtain ⟨v3, hv3⟩ : ∃ v, cs[j * 6 + 3]? = some v := ⟨_, Array.getElem?_eq_getElem (by omega)⟩
      obtain ⟨v4, hv4⟩ : ∃ v, cs[j * 6 + 4]? = some v := ⟨_, Array.getElem?_eq_getElem (by omega)⟩
      obtain ⟨v5, hv5⟩ : ∃ v, cs[j * 6 + 5]? = some v := ⟨_, Array.getElem?_eq_getElem (by omega)⟩
      have d0 := (hblk.cell _).trans hv0
      have z0 := hblk.frozen (j * 6)
      have d1 := (hblk.cell _).trans hv1
      have z1 := hblk.frozen (j * 6 + 1)
      have d2 := (hblk.cell _).trans hv2
      have z2 := hblk.frozen (j * 6 + 2)
      have d3 := (hblk.cell _).trans hv3
      have z3 := hblk.frozen (j * 6 + 3)
      have d4 := (hblk.cell _).trans hv4
      have z4 := hblk.frozen (j * 6 + 4)
      have d5 := (hblk.cell _).trans hv5
      have z5 := hblk.frozen (j * 6 + 5)
      have HB := hide hblk
      have hlt' : (j : Int) < (n : Int) := by omega
      obtain ⟨K, hK⟩ : ∃ K : Int, K = ((k + j * 6 : Nat) : Int) := ⟨_, rfl⟩
      have hw0 : wrap64 (K + 1) = K + 1 := by unfold wrap64; omega
      have hw1 : wrap64 (K + 1 + 1) = K + 1 + 1 := by unfold wrap64; omega
      have hw2 : wrap64 (K + 1 + 1 + 1) = K + 1 + 1 + 1 := by unfold wrap64; omega
      have hw3 : wrap64 (K + 1 + 1 + 1 + 1) = K + 1 + 1 + 1 + 1 := by unfold wrap64; omega
      have hw4 : wrap64 (K + 1 + 1 + 1 + 1 + 1) = K + 1 + 1 + 1 + 1 + 1 := by unfold wrap64; omega
      have hw5 : wrap64 (K + 1 + 1 + 1 + 1 + 1 + 1) = K + 1 + 1 + 1 + 1 + 1 + 1 := by unfold wrap64; omega
      rw [← hK]
      replace hK := hide hK
      clear hv0 hv1 hv2 hv3 hv4 hv5 hblk hsz'
      go_wp2_with fail
      go_roundw
      case rel =>
        refine ⟨j + 1, (((((cs.setIfInBounds (j * 6) (.int .i64 K)).setIfInBounds (j * 6 + 1) (.int .i64 (K + 1))).setIfInBounds (j * 6 + 2) (.int .i64 (K + 1 + 1))).setIfInBounds (j * 6 + 3) (.int .i64 (K + 1 + 1 + 1))).setIfInBounds (j * 6 + 4) (.int .i64 (K + 1 + 1 + 1 + 1))).setIfInBounds (j * 6 + 5) (.int .i64 (K + 1 + 1 + 1 + 1 + 1)), by omega, by go_num, by rw [hK.out]; congr 1; unfold wrap64; omega, (((((HB.out.set_ _ _).set_ _ _).set_ _ _).set_ _ _).set_ _ _).set_ _ _, hide (by have := hsz.out; simpa using this), hide (fun m hm => set_six K hK.out (by have := hsz.out; omega) hcs.out m hm), (((((ho.setCell (.inl rfl) _).setCell (.inl rfl) _).setCell (.inl rfl) _).setCell (.inl rfl) _).setCell (.inl rfl) _).setCell (.inl rfl) _⟩
      case measure => simp [intOf]; omega
    · obtain rfl : j = n := by omega
      go_wp2_with fail
      go_ret
      exact ⟨rfl, ⟨cs, hblk, hsz.out.2, hcs.out⟩, ho⟩

set_option maxHeartbeats 1600000 in
theorem markIntS_full (q : Nat) (cs0 : Array Value) (n c k : Nat) (w : World) (hn : n ≤ 1048576) (hk : k ≤ 4194304) (h : Blk w q 3 cs0) (hs : n ≤ cs0.size) :
    Calls Try.prog 35 #[.slice (some ⟨q, 0, none⟩) n c, .int .i64 k] w fun e w' => e = .returned (.int .i64 ((k + n : Nat) : Int)) ∧ (∃ cs', Blk w' q 3 cs' ∧ cs'.size = cs0.size ∧ ∀ m, m < n → cs'[m]? = some (.int .i64 ((k + m : Nat) : Int))) ∧ Only q w w' := by
  go_enter Try.func35, Try.ntmps35
  go_wp2_with fail
  go_loopw [1, 5] (fun l i wr => ∃ (j : Nat) (cs : Array Value), j ≤ n ∧ i = .int .i64 j ∧ l = .int .i64 ((k + j : Nat) : Int) ∧ Blk wr q 3 cs ∧ Hid (n ≤ cs.size ∧ cs.size = cs0.size) ∧ Hid (∀ m, m < j → cs[m]? = some (.int .i64 ((k + m : Nat) : Int))) ∧ Only q w wr) (fun _ i _ => n - (intOf i).toNat)
  case atStart =>
    exact ⟨0, cs0, Nat.zero_le _, rfl, rfl, h, hide ⟨hs, rfl⟩, hide (fun m hm => by omega), Only.refl _ _⟩
  case round =>
    obtain ⟨j, cs, hj, rfl, rfl, hblk, hsz, hcs, ho⟩ := hrel
    by_cases hlt : j < n
    · obtain ⟨v0, hv0⟩ : ∃ v0, cs[j]? = some v0 := ⟨cs[j]'(by have := hsz.out; omega), Array.getElem?_eq_getElem _⟩
      have hdst := (hblk.cell j).trans hv0
      have hfz := hblk.frozen j
      have HB := hide hblk
      have hlt' : (j : Int) < (n : Int) := by omega
      clear hv0 hblk
      go_wp2_with fail
      go_roundw
      case rel =>
        refine ⟨j + 1, cs.setIfInBounds j (.int .i64 ((k + j : Nat) : Int)), by omega, by go_num, by go_num, HB.out.set_ j _, hide (by rw [Array.size_setIfInBounds]; exact hsz.out), hide (fun m hm => ?_), ho.setCell (.inl rfl) _⟩
        rw [Array.getElem?_setIfInBounds]
        by_cases e : j = m
        · subst e; rw [if_pos rfl, if_pos (by have := hsz.out; omega)]
        · rw [if_neg e]; exact hcs.out m (by omega)
      case measure => simp [intOf]; omega
    · obtain rfl : j = n := by omega
      go_wp2_with fail
      go_ret
      exact ⟨rfl, ⟨cs, hblk, hsz.out.2, hcs.out⟩, ho⟩

set_option maxHeartbeats 800000 in
theorem markInsS_nil (c : Nat) (k : Int) (w : World) : Calls Try.prog 109 #[.slice none 0 c, .int .i64 k] w fun e w' => e = .returned (.int .i64 k) ∧ w = w' := by
  go_enter Try.func109, Try.ntmps109
  go_wp2_with fail
  go_loop [1, 5] (fun l i => i = .int .i64 0 ∧ l = .int .i64 k) (fun _ _ => 0)
  case atStart => exact ⟨rfl, rfl⟩
  case round =>
    obtain ⟨rfl, rfl⟩ := hrel
    go_wp2_with fail
    go_ret
    exact ⟨rfl, rfl⟩
set_option maxHeartbeats 800000 in
theorem markIntS_nil (c : Nat) (k : Int) (w : World) : Calls Try.prog 35 #[.slice none 0 c, .int .i64 k] w fun e w' => e = .returned (.int .i64 k) ∧ w = w' := by
  go_enter Try.func35, Try.ntmps35
  go_wp2_with fail
  go_loop [1, 5] (fun l i => i = .int .i64 0 ∧ l = .int .i64 k) (fun _ _ => 0)
  case atStart => exact ⟨rfl, rfl⟩
  case round =>
    obtain ⟨rfl, rfl⟩ := hrel
    go_wp2_with fail
    go_ret
    exact ⟨rfl, rfl⟩

theorem take_of {cs : Array Value} {xs : List Value} {n : Nat} (hx : xs.length = n) (_hn : n ≤ cs.size) (h : ∀ m, m < n → cs[m]? = xs[m]?) : cs.toList.take n = xs := by
  refine List.ext_getElem? fun m => ?_
  rw [List.getElem?_take]
  by_cases hm : m < n
  · rw [if_pos hm, Array.getElem?_toList]; exact h m hm
  · rw [if_neg hm, List.getElem?_eq_none (by omega)]
theorem markInsO {w : World} {B n k : Nat} {v : Value} {xs : List Value} (h : w.ownsRow B 89 6 v n xs) (hn : n ≤ 1048576) (hk : k ≤ 16777216) :
    Calls Try.prog 109 #[v, .int .i64 (k : Int)] w fun e w' => e = .returned (.int .i64 ((k + n * 6 : Nat) : Int)) ∧ w'.ownsRow B 89 6 v n (flat (markL k n)) ∧ w.grownBy w' v.ownBlock := by
  rcases h.2 with ⟨rfl, rfl⟩ | ⟨q, cap, cur, rfl, hb, hh, hcap, hmax, hcs, ht⟩
  · refine (markInsS_nil 0 _ w).mono ?_
    rintro e w' ⟨rfl, rfl⟩
    exact ⟨by simp, ⟨rfl, .inl ⟨rfl, rfl⟩⟩, World.grownBy.refl w _⟩
  · refine (markInsS_full q cur n cap k w hn hk hh (by omega)).mono ?_
    rintro e w' ⟨rfl, ⟨cs, h1, h2, h3⟩, ho⟩
    refine ⟨rfl, ⟨by rw [flat_len, markL_len], .inr ⟨q, cap, cs, rfl, hb, h1, hcap, hmax, by omega, take_of (by rw [flat_len, markL_len]) (by omega) (fun m hm => ?_)⟩⟩, grown_only ho⟩
    rw [h3 m hm, flat_markL, List.getElem?_map, List.getElem?_range hm]
    rfl
theorem markIntO {w : World} {B n k : Nat} {v : Value} {xs : List Value} (h : w.ownsRow B 3 1 v n xs) (hn : n ≤ 1048576) (hk : k ≤ 4194304) :
    Calls Try.prog 35 #[v, .int .i64 (k : Int)] w fun e w' => e = .returned (.int .i64 ((k + n : Nat) : Int)) ∧ w'.ownsRow B 3 1 v n ((marks k n).map (Value.int .i64)) ∧ w.grownBy w' v.ownBlock := by
  rcases h.2 with ⟨rfl, rfl⟩ | ⟨q, cap, cur, rfl, hb, hh, hcap, hmax, hcs, ht⟩
  · refine (markIntS_nil 0 _ w).mono ?_
    rintro e w' ⟨rfl, rfl⟩
    exact ⟨by simp, ⟨rfl, .inl ⟨rfl, rfl⟩⟩, World.grownBy.refl w _⟩
  · refine (markIntS_full q cur n cap k w hn hk hh (by omega)).mono ?_
    rintro e w' ⟨rfl, ⟨cs, h1, h2, h3⟩, ho⟩
    refine ⟨rfl, ⟨by simp [marks_len], .inr ⟨q, cap, cs, rfl, hb, h1, hcap, hmax, by omega, take_of (by simp [marks_len]) (by omega) (fun m hm => ?_)⟩⟩, grown_only ho⟩
    rw [h3 m (by omega), marks, List.map_map, List.getElem?_map, List.getElem?_range (by omega)]
    rfl
def OwnS (v tv : Value) (vs : List Value) (n : Nat) (b : Nat) : Prop := v.ownBlock = some b ∨ tv.ownBlock = some b ∨ ∃ i, i < n ∧ (vat vs i).ownBlock = some b
theorem ProgOwn.own_lt {w : World} {B : Nat} {zs : List Int} {v tv : Value} {ts : List (List InsD)} {vs : List Value} (h : ProgOwn w B zs v ts vs tv) {b : Nat} (hb : OwnS v tv vs ts.length b) : B ≤ b ∧ b < w.heap.size := by
  rcases hb with h1 | h1 | ⟨i, hi, h1⟩
  · exact own_at h.ints h1
  · exact own_at h.rows h1
  · exact own_at (h.thr i hi) h1
theorem ProgOwn.sets {w w' : World} {B : Nat} {zs : List Int} {v tv : Value} {ts : List (List InsD)} {vs : List Value} {S : Nat → Prop} (h : ProgOwn w B zs v ts vs tv) (hs : Sets S w w') (hS : ∀ b, S b → ¬ OwnS v tv vs ts.length b) : ProgOwn w' B zs v ts vs tv :=
  ⟨kept h.ints (fun b hb e => hs.block b hb (fun k => hS b k (.inl e))), kept h.rows (fun b hb e => hs.block b hb (fun k => hS b k (.inr (.inl e)))), fun i hi => kept (h.thr i hi) (fun b hb e => hs.block b hb (fun k => hS b k (.inr (.inr ⟨i, hi, e⟩)))), h.apart⟩
theorem ProgOwn.markOne {w w1 : World} {B j : Nat} {zs : List Int} {v tv : Value} {ts ts' : List (List InsD)} {vs : List Value} {l : List InsD} (h : ProgOwn w B zs v ts vs tv) (hj : j < ts.length) (hg : w.grownBy w1 (vat vs j).ownBlock) (ho : w1.ownsRow B 89 6 (vat vs j) l.length (flat l)) (hl : ts'.length = ts.length) (hts : ∀ i, i < ts.length → gett ts' i = if i = j then l else gett ts i) : ProgOwn w1 B zs v ts' vs tv := by
  refine ⟨own_grown h.ints hg (apart_type h.ints (h.thr j hj) (by decide)), by rw [hl]; exact own_grown h.rows hg (apart_type h.rows (h.thr j hj) (by decide)), fun i hi => ?_, fun a b hab hb => h.apart a b hab (by omega)⟩
  rw [hl] at hi
  rw [hts i hi]
  by_cases e : i = j
  · subst e; rw [if_pos rfl]; exact ho
  · rw [if_neg e]
    refine own_grown (h.thr i hi) hg ?_
    rcases Nat.lt_or_ge i j with h1 | h1
    · exact h.apart i j h1 hj
    · exact (h.apart j i (by omega) hi).symm

set_option maxRecDepth 100000 in
set_option maxHeartbeats 6400000 in
theorem markThreadO {w : World} {B : Nat} {zs : List Int} {v tv : Value} {ts : List (List InsD)} {vs : List Value} {k : Nat} (hp : ProgOwn w B zs v ts vs tv) (hn : tsSize ts ≤ 1048576) (hk : k ≤ 2097152) :
    Calls Try.prog 88 #[tv, .int .i64 (k : Int)] w fun e w' => e = .returned (.int .i64 ((k + insTo ts ts.length * 6 : Nat) : Int)) ∧ ProgOwn w' B zs v (markTo ts k ts.length) vs tv ∧ Sets (fun b => ∃ i, i < ts.length ∧ (vat vs i).ownBlock = some b) w w' := by
  have hl := insTo_le ts 0
  obtain ⟨A, c, rfl, hc⟩ := own_form hp.rows
  go_enter Try.func88, Try.ntmps88
  go_wp2_with fail
  go_loopw [1, 5] (fun l i wr => ∃ (j : Nat), j ≤ ts.length ∧ i = .int .i64 j ∧ l = .int .i64 ((k + insTo ts j * 6 : Nat) : Int) ∧ Hid (ProgOwn wr B zs v (markTo ts k j) vs (.slice A ts.length c)) ∧ Hid (Sets (fun b => ∃ i, i < ts.length ∧ (vat vs i).ownBlock = some b) w wr)) (fun _ i _ => ts.length - (intOf i).toNat)
  case atStart => exact ⟨0, Nat.zero_le _, rfl, by rw [insTo_zero]; rfl, hide (by rw [markTo_zero]; exact hp), hide (Sets.refl _ _)⟩
  case round =>
    obtain ⟨j, hj, rfl, rfl, H0, S0⟩ := hrel
    by_cases hlt : j < ts.length
    · have hs1 := insTo_succ ts j hlt
      have hs2 := insTo_le ts (j + 1)
      have hth := H0.out.thr j (by rw [markTo_len]; exact hlt)
      have hgj : gett (markTo ts k j) j = gett ts j := by rw [markTo_get ts k j j hlt, if_neg (by omega)]
      rw [hgj] at hth
      obtain ⟨A5, c5, hv5, -⟩ := own_form hth
      have hrows := H0.out.rows
      rw [markTo_len] at hrows
      obtain ⟨b, c6, e6, hbB, hbl, hcl⟩ := rows_at hrows (by omega)
      cases e6
      have c0 : wr.cell? ⟨b, j, none⟩ = some (.slice A5 (gett ts j).length c5) := by rw [hcl j hlt, hv5]
      have hlt' : decide ((j : Int) < (ts.length : Int)) = true := decide_eq_true (by omega)
      have HM := markInsO (k := k + insTo ts j * 6) hth (by omega) (by omega)
      rw [hv5] at HM
      replace HM := hide HM
      have hv := hide hv5
      have hlen := hide (show insTo ts (j + 1) = insTo ts j + (gett ts j).length from hs1)
      clear hrows hcl hth hgj hv5 hs1 hp
      go_wp2_with fail
      refine HM.out.mono ?_
      rintro e w1 ⟨rfl, ho, hg⟩
      rw [← hv.out] at ho hg
      have H1 := hide (H0.out.markOne (ts' := markTo ts k (j + 1)) (l := markL (k + insTo ts j * 6) (gett ts j).length) (by rw [markTo_len]; exact hlt) hg (by rw [markL_len]; exact ho) (by rw [markTo_len, markTo_len]) (fun i hi => by
        rw [markTo_len] at hi
        rw [markTo_get ts k (j + 1) i hi, markTo_get ts k j i hi]
        by_cases e : i = j
        · subst e; rw [if_pos rfl, if_pos (by omega)]
        · rw [if_neg e]
          by_cases e2 : i < j
          · rw [if_pos e2, if_pos (by omega)]
          · rw [if_neg e2, if_neg (by omega)]))
      have S1 := hide (S0.out.trans (Sets.of_grown hg (fun x hx => ⟨j, hlt, hx⟩)))
      clear H0 S0 HM ho hg
      go_wp2_with fail
      go_roundw
      case rel => exact ⟨j + 1, by omega, by go_num, by rw [hlen.out]; congr 2; omega, H1, S1⟩
      case measure => simp [intOf]; omega
    · obtain rfl : j = ts.length := by omega
      go_wp2_with fail
      go_ret
      exact ⟨rfl, H0.out, S0.out⟩

set_option maxRecDepth 100000 in
set_option maxHeartbeats 3200000 in
theorem markProgO {w : World} {B : Nat} {zs : List Int} {v tv : Value} {ts : List (List InsD)} {vs : List Value} {k : Nat} (hp : ProgOwn w B zs v ts vs tv) (hn : progSize ⟨zs, ts⟩ ≤ 1048576) (hk : k ≤ 1048576) :
    Calls Try.prog 45 #[.agg #[v, tv], .int .i64 (k : Int)] w fun e w' => e = .returned (.int .i64 ((k + zs.length + insTo ts ts.length * 6 : Nat) : Int)) ∧ ProgOwn w' B (marks k zs.length) v (markTo ts (k + zs.length) ts.length) vs tv ∧ Sets (OwnS v tv vs ts.length) w w' := by
  have hn1 : zs.length ≤ 1048576 := by unfold progSize at hn; simp only at hn; omega
  have hn2 : tsSize ts ≤ 1048576 := by unfold progSize at hn; simp only at hn; omega
  obtain ⟨A, c, rfl, hc⟩ := own_form hp.ints
  obtain ⟨A2, c2, rfl, hc2⟩ := own_form hp.rows
  obtain ⟨w0, hw0⟩ : ∃ x, x = w.alloc (Obj.cells #[.slice A zs.length c, .slice A2 ts.length c2] 37) := ⟨_, rfl⟩
  have hb0 : Below w.heap.size w w0 := by rw [hw0]; exact below1 _ _
  have X0 := hide (show Blk w0 w.heap.size 37 #[.slice A zs.length c, .slice A2 ts.length c2] from by rw [hw0]; exact Blk.new _ _ _)
  have x0 : w0.cell? ⟨w.heap.size, 0, none⟩ = some (.slice A zs.length c) := X0.out.cell 0
  have lx := X0.out.lt
  have P0 := hide (hp.keep (fun b _ hlt => hb0.block b hlt))
  have hSl := hide (fun b (h : OwnS (.slice A zs.length c) (.slice A2 ts.length c2) vs ts.length b) => (hp.own_lt h).2)
  have B0 := hide hb0
  clear hb0 hp
  go_enter Try.func45, Try.ntmps45
  go_wp2_with fail
  rw [← hw0]
  clear hw0
  refine (markIntO P0.out.ints hn1 (by omega)).mono ?_
  rintro e w1 ⟨rfl, ho1, hg1⟩
  have P1 := hide (show ProgOwn w1 B (marks k zs.length) (.slice A zs.length c) ts vs (.slice A2 ts.length c2) from
    ⟨by rw [marks_len]; exact ho1, own_grown P0.out.rows hg1 (apart_type P0.out.rows P0.out.ints (by decide)), fun i hi => own_grown (P0.out.thr i hi) hg1 (apart_type (P0.out.thr i hi) P0.out.ints (by decide)), P0.out.apart⟩)
  have S1 := hide ((Sets.of_below (S := OwnS (.slice A zs.length c) (.slice A2 ts.length c2) vs ts.length) B0.out).trans (Sets.of_grown hg1 (fun x hx => .inl hx)))
  have X1 := hide (show Blk w1 w.heap.size 37 #[.slice A zs.length c, .slice A2 ts.length c2] from (hg1.block w.heap.size X0.out.lt (fun e => by have := hSl.out w.heap.size (.inl e.symm); omega)).trans X0.out)
  have x1 : w1.cell? ⟨w.heap.size, 1, none⟩ = some (.slice A2 ts.length c2) := X1.out.cell 1
  have lx1 := X1.out.lt
  clear x0 lx X0 P0 ho1 hg1 B0
  go_wp2_with fail
  refine (markThreadO P1.out hn2 (by omega)).mono ?_
  rintro e w2 ⟨rfl, hp2, hs2⟩
  have S2 := hide (S1.out.trans (Sets.mk hs2.os hs2.tape hs2.output hs2.size (fun b hb hS => hs2.block b hb (fun ⟨i, hi, e⟩ => hS (.inr (.inr ⟨i, hi, e⟩))))))
  have P2 := hide hp2
  clear hp2 hs2 P1 S1
  go_wp2_with fail
  go_ret
  exact ⟨rfl, P2.out, S2.out⟩

set_option maxHeartbeats 6400000 in
theorem heldInsS_any (A : Option Addr) (n c k : Nat) (S : Nat → Prop) (w : World) (hn : n ≤ 1048576) (hk : k ≤ 16777216) (h : InssAt w S A (markL k n)) :
    Calls Try.prog 110 #[.slice A n c, .int .i64 (k : Int)] w fun e w' => e = .returned (.int .i64 ((k + n * 6 : Nat) : Int)) ∧ w = w' := by
  go_enter Try.func110, Try.ntmps110
  go_wp2_with fail
  go_loop [1, 5] (fun l i => ∃ (j : Nat), j ≤ n ∧ i = .int .i64 j ∧ l = .int .i64 ((k + j * 6 : Nat) : Int)) (fun _ i => n - (intOf i).toNat)
  case atStart => exact ⟨0, Nat.zero_le _, rfl, rfl⟩
  case round =>
    obtain ⟨j, hj, rfl, rfl⟩ := hrel
    by_cases hlt : j < n
    · obtain ⟨b, off, rfl, _, hc⟩ := h.2 (by rw [markL_len]; omega)
      have hcell := hc j (by rw [markL_len]; exact hlt)
      rw [markL_get _ _ _ hlt] at hcell
      obtain ⟨c0, c1, c2, c3, c4, c5⟩ := hcell
      simp only [markI] at c0 c1 c2 c3 c4 c5
      have hlt' : (j : Int) < (n : Int) := by omega
      rw [show ((k + j * 6 + 1 : Nat) : Int) = ((k + j * 6 : Nat) : Int) + 1 by omega] at c1
      rw [show ((k + j * 6 + 2 : Nat) : Int) = ((k + j * 6 : Nat) : Int) + 1 + 1 by omega] at c2
      rw [show ((k + j * 6 + 3 : Nat) : Int) = ((k + j * 6 : Nat) : Int) + 1 + 1 + 1 by omega] at c3
      rw [show ((k + j * 6 + 4 : Nat) : Int) = ((k + j * 6 : Nat) : Int) + 1 + 1 + 1 + 1 by omega] at c4
      rw [show ((k + j * 6 + 5 : Nat) : Int) = ((k + j * 6 : Nat) : Int) + 1 + 1 + 1 + 1 + 1 by omega] at c5
      obtain ⟨K, hK⟩ : ∃ K : Int, K = ((k + j * 6 : Nat) : Int) := ⟨_, rfl⟩
      have hw1 : wrap64 (K + 1) = K + 1 := by unfold wrap64; omega
      have hw2 : wrap64 (K + 1 + 1) = K + 1 + 1 := by unfold wrap64; omega
      have hw3 : wrap64 (K + 1 + 1 + 1) = K + 1 + 1 + 1 := by unfold wrap64; omega
      have hw4 : wrap64 (K + 1 + 1 + 1 + 1) = K + 1 + 1 + 1 + 1 := by unfold wrap64; omega
      have hw5 : wrap64 (K + 1 + 1 + 1 + 1 + 1) = K + 1 + 1 + 1 + 1 + 1 := by unfold wrap64; omega
      have hw6 : wrap64 (K + 1 + 1 + 1 + 1 + 1 + 1) = K + 1 + 1 + 1 + 1 + 1 + 1 := by unfold wrap64; omega
      rw [← hK] at c0 c1 c2 c3 c4 c5 ⊢
      replace hK := hide hK
      clear hc
      go_wp2_with fail
      go_round
      case rel => exact ⟨j + 1, by omega, by go_num, by rw [hK.out]; congr 1; unfold wrap64; omega⟩
      case measure => simp [intOf]; omega
    · obtain rfl : j = n := by omega
      go_wp2_with fail
      go_ret
      exact ⟨rfl, rfl⟩

set_option maxHeartbeats 3200000 in
theorem heldThreadS_any (A : Option Addr) (ts : List (List InsD)) (c k : Nat) (S : Nat → Prop) (w : World) (hn : tsSize ts ≤ 1048576) (hk : k ≤ 2097152) (h : ThreadsAt w S A (markTo ts k ts.length)) :
    Calls Try.prog 89 #[.slice A ts.length c, .int .i64 (k : Int)] w fun e w' => e = .returned (.int .i64 ((k + insTo ts ts.length * 6 : Nat) : Int)) ∧ w = w' := by
  have hl := insTo_le ts 0
  go_enter Try.func89, Try.ntmps89
  go_wp2_with fail
  go_loop [1, 5] (fun l i => ∃ (j : Nat), j ≤ ts.length ∧ i = .int .i64 j ∧ l = .int .i64 ((k + insTo ts j * 6 : Nat) : Int)) (fun _ i => ts.length - (intOf i).toNat)
  case atStart => exact ⟨0, Nat.zero_le _, rfl, by rw [insTo_zero]; rfl⟩
  case round =>
    obtain ⟨j, hj, rfl, rfl⟩ := hrel
    by_cases hlt : j < ts.length
    · have hs1 := insTo_succ ts j hlt
      have hs2 := insTo_le ts (j + 1)
      obtain ⟨b, off, rfl, _, hc⟩ := h.2 (by rw [markTo_len]; omega)
      obtain ⟨A5, c5, c0, -, hin⟩ := hc j (by rw [markTo_len]; exact hlt)
      rw [markTo_get ts k _ j hlt, if_pos hlt] at c0 hin
      rw [markL_len] at c0
      have hlt' : (j : Int) < (ts.length : Int) := by omega
      have HM := hide (heldInsS_any A5 (gett ts j).length c5 (k + insTo ts j * 6) S w (by omega) (by omega) hin)
      have hneg : decide (((k + insTo ts j * 6 + (gett ts j).length * 6 : Nat) : Int) < 0) = false := decide_eq_false (by omega)
      have hlen := hide (show insTo ts (j + 1) = insTo ts j + (gett ts j).length from hs1)
      clear hc hin hs1
      go_wp2_with fail
      refine HM.out.mono ?_
      rintro e w1 ⟨rfl, rfl⟩
      go_wp2_with fail
      go_round
      case rel => exact ⟨j + 1, by omega, by go_num, by rw [hlen.out]; congr 2; omega⟩
      case measure => simp [intOf]; omega
    · obtain rfl : j = ts.length := by omega
      go_wp2_with fail
      go_ret
      exact ⟨rfl, rfl⟩

set_option maxHeartbeats 3200000 in
theorem heldProg_any (u : Value) (p : ProgD) (k : Nat) (S : Nat → Prop) (w : World) (hS : ∀ b, S b → b < w.heap.size) (hn : progSize p ≤ 1048576) (hk : k ≤ 1048576) (h : ProgAt w S u ⟨marks k p.init.length, markTo p.ts (k + p.init.length) p.ts.length⟩) :
    Calls Try.prog 46 #[u, .int .i64 (k : Int)] w fun e w' => e = .returned (.int .i64 ((k + p.init.length + insTo p.ts p.ts.length * 6 : Nat) : Int)) ∧ Below w.heap.size w w' := by
  obtain ⟨zs, ts⟩ := p
  simp only at h ⊢
  have hn1 : zs.length ≤ 1048576 := by unfold progSize at hn; simp only at hn; omega
  have hn2 : tsSize ts ≤ 1048576 := by unfold progSize at hn; simp only at hn; omega
  have hs2 := insTo_le ts ts.length
  obtain ⟨A, c, A2, c2, rfl, -, hi, ht⟩ := h
  simp only [marks_len, markTo_len] at hi ht ⊢
  have hb0 := below1 w (Obj.cells #[.slice A zs.length c, .slice A2 ts.length c2] 37)
  have X0 := Blk.new w 37 #[.slice A zs.length c, .slice A2 ts.length c2]
  have HI := hide (heldIntS_any A zs.length c k S _ hn1 (by omega) (fun b h => Nat.lt_of_lt_of_le (hS b h) hb0.size) (hi.below hb0 hS))
  have HT := hide (heldThreadS_any A2 ts c2 (k + zs.length) S _ hn2 (by omega) (ht.below hb0 hS))
  have hneg : decide (((k + zs.length : Nat) : Int) < 0) = false := decide_eq_false (by omega)
  have hneg2 : decide (((k + zs.length + insTo ts ts.length * 6 : Nat) : Int) < 0) = false := decide_eq_false (by omega)
  have B0 := hide hb0
  clear hb0 X0 hi ht
  go_enter Try.func46, Try.ntmps46
  go_wp2_with fail
  refine HI.out.mono ?_
  rintro e w1 ⟨rfl, rfl⟩
  go_wp2_with fail
  refine HT.out.mono ?_
  rintro e w2 ⟨rfl, rfl⟩
  go_wp2_with fail
  go_ret
  exact ⟨rfl, B0.out⟩
end Go.Proofs.Ytjendjbbhohjcaa

namespace Go.Proofs.Ytjendjbbhohjcaa
open Go.RowKit

theorem inn_grown {a b : Nat} {r : Option Nat} {w w' : World} (h : w.grownBy w' r) (hr : ∀ x, r = some x → a ≤ x ∧ x < b) : Inn a b w w' :=
  ⟨h.os, h.tape, h.output, h.size, fun k hk hn => h.block k hk (fun e => hn (hr k e.symm))⟩
theorem RvI.inn {t : TypeId} {w w' : World} {lo hi a b n : Nat} {v : Value} {zs : List Int} (h : RvI t w a b v n zs) (hi' : Inn lo hi w w') (ha : b ≤ lo ∨ hi ≤ a) : RvI t w' a b v n zs :=
  ⟨h.1.keep (fun k hk e => hi'.block k hk (fun e' => by
    have h1 := h.2 k e
    have h2 := (h.1.own_lt e).1
    omega)), h.2⟩
theorem blk_inn {lo hi q : Nat} {t : TypeId} {cs : Array Value} {w w' : World} (h : Blk w q t cs) (hi' : Inn lo hi w w') (hq : q < lo ∨ hi ≤ q) : Blk w' q t cs :=
  (hi'.block q h.lt (fun e => by omega)).trans h
end Go.Proofs.Ytjendjbbhohjcaa

namespace Go.Proofs.Ytjendjbbhohjcaa
open Go.RowKit

theorem Blk.next {q : Nat} {t : TypeId} {cs : Array Value} {w w' : World} (h : Blk w q t cs) (hb : Below w.heap.size w w') : Blk w' q t cs := h.below hb h.lt
structure PrI (w : World) (lo hi : Nat) (q : ProgD) (v tv : Value) (vs : List Value) : Prop where
  own : ProgOwn w lo q.init v q.ts vs tv
  top : ∀ b, OwnS v tv vs q.ts.length b → b < hi
def markD (q : ProgD) : ProgD := ⟨marks 1 q.init.length, markTo q.ts (1 + q.init.length) q.ts.length⟩
def markM (q : ProgD) : Nat := 1 + q.init.length + insTo q.ts q.ts.length * 6
section
variable {w w' : World} {lo hi lo' hi' : Nat} {q : ProgD} {v tv v' tv' : Value} {vs vs' : List Value}
theorem PrI.of (h : ProgOwn w lo q.init v q.ts vs tv) : PrI w lo w.heap.size q v tv vs := ⟨h, fun _ hb => (h.own_lt hb).2⟩
theorem PrI.next (h : PrI w lo hi q v tv vs) (hb : Below w.heap.size w w') : PrI w' lo hi q v tv vs := ⟨h.own.keep (fun b _ hlt => hb.block b hlt), h.top⟩
theorem PrI.inn (h : PrI w lo hi q v tv vs) (hn : Inn lo' hi' w w') (ha : hi ≤ lo' ∨ hi' ≤ lo) : PrI w' lo hi q v tv vs :=
  ⟨h.own.sets (S := fun b => lo' ≤ b ∧ b < hi') ⟨hn.os, hn.tape, hn.output, hn.size, hn.block⟩ (fun b h1 h2 => by
    have h3 := h.top b h2
    have h4 := (h.own.own_lt h2).1
    omega), h.top⟩
theorem PrI.at_ (h : PrI w lo hi q v tv vs) : ProgAt w (Old w.heap.size) (.agg #[v, tv]) q := h.own.at_.more (fun _ k => k.2)
theorem PrI.eq (h : PrI w lo hi q v tv vs) (k : PrI w lo' hi' q v' tv' vs') :
    Calls Try.prog 44 #[.agg #[v, tv], .agg #[v', tv']] w fun e w' => e = .returned (.bool true) ∧ Below w.heap.size w w' :=
  eqProg_any _ _ q _ w (fun _ h => h) h.at_ k.at_
theorem PrI.mark (h : PrI w lo hi q v tv vs) (hz : progSize q ≤ 1048576) :
    Calls Try.prog 45 #[.agg #[v, tv], .int .i64 1] w fun e w' => e = .returned (.int .i64 (markM q : Int)) ∧ PrI w' lo hi (markD q) v tv vs ∧ Inn lo hi w w' := by
  refine (markProgO (k := 1) h.own hz (by omega)).mono ?_
  rintro e w' ⟨rfl, h1, h2⟩
  exact ⟨rfl, ⟨h1, fun b hb => h.top b (by unfold markD at hb; simp only [markTo_len] at hb; exact hb)⟩, ⟨h2.os, h2.tape, h2.output, h2.size, fun k hk hn => h2.block k hk (fun e => hn ⟨(h.own.own_lt e).1, h.top k e⟩)⟩⟩
theorem PrI.held (h : PrI w lo hi (markD q) v tv vs) (hz : progSize q ≤ 1048576) :
    Calls Try.prog 46 #[.agg #[v, tv], .int .i64 1] w fun e w' => e = .returned (.int .i64 (markM q : Int)) ∧ Below w.heap.size w w' :=
  heldProg_any _ q 1 _ w (fun _ h => h) hz (by omega) h.at_
theorem FenR.form {e : Ending} {ok : Bool} (h : FenR w w' e q ok) : ∃ A c A' c' vs, e = .returned (.tuple #[.agg #[.slice A q.init.length c, .slice A' q.ts.length c'], .bool ok]) ∧ PrI w' w.heap.size w'.heap.size q (.slice A q.init.length c) (.slice A' q.ts.length c') vs ∧ Below w.heap.size w w' := by
  obtain ⟨v, tv, vs, rfl, h1, h2⟩ := h
  obtain ⟨A, c, rfl, -⟩ := own_form h1.ints
  obtain ⟨A', c', rfl, -⟩ := own_form h1.rows
  exact ⟨A, c, A', c', vs, rfl, .of h1, h2⟩
end
theorem insTo_bound (ts : List (List InsD)) (B k : Nat) (h : ∀ j, j < ts.length → (gett ts j).length ≤ B) (hk : k ≤ ts.length) : insTo ts k ≤ k * B := by
  induction k with
  | zero => rw [insTo_zero]; omega
  | succ k ih =>
    have h1 := ih (by omega)
    have h2 := h k (by omega)
    rw [insTo_succ ts k (by omega), Nat.succ_mul]
    omega
end Go.Proofs.Ytjendjbbhohjcaa

namespace Go.Proofs.Ytjendjbbhohjcaa
open Go.RowKit

structure FX (n b6 l0 h0 : Nat) (A1 A2 A A5 A6 : Option Addr) (c1 c2 c5 c6 : Nat) (p qd : ProgD) (zs : List Int) (vs0 : List Value) (w : World) : Prop where
  e : EpR n A1 A2 c1 c2 p w
  s : IntsAt w (Old n) A zs
  x : Blk w b6 37 #[.slice A5 qd.init.length c5, .slice A6 qd.ts.length c6]
  w0 : PrI w l0 h0 qd (.slice A5 qd.init.length c5) (.slice A6 qd.ts.length c6) vs0
  b : n < b6 ∧ h0 ≤ b6
section
variable {n b6 l0 h0 : Nat} {A1 A2 A A5 A6 : Option Addr} {c1 c2 c5 c6 : Nat} {p qd : ProgD} {zs : List Int} {vs0 : List Value} {w w' : World}
theorem FX.next (h : FX n b6 l0 h0 A1 A2 A A5 A6 c1 c2 c5 c6 p qd zs vs0 w) (hb : Below w.heap.size w w') : FX n b6 l0 h0 A1 A2 A A5 A6 c1 c2 c5 c6 p qd zs vs0 w' :=
  ⟨h.e.next hb, h.s.below hb (old_lts (Nat.le_of_lt h.e.bp.lt)), h.x.next hb, h.w0.next hb, h.b⟩
theorem FX.nle (h : FX n b6 l0 h0 A1 A2 A A5 A6 c1 c2 c5 c6 p qd zs vs0 w) : n ≤ w.heap.size := Nat.le_of_lt h.e.bp.lt
theorem FX.cells (h : FX n b6 l0 h0 A1 A2 A A5 A6 c1 c2 c5 c6 p qd zs vs0 w) : w.cell? ⟨n, 0, none⟩ = some (.slice A1 p.init.length c1) ∧ w.cell? ⟨n, 1, none⟩ = some (.slice A2 p.ts.length c2) := h.e.cells
theorem FX.cells6 (h : FX n b6 l0 h0 A1 A2 A A5 A6 c1 c2 c5 c6 p qd zs vs0 w) : w.cell? ⟨b6, 0, none⟩ = some (.slice A5 qd.init.length c5) ∧ w.cell? ⟨b6, 1, none⟩ = some (.slice A6 qd.ts.length c6) := ⟨h.x.cell 0, h.x.cell 1⟩
theorem FX.inn {a b : Nat} (h : FX n b6 l0 h0 A1 A2 A A5 A6 c1 c2 c5 c6 p qd zs vs0 w) (hi' : Inn a b w w') (hn : n < a) (hl : a ≤ w.heap.size) (h6 : b6 < a ∨ b ≤ b6) (h7 : h0 ≤ a ∨ b ≤ l0) : FX n b6 l0 h0 A1 A2 A A5 A6 c1 c2 c5 c6 p qd zs vs0 w' :=
  ⟨h.e.inn hi' hn hl, h.s.below (hi'.below hl) (fun _ k => Nat.lt_trans k hn), blk_inn h.x hi' h6, h.w0.inn hi' h7, h.b⟩
theorem cells14 {b8 q1 qu : Nat} (h : EpR n A1 A2 c1 c2 p w) (x : Blk w b8 37 #[.slice (some ⟨q1, 0, none⟩) p.init.length p.init.length, .slice (some ⟨qu, 0, none⟩) p.ts.length p.ts.length]) : (w.cell? ⟨n, 0, none⟩ = some (.slice A1 p.init.length c1) ∧ w.cell? ⟨n, 1, none⟩ = some (.slice A2 p.ts.length c2)) ∧ w.cell? ⟨b8, 0, none⟩ = some (.slice (some ⟨q1, 0, none⟩) p.init.length p.init.length) ∧ w.cell? ⟨b8, 1, none⟩ = some (.slice (some ⟨qu, 0, none⟩) p.ts.length p.ts.length) := ⟨⟨h.bp.cell 0, h.bp.cell 1⟩, x.cell 0, x.cell 1⟩
end
end Go.Proofs.Ytjendjbbhohjcaa
