/- laws' helpers on a row of numbers: marks, toIntS, markIntS, heldIntS. -/
import Derived.Test.YtbeaijmilpefmaaCur
import Derived.Test.YtbeaijmilpefmaaSzEq
import Derived.Test.YtbeaijmilpefmaaToP
namespace Go.Proofs.Ytbeaijmilpefmaa
open Go.RowKit

/-- k, k + 1, .. -/
def marks (k : Nat) (n : Nat) : List Int := (List.range n).map (fun j => ((k + j : Nat) : Int))
theorem marks_len (k n : Nat) : (marks k n).length = n := by simp [marks]
theorem marks_get (k n j : Nat) (h : j < n) : geti (marks k n) j = ((k + j : Nat) : Int) := by
  simp [marks, geti, List.getD_eq_getElem?_getD, h]

/-- A row of numbers at the head of block q. -/
def RowB (w : World) (q : Nat) (zs : List Int) : Prop := ∃ cs, Blk w q 3 cs ∧ zs.length ≤ cs.size ∧ ∀ k, k < zs.length → cs[k]? = some (.int .i64 (geti zs k))
section
variable {w w' : World} {q g : Nat} {zs : List Int}
theorem RowB.lt (h : RowB w q zs) : q < w.heap.size := by obtain ⟨_, h, _⟩ := h; exact h.lt
theorem RowB.below (h : RowB w q zs) (hb : Below w.heap.size w w') : RowB w' q zs := by
  obtain ⟨cs, h1, h2⟩ := h
  exact ⟨cs, h1.below hb h1.lt, h2⟩
theorem RowB.only (h : RowB w q zs) (ho : Only g w w') (hg : q ≠ g) : RowB w' q zs := by
  obtain ⟨cs, h1, h2⟩ := h
  exact ⟨cs, h1.only ho hg, h2⟩
theorem RowB.ints (h : RowB w q zs) (hn : zs.length ≤ 9223372036854775807) : IntsAt w (fun b => b = q) (some ⟨q, 0, none⟩) zs := by
  obtain ⟨cs, h1, _, h2⟩ := h
  exact ⟨hn, fun _ => ⟨q, 0, rfl, rfl, fun k hk => by rw [Nat.zero_add]; exact (h1.cell k).trans (h2 k hk)⟩⟩
theorem RowB.of_own {B c : Nat} (h : w.ownsRow B 3 1 (.slice (some ⟨q, 0, none⟩) zs.length c) zs.length (zs.map (Value.int .i64))) : RowB w q zs ∧ B ≤ q := by
  rcases h.2 with ⟨hv, _⟩ | ⟨q', cap, cur, hv, hb, hh, hcap, hmax, hcs, ht⟩
  · cases hv
  · cases hv
    refine ⟨⟨cur, hh, by omega, fun k hk => ?_⟩, hb⟩
    have h1 : cur.toList[k]? = (zs.map (Value.int .i64))[k]? := by rw [← ht, List.getElem?_take, if_pos (by omega)]
    rw [← Array.getElem?_toList, h1]
    simp [geti, List.getD_eq_getElem?_getD, List.getElem?_eq_getElem hk]
end

set_option maxHeartbeats 800000 in
theorem toIntS_row (A : Option Addr) (zs : List Int) (c : Nat) (S : Nat → Prop) (w : World) (hn : zs.length ≤ 1048576) (hS : ∀ b, S b → b < w.heap.size) (ha : IntsAt w S A zs) :
    Calls Try.prog 56 #[.slice A zs.length c] w fun e w' => e = .returned (.slice (some ⟨w.heap.size, 0, none⟩) zs.length zs.length) ∧ RowB w' w.heap.size zs ∧ Below w.heap.size w w' := by
  have hmk := make_ints zs.length hn
  go_enter Try.func56, Try.ntmps56
  go_wp2
  clear hmk
  go_loopw [4] (fun i wr => ∃ (k : Nat) (cs : Array Value), k ≤ zs.length ∧ i = .int .i64 k ∧ Blk wr w.heap.size 3 cs ∧ Hid (cs.size = zs.length) ∧ Hid (∀ j, j < k → cs[j]? = some (.int .i64 (geti zs j))) ∧ Below w.heap.size w wr) (fun i _ => zs.length - (intOf i).toNat)
  case atStart => exact ⟨0, _, Nat.zero_le _, rfl, Blk.new _ _ _, hide (zrow_size1 _ _), hide (fun j hj => by omega), below1 _ _⟩
  case round =>
    obtain ⟨k, cs, hk, rfl, hblk, hsz, hcs, hb⟩ := hrel
    by_cases hlt : k < zs.length
    · obtain ⟨b, off, rfl, hbB, hc⟩ := (ha.below hb hS).2 (by omega)
      have hcell := hc k hlt
      obtain ⟨v0, hv0⟩ : ∃ v0, cs[k]? = some v0 := ⟨cs[k]'(by have := hsz.out; omega), Array.getElem?_eq_getElem _⟩
      have hdst := (hblk.cell k).trans hv0
      have hfz := hblk.frozen k
      have HB := hide hblk
      clear hv0 hblk hc
      go_wp2
      go_roundw
      case rel =>
        refine ⟨k + 1, cs.setIfInBounds k (.int .i64 (geti zs k)), by omega, by go_num, HB.out.set_ k _, hide (by rw [Array.size_setIfInBounds]; exact hsz.out), hide (fun j hj => ?_), hb.setCell (Nat.le_refl _) _⟩
        rw [Array.getElem?_setIfInBounds]
        by_cases e : k = j
        · subst e; rw [if_pos rfl, if_pos (by have := hsz.out; omega)]
        · rw [if_neg e]; exact hcs.out j (by omega)
      case measure => simp [intOf]; omega
    · obtain rfl : k = zs.length := by omega
      go_wp2
      go_ret
      exact ⟨rfl, ⟨cs, hblk, Nat.le_of_eq hsz.out.symm, hcs.out⟩, hb⟩

set_option maxHeartbeats 1600000 in
theorem markIntS_any (q : Nat) (zs : List Int) (c k : Nat) (w : World) (hn : zs.length ≤ 1048576) (hk : k ≤ 4194304) (h : RowB w q zs) :
    Calls Try.prog 71 #[.slice (some ⟨q, 0, none⟩) zs.length c, .int .i64 k] w fun e w' => e = .returned (.int .i64 ((k + zs.length : Nat) : Int)) ∧ RowB w' q (marks k zs.length) ∧ Only q w w' := by
  go_enter Try.func71, Try.ntmps71
  go_wp2_with fail
  go_loopw [1, 5] (fun l i wr => ∃ (j : Nat) (cs : Array Value), j ≤ zs.length ∧ i = .int .i64 j ∧ l = .int .i64 ((k + j : Nat) : Int) ∧ Blk wr q 3 cs ∧ Hid (zs.length ≤ cs.size) ∧ Hid (∀ m, m < j → cs[m]? = some (.int .i64 ((k + m : Nat) : Int))) ∧ Only q w wr) (fun _ i _ => zs.length - (intOf i).toNat)
  case atStart =>
    obtain ⟨cs, h1, h2, _⟩ := h
    exact ⟨0, cs, Nat.zero_le _, rfl, rfl, h1, hide h2, hide (fun m hm => by omega), Only.refl _ _⟩
  case round =>
    obtain ⟨j, cs, hj, rfl, rfl, hblk, hsz, hcs, ho⟩ := hrel
    by_cases hlt : j < zs.length
    · obtain ⟨v0, hv0⟩ : ∃ v0, cs[j]? = some v0 := ⟨cs[j]'(by have := hsz.out; omega), Array.getElem?_eq_getElem _⟩
      have hdst := (hblk.cell j).trans hv0
      have hfz := hblk.frozen j
      have HB := hide hblk
      have hlt' : (j : Int) < (zs.length : Int) := by omega
      clear hv0 hblk
      go_wp2_with fail
      go_roundw
      case rel =>
        refine ⟨j + 1, cs.setIfInBounds j (.int .i64 ((k + j : Nat) : Int)), by omega, by go_num, by go_num, HB.out.set_ j _, hide (by rw [Array.size_setIfInBounds]; exact hsz.out), hide (fun m hm => ?_), ho.setCell (.inl rfl) _⟩
        rw [Array.getElem?_setIfInBounds]
        by_cases e : j = m
        · subst e; rw [if_pos rfl, if_pos (by have := hsz.out; omega)]
        · rw [if_neg e]; exact hcs.out m (by omega)
      case measure => simp [intOf]; omega
    · obtain rfl : j = zs.length := by omega
      go_wp2_with fail
      go_ret
      exact ⟨rfl, ⟨cs, hblk, by rw [marks_len]; exact hsz.out, fun m hm => by rw [marks_len] at hm; rw [marks_get _ _ _ hm]; exact hcs.out m hm⟩, ho⟩

set_option maxHeartbeats 1600000 in
theorem heldIntS_any (A : Option Addr) (n c k : Nat) (S : Nat → Prop) (w : World) (hn : n ≤ 1048576) (hk : k ≤ 4194304) (_hS : ∀ b, S b → b < w.heap.size) (h : IntsAt w S A (marks k n)) :
    Calls Try.prog 76 #[.slice A n c, .int .i64 k] w fun e w' => e = .returned (.int .i64 ((k + n : Nat) : Int)) ∧ w = w' := by
  go_enter Try.func76, Try.ntmps76
  go_wp2_with fail
  go_loop [1, 5] (fun l i => ∃ (j : Nat), j ≤ n ∧ i = .int .i64 j ∧ l = .int .i64 ((k + j : Nat) : Int)) (fun _ i => n - (intOf i).toNat)
  case atStart => exact ⟨0, Nat.zero_le _, rfl, rfl⟩
  case round =>
    obtain ⟨j, hj, rfl, rfl⟩ := hrel
    by_cases hlt : j < n
    · obtain ⟨b, off, rfl, _, hc⟩ := h.2 (by rw [marks_len]; omega)
      have hcell := hc j (by rw [marks_len]; exact hlt)
      rw [marks_get _ _ _ hlt] at hcell
      have hlt' : (j : Int) < (n : Int) := by omega
      clear hc
      go_wp2_with fail
      go_round
      case rel => exact ⟨j + 1, by omega, by go_num, by go_num⟩
      case measure => simp [intOf]; omega
    · obtain rfl : j = n := by omega
      go_wp2_with fail
      go_ret
      exact ⟨rfl, rfl⟩

end Go.Proofs.Ytbeaijmilpefmaa
