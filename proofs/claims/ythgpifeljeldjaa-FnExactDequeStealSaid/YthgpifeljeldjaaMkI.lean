/- laws' helpers on a row of numbers: markIntS, heldIntS. -/
import Derived.Test.YthgpifeljeldjaaIntD
import Derived.Test.YthgpifeljeldjaaOnly
namespace Go.Proofs.Ythgpifeljeldjaa
open Go.RowKit

set_option maxHeartbeats 1600000 in
theorem markIntS_any (q : Nat) (zs : List Int) (c k : Nat) (w : World) (hn : zs.length ≤ 1048576) (hk : k ≤ 4194304) (h : RowB w q zs) :
    Calls Try.prog 29 #[.slice (some ⟨q, 0, none⟩) zs.length c, .int .i64 k] w fun e w' => e = .returned (.int .i64 ((k + zs.length : Nat) : Int)) ∧ RowB w' q (marks k zs.length) ∧ Only q w w' := by
  go_enter Try.func29, Try.ntmps29
  go_wp2_with fail
  go_loopw [1, 5] (fun l i wr => ∃ (j : Nat) (cs : Array Value), j ≤ zs.length ∧ i = .int .i64 j ∧ l = .int .i64 ((k + j : Nat) : Int) ∧ Blk wr q 3 cs ∧ Hid (zs.length ≤ cs.size) ∧ Hid (∀ m, m < j → cs[m]? = some (.int .i64 ((k + m : Nat) : Int))) ∧ Only q w wr) (fun _ i _ => zs.length - (intOf i).toNat)
  case atStart =>
    obtain ⟨cs, h1, h2, _⟩ := h
    exact ⟨0, cs, Nat.zero_le _, rfl, rfl, h1, hide h2, hide (fun m hm => by omega), Only.refl _ _⟩
  case round =>
    obtain ⟨j, cs, hj, rfl, rfl, hblk, hsz, hcs, ho⟩ := hrel
    by_cases hlt : j < zs.length
    · obtain ⟨v0, hv0⟩ : ∃ v0, cs[j]? = some v0 := ⟨cs[j]'(by have := hsz.out; omega), Array.getElem?_eq_getElem _⟩
      have hdst := (hblk.cell j).trans hv0
      have hfz := hblk.frozen j
      have HB := hide hblk
      have hlt' : (j : Int) < (zs.length : Int) := by omega
      clear hv0 hblk
      go_wp2_with fail
      go_roundw
      case rel =>
        refine ⟨j + 1, cs.setIfInBounds j (.int .i64 ((k + j : Nat) : Int)), by omega, by go_num, by go_num, HB.out.set_ j _, hide (by rw [Array.size_setIfInBounds]; exact hsz.out), hide (fun m hm => ?_), ho.setCell (.inl rfl) _⟩
        rw [Array.getElem?_setIfInBounds]
        by_cases e : j = m
        · subst e; rw [if_pos rfl, if_pos (by have := hsz.out; omega)]
        · rw [if_neg e]; exact hcs.out m (by omega)
      case measure => simp [intOf]; omega
    · obtain rfl : j = zs.length := by omega
      go_wp2_with fail
      go_ret
      exact ⟨rfl, ⟨cs, hblk, by rw [marks_len]; exact hsz.out, fun m hm => by rw [marks_len] at hm; rw [marks_get _ _ _ hm]; exact hcs.out m hm⟩, ho⟩

set_option maxHeartbeats 1600000 in
theorem heldIntS_any (A : Option Addr) (n c k : Nat) (S : Nat → Prop) (w : World) (hn : n ≤ 1048576) (hk : k ≤ 4194304) (_hS : ∀ b, S b → b < w.heap.size) (h : IntsAt w S A (marks k n)) :
    Calls Try.prog 37 #[.slice A n c, .int .i64 k] w fun e w' => e = .returned (.int .i64 ((k + n : Nat) : Int)) ∧ w = w' := by
  go_enter Try.func37, Try.ntmps37
  go_wp2_with fail
  go_loop [1, 5] (fun l i => ∃ (j : Nat), j ≤ n ∧ i = .int .i64 j ∧ l = .int .i64 ((k + j : Nat) : Int)) (fun _ i => n - (intOf i).toNat)
  case atStart => exact ⟨0, Nat.zero_le _, rfl, rfl⟩
  case round =>
    obtain ⟨j, hj, rfl, rfl⟩ := hrel
    by_cases hlt : j < n
    · obtain ⟨b, off, rfl, _, hc⟩ := h.2 (by rw [marks_len]; omega)
      have hcell := hc j (by rw [marks_len]; exact hlt)
      rw [marks_get _ _ _ hlt] at hcell
      have hlt' : (j : Int) < (n : Int) := by omega
      clear hc
      go_wp2_with fail
      go_round
      case rel => exact ⟨j + 1, by omega, by go_num, by go_num⟩
      case measure => simp [intOf]; omega
    · obtain rfl : j = n := by omega
      go_wp2_with fail
      go_ret
      exact ⟨rfl, rfl⟩

end Go.Proofs.Ythgpifeljeldjaa
