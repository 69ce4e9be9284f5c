/- slices.Clone of numbers and of Waits; isCell and l3cell. -/
import Derived.Test.YtmfjdmhcpgljbaaWait
namespace Go.Proofs.Ytmfjdmhcpgljbaa
open Go.RowKit


/-- Is x the number of one of m cells? -/
def cellB (x : Int) (m : Nat) : Bool := decide (0 ≤ x ∧ x < m)
theorem cellB_yes {x : Int} {m : Nat} (h : 0 ≤ x ∧ x < m) : cellB x m = true := decide_eq_true h
theorem cellB_no {x : Int} {m : Nat} (h : ¬ (0 ≤ x ∧ x < m)) : cellB x m = false := decide_eq_false h

set_option maxHeartbeats 800000 in
theorem isCell_any (x : Int) (m : Nat) (w : World) : Calls Try.prog 85 #[.int .i64 x, .int .i64 m] w fun e w' => e = .returned (.bool (cellB x m)) ∧ w = w' := by
  by_cases h0 : 0 ≤ x
  · by_cases h1 : x < m
    · rw [cellB_yes ⟨h0, h1⟩]
      go_enter Try.func85, Try.ntmps85
      go_wp2
      go_ret
      exact ⟨rfl, rfl⟩
    · rw [cellB_no (by omega)]
      have h2 : decide (x < (m : Int)) = false := by simpa using h1
      go_enter Try.func85, Try.ntmps85
      go_wp2
      go_ret
      exact ⟨rfl, rfl⟩
  · rw [cellB_no (by omega)]
    have h2 : decide (0 ≤ x) = false := by simpa using h0
    go_enter Try.func85, Try.ntmps85
    go_wp2
    go_ret
    exact ⟨rfl, rfl⟩

set_option maxHeartbeats 800000 in
theorem l3cell_any (A : Option Addr) (m c : Nat) (x : Int) (w : World) : Calls Try.prog 86 #[.slice A m c, .int .i64 x] w fun e w' => e = .returned (.bool (cellB x m)) ∧ w = w' := by
  by_cases h0 : 0 ≤ x
  · by_cases h1 : x < m
    · rw [cellB_yes ⟨h0, h1⟩]
      go_enter Try.func86, Try.ntmps86
      go_wp2
      go_ret
      exact ⟨rfl, rfl⟩
    · rw [cellB_no (by omega)]
      have h2 : decide (x < (m : Int)) = false := by simpa using h1
      go_enter Try.func86, Try.ntmps86
      go_wp2
      go_ret
      exact ⟨rfl, rfl⟩
  · rw [cellB_no (by omega)]
    have h2 : decide (0 ≤ x) = false := by simpa using h0
    go_enter Try.func86, Try.ntmps86
    go_wp2
    go_ret
    exact ⟨rfl, rfl⟩

set_option maxRecDepth 100000 in
set_option maxHeartbeats 1600000 in
theorem cloneInts_any (A : Option Addr) (zs : List Int) (n c : Nat) (w : World) (hn : zs.length = n) (hz2 : n ≤ 1048576) (hS : IntsAt w (Old w.heap.size) A zs) :
    Calls Try.prog 87 #[.slice A n c] w fun e w' => RowO 3 1 w w' e n zs := by
  rcases A with _ | ad
  · have hz : zs = [] := by
      rcases Nat.eq_zero_or_pos zs.length with h | h
      · exact List.eq_nil_of_length_eq_zero h
      · obtain ⟨b, off, e, _⟩ := hS.2 h
        cases e
    subst hz
    obtain rfl : n = 0 := by simpa using hn.symm
    clear hn hS
    have he : ∀ w : World, (binOp .eql 23 (.slice none 0 c) (.slice none 0 0)).run Try.prog w = .ok (.bool true) w := fun _ => by kernel_rfl
    go_enter Try.func87, Try.ntmps87
    go_wp2
    go_ret
    exact ⟨none, 0, rfl, ⟨rfl, .inl ⟨rfl, rfl⟩⟩, Below.refl _ _⟩
  · obtain ⟨i1, hi1, hy0, hy1, hy2⟩ := info_parts Try.infoInt
    have hb0 := below1 w (Obj.cells #[] 3)
    have hsrc := hide (hS.below hb0 (fun _ h => h))
    clear hS
    replace hn := hide hn
    have he : ∀ w : World, (binOp .eql 23 (.slice (some ad) n c) (.slice none 0 0)).run Try.prog w = .ok (.bool false) w := fun _ => by kernel_rfl
    go_enter Try.func87, Try.ntmps87
    go_wp2_with (at_builtin; refine wpList_append_src _ rfl _ _ _ rfl w.heap.size 3 i1 _ 1 8 Try.underlying23 hi1 hy0 hy1 hy2 rfl (by omega) (.slice (some ⟨w.heap.size, 0, none⟩) 0 0) 0 [] rfl (own_row (Nat.le_refl _) (by omega) rfl) (Old w.heap.size) (some ad) n c zs rfl (by rw [hn.out]; simp) hsrc.out (by have : maxLen = 9223372036854775807 := rfl; omega) (by omega) (by simp) ?_)
    intro A' c' w2 hown hgr hat
    go_wp2_with fail
    go_ret
    exact ⟨A', c', by simp, hown, hb0.trans (below_own hgr (fun k hk => by simp [Value.ownBlock]; omega) (by simp))⟩

set_option maxRecDepth 100000 in
set_option maxHeartbeats 1600000 in
theorem cloneWaits_any (A : Option Addr) (zs : List Int) (n c : Nat) (w : World) (hn : zs.length = n * 2) (hz2 : n ≤ 1048576) (hS : IntsAt w (Old w.heap.size) A zs) :
    Calls Try.prog 88 #[.slice A n c] w fun e w' => RowO 62 2 w w' e n zs := by
  rcases A with _ | ad
  · have hz : zs = [] := by
      rcases Nat.eq_zero_or_pos zs.length with h | h
      · exact List.eq_nil_of_length_eq_zero h
      · obtain ⟨b, off, e, _⟩ := hS.2 h
        cases e
    subst hz
    obtain rfl : n = 0 := by simp at hn; omega
    clear hn hS
    have he : ∀ w : World, (binOp .eql 52 (.slice none 0 c) (.slice none 0 0)).run Try.prog w = .ok (.bool true) w := fun _ => by kernel_rfl
    go_enter Try.func88, Try.ntmps88
    go_wp2
    go_ret
    exact ⟨none, 0, rfl, ⟨rfl, .inl ⟨rfl, rfl⟩⟩, Below.refl _ _⟩
  · obtain ⟨i1, hi1, hy0, hy1, hy2⟩ := info_parts Try.infoWait
    have hb0 := below1 w (Obj.cells #[] 62)
    have hsrc := hide (hS.below hb0 (fun _ h => h))
    clear hS
    replace hn := hide hn
    have he : ∀ w : World, (binOp .eql 52 (.slice (some ad) n c) (.slice none 0 0)).run Try.prog w = .ok (.bool false) w := fun _ => by kernel_rfl
    go_enter Try.func88, Try.ntmps88
    go_wp2_with (at_builtin; refine wpList_append_src _ rfl _ _ _ rfl w.heap.size 62 i1 _ 2 16 Try.underlying52 hi1 hy0 hy1 hy2 rfl (by omega) (.slice (some ⟨w.heap.size, 0, none⟩) 0 0) 0 [] rfl (own_row (Nat.le_refl _) (by omega) rfl) (Old w.heap.size) (some ad) n c zs rfl hn.out hsrc.out (by have : maxLen = 9223372036854775807 := rfl; omega) (by omega) (by simp) ?_)
    intro A' c' w2 hown hgr hat
    go_wp2_with fail
    go_ret
    exact ⟨A', c', by simp, hown, hb0.trans (below_own hgr (fun k hk => by simp [Value.ownBlock]; omega) (by simp))⟩
end Go.Proofs.Ytmfjdmhcpgljbaa
