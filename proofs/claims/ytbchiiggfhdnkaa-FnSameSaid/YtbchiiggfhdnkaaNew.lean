/- l1New: a cursor in new memory. -/
import Derived.Test.YtbchiiggfhdnkaaCur
namespace Go.Proofs.Ytbchiiggfhdnkaa
open Go.RowKit

set_option maxHeartbeats 1600000 in
theorem l1New_any (A : Option Addr) (n c : Nat) (w : World) (hn : n ≤ c) (ha : BytesAt w (Old w.heap.size) A n) :
    Calls Try.prog 58 #[.slice A n c] w fun e w' => ∃ g, e = .returned (.pointer (some ⟨g, 0, none⟩)) ∧ w.heap.size ≤ g ∧ Cur w' g ∧ Below w.heap.size w w' := by
  have hm := ha.1
  go_enter Try.func58, Try.ntmps58
  go_wp2
  go_loop [3, 4] (fun h i => ∃ (k : Nat) (x : Int), k ≤ n ∧ i = .int .i64 k ∧ h = .int .i64 x) (fun _ i => n - (intOf i).toNat)
  case atStart => exact ⟨0, _, Nat.zero_le _, rfl, rfl⟩
  case round =>
    obtain ⟨k, x, hk, rfl, rfl⟩ := hrel
    by_cases hlt : k < n
    · have hlt' : (k : Int) < (n : Int) := by omega
      by_cases h4 : k < 4000
      · have h4' : (k : Int) < 4000 := by omega
        obtain ⟨b, off, rfl, hS, hc⟩ := ha.2 (by omega)
        obtain ⟨u, hu0, hu1, hcell⟩ := hc k hlt
        clear hc
        go_wp2
        go_round
        case rel => exact ⟨k + 1, _, by omega, by go_num, rfl⟩
        case measure => simp [intOf]; omega
      · have h4' : ¬ (k : Int) < 4000 := by omega
        go_wp2
        go_ret
        exact ⟨_, rfl, Nat.le_refl _, ⟨A, n, c, 0, x, Blk.new _ _ _, Nat.zero_le _, ha.keep (fun b o hS => (below1 w _).cell (p := ⟨b, o, none⟩) hS)⟩, below1 _ _⟩
    · obtain rfl : k = n := by omega
      go_wp2
      go_ret
      exact ⟨_, rfl, Nat.le_refl _, ⟨A, k, c, 0, x, Blk.new _ _ _, Nat.zero_le _, ha.keep (fun b o hS => (below1 w _).cell (p := ⟨b, o, none⟩) hS)⟩, below1 _ _⟩
end Go.Proofs.Ytbchiiggfhdnkaa
