/- laws' helpers on a file: markFile, heldFile. -/
import Derived.Test.YtaiklooffkmjjaaL2f
import Derived.Test.YtaiklooffkmjjaaFileE
namespace Go.Proofs.Ytaiklooffkmjjaa
open Go.RowKit

set_option maxHeartbeats 800000 in
theorem markFile_any (q : Nat) (zs : List Int) (c k : Nat) (w : World) (hn : zs.length ≤ 1048576) (hk : k ≤ 4194304) (h : RowB w q zs) :
    Calls Try.prog 26 #[.agg #[.slice (some ⟨q, 0, none⟩) zs.length c], .int .i64 k] w fun e w' => e = .returned (.int .i64 ((k + zs.length : Nat) : Int)) ∧ RowB w' q (marks k zs.length) ∧ Only q w w' := by
  have hb0 := below1 w (Obj.cells #[Value.slice (some ⟨q, 0, none⟩) zs.length c] 32)
  have h1 := h.below hb0
  go_enter Try.func26, Try.ntmps26
  go_wp2_with fail
  refine (markIntS_any q zs c k _ hn hk h1).mono ?_
  rintro e w1 ⟨rfl, hr, ho⟩
  go_wp2_with fail
  go_ret
  exact ⟨rfl, hr, (Only.of_below hb0).trans ho⟩
set_option maxHeartbeats 800000 in
theorem markFile_nil (w : World) :
    Calls Try.prog 26 #[.agg #[.slice none 0 0], .int .i64 1] w fun e w' => e = .returned (.int .i64 1) ∧ Below w.heap.size w w' := by
  have km : ∀ w, Calls Try.prog 62 #[.slice none 0 0, .int .i64 1] w fun e w' => e = .returned (.int .i64 1) ∧ w = w' := fun w => by
    go_enter Try.func62, Try.ntmps62
    go_wp2_with fail
    go_loop [1, 5] (fun l i => i = .int .i64 0 ∧ l = .int .i64 1) (fun _ _ => 0)
    case atStart => exact ⟨rfl, rfl⟩
    case round =>
      obtain ⟨rfl, rfl⟩ := hrel
      go_wp2_with fail
      go_ret
      exact ⟨rfl, rfl⟩
  replace km := hide km
  go_enter Try.func26, Try.ntmps26
  go_wp2_with fail
  refine (km.out _).mono ?_
  rintro e w1 ⟨rfl, rfl⟩
  go_wp2_with fail
  go_ret
  exact ⟨rfl, below1 _ _⟩
set_option maxHeartbeats 800000 in
theorem heldFile_any (A : Option Addr) (n c k : Nat) (S : Nat → Prop) (w : World) (hn : n ≤ 1048576) (hk : k ≤ 4194304) (hS : ∀ b, S b → b < w.heap.size) (h : IntsAt w S A (marks k n)) :
    Calls Try.prog 27 #[.agg #[.slice A n c], .int .i64 k] w fun e w' => e = .returned (.int .i64 ((k + n : Nat) : Int)) ∧ Below w.heap.size w w' := by
  have hb0 := below1 w (Obj.cells #[Value.slice A n c] 32)
  have hge : (0 : Int) ≤ ((k + n : Nat) : Int) := by omega
  go_enter Try.func27, Try.ntmps27
  go_wp2_with fail
  refine (heldIntS_any A n c k S _ hn hk (fun b h => Nat.lt_of_lt_of_le (hS b h) hb0.size) (h.below hb0 hS)).mono ?_
  rintro e w1 ⟨rfl, rfl⟩
  go_wp2_with fail
  go_ret
  exact ⟨rfl, hb0⟩
end Go.Proofs.Ytaiklooffkmjjaa
