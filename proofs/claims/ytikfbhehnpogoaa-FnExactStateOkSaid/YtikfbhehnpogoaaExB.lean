/- (What ExI says of numbers, of buffers.) The laws' helpers on rows of Waits. -/
import Derived.Test.YtikfbhehnpogoaaWait
import Derived.Test.YtikfbhehnpogoaaExI
namespace Go.Proofs.Ytikfbhehnpogoaa
open Go.RowKit

theorem eqBufI {w : World} {lo hi lo' hi' n c c' : Nat} {A A' : Option Addr} {zs : List Int} (hz : zs.length = n * 2) (hn : n ≤ 1048577) (h : RvI 156 w lo hi (.slice A n c) n zs) (k : RvI 156 w lo' hi' (.slice A' n c') n zs) :
    Calls Try.prog 127 #[.agg #[.slice A n c], .agg #[.slice A' n c']] w fun e w' => e = .returned (.bool true) ∧ Below w.heap.size w w' :=
  eqBuf_any A A' zs n c c' _ w hz (fun _ h => h) (h.src (by omega) rfl) (k.src (by omega) rfl)

set_option maxHeartbeats 800000 in
theorem markWaitS_none (c : Nat) (k : Int) (w : World) : Calls Try.prog 131 #[.slice none 0 c, .int .i64 k] w fun e w' => e = .returned (.int .i64 k) ∧ w = w' := by
  go_enter Try.func131, Try.ntmps131
  go_wp2_with fail
  go_loop [1, 5] (fun l i => i = .int .i64 0 ∧ l = .int .i64 k) (fun _ _ => 0)
  case atStart => exact ⟨rfl, rfl⟩
  case round =>
    obtain ⟨rfl, rfl⟩ := hrel
    go_wp2_with fail
    go_ret
    exact ⟨rfl, rfl⟩

theorem toBufI {A : Option Addr} {zs : List Int} {n c : Nat} {S : Nat → Prop} {w : World} (hz : zs.length = n * 2) (hn : n ≤ 1048576) (hS : ∀ b, S b → b < w.heap.size) (ha : IntsAt w S A zs) :
    Calls Try.prog 138 #[.agg #[.slice A n c]] w fun e w' => ∃ q, e = .returned (.agg #[.slice (some ⟨q, 0, none⟩) n n]) ∧ RvI 156 w' w.heap.size w'.heap.size (.slice (some ⟨q, 0, none⟩) n n) n zs ∧ Below w.heap.size w w' := by
  refine (toBuf_any A zs n c S w hz hn hS ha).mono ?_
  rintro e w' ⟨q, rfl, hq, hr, hb⟩
  exact ⟨q, rfl, RvI.of (.inr ⟨q, n, rfl, hr, hq⟩), hb⟩
theorem szBuf_big {A : Option Addr} {n c : Nat} (hn : n ≤ 9223372036854775807) (hbig : 1048576 < n) : ∀ w, Calls Try.prog 135 #[.agg #[.slice A n c], .int .i64 1048576] w fun e w' => e = .returned (.int .i64 (-1)) ∧ Below w.heap.size w w' := fun w => by
  have h := szBuf_any A n c w hn
  rw [szR_neg (by omega)] at h
  exact h
theorem szBuf_small {A : Option Addr} {n c : Nat} (hs : n ≤ 1048576) : ∃ s : Int, ¬ s < 0 ∧ ∀ w, Calls Try.prog 135 #[.agg #[.slice A n c], .int .i64 1048576] w fun e w' => e = .returned (.int .i64 s) ∧ Below w.heap.size w w' := by
  refine ⟨(1048576 : Int) - n, by omega, fun w => ?_⟩
  have h := szBuf_any A n c w (by omega)
  rw [szR_pos (by omega)] at h
  exact h
end Go.Proofs.Ytikfbhehnpogoaa
