/- laws.sameInts: of rows that hold the same it is true; rows of literal numbers. -/
import Derived.Test.YthgpifeljeldjaaMkI
import Derived.Test.YthgpifeljeldjaaIntEq
namespace Go.Proofs.Ythgpifeljeldjaa
open Go.RowKit

set_option maxRecDepth 100000 in
set_option maxHeartbeats 800000 in
theorem sameInts_any (A A' : Option Addr) (zs : List Int) (n c c' : Nat) (S : Nat → Prop) (w : World) (hz : zs.length = n) (hS : ∀ b, S b → b < w.heap.size) (ha : IntsAt w S A zs) (ha' : IntsAt w S A' zs) :
    Calls Try.prog 52 #[.slice A n c, .slice A' n c'] w fun e w' => e = .returned (.bool true) ∧ Below w.heap.size w w' := by
  have hn := ha.1
  rw [hz] at hn
  replace hz := hide hz
  go_enter Try.func52, Try.ntmps52
  go_wp2
  go_loopw [5] (fun i wr => ∃ (k : Nat), k ≤ n ∧ i = .int .i64 k ∧ Below w.heap.size w wr) (fun i _ => n - (intOf i).toNat)
  case atStart => exact ⟨0, Nat.zero_le _, rfl, Below.refl _ _⟩
  case round =>
    obtain ⟨k, hk, rfl, hb⟩ := hrel
    by_cases hlt : k < n
    · obtain ⟨b, off, rfl, hbB, hc⟩ := (ha.below hb hS).2 (by rw [hz.out]; omega)
      obtain ⟨b', off', rfl, hbB', hc'⟩ := (ha'.below hb hS).2 (by rw [hz.out]; omega)
      have hcell := hc k (by rw [hz.out]; exact hlt)
      have hcell' := hc' k (by rw [hz.out]; exact hlt)
      have hx : ((k : Int) < (n : Int)) := by omega
      clear hc hc'
      go_wp2
      go_quiet (fail)
      go_wp2
      go_roundw
      case rel => exact ⟨k + 1, by omega, by go_num, below_drewN hb _⟩
      case measure => simp [intOf]; omega
    · obtain rfl : k = n := by omega
      go_wp2
      go_ret
      exact ⟨rfl, hb⟩
theorem sameIntsI {w : World} {lo hi lo' hi' n c c' : Nat} {A A' : Option Addr} {zs : List Int} (hz : zs.length = n) (hn : n ≤ 9223372036854775807) (h : RvI 3 w lo hi (.slice A n c) n zs) (k : RvI 3 w lo' hi' (.slice A' n c') n zs) :
    Calls Try.prog 52 #[.slice A n c, .slice A' n c'] w fun e w' => e = .returned (.bool true) ∧ Below w.heap.size w w' :=
  sameInts_any A A' zs n c c' _ w hz (fun _ h => h) (h.src (by omega) rfl) (k.src (by omega) rfl)
theorem lit_row (w : World) (x y : Int) : RvI 3 (w.alloc (Obj.cells #[Value.int .i64 x, Value.int .i64 y] 3)) w.heap.size (w.heap.size + 1) (.slice (some ⟨w.heap.size, 0, none⟩) 2 2) 2 [x, y] :=
  ⟨.inr ⟨_, _, rfl, ⟨_, Blk.new _ _ _, by simp, fun k hk => by
    match k, hk with
    | 0, _ => rfl
    | 1, _ => rfl⟩, Nat.le_refl _⟩, fun b hb => by simp [Value.ownBlock] at hb; omega⟩
theorem lit_row1 (w : World) (x : Int) : RvI 3 (w.alloc (Obj.cells #[Value.int .i64 x] 3)) w.heap.size (w.heap.size + 1) (.slice (some ⟨w.heap.size, 0, none⟩) 1 1) 1 [x] :=
  ⟨.inr ⟨_, _, rfl, ⟨_, Blk.new _ _ _, by simp, fun k hk => by
    match k, hk with
    | 0, _ => rfl⟩, Nat.le_refl _⟩, fun b hb => by simp [Value.ownBlock] at hb; omega⟩
end Go.Proofs.Ythgpifeljeldjaa
