/- The model's PlaceOf, for any history. -/
import Derived.Test.YtikfbhehnpogoaaPlD
import Derived.Test.YtikfbhehnpogoaaExI
import Derived.Deep.RegionLaw
import Derived.Deep.DeepCutAuto
import Derived.Deep.DrawnRows
namespace Go.Proofs.Ytikfbhehnpogoaa
open Go.RowKit

attribute [local go_sem ↓] Go.wp_at_zero Go.wp_at_succ

set_option maxRecDepth 100000 in
set_option maxHeartbeats 800000 in
theorem splaceOf_any (A : Option Addr) (l : List PostD) (c : Nat) (i : Int) (w : World) (hS : PostsAt w (Old w.heap.size) A l) :
    Calls Try.prog 160 #[.agg #[.slice A l.length c], .int .i64 i] w fun e w' => e = .returned (.int .i64 (placeI l i)) ∧ Below w.heap.size w w' := by
  have hn := hS.1
  have hB0 := below1 w (Obj.cells #[Value.slice A l.length c] 39)
  have hX := (Blk.new w 39 #[Value.slice A l.length c]).cell 0
  simp only [List.getElem?_toArray, List.getElem?_cons_zero] at hX
  replace hS := hide (hS.below hB0 (fun _ h => h))
  obtain ⟨W, hW⟩ : ∃ W, W = w.alloc (Obj.cells #[Value.slice A l.length c] 39) := ⟨_, rfl⟩
  rw [← hW] at hX hB0 hS
  go_enter Try.func160, Try.ntmps160
  go_wp2_with fail
  rw [← hW]
  clear hW
  replace hB0 := hide hB0
  go_loop [5] (fun q => ∃ k : Nat, k ≤ l.length ∧ q = .int .i64 k ∧ ∀ j, j < k → idAt l j ≠ i) (fun q => l.length - (intOf q).toNat)
  case atStart => exact ⟨0, Nat.zero_le _, rfl, fun j hj => absurd hj (Nat.not_lt_zero j)⟩
  case round =>
    obtain ⟨k, hk, rfl, hno⟩ := hrel
    replace hno := hide hno
    by_cases hlt : k < l.length
    · obtain ⟨b, off, rfl, hbB, hc⟩ := hS.out.2 (by omega)
      obtain ⟨V, cv, ⟨p0, p1, p2, p3⟩, hcap, hin⟩ := hc k hlt
      clear hc
      by_cases he : (getp l k).id = i
      · have hpl := hide (place_hit hlt he hno.out)
        go_wp2_with fail
        go_ret
        exact ⟨ret_int hpl.out.symm, hB0.out⟩
      · have he' : ((getp l k).id == i) = false := by simpa using he
        have hno2 := hide (show ∀ j, j < k + 1 → idAt l j ≠ i from fun j hj => by
          rcases Nat.lt_or_ge j k with h | h
          · exact hno.out j h
          · obtain rfl : j = k := by omega
            exact he)
        clear he
        go_wp2_with fail
        go_round
        case rel => exact ⟨k + 1, by omega, by go_num, hno2.out⟩
        case measure => simp [intOf]; omega
    · obtain rfl : k = l.length := by omega
      have hpl := hide (place_miss hno.out)
      go_wp2_with fail
      go_ret
      exact ⟨ret_int hpl.out.symm, hB0.out⟩
end Go.Proofs.Ytikfbhehnpogoaa
