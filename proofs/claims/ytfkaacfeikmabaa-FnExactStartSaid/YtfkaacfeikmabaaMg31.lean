/- The program's firstView: 0, 1, .. -/
import Derived.Test.YtfkaacfeikmabaaMg22
namespace Go.Proofs.Ytfkaacfeikmabaa
open Go.RowKit

set_option maxRecDepth 100000 in
set_option maxHeartbeats 3200000 in
theorem firstView_any (n : Nat) (w : World) (hn : n ≤ 1048576) :
    Calls Try.prog 187 #[.int .i64 (n : Int)] w fun e w' => e = .returned (.slice (some ⟨w.heap.size, 0, none⟩) n n) ∧ RowT 3 w' w.heap.size (idsL n) ∧ Below w.heap.size w w' := by
  have hmk := make_ints n hn
  go_enter Try.func187, Try.ntmps187
  go_wp2_with fail
  clear hmk
  go_loopw [9] (fun iv wr => ∃ (k : Nat) (ds : Array Value), k ≤ n ∧ iv = .int .i64 k ∧ Below w.heap.size w wr ∧ Blk wr w.heap.size 3 ds ∧ Hid (ds.size = n) ∧ Hid (∀ j, j < k → ds[j]? = some (.int .i64 (j : Int)))) (fun iv _ => n - (intOf iv).toNat)
  case atStart => exact ⟨0, _, Nat.zero_le _, rfl, below1 _ _, Blk.new _ _ _, hide (zrow_size1 (.int .i64 0) n), hide (fun j hj => by omega)⟩
  case round =>
    obtain ⟨k, ds, hk, rfl, hb, hD, hsz, hds⟩ := hrel
    by_cases hlt : k < n
    · have hlt' : (k : Int) < (n : Int) := by omega
      have hsz' := hsz.out
      obtain ⟨v0, hv0⟩ : ∃ v, ds[k]? = some v := ⟨_, Array.getElem?_eq_getElem (by omega)⟩
      have d0 := (hD.cell k).trans hv0
      have z0 := hD.frozen k
      have l0 := hD.lt
      replace hD := hide hD
      replace hb := hide hb
      clear hv0 hsz'
      go_wp2_with fail
      go_roundw
      case rel =>
        refine ⟨k + 1, ds.setIfInBounds k (.int .i64 (k : Int)), by omega, by go_num, hb.out.setCell (Nat.le_refl _) _, hD.out.set_ _ _, hide (by have := hsz.out; simpa using this), hide (fun j hj => ?_)⟩
        rw [Array.getElem?_setIfInBounds]
        by_cases e : k = j
        · subst e; rw [if_pos rfl, if_pos (by have := hsz.out; omega)]
        · rw [if_neg e]; exact hds.out j (by omega)
      case measure => simp [intOf]; omega
    · obtain rfl : k = n := by omega
      go_wp2_with fail
      go_ret
      exact ⟨rfl, ⟨ds, hD, by rw [idsL_len, hsz.out]; exact Nat.le_refl _, fun j hj => by rw [idsL_len] at hj; rw [idsL_get _ _ hj]; exact hds.out j hj⟩, hb⟩
end Go.Proofs.Ytfkaacfeikmabaa
