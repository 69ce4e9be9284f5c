/- spec.l1same: two rows of numbers. -/
import Derived.Test.YtbeaijmilpefmaaDoorSamD
import Derived.Test.YtbeaijmilpefmaaDoorRows
import Derived.Deep.QuietTactic
import Derived.BigQuiet
import Derived.StillTailTactics
namespace Go.Proofs.YtbeaijmilpefmaaDoor
open Go.RowKit

set_option maxHeartbeats 800000 in
theorem l1same_any (A A' : Option Addr) (zs ys : List Int) (c c' : Nat) (S : Nat → Prop) (w : World) (hS : ∀ b, S b → b < w.heap.size) (ha : IntsAt w S A zs) (ha' : IntsAt w S A' ys) :
    Calls Tryd.prog 10 #[.slice A zs.length c, .slice A' ys.length c'] w fun e w' => e = .returned (.bool (sameI zs ys)) ∧ Below w.heap.size w w' := by
  have hn := ha.1
  have hn' := ha'.1
  by_cases hl : zs.length = ys.length
  · have HL := hide hl
    rw [← hl]
    clear hl hn'
    go_enter Tryd.func10, Tryd.ntmps10
    go_wp2
    go_loopw [5] (fun i wr => ∃ (k : Nat), k ≤ zs.length ∧ i = .int .i64 k ∧ Hid (∀ j, j < k → (geti zs j == geti ys j) = true) ∧ Below w.heap.size w wr) (fun i _ => zs.length - (intOf i).toNat)
    case atStart => exact ⟨0, Nat.zero_le _, rfl, hide (fun j hj => by omega), Below.refl _ _⟩
    case round =>
      obtain ⟨k, hk, rfl, hj, hb⟩ := hrel
      by_cases hlt : k < zs.length
      · obtain ⟨b, off, rfl, hbB, hc⟩ := (ha.below hb hS).2 (by omega)
        obtain ⟨b', off', rfl, hbB', hc'⟩ := (ha'.below hb hS).2 (by have := HL.out; omega)
        have hcell := hc k hlt
        have hcell' := hc' k (by have := HL.out; omega)
        have hx : ((k : Int) < (zs.length : Int)) := by omega
        clear hc hc'
        cases hr : (geti zs k == geti ys k)
        · have HF := hide (show sameI zs ys = false by unfold sameI; rw [allB_no hlt hr]; simp)
          have hr2 : (geti zs k != geti ys k) = true := by simpa using hr
          go_wp2
          go_quiet (fail)
          go_wp2
          go_ret
          exact ⟨ret_bool HF.out.symm, below_drewN hb _⟩
        · have HRk := hide hr
          have hr2 : (geti zs k != geti ys k) = false := by simpa using hr
          clear hr
          go_wp2
          go_quiet (fail)
          go_wp2
          go_roundw
          case rel =>
            refine ⟨k + 1, by omega, by go_num, hide (fun j hjk => ?_), below_drewN hb _⟩
            by_cases e : j = k
            · subst e; exact HRk.out
            · exact hj.out j (by omega)
          case measure => simp [intOf]; omega
      · obtain rfl : k = zs.length := by omega
        have HF := hide (show sameI zs ys = true by unfold sameI; rw [decide_eq_true HL.out, allB_yes hj.out]; rfl)
        go_wp2
        go_ret
        exact ⟨ret_bool HF.out.symm, hb⟩
  · have HF := hide (show sameI zs ys = false by unfold sameI; rw [decide_eq_false hl]; rfl)
    have hl' : ((zs.length : Int) != (ys.length : Int)) = true := by simp; omega
    have hl2 : ((zs.length : Int) == (ys.length : Int)) = false := by simp; omega
    clear hl
    go_enter Tryd.func10, Tryd.ntmps10
    go_wp2
    go_ret
    exact ⟨ret_bool HF.out.symm, Below.refl _ _⟩

end Go.Proofs.YtbeaijmilpefmaaDoor
