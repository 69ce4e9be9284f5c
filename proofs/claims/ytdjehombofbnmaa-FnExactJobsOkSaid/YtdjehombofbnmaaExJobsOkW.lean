/- The walk of FnExactJobsOk: it answers true and leaves its argument. -/
import Derived.Test.YtdjehombofbnmaaJbE
import Derived.Deep.Cut
import Derived.Test.YtdjehombofbnmaaJbI
import Derived.Test.YtdjehombofbnmaaJbS
namespace Go.Proofs.Ytdjehombofbnmaa
open Go.RowKit

set_option maxRecDepth 100000 in
set_option maxHeartbeats 3200000 in
theorem exJobsOk_walk (A : Option Addr) (l : List JobD) (c : Nat) (w : World) (ha : JobsAt w (Old w.heap.size) A l) :
    Calls Try.prog 8 #[.slice A l.length c] w fun e w' => e = .returned (.bool true) ∧ Below w.heap.size w w' := by
  have ks := szJobS_any A l c _ 1048576 w (by omega) (by omega) (fun _ h => h) ha
  by_cases hz : sizeJ l ≤ 1048576
  · rw [szR_pos (by omega)] at ks
    have hl : l.length ≤ 1048576 := by unfold sizeJ at hz; omega
    have hsz : ∀ k, (getj l k).ks.length ≤ 1048576 := fun k => Nat.le_trans (sizeJ_kids k) hz
    have kT := hide (fun w' (hb : Below w.heap.size w w') => toJobSA A l c _ w' hl hsz (fun b h => Nat.lt_of_lt_of_le h hb.size) (ha.below hb (fun _ h => h)))
    have kS := fun A' c' w' (h : JobsAt w' (Old w'.heap.size) A' l) => sjobsOk_any A' l c' _ w' hsz (fun _ h => h) h
    have kI := fun A' c' w' (h : JobsAt w' (Old w'.heap.size) A' l) => jobsOk_any A' l c' _ w' hsz (fun _ h => h) h
    have kE := fun A1 A2 c1 c2 w' (h : JobsAt w' (Old w'.heap.size) A1 l) (k : JobsAt w' (Old w'.heap.size) A2 l) => eqJobS_any A1 A2 l c1 c2 _ w' (fun _ h => h) h k
    obtain ⟨r, hr⟩ : ∃ r, r = jobsB l := ⟨_, rfl⟩
    rw [← hr] at kS kI
    clear hr
    have hs : (0 : Int) ≤ 1048576 - (sizeJ l : Int) := by omega
    obtain ⟨s, hs2⟩ : ∃ s, s = 1048576 - (sizeJ l : Int) := ⟨_, rfl⟩
    rw [← hs2] at ks hs
    replace ks := hide ks
    replace kS := hide kS
    replace kI := hide kI
    replace kE := hide kE
    clear hs2 ha hz
    go_enter Try.func8, Try.ntmps8
    go_upto_region 5 with (go_at_call 35; refine ks.out.mono ?_; rintro e w1 ⟨rfl, hb1⟩)
    go_upto_region 6 with (first | (go_at_call 36; refine (kT.out _ hb1).mono ?_; rintro e w2 ⟨A2, c2, rfl, h2, hb2⟩) | (go_at_call 34; refine (kS.out _ _ _ h2).mono ?_; rintro e w3 ⟨rfl, hb3⟩))
    have hb13 := below_next (below_next hb1 hb2 hb1.size) hb3 (below_next hb1 hb2 hb1.size).size
    clear h2 hb1 hb2 hb3
    go_upto_region 7 with (go_at_call 36; refine (kT.out _ hb13).mono ?_; rintro e w4 ⟨A4, c4, rfl, h4, hb4⟩)
    have hb14 := below_next hb13 hb4 hb13.size
    clear hb13 hb4
    go_upto_region 8 with (go_at_call 33; refine (kI.out _ _ _ h4).mono ?_; rintro e w5 ⟨rfl, hb5⟩)
    have hb15 := below_next hb14 hb5 hb14.size
    have h5 := h4.below hb5 (fun _ h => h)
    have hle := hb5.size
    clear hb14 h4 hb5
    go_wp2_with (first | (go_at_call 36; refine (kT.out _ hb15).mono ?_; rintro e w6 ⟨A6, c6, rfl, h6, hb6⟩) | (go_at_call 37; refine (kE.out _ _ _ _ _ ((h5.more (fun b h => Nat.lt_of_lt_of_le h hle)).below hb6 (fun _ h => h) |>.more (fun b h => Nat.lt_of_lt_of_le h hb6.size)) h6).mono ?_; rintro e w7 ⟨rfl, hb7⟩))
    go_ret
    exact ⟨rfl, below_next (below_next hb15 hb6 hb15.size) hb7 (below_next hb15 hb6 hb15.size).size⟩
  · rw [szR_neg (by omega)] at ks
    replace ks := hide ks
    clear hz ha
    go_enter Try.func8, Try.ntmps8
    go_wp2_with (go_at_call 35; refine ks.out.mono ?_; rintro e w1 ⟨rfl, hb1⟩)
    go_ret
    exact ⟨rfl, hb1⟩
end Go.Proofs.Ytdjehombofbnmaa
