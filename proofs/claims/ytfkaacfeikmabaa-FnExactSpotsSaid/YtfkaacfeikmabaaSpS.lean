/- The model's l7over, for any thread. -/
import Derived.Test.YtfkaacfeikmabaaSpD
namespace Go.Proofs.Ytfkaacfeikmabaa
open Go.RowKit

set_option maxRecDepth 100000 in
set_option maxHeartbeats 3200000 in
theorem l7over_any (A : Option Addr) (l : List InsD) (c m : Nat) (S : Nat → Prop) (w : World) (hm : m ≤ l.length) (ha : InssAt w S A l) :
    Calls Try.prog 77 #[.slice A l.length c, .int .i64 (m : Int)] w fun e w' => e = .returned (.bool (decide ((m : Int) < farI l m))) ∧ w = w' := by
  have hn := ha.1
  go_enter Try.func77, Try.ntmps77
  go_wp2_with fail
  go_loop [5] (fun i => ∃ (k : Nat), k ≤ m ∧ i = .int .i64 k ∧ Hid (farI l k ≤ (m : Int))) (fun i => m - (intOf i).toNat)
  case atStart => exact ⟨0, Nat.zero_le _, rfl, hide (by show (0 : Int) ≤ m; omega)⟩
  case round =>
    obtain ⟨k, hk, rfl, hf⟩ := hrel
    by_cases hlt : k < m
    · obtain ⟨b, off, rfl, hbB, hc⟩ := ha.2 (by omega)
      obtain ⟨c0, c1, c2, c3, c4, c5⟩ := hc k (by omega)
      have hlt' : (k : Int) < (m : Int) := by omega
      have hll : (k : Int) < (l.length : Int) := by omega
      clear hc ha c1 c2 c3 c4
      cases hj : leapB (getd l k).o
      · have hF := hide (farI_stay hj)
        have hj13 : ((getd l k).o == 13) = false := by unfold leapB at hj; simp only [Bool.or_eq_false_iff] at hj; exact hj.1
        have hj14 : ((getd l k).o == 14) = false := by unfold leapB at hj; simp only [Bool.or_eq_false_iff] at hj; exact hj.2
        clear hj
        go_wp2_with fail
        exact ⟨⟨k + 1, by omega, by go_num, hide (by rw [hF.out]; exact hf.out)⟩, by simp [intOf]; omega⟩
      · have hF := hide (farI_jump hj)
        by_cases hgt : (m : Int) < (getd l k).n
        · have hE := hide (show decide ((m : Int) < farI l m) = true from decide_eq_true (by
            have h1 := farI_mono l (show k + 1 ≤ m by omega)
            rw [hF.out] at h1
            omega))
          have hgt' : decide ((m : Int) < (getd l k).n) = true := decide_eq_true hgt
          unfold leapB at hj
          clear hF
          cases h13 : ((getd l k).o == 13)
          all_goals
            (try rw [h13, Bool.false_or] at hj)
            go_wp2_with fail
            go_ret
            exact ⟨ret_bool hE.out.symm, rfl⟩
        · have hgt' : decide ((m : Int) < (getd l k).n) = false := decide_eq_false hgt
          have hG := hide (show farI l (k + 1) ≤ (m : Int) from by rw [hF.out]; have := hf.out; omega)
          unfold leapB at hj
          clear hF
          cases h13 : ((getd l k).o == 13)
          all_goals
            (try rw [h13, Bool.false_or] at hj)
            go_wp2_with fail
            exact ⟨⟨k + 1, by omega, by go_num, hG⟩, by simp [intOf]; omega⟩
    · obtain rfl : k = m := by omega
      have hE := hide (show decide ((k : Int) < farI l k) = false from decide_eq_false (by have := hf.out; omega))
      go_wp2_with fail
      go_ret
      exact ⟨ret_bool hE.out.symm, rfl⟩
end Go.Proofs.Ytfkaacfeikmabaa
