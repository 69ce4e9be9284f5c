/- The model's Inside, Alike. -/
import Derived.Test.YtjendjbbhohjcaaInA
import Derived.Test.YtjendjbbhohjcaaReg
import Derived.BigQuiet
import Derived.Deep.QuietTactic
import Derived.BigRegion
import Derived.Deep.RegionHeld3
namespace Go.Proofs.Ytjendjbbhohjcaa
open Go.RowKit

theorem zero_fun : (fun (m : Nat) => decide ((m : Int) = 0)) = (fun (m : Nat) => m == 0) := by
  funext m
  cases m <;> simp
  omega
theorem inside_six (rs : List Int) (K j : Nat) (h : K = 6 * j) : (gotF (fun (m : Nat) => decide ((m : Int) = 0)) rs (K + 6)).length = (gotF (fun (m : Nat) => decide ((m : Int) = 0)) rs K).length + (if geti rs K != 0 then 1 else 0) := by
  subst h
  rw [zero_fun]
  exact gotF_six rs j
theorem inside_end (f : Nat → Bool) (rs : List Int) (K n : Nat) (hn : rs.length = n) (h : n ≤ K) : gotF f rs K = gotF f rs n := by
  have := gotF_out f rs (K - n)
  rw [hn] at this
  rwa [show n + (K - n) = K from by omega] at this
set_option maxRecDepth 100000 in
set_option maxHeartbeats 3200000 in
theorem sinside_any (A : Option Addr) (rs : List Int) (c n : Nat) (S : Nat → Prop) (w : World) (hz : rs.length = n) (hS : ∀ b, S b → b < w.heap.size) (ha : IntsAt w S A rs) (hn : n ≤ 1048576) :
    Calls Try.prog 54 #[.agg #[.slice A n c]] w fun e w' => e = .returned (.int .i64 (insideN rs n)) ∧ Below w.heap.size w w' := by
  obtain ⟨W, hW⟩ : ∃ x, x = w.alloc (Obj.cells #[.slice A n c] 25) := ⟨_, rfl⟩
  have hbW : Below w.heap.size w W := by rw [hW]; exact below1 _ _
  have X := hide (show Blk W w.heap.size 25 #[.slice A n c] from by rw [hW]; exact Blk.new _ _ _)
  have Z := hide ((ha.below hbW hS).more (S' := Old W.heap.size) (fun b h => Nat.lt_of_lt_of_le (hS b h) hbW.size))
  have BW := hide hbW
  replace hz := hide hz
  clear hbW ha hS
  unfold insideN
  obtain ⟨f, hf⟩ : ∃ f : Nat → Bool, f = fun (m : Nat) => decide ((m : Int) = 0) := ⟨_, rfl⟩
  have h6 := hide (fun K j h => inside_six rs K j h)
  rw [← hf] at h6 ⊢
  clear hf
  go_enter Try.func54, Try.ntmps54
  go_upto_region 1 with fail
  rw [← hW]
  clear hW
  have x0 := X.out.cell 0
  have lx := X.out.lt
  simp only [List.getElem?_toArray, List.getElem?_cons_zero] at x0
  go_wp2_with fail
  go_loop [3, 4] (fun a i => ∃ K q : Nat, K ≤ n + 5 ∧ q ≤ K ∧ i = .int .i64 K ∧ a = .int .i64 q ∧ Hid (∃ j, K = 6 * j) ∧ Hid (q = (gotF f rs K).length)) (fun _ i => n + 6 - (intOf i).toNat)
  case atStart => exact ⟨0, 0, by omega, by omega, rfl, rfl, hide ⟨0, rfl⟩, hide rfl⟩
  case round =>
    obtain ⟨K, q, hK, hqK, rfl, rfl, hj, hq⟩ := hrel
    by_cases hlt : K < n
    · have hlt' : decide ((K : Int) < (n : Int)) = true := decide_eq_true (by omega)
      have hKn : K < n := hlt
      obtain ⟨b, off, rfl, hbS, hc⟩ := Z.out.2 (by rw [hz.out]; omega)
      have hcell := hc K (by rw [hz.out]; exact hlt)
      have hst := hide (show ∃ j, (gotF f rs (K + 6)).length = (gotF f rs K).length + (if geti rs K != 0 then 1 else 0) ∧ K + 6 = 6 * (j + 1) from by
        obtain ⟨j, hj⟩ := hj.out
        exact ⟨j, h6.out K j hj, by omega⟩)
      obtain ⟨z, hzz⟩ : ∃ z, z = geti rs K := ⟨_, rfl⟩
      rw [← hzz] at hcell hst
      clear hc hzz
      cases hzb : (z != 0)
      · go_wp2_with fail
        go_round
        case rel =>
          obtain ⟨j, h1, h2⟩ := hst.out
          rw [hzb] at h1
          exact ⟨K + 6, q, by omega, by omega, by go_num, rfl, hide ⟨j + 1, h2⟩, hide (by rw [h1, hq.out]; rfl)⟩
        case measure => simp [intOf]; omega
      · go_wp2_with fail
        go_round
        case rel =>
          obtain ⟨j, h1, h2⟩ := hst.out
          rw [hzb] at h1
          exact ⟨K + 6, q + 1, by omega, by omega, by go_num, by go_num, hide ⟨j + 1, h2⟩, hide (by rw [h1, hq.out]; rfl)⟩
        case measure => simp [intOf]; omega
    · have hlt' : decide ((K : Int) < (n : Int)) = false := decide_eq_false (by omega)
      have hE := hide (show q = (gotF f rs n).length from by rw [hq.out, inside_end f rs K n hz.out (by omega)])
      go_wp2_with fail
      go_ret
      rw [← hE.out]
      exact ⟨rfl, BW.out⟩

/-- No pair below I, none with I below K. -/
def noPair (rs : List Int) (R I : Nat) : Prop := ∀ i k, k < i → i < I → i % 6 = R → k % 6 = R → ¬ (geti rs i ≠ 0 ∧ geti rs i = geti rs k)
def noWith (rs : List Int) (R I K : Nat) : Prop := ∀ k, k < K → k < I → k % 6 = R → ¬ (geti rs I ≠ 0 ∧ geti rs I = geti rs k)
theorem alike_yes {rs : List Int} {n R i k : Nat} (hk : k < i) (hi : i < n) (h1 : i % 6 = R) (h2 : k % 6 = R) (h3 : geti rs i ≠ 0) (h4 : geti rs i = geti rs k) : alikeB rs n (R : Int) = true := by
  unfold alikeB
  rw [twice_got]
  refine ⟨i, k, hk, hi, ?_, ?_, h4⟩
  · unfold cntB
    rw [Bool.and_eq_true]
    exact ⟨decide_eq_true (by rw [h1]), by simpa using h3⟩
  · unfold cntB
    rw [Bool.and_eq_true]
    exact ⟨decide_eq_true (by rw [h2]), by rw [← h4]; simpa using h3⟩
theorem alike_no {rs : List Int} {n R I : Nat} (hI : n ≤ I) (h : noPair rs R I) : alikeB rs n (R : Int) = false := by
  cases hb : alikeB rs n (R : Int)
  · rfl
  · unfold alikeB at hb
    rw [twice_got] at hb
    obtain ⟨i, k, h1, h2, h3, h4, h5⟩ := hb
    unfold cntB at h3 h4
    rw [Bool.and_eq_true] at h3 h4
    exact absurd ⟨by simpa using h3.2, h5⟩ (h i k h1 (by omega) (by have := of_decide_eq_true h3.1; omega) (by have := of_decide_eq_true h4.1; omega))
theorem noPair_next {rs : List Int} {R I K : Nat} (h : noPair rs R I) (h2 : noWith rs R I K) (hK : I ≤ K) (hR : I % 6 = R) : noPair rs R (I + 6) := by
  intro i k h3 h4 h5 h6
  rcases Nat.lt_or_ge i I with h7 | h7
  · exact h i k h3 h7 h5 h6
  · have : i = I := by omega
    subst this
    exact h2 k (by omega) h3 h6
theorem noWith_next {rs : List Int} {R I K : Nat} (h : noWith rs R I K) (hR : K % 6 = R) (hn : ¬ (geti rs I ≠ 0 ∧ geti rs I = geti rs K)) : noWith rs R I (K + 6) := by
  intro k h3 h4 h5
  rcases Nat.lt_or_ge k K with h7 | h7
  · exact h k h7 h4 h5
  · have : k = K := by omega
    subst this
    exact hn
theorem alike_none {rs : List Int} {n : Nat} {r : Int} (h : regB r = false) : alikeB rs n r = false := by
  cases hb : alikeB rs n r
  · rfl
  · unfold alikeB at hb
    rw [twice_got] at hb
    obtain ⟨i, k, h1, h2, h3, h4, h5⟩ := hb
    unfold cntB at h3
    rw [Bool.and_eq_true] at h3
    have h6 := of_decide_eq_true h3.1
    unfold regB at h
    rw [decide_eq_false_iff_not] at h
    exact absurd (by omega) h
set_option maxRecDepth 100000 in
set_option maxHeartbeats 6400000 in
theorem salike_any (r : Int) (A : Option Addr) (rs : List Int) (c n : Nat) (S : Nat → Prop) (w : World) (hz : rs.length = n) (hS : ∀ b, S b → b < w.heap.size) (ha : IntsAt w S A rs) (hn : n ≤ 1048576) :
    Calls Try.prog 27 #[.agg #[.slice A n c], .int .i64 r] w fun e w' => e = .returned (.bool (alikeB rs n r)) ∧ Below w.heap.size w w' := by
  obtain ⟨W, hW⟩ : ∃ x, x = w.alloc (Obj.cells #[.slice A n c] 25) := ⟨_, rfl⟩
  have hbW : Below w.heap.size w W := by rw [hW]; exact below1 _ _
  have X := hide (show Blk W w.heap.size 25 #[.slice A n c] from by rw [hW]; exact Blk.new _ _ _)
  have Z := hide ((ha.below hbW hS).more (S' := Old W.heap.size) (fun b h => Nat.lt_of_lt_of_le (hS b h) hbW.size))
  have BW := hide hbW
  replace hz := hide hz
  clear hbW ha hS
  have kr := fun w => l1reg_any r w
  cases hreg : regB r
  · rw [alike_none hreg]
    rw [hreg] at kr
    replace kr := hide kr
    go_enter Try.func27, Try.ntmps27
    go_upto_region 1 with fail
    rw [← hW]
    clear hW
    go_wp2_with (go_at_call 73; refine (kr.out _).mono ?_; rintro e wx ⟨rfl, rfl⟩)
    go_ret
    exact ⟨rfl, BW.out⟩
  · obtain ⟨R, rfl, hR⟩ : ∃ R : Nat, r = (R : Int) ∧ R < 6 := by
      unfold regB at hreg
      rw [decide_eq_true_eq] at hreg
      exact ⟨r.toNat, by omega, by omega⟩
    rw [hreg] at kr
    replace kr := hide kr
    obtain ⟨res, hres⟩ : ∃ res, res = alikeB rs n (R : Int) := ⟨_, rfl⟩
    rw [← hres]
    replace hres := hide hres
    clear hreg
    go_enter Try.func27, Try.ntmps27
    go_upto_region 1 with fail
    rw [← hW]
    clear hW
    go_wp2_with (go_at_call 73; refine (kr.out _).mono ?_; rintro e wx ⟨rfl, rfl⟩)
    go_loopw [5] (fun i wr => ∃ I : Nat, I ≤ n + 5 ∧ i = .int .i64 I ∧ Hid (I % 6 = R) ∧ Hid (noPair rs R I) ∧ Hid (Below W.heap.size W wr)) (fun i _ => n + 6 - (intOf i).toNat)
    case atStart => exact ⟨R, by omega, rfl, hide (by omega), hide (fun i k h1 h2 h3 h4 => by omega), hide (Below.refl _ _)⟩
    case round =>
      obtain ⟨I, hI, rfl, hIR, hP, B0⟩ := hrel
      have X0 := X.out.below B0.out X.out.lt
      have x0 := X0.cell 0
      have lx := X0.lt
      simp only [List.getElem?_toArray, List.getElem?_cons_zero] at x0
      clear X0
      by_cases hlt : I < n
      · have hlt' : decide ((I : Int) < (n : Int)) = true := decide_eq_true (by omega)
        have hIn : I < n := hlt
        go_wp2_with fail
        clear x0 lx
        go_loopw [6] (fun i wr => ∃ K : Nat, K ≤ I + 5 ∧ i = .int .i64 K ∧ Hid (K % 6 = R) ∧ Hid (noWith rs R I K) ∧ Hid (Below W.heap.size W wr)) (fun i _ => I + 6 - (intOf i).toNat)
        case atStart => exact ⟨R, by have := hIR.out; omega, rfl, hide (by omega), hide (fun k h1 h2 h3 => by omega), B0⟩
        case round =>
          clear B0
          obtain ⟨K, hK, rfl, hKR, hQ, B1⟩ := hrel
          by_cases hkl : K < I
          · have hkl' : decide ((K : Int) < (I : Int)) = true := decide_eq_true (by omega)
            have hKI : K < I := hkl
            have X1 := X.out.below B1.out X.out.lt
            have x1 := X1.cell 0
            have lx1 := X1.lt
            simp only [List.getElem?_toArray, List.getElem?_cons_zero] at x1
            obtain ⟨b, off, rfl, hbS, hc⟩ := (Z.out.below B1.out (fun _ h => h)).2 (by rw [hz.out]; omega)
            clear X1
            have hcI := hc I (by rw [hz.out]; exact hIn)
            have hcK := hc K (by rw [hz.out]; omega)
            have hyes := hide (fun h3 h4 => show res = true from by rw [hres.out]; exact alike_yes hKI hIn hIR.out hKR.out h3 h4)
            have hno := hide (fun h => noWith_next hQ.out hKR.out h)
            obtain ⟨z, hzz⟩ : ∃ z, z = geti rs I := ⟨_, rfl⟩
            obtain ⟨y, hyy⟩ : ∃ y, y = geti rs K := ⟨_, rfl⟩
            rw [← hzz] at hcI hyes hno
            rw [← hyy] at hcK hyes hno
            clear hc hzz hyy
            go_upto_region 9 with fail
            cases hzb : (z != 0)
            · have hn1 := hide (hno.out (fun h => by simp at hzb; exact h.1 hzb))
              go_quiet (fail)
              go_wp2_with fail
              go_roundw
              case rel => exact ⟨K + 6, by omega, by go_num, hide (by have := hKR.out; omega), hn1, hide (below_drewN B1.out _)⟩
              case measure => simp [intOf]; omega
            · cases hzy : (z == y)
              · have hn1 := hide (hno.out (fun h => by simp at hzy; exact hzy h.2))
                go_quiet (fail)
                go_wp2_with fail
                go_roundw
                case rel => exact ⟨K + 6, by omega, by go_num, hide (by have := hKR.out; omega), hn1, hide (below_drewN B1.out _)⟩
                case measure => simp [intOf]; omega
              · have hE := hide (hyes.out (by simpa using hzb) (by simpa using hzy))
                go_quiet (fail)
                go_wp2_with fail
                go_ret
                exact ⟨ret_bool hE.out.symm, BW.out.trans ((below_drewN B1.out _).mono BW.out.size)⟩
          · have hkl' : decide ((K : Int) < (I : Int)) = false := decide_eq_false (by omega)
            have hP2 := hide (noPair_next hP.out hQ.out (by omega) hIR.out)
            go_wp2_with fail
            go_roundw
            case rel => exact ⟨I + 6, by omega, by go_num, hide (by have := hIR.out; omega), hP2, B1⟩
            case measure => simp [intOf]; omega
      · have hlt' : decide ((I : Int) < (n : Int)) = false := decide_eq_false (by omega)
        have hE := hide (show res = false from by rw [hres.out]; exact alike_no (by omega) hP.out)
        go_wp2_with fail
        go_ret
        exact ⟨ret_bool hE.out.symm, BW.out.trans (B0.out.mono BW.out.size)⟩
end Go.Proofs.Ytjendjbbhohjcaa
