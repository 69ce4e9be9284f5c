/- impl.Meets: what an outcome meets. -/
import Derived.Test.YtbeaijmilpefmaaMeetsD
import Derived.Test.YtbeaijmilpefmaaLeaf
import Derived.BigQuiet
import Derived.Deep.QuietTactic
import Derived.Deep.RegionLaw
import Derived.Deep.DrawnRows
import Derived.Deep.DeepCutAuto
namespace Go.Proofs.Ytbeaijmilpefmaa
open Go.RowKit

attribute [local go_sem ↓] Go.wp_at_zero Go.wp_at_succ

theorem met_cases (rs : List Int) (t r v : Int) : (t < 0 ∧ metB rs t r v = false) ∨ (¬ t < 0 ∧ (rs.length : Int) ≤ t ∧ metB rs t r v = false) ∨ (¬ t < 0 ∧ ¬ (rs.length : Int) ≤ t ∧ regB r = false ∧ metB rs t r v = false) ∨
    (¬ t < 0 ∧ ¬ (rs.length : Int) ≤ t ∧ regB r = true ∧ (0 ≤ r ∧ r ≤ 5) ∧ ¬ t * 6 + r < rs.length ∧ metB rs t r v = false) ∨ (¬ t < 0 ∧ ¬ (rs.length : Int) ≤ t ∧ regB r = true ∧ (0 ≤ r ∧ r ≤ 5) ∧ t * 6 + r < rs.length ∧ metB rs t r v = decide (geti rs (t * 6 + r).toNat = v)) := by
  by_cases h1 : t < 0
  · exact .inl ⟨h1, by unfold metB; rw [decide_eq_false (by omega)]; rfl⟩
  · by_cases h2 : (rs.length : Int) ≤ t
    · exact .inr (.inl ⟨h1, h2, by unfold metB; rw [decide_eq_false (by omega)]; rfl⟩)
    · by_cases h3 : 0 ≤ r ∧ r ≤ 5
      · have hr : regB r = true := by unfold regB; exact decide_eq_true h3
        by_cases h4 : t * 6 + r < rs.length
        · refine .inr (.inr (.inr (.inr ⟨h1, h2, hr, h3, h4, ?_⟩)))
          unfold metB
          rw [decide_eq_true (by omega), Bool.true_and]
          by_cases e : geti rs (t * 6 + r).toNat = v <;> simp [e]
        · exact .inr (.inr (.inr (.inl ⟨h1, h2, hr, h3, h4, by unfold metB; rw [decide_eq_false (by omega)]; rfl⟩)))
      · exact .inr (.inr (.inl ⟨h1, h2, by unfold regB; exact decide_eq_false h3, by unfold metB; rw [decide_eq_false (by omega)]; rfl⟩))

set_option maxRecDepth 100000 in
set_option maxHeartbeats 3200000 in
theorem met_any (A : Option Addr) (rs : List Int) (c : Nat) (t r v : Int) (w : World) (hn : rs.length ≤ 1048576) (ha : IntsAt w (Old w.heap.size) A rs) :
    Calls Try.prog 58 #[.agg #[.int .i64 t, .int .i64 r, .int .i64 v], .agg #[.slice A rs.length c]] w fun e w' => e = .returned (.bool (metB rs t r v)) ∧ Below w.heap.size w w' := by
  have kr := hide (fun w => isReg_any r w)
  have hb2 := hide (below2 w (Obj.cells #[.int .i64 t, .int .i64 r, .int .i64 v] 98) (Obj.cells #[.slice A rs.length c] 29))
  obtain ⟨res, hres⟩ : ∃ b, b = metB rs t r v := ⟨_, rfl⟩
  rcases met_cases rs t r v with ⟨h1, hE⟩ | ⟨h1, h2, hE⟩ | ⟨h1, h2, h3, hE⟩ | ⟨h1, h2, h3, h4, h5, hE⟩ | ⟨h1, h2, h3, h4, h5, hE⟩
  all_goals
    rw [← hres] at hE ⊢
    replace hE := hide hE
    clear hres
  · go_enter Try.func58, Try.ntmps58
    go_wp2_with fail
    go_ret
    exact ⟨ret_bool hE.out.symm, hb2.out⟩
  · go_enter Try.func58, Try.ntmps58
    go_wp2_with fail
    go_ret
    exact ⟨ret_bool hE.out.symm, hb2.out⟩
  · rw [h3] at kr
    go_enter Try.func58, Try.ntmps58
    go_wp2_with fail
    refine (kr.out _).mono ?_
    rintro e w1 ⟨rfl, rfl⟩
    go_wp2_with fail
    go_ret
    exact ⟨ret_bool hE.out.symm, hb2.out⟩
  · rw [h3] at kr
    have hw1 : wrap64 (t * 6) = t * 6 := by unfold wrap64; omega
    have hw2 : wrap64 (t * 6 + r) = t * 6 + r := by unfold wrap64; omega
    obtain ⟨k, hk⟩ : ∃ k : Int, t * 6 + r = k := ⟨_, rfl⟩
    rw [hk] at hw2 h5
    have h5' : decide (k < (rs.length : Int)) = false := decide_eq_false h5
    go_enter Try.func58, Try.ntmps58
    go_wp2_with fail
    refine (kr.out _).mono ?_
    rintro e w1 ⟨rfl, rfl⟩
    go_wp2_with fail
    go_quiet (fail)
    go_wp2_with fail
    go_ret
    exact ⟨ret_bool hE.out.symm, below_drewN hb2.out _⟩
  · rw [h3] at kr
    have hw1 : wrap64 (t * 6) = t * 6 := by unfold wrap64; omega
    have hw2 : wrap64 (t * 6 + r) = t * 6 + r := by unfold wrap64; omega
    obtain ⟨bb, off, rfl, hbb, hcl⟩ := ha.at_ (i := t * 6 + r) (by omega) h5
    obtain ⟨k, hk⟩ : ∃ k : Nat, t * 6 + r = (k : Int) := ⟨(t * 6 + r).toNat, by omega⟩
    rw [hk] at hw2 h5 hcl hE
    rw [Int.toNat_natCast] at hcl hE
    have hbb : bb < w.heap.size := hbb
    go_enter Try.func58, Try.ntmps58
    go_wp2_with fail
    refine (kr.out _).mono ?_
    rintro e w1 ⟨rfl, rfl⟩
    go_wp2_with fail
    go_quiet (fail)
    go_wp2_with fail
    go_ret
    exact ⟨ret_bool hE.out.symm, below_drewN hb2.out _⟩

theorem meets_no {rs zs : List Int} {n k : Nat} (hk : k < n) (h : metB rs (geti zs (k * 3)) (geti zs (k * 3 + 1)) (geti zs (k * 3 + 2)) = false) : meetsB rs zs n = false := allB_no (f := fun k => metB rs (geti zs (k * 3)) (geti zs (k * 3 + 1)) (geti zs (k * 3 + 2))) hk h
theorem meets_yes {rs zs : List Int} {n : Nat} (h : ∀ k, k < n → metB rs (geti zs (k * 3)) (geti zs (k * 3 + 1)) (geti zs (k * 3 + 2)) = true) : meetsB rs zs n = true := allB_yes h

set_option maxRecDepth 100000 in
set_option maxHeartbeats 3200000 in
theorem meets_any (A D : Option Addr) (rs zs : List Int) (c n d : Nat) (w : World) (hn : rs.length ≤ 1048576) (hm : n ≤ 1048576) (hz : zs.length = n * 3) (ha : IntsAt w (Old w.heap.size) A rs) (hd : IntsAt w (Old w.heap.size) D zs) :
    Calls Try.prog 17 #[.agg #[.slice A rs.length c], .slice D n d] w fun e w' => e = .returned (.bool (meetsB rs zs n)) ∧ Below w.heap.size w w' := by
  have X0 := hide (Blk.new w 29 #[.slice A rs.length c])
  have B0 := below1 w (Obj.cells #[.slice A rs.length c] 29)
  go_enter Try.func17, Try.ntmps17
  go_wp2_with fail
  go_loopw [9] (fun i wr => ∃ (k : Nat), k ≤ n ∧ i = .int .i64 k ∧ Below w.heap.size w wr ∧ Blk wr w.heap.size 29 #[.slice A rs.length c] ∧ Hid (∀ j, j < k → metB rs (geti zs (j * 3)) (geti zs (j * 3 + 1)) (geti zs (j * 3 + 2)) = true)) (fun i _ => n - (intOf i).toNat)
  case atStart => exact ⟨0, Nat.zero_le _, rfl, B0, X0.out, hide (fun j hj => by omega)⟩
  case round =>
    obtain ⟨k, hk, rfl, hb, hX, hT⟩ := hrel
    by_cases hlt : k < n
    · obtain ⟨b, off, rfl, hbB, c0, c1, c2⟩ := (hd.below hb (fun _ h => h)).three hz hlt
      have hlt' : (k : Int) < (n : Int) := by omega
      have hX' := hide hX
      have hb' := hide hb
      have x0 : wr.cell? ⟨w.heap.size, 0, none⟩ = some (.slice A rs.length c) := hX.cell 0
      have hxl := hX.lt
      have hbl : b < wr.heap.size := Nat.lt_of_lt_of_le hbB hb.size
      have hs := hb.size
      have ha' := hide ((ha.below hb (fun _ h => h)).more (fun q (h : q < w.heap.size) => (show Old wr.heap.size q from Nat.lt_of_lt_of_le h hs)))
      clear hX hb
      go_wp2_with fail
      refine (met_any A rs c _ _ _ _ hn ((ha'.out.below (below1 _ _) (fun _ h => h)).more (fun q (h : q < wr.heap.size) => (show q < (wr.alloc _).heap.size by simp; omega)))).mono ?_
      rintro e w1 ⟨rfl, hb1⟩
      cases hE : metB rs (geti zs (k * 3)) (geti zs (k * 3 + 1)) (geti zs (k * 3 + 2))
      · have hF := hide (meets_no hlt hE)
        go_wp2_with fail
        go_ret
        exact ⟨ret_bool hF.out.symm, below_then hb'.out (below_step hb1)⟩
      · have hE := hide hE
        have hb2 := hide (below_step hb1)
        go_wp2_with fail
        go_roundw
        case rel => exact ⟨k + 1, by omega, by go_num, below_then hb'.out hb2.out, hX'.out.below hb2.out hxl, hide (fun j hj => by
          by_cases e : j < k
          · exact hT.out j e
          · obtain rfl : j = k := by omega
            exact hE.out)⟩
        case measure => simp [intOf]; omega
    · obtain rfl : k = n := by omega
      have hF := hide (meets_yes hT.out)
      go_wp2_with fail
      go_ret
      exact ⟨ret_bool hF.out.symm, hb⟩
end Go.Proofs.Ytbeaijmilpefmaa
