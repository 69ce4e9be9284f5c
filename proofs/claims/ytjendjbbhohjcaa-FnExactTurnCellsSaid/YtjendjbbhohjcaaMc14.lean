/- spec.InsOk returns insB, for every argument. · spec.ProgOk: what it returns, for every program in memory. -/
import Derived.Test.YtjendjbbhohjcaaMc0
import Derived.Test.YtjendjbbhohjcaaMc3
import Derived.Test.YtjendjbbhohjcaaMc9
import Derived.Test.YtjendjbbhohjcaaMc10
import Derived.Test.YtjendjbbhohjcaaRows
import Derived.BigQuiet
import Derived.Deep.QuietTactic
import Derived.BigRegion
import Derived.StillTailTactics
namespace Go.Proofs.Ytjendjbbhohjcaa
open Go.RowKit

set_option maxHeartbeats 400000 in
theorem l1reg_any (r : Int) (w : World) :
    Calls Try.prog 73 #[.int .i64 r] w fun e w' => e = .returned (.bool (regB r)) ∧ w = w' := by
  go_enter Try.func73, Try.ntmps73
  go_wp2
  all_goals
    go_ret
    exact ⟨ret_bool (by unfold regB; rw [Bool.eq_iff_iff]; simp; omega), rfl⟩
end Go.Proofs.Ytjendjbbhohjcaa

namespace Go.Proofs.Ytjendjbbhohjcaa
open Go.RowKit

set_option maxHeartbeats 800000 in
theorem l1uses_any (o : Int) (w : World) :
    Calls Try.prog 121 #[.int .i64 o] w fun e w' => e = .returned (.agg #[.bool (uR o), .bool (uA o), .bool (uB o), .bool (uX o), .bool (uN o)]) ∧ Below w.heap.size w w' := by
  go_enter Try.func121, Try.ntmps121
  go_wp2
  all_goals
    refine bodyPost_ret (v := .agg #[.bool (uR o), .bool (uA o), .bool (uB o), .bool (uX o), .bool (uN o)]) ?_ rfl ⟨rfl, below1 _ _⟩
    first | (obtain ⟨e1, e2, e3, e4, e5⟩ := u_other o ‹_› ‹_› ‹_› ‹_› ‹_› ‹_› ‹_› ‹_› ‹_› ‹_› ‹_› ‹_› ‹_›; simp [results, Try.results121, go_sem, e1, e2, e3, e4, e5]; done) | (simp only [beq_iff_eq] at *; subst_vars; simp [results, Try.results121, go_sem, uR, uA, uB, uX, uN])

end Go.Proofs.Ytjendjbbhohjcaa

namespace Go.Proofs.Ytjendjbbhohjcaa
open Go.RowKit

theorem insB_no {o r a b x n i cells m : Int} (h : ¬ (1 ≤ o ∧ o ≤ 14) ∨ regB r = false ∨ regB a = false ∨ regB b = false) : insB o r a b x n i cells m = false := by
  unfold insB regsB
  rcases h with h | h | h | h
  · have : knownB o = false := by unfold knownB; simpa using h
    rw [this]; simp
  · rw [h]; simp
  · rw [h]; simp
  · rw [h]; simp
theorem insB_iff {o r a b x n i cells m : Int} (hk : 1 ≤ o ∧ o ≤ 14) (h1 : regB r = true) (h2 : regB a = true) (h3 : regB b = true) :
    (insB o r a b x n i cells m = true) ↔ ((r = 0 ∨ uR o = true) ∧ (a = 0 ∨ uA o = true) ∧ (b = 0 ∨ uB o = true) ∧ (x = 0 ∨ uX o = true) ∧ (n = 0 ∨ uN o = true)) ∧ (touchN o = 0 ∨ (1 ≤ countN o n ∧ countN o n ≤ cells ∧ 0 ≤ x ∧ x ≤ cells - countN o n)) ∧ ((o = 13 ∨ o = 14) → (i < n ∧ n ≤ m)) := by
  unfold insB regsB zeroB cellsB jumpB
  have : knownB o = true := by unfold knownB; simpa using hk
  rw [this, h1, h2, h3]
  have e : (¬o = 13 ∧ ¬o = 14 ∨ i < n ∧ n ≤ m) ↔ ((o = 13 ∨ o = 14) → i < n ∧ n ≤ m) := by omega
  simp [and_assoc, e]

end Go.Proofs.Ytjendjbbhohjcaa

namespace Go.Proofs.Ytjendjbbhohjcaa
open Go.RowKit

set_option maxHeartbeats 1600000 in
theorem sins_low (o r a b x n i cells m : Int) (w : World) (hk : ¬ (1 ≤ o ∧ o ≤ 14)) :
    Calls Try.prog 105 #[.agg #[.int .i64 o, .int .i64 r, .int .i64 a, .int .i64 b, .int .i64 x, .int .i64 n], .int .i64 i, .int .i64 cells, .int .i64 m] w fun e w' => e = .returned (.bool (insB o r a b x n i cells m)) ∧ Below w.heap.size w w' := by
  have HF := hide (insB_no (r := r) (a := a) (b := b) (x := x) (n := n) (i := i) (cells := cells) (m := m) (.inl hk))
  by_cases h : o < 1
  · clear hk
    go_enter Try.func105, Try.ntmps105
    go_wp2
    go_ret
    exact ⟨ret_bool HF.out.symm, below1 _ _⟩
  · have h2 : 14 < o := by omega
    clear hk h
    go_enter Try.func105, Try.ntmps105
    go_wp2
    go_ret
    exact ⟨ret_bool HF.out.symm, below1 _ _⟩

set_option maxHeartbeats 1600000 in
theorem sins_regs (o r a b x n i cells m : Int) (w : World) (hk : 1 ≤ o) (hk2 : o ≤ 14) (hr : regB r = false ∨ regB a = false ∨ regB b = false) :
    Calls Try.prog 105 #[.agg #[.int .i64 o, .int .i64 r, .int .i64 a, .int .i64 b, .int .i64 x, .int .i64 n], .int .i64 i, .int .i64 cells, .int .i64 m] w fun e w' => e = .returned (.bool (insB o r a b x n i cells m)) ∧ Below w.heap.size w w' := by
  have HF := hide (insB_no (o := o) (r := r) (a := a) (b := b) (x := x) (n := n) (i := i) (cells := cells) (m := m) (.inr hr))
  have k1 := hide (fun w => l1reg_any r w)
  have k2 := hide (fun w => l1reg_any a w)
  have k3 := hide (fun w => l1reg_any b w)
  generalize regB r = p1 at *
  generalize regB a = p2 at *
  generalize regB b = p3 at *
  cases p1
  · clear hr
    go_enter Try.func105, Try.ntmps105
    go_wp2_with fail
    refine (k1.out _).mono ?_; rintro e w1 ⟨rfl, rfl⟩
    go_wp2_with fail
    go_ret
    exact ⟨ret_bool HF.out.symm, below1 _ _⟩
  cases p2
  · clear hr
    go_enter Try.func105, Try.ntmps105
    go_wp2_with fail
    refine (k1.out _).mono ?_; rintro e w1 ⟨rfl, rfl⟩
    go_wp2_with fail
    refine (k2.out _).mono ?_; rintro e w1 ⟨rfl, rfl⟩
    go_wp2_with fail
    go_ret
    exact ⟨ret_bool HF.out.symm, below1 _ _⟩
  cases p3
  · clear hr
    go_enter Try.func105, Try.ntmps105
    go_wp2_with fail
    refine (k1.out _).mono ?_; rintro e w1 ⟨rfl, rfl⟩
    go_wp2_with fail
    refine (k2.out _).mono ?_; rintro e w1 ⟨rfl, rfl⟩
    go_wp2_with fail
    refine (k3.out _).mono ?_; rintro e w1 ⟨rfl, rfl⟩
    go_wp2_with fail
    go_ret
    exact ⟨ret_bool HF.out.symm, below1 _ _⟩
  · simp at hr

set_option maxHeartbeats 3200000 in
theorem sins_a (o r a b x n i cells m : Int) (w : World) (ho : o = 1 ∨ o = 2 ∨ o = 3 ∨ o = 4) (hr1 : regB r = true) (hr2 : regB a = true) (hr3 : regB b = true) :
    Calls Try.prog 105 #[.agg #[.int .i64 o, .int .i64 r, .int .i64 a, .int .i64 b, .int .i64 x, .int .i64 n], .int .i64 i, .int .i64 cells, .int .i64 m] w fun e w' => e = .returned (.bool (insB o r a b x n i cells m)) ∧ Below w.heap.size w w' := by
  have hk : 1 ≤ o ∧ o ≤ 14 := by omega
  have HF := hide (insB_iff (o := o) (r := r) (a := a) (b := b) (x := x) (n := n) (i := i) (cells := cells) (m := m) hk hr1 hr2 hr3)
  have k1 := hide (fun w => l1reg_any r w)
  have k2 := hide (fun w => l1reg_any a w)
  have k3 := hide (fun w => l1reg_any b w)
  have k4 := hide (fun w => l1uses_any o w)
  rw [hr1] at k1
  rw [hr2] at k2
  rw [hr3] at k3
  clear hr1 hr2 hr3 hk
  generalize hres : insB o r a b x n i cells m = res at *
  clear hres
  rcases ho with rfl | rfl | rfl | rfl
  all_goals
    go_enter Try.func105, Try.ntmps105
    go_wp2_with fail
    refine (k1.out _).mono ?_; rintro e w1 ⟨rfl, rfl⟩
    go_wp2_with fail
    refine (k2.out _).mono ?_; rintro e w1 ⟨rfl, rfl⟩
    go_wp2_with fail
    refine (k3.out _).mono ?_; rintro e w1 ⟨rfl, rfl⟩
    go_wp2_with fail
    refine (k4.out _).mono ?_; rintro e w1 ⟨rfl, hb1⟩
    obtain ⟨hcl1, hfz1⟩ := bcell hb1; have hz1 := size_step hb1
    go_wp2_with fail
  all_goals
    have H := HF.out
    go_ret
    refine ⟨ret_bool ?_, below_then (below_step hb1) (below1 _ _)⟩
    rw [Bool.eq_iff_iff, H]
    simp [uR, uA, uB, uX, uN, touchN, countN]
    try simp only [bne_iff_ne, bne_eq_false_iff_eq, ne_eq] at *
    try omega

set_option maxHeartbeats 3200000 in
theorem sins_b (o r a b x n i cells m : Int) (w : World) (ho : o = 5 ∨ o = 6 ∨ o = 12) (hr1 : regB r = true) (hr2 : regB a = true) (hr3 : regB b = true) :
    Calls Try.prog 105 #[.agg #[.int .i64 o, .int .i64 r, .int .i64 a, .int .i64 b, .int .i64 x, .int .i64 n], .int .i64 i, .int .i64 cells, .int .i64 m] w fun e w' => e = .returned (.bool (insB o r a b x n i cells m)) ∧ Below w.heap.size w w' := by
  have hk : 1 ≤ o ∧ o ≤ 14 := by omega
  have HF := hide (insB_iff (o := o) (r := r) (a := a) (b := b) (x := x) (n := n) (i := i) (cells := cells) (m := m) hk hr1 hr2 hr3)
  have k1 := hide (fun w => l1reg_any r w)
  have k2 := hide (fun w => l1reg_any a w)
  have k3 := hide (fun w => l1reg_any b w)
  have k4 := hide (fun w => l1uses_any o w)
  rw [hr1] at k1
  rw [hr2] at k2
  rw [hr3] at k3
  clear hr1 hr2 hr3 hk
  generalize hres : insB o r a b x n i cells m = res at *
  clear hres
  rcases ho with rfl | rfl | rfl
  all_goals
    go_enter Try.func105, Try.ntmps105
    go_wp2_with fail
    refine (k1.out _).mono ?_; rintro e w1 ⟨rfl, rfl⟩
    go_wp2_with fail
    refine (k2.out _).mono ?_; rintro e w1 ⟨rfl, rfl⟩
    go_wp2_with fail
    refine (k3.out _).mono ?_; rintro e w1 ⟨rfl, rfl⟩
    go_wp2_with fail
    refine (k4.out _).mono ?_; rintro e w1 ⟨rfl, hb1⟩
    obtain ⟨hcl1, hfz1⟩ := bcell hb1; have hz1 := size_step hb1
    go_wp2_with fail
  all_goals
    have H := HF.out
    go_ret
    refine ⟨ret_bool ?_, below_then (below_step hb1) (below1 _ _)⟩
    rw [Bool.eq_iff_iff, H]
    simp [uR, uA, uB, uX, uN, touchN, countN]
    try simp only [bne_iff_ne, bne_eq_false_iff_eq, ne_eq] at *
    try omega

end Go.Proofs.Ytjendjbbhohjcaa

namespace Go.Proofs.Ytjendjbbhohjcaa
open Go.RowKit

set_option maxHeartbeats 3200000 in
theorem sins_c (o r a b x n i cells m : Int) (w : World) (ho : o = 7 ∨ o = 8 ∨ o = 11) (hr1 : regB r = true) (hr2 : regB a = true) (hr3 : regB b = true) (hc1 : -9223372036854775808 ≤ cells) (hc2 : cells ≤ 9223372036854775807) :
    Calls Try.prog 105 #[.agg #[.int .i64 o, .int .i64 r, .int .i64 a, .int .i64 b, .int .i64 x, .int .i64 n], .int .i64 i, .int .i64 cells, .int .i64 m] w fun e w' => e = .returned (.bool (insB o r a b x n i cells m)) ∧ Below w.heap.size w w' := by
  have hk : 1 ≤ o ∧ o ≤ 14 := by omega
  have HF := hide (insB_iff (o := o) (r := r) (a := a) (b := b) (x := x) (n := n) (i := i) (cells := cells) (m := m) hk hr1 hr2 hr3)
  have k1 := hide (fun w => l1reg_any r w)
  have k2 := hide (fun w => l1reg_any a w)
  have k3 := hide (fun w => l1reg_any b w)
  have k4 := hide (fun w => l1uses_any o w)
  rw [hr1] at k1
  rw [hr2] at k2
  rw [hr3] at k3
  clear hr1 hr2 hr3 hk
  generalize hres : insB o r a b x n i cells m = res at *
  clear hres
  rcases ho with rfl | rfl | rfl
  all_goals
    go_enter Try.func105, Try.ntmps105
    go_wp2_with fail
    refine (k1.out _).mono ?_; rintro e w1 ⟨rfl, rfl⟩
    go_wp2_with fail
    refine (k2.out _).mono ?_; rintro e w1 ⟨rfl, rfl⟩
    go_wp2_with fail
    refine (k3.out _).mono ?_; rintro e w1 ⟨rfl, rfl⟩
    go_wp2_with fail
    refine (k4.out _).mono ?_; rintro e w1 ⟨rfl, hb1⟩
    obtain ⟨hcl1, hfz1⟩ := bcell hb1; have hz1 := size_step hb1
    go_wp2_with fail
  all_goals
    have H := HF.out
    go_ret
    refine ⟨ret_bool ?_, below_then (below_step hb1) (below1 _ _)⟩
    rw [Bool.eq_iff_iff, H]
    simp [uR, uA, uB, uX, uN, touchN, countN]
    try simp only [bne_iff_ne, bne_eq_false_iff_eq, ne_eq] at *
    try omega

set_option maxHeartbeats 3200000 in
theorem sins_d (o r a b x n i cells m : Int) (w : World) (ho : o = 9 ∨ o = 10) (hr1 : regB r = true) (hr2 : regB a = true) (hr3 : regB b = true) (hc1 : -9223372036854775808 ≤ cells) (hc2 : cells ≤ 9223372036854775807) :
    Calls Try.prog 105 #[.agg #[.int .i64 o, .int .i64 r, .int .i64 a, .int .i64 b, .int .i64 x, .int .i64 n], .int .i64 i, .int .i64 cells, .int .i64 m] w fun e w' => e = .returned (.bool (insB o r a b x n i cells m)) ∧ Below w.heap.size w w' := by
  have hk : 1 ≤ o ∧ o ≤ 14 := by omega
  have HF := hide (insB_iff (o := o) (r := r) (a := a) (b := b) (x := x) (n := n) (i := i) (cells := cells) (m := m) hk hr1 hr2 hr3)
  have k1 := hide (fun w => l1reg_any r w)
  have k2 := hide (fun w => l1reg_any a w)
  have k3 := hide (fun w => l1reg_any b w)
  have k4 := hide (fun w => l1uses_any o w)
  rw [hr1] at k1
  rw [hr2] at k2
  rw [hr3] at k3
  clear hr1 hr2 hr3 hk
  generalize hres : insB o r a b x n i cells m = res at *
  clear hres
  rcases ho with rfl | rfl
  all_goals
    go_enter Try.func105, Try.ntmps105
    go_wp2_with fail
    refine (k1.out _).mono ?_; rintro e w1 ⟨rfl, rfl⟩
    go_wp2_with fail
    refine (k2.out _).mono ?_; rintro e w1 ⟨rfl, rfl⟩
    go_wp2_with fail
    refine (k3.out _).mono ?_; rintro e w1 ⟨rfl, rfl⟩
    go_wp2_with fail
    refine (k4.out _).mono ?_; rintro e w1 ⟨rfl, hb1⟩
    obtain ⟨hcl1, hfz1⟩ := bcell hb1; have hz1 := size_step hb1
    go_wp2_with fail
  all_goals
    have H := HF.out
    go_ret
    refine ⟨ret_bool ?_, below_then (below_step hb1) (below1 _ _)⟩
    rw [Bool.eq_iff_iff, H]
    simp [uR, uA, uB, uX, uN, touchN, countN]
    try simp only [bne_iff_ne, bne_eq_false_iff_eq, ne_eq] at *
    try omega

set_option maxHeartbeats 3200000 in
theorem sins_e (o r a b x n i cells m : Int) (w : World) (ho : o = 13 ∨ o = 14) (hr1 : regB r = true) (hr2 : regB a = true) (hr3 : regB b = true) :
    Calls Try.prog 105 #[.agg #[.int .i64 o, .int .i64 r, .int .i64 a, .int .i64 b, .int .i64 x, .int .i64 n], .int .i64 i, .int .i64 cells, .int .i64 m] w fun e w' => e = .returned (.bool (insB o r a b x n i cells m)) ∧ Below w.heap.size w w' := by
  have hk : 1 ≤ o ∧ o ≤ 14 := by omega
  have HF := hide (insB_iff (o := o) (r := r) (a := a) (b := b) (x := x) (n := n) (i := i) (cells := cells) (m := m) hk hr1 hr2 hr3)
  have k1 := hide (fun w => l1reg_any r w)
  have k2 := hide (fun w => l1reg_any a w)
  have k3 := hide (fun w => l1reg_any b w)
  have k4 := hide (fun w => l1uses_any o w)
  rw [hr1] at k1
  rw [hr2] at k2
  rw [hr3] at k3
  clear hr1 hr2 hr3 hk
  generalize hres : insB o r a b x n i cells m = res at *
  clear hres
  rcases ho with rfl | rfl
  all_goals
    go_enter Try.func105, Try.ntmps105
    go_wp2_with fail
    refine (k1.out _).mono ?_; rintro e w1 ⟨rfl, rfl⟩
    go_wp2_with fail
    refine (k2.out _).mono ?_; rintro e w1 ⟨rfl, rfl⟩
    go_wp2_with fail
    refine (k3.out _).mono ?_; rintro e w1 ⟨rfl, rfl⟩
    go_wp2_with fail
    refine (k4.out _).mono ?_; rintro e w1 ⟨rfl, hb1⟩
    obtain ⟨hcl1, hfz1⟩ := bcell hb1; have hz1 := size_step hb1
    go_wp2_with fail
  all_goals
    have H := HF.out
    go_ret
    refine ⟨ret_bool ?_, below_then (below_step hb1) (below1 _ _)⟩
    rw [Bool.eq_iff_iff, H]
    simp [uR, uA, uB, uX, uN, touchN, countN]
    try simp only [bne_iff_ne, bne_eq_false_iff_eq, ne_eq] at *
    try omega

end Go.Proofs.Ytjendjbbhohjcaa

namespace Go.Proofs.Ytjendjbbhohjcaa
open Go.RowKit

theorem sins_any (o r a b x n i cells m : Int) (w : World) (hc1 : -9223372036854775808 ≤ cells) (hc2 : cells ≤ 9223372036854775807) :
    Calls Try.prog 105 #[.agg #[.int .i64 o, .int .i64 r, .int .i64 a, .int .i64 b, .int .i64 x, .int .i64 n], .int .i64 i, .int .i64 cells, .int .i64 m] w fun e w' => e = .returned (.bool (insB o r a b x n i cells m)) ∧ Below w.heap.size w w' := by
  by_cases hk : 1 ≤ o ∧ o ≤ 14
  · by_cases hr : regB r = false ∨ regB a = false ∨ regB b = false
    · exact sins_regs o r a b x n i cells m w hk.1 hk.2 hr
    · have h1 : regB r = true := by cases h : regB r <;> simp_all
      have h2 : regB a = true := by cases h : regB a <;> simp_all
      have h3 : regB b = true := by cases h : regB b <;> simp_all
      by_cases g1 : o = 1 ∨ o = 2 ∨ o = 3 ∨ o = 4
      · exact sins_a o r a b x n i cells m w g1 h1 h2 h3
      by_cases g2 : o = 5 ∨ o = 6 ∨ o = 12
      · exact sins_b o r a b x n i cells m w g2 h1 h2 h3
      by_cases g3 : o = 7 ∨ o = 8 ∨ o = 11
      · exact sins_c o r a b x n i cells m w g3 h1 h2 h3 hc1 hc2
      by_cases g4 : o = 9 ∨ o = 10
      · exact sins_d o r a b x n i cells m w g4 h1 h2 h3 hc1 hc2
      · exact sins_e o r a b x n i cells m w (by omega) h1 h2 h3
  · exact sins_low o r a b x n i cells m w hk
end Go.Proofs.Ytjendjbbhohjcaa

namespace Go.Proofs.Ytjendjbbhohjcaa
open Go.RowKit

theorem sinsBD_any (d : InsD) (i cells m : Int) (w : World) (hc1 : -9223372036854775808 ≤ cells) (hc2 : cells ≤ 9223372036854775807) :
    Calls Try.prog 105 #[.agg #[.int .i64 d.o, .int .i64 d.r, .int .i64 d.a, .int .i64 d.b, .int .i64 d.x, .int .i64 d.n], .int .i64 i, .int .i64 cells, .int .i64 m] w fun e w' => e = .returned (.bool (insBD d i cells m)) ∧ Below w.heap.size w w' :=
  sins_any d.o d.r d.a d.b d.x d.n i cells m w hc1 hc2

set_option maxRecDepth 100000 in
set_option maxHeartbeats 1600000 in
theorem sprogOk_loop (v : Value) (p : ProgD) (S : Nat → Prop) (w : World) (hS : ∀ b, S b → b < w.heap.size) (hp : ProgAt w S v p) (hs : 1 ≤ p.init.length ∧ p.init.length ≤ 6 ∧ 1 ≤ p.ts.length ∧ p.ts.length ≤ 3) :
    Calls Try.prog 80 #[v] w fun e w' => e = .returned (.bool (progB p)) ∧ Below w.heap.size w w' := by
  obtain ⟨A, c, A', c', rfl, hcc, hi, ht⟩ := hp
  have hn := hi.1
  have hn' := ht.1
  obtain ⟨s1, s2, s3, s4⟩ := hs
  have HSz := hide (show sizesB p = true by unfold sizesB; simp; omega)
  have q1 : decide ((p.init.length : Int) < 1) = false := by simp; omega
  have q2 : decide ((6 : Int) < (p.init.length : Int)) = false := by simp; omega
  have q3 : decide ((p.ts.length : Int) < 1) = false := by simp; omega
  have q4 : decide ((3 : Int) < (p.ts.length : Int)) = false := by simp; omega
  have hb0 := below1 w (Obj.cells #[Value.slice A p.init.length c, Value.slice A' p.ts.length c'] 37)
  go_enter Try.func80, Try.ntmps80
  go_wp2
  clear q1 q2 q3 q4
  go_loopw [3] (fun i wr => ∃ (k : Nat), k ≤ p.ts.length ∧ i = .int .i64 k ∧ Hid (∀ j, j < k → thrB (gett p.ts j) p.init.length = true) ∧ Below (w.alloc (Obj.cells #[Value.slice A p.init.length c, Value.slice A' p.ts.length c'] 37)).heap.size (w.alloc (Obj.cells #[Value.slice A p.init.length c, Value.slice A' p.ts.length c'] 37)) wr) (fun i _ => p.ts.length - (intOf i).toNat)
  case atStart => exact ⟨0, Nat.zero_le _, rfl, hide (fun j hj => by omega), Below.refl _ _⟩
  case round =>
    obtain ⟨k, hk, rfl, hj, hb⟩ := hrel
    obtain ⟨wo, rfl⟩ : ∃ wo : World, wo = wr := ⟨_, rfl⟩
    by_cases hlt : k < p.ts.length
    · obtain ⟨b, off, rfl, hbB, hc⟩ := ((ht.below hb0 hS).below hb (fun b h => Nat.lt_of_lt_of_le (hS b h) hb0.size)).2 (by omega)
      obtain ⟨A2, c2, hcell, hcap, hin⟩ := hc k hlt
      obtain ⟨hcl, hfz⟩ := bcell hb
      have hsz := size_step hb
      have hx : ((k : Int) < (p.ts.length : Int)) := by omega
      have hin' := hin.1
      clear hc
      by_cases h24 : 24 < (gett p.ts k).length
      · have h24' : (24 : Int) < ((gett p.ts k).length : Int) := by omega
        have HF := hide (show progB p = false by unfold progB; rw [allB_no hlt (by unfold thrB; simp; omega)]; simp)
        go_wp2
        go_ret
        exact ⟨ret_bool HF.out.symm, below_then hb0 hb⟩
      · have h24' : ((gett p.ts k).length : Int) ≤ 24 := by omega
        go_wp2
        go_loopw [4] (fun i wr => ∃ (m : Nat), m ≤ (gett p.ts k).length ∧ i = .int .i64 m ∧ Hid (∀ j, j < m → insBD (getd (gett p.ts k) j) j p.init.length (gett p.ts k).length = true) ∧ Below wo.heap.size wo wr) (fun i _ => (gett p.ts k).length - (intOf i).toNat)
        case atStart => exact ⟨0, Nat.zero_le _, rfl, hide (fun j hj => by omega), Below.refl _ _⟩
        case round =>
          obtain ⟨m, hm, rfl, hjm, hbm⟩ := hrel
          have hkb := ((Blk.new w 37 _).below hb (by simp)).below hbm hsz
          have e0 := hkb.cell 0
          have e1 := hkb.cell 1
          simp only [List.getElem?_toArray, List.getElem?_cons_zero, List.getElem?_cons_succ] at e0 e1
          have hbw : b < wo.heap.size := Nat.lt_trans (hS b hbB) hsz
          have e2 := ((bcell hbm).1 b (off + k) hbw).trans hcell
          have hbR := below_then (below_then hb0 hb) hbm
          have HIN := hin.below hbm (fun b h => Nat.lt_trans (hS b h) hsz)
          clear hkb hcl hfz hcell
          by_cases hlm : m < (gett p.ts k).length
          · obtain ⟨b2, off2, rfl, hbB2, hc2⟩ := HIN.2 (by omega)
            obtain ⟨c0, c1, c2, c3, c4, c5⟩ := hc2 m hlm
            have hxm : ((m : Int) < ((gett p.ts k).length : Int)) := by omega
            have kc := hide (fun w => sinsBD_any (getd (gett p.ts k) m) m p.init.length (gett p.ts k).length w (by omega) (by omega))
            clear hc2
            cases hr : insBD (getd (gett p.ts k) m) m p.init.length (gett p.ts k).length
            · have HF := hide (show progB p = false by unfold progB; rw [allB_no hlt (by unfold thrB; rw [allB_no hlm hr]; simp)]; simp)
              rw [hr] at kc
              clear hr
              go_wp2_with fail
              go_still_tail 20, (by kernel_rfl)
              have hbd := hbR.drew
              change wpList _ _ _ _ _ wr.drew
              clear e0 e1 e2 c0 c1 c2 c3 c4 c5
              generalize wr.drew = w2 at *
              go_wp2_with (go_at_call 105; refine (kc.out _).mono ?_; rintro e w3 ⟨rfl, hb3⟩)
              go_ret
              exact ⟨ret_bool HF.out.symm, below_then hbd hb3⟩
            · rw [hr] at kc
              have HR := hide hr
              clear hr
              go_wp2_with fail
              go_still_tail 20, (by kernel_rfl)
              have hbd := hbm.drew
              change wpList _ _ _ _ _ wr.drew
              clear e0 e1 e2 c0 c1 c2 c3 c4 c5
              generalize wr.drew = w2 at *
              go_wp2_with (go_at_call 105; refine (kc.out _).mono ?_; rintro e w3 ⟨rfl, hb3⟩)
              go_roundw
              case rel =>
                refine ⟨m + 1, by omega, by go_num, hide (fun j hjk => ?_), below_then hbd hb3⟩
                by_cases e : j = m
                · subst e; exact HR.out
                · exact hjm.out j (by omega)
              case measure => simp [intOf]; omega
          · obtain rfl : m = (gett p.ts k).length := by omega
            have HT := hide (show thrB (gett p.ts k) p.init.length = true by unfold thrB; rw [allB_yes hjm.out]; simp; omega)
            go_wp2
            go_roundw
            case rel =>
              refine ⟨k + 1, by omega, by go_num, hide (fun j hjk => ?_), hb.trans (hbm.mono hb.size)⟩
              by_cases e : j = k
              · subst e; exact HT.out
              · exact hj.out j (by omega)
            case measure => simp [intOf]; omega
    · obtain rfl : k = p.ts.length := by omega
      have HF := hide (show progB p = true by unfold progB; rw [allB_yes hj.out, HSz.out]; rfl)
      obtain ⟨hcl, hfz⟩ := bcell hb
      have hsz := size_step hb
      go_wp2
      go_ret
      exact ⟨ret_bool HF.out.symm, below_then hb0 hb⟩

set_option maxHeartbeats 1600000 in
theorem sprogOk_any (v : Value) (p : ProgD) (S : Nat → Prop) (w : World) (hS : ∀ b, S b → b < w.heap.size) (hp : ProgAt w S v p) :
    Calls Try.prog 80 #[v] w fun e w' => e = .returned (.bool (progB p)) ∧ Below w.heap.size w w' := by
  by_cases hs : 1 ≤ p.init.length ∧ p.init.length ≤ 6 ∧ 1 ≤ p.ts.length ∧ p.ts.length ≤ 3
  · exact sprogOk_loop v p S w hS hp hs
  obtain ⟨A, c, A', c', rfl, hcc, hi, ht⟩ := hp
  have hn := hi.1
  have hn' := ht.1
  have hb0 := below1 w (Obj.cells #[Value.slice A p.init.length c, Value.slice A' p.ts.length c'] 37)
  have HF := hide (show progB p = false by unfold progB sizesB; rw [decide_eq_false hs]; simp)
  by_cases h1 : p.init.length < 1
  · have q1 : decide ((p.init.length : Int) < 1) = true := by simp; omega
    clear hs
    go_enter Try.func80, Try.ntmps80
    go_wp2
    go_ret
    exact ⟨ret_bool HF.out.symm, hb0⟩
  have q1 : decide ((p.init.length : Int) < 1) = false := by simp; omega
  by_cases h2 : 6 < p.init.length
  · have q2 : decide ((6 : Int) < (p.init.length : Int)) = true := by simp; omega
    clear hs
    go_enter Try.func80, Try.ntmps80
    go_wp2
    go_ret
    exact ⟨ret_bool HF.out.symm, hb0⟩
  have q2 : decide ((6 : Int) < (p.init.length : Int)) = false := by simp; omega
  by_cases h3 : p.ts.length < 1
  · have q3 : decide ((p.ts.length : Int) < 1) = true := by simp; omega
    clear hs
    go_enter Try.func80, Try.ntmps80
    go_wp2
    go_ret
    exact ⟨ret_bool HF.out.symm, hb0⟩
  have q3 : decide ((p.ts.length : Int) < 1) = false := by simp; omega
  have q4 : decide ((3 : Int) < (p.ts.length : Int)) = true := by simp; omega
  clear hs
  go_enter Try.func80, Try.ntmps80
  go_wp2
  go_ret
  exact ⟨ret_bool HF.out.symm, hb0⟩
end Go.Proofs.Ytjendjbbhohjcaa
