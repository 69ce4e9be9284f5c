/- The program's DequeTake and DequeSteal: small functions. -/
import Derived.Test.YthgpifeljeldjaaDqJ
namespace Go.Proofs.Ythgpifeljeldjaa
open Go.RowKit

set_option maxHeartbeats 800000 in
theorem itemReg_any (r : Int) (w : World) : Calls Try.prog 53 #[.int .i64 r] w fun e w' => e = .returned (.bool (decide (0 ≤ r ∧ r < 2))) ∧ w = w' := by
  go_enter Try.func53, Try.ntmps53
  go_wp2
  all_goals
    go_ret
    exact ⟨ret_bool (by first | (simp; done) | (simp; omega) | simp_all), rfl⟩
set_option maxHeartbeats 800000 in
theorem fencesKnown_any (r : Int) (w : World) : Calls Try.prog 43 #[.int .i64 r] w fun e w' => e = .returned (.bool (decide (0 ≤ r ∧ r ≤ 3))) ∧ w = w' := by
  go_enter Try.func43, Try.ntmps43
  go_wp2
  all_goals
    go_ret
    exact ⟨ret_bool (by first | (simp; done) | (simp; omega) | simp_all), rfl⟩
set_option maxHeartbeats 800000 in
theorem fenceIf_any (b : Bool) (w : World) : Calls Try.prog 56 #[.bool b] w fun e w' => InsR w w' e (fenL b) := by
  have H := (GrowI.lit (l := [⟨12, 0, 0, 0, 0, 0⟩]) w (cs := #[Value.int .i64 12, Value.int .i64 0, Value.int .i64 0, Value.int .i64 0, Value.int .i64 0, Value.int .i64 0]) (n := 1) (by omega) rfl rfl).ret (Below.refl _ _)
  replace H := hide H
  cases b
  · go_enter Try.func56, Try.ntmps56
    go_wp2_with fail
    go_ret
    exact InsR.nil _
  · go_enter Try.func56, Try.ntmps56
    go_wp2_with fail
    go_ret
    exact H.out
set_option maxHeartbeats 800000 in
theorem ringLoad_any (r p : Int) (w : World) : Calls Try.prog 54 #[.int .i64 r, .int .i64 p] w fun e w' => e = .returned (.agg #[.int .i64 9, .int .i64 r, .int .i64 p, .int .i64 0, .int .i64 2, .int .i64 4]) ∧ Below w.heap.size w w' := by
  go_enter Try.func54, Try.ntmps54
  go_wp2_with fail
  obtain ⟨wq, hw⟩ : ∃ x, x = w.alloc (Obj.cells #[Value.int .i64 9, Value.int .i64 r, Value.int .i64 p, Value.int .i64 0, Value.int .i64 2, Value.int .i64 4] 71) := ⟨_, rfl⟩
  have R : Blk wq w.heap.size 71 #[Value.int .i64 9, Value.int .i64 r, Value.int .i64 p, Value.int .i64 0, Value.int .i64 2, Value.int .i64 4] := by rw [hw]; exact Blk.new _ _ _
  have hb : Below w.heap.size w wq := by rw [hw]; exact below1 _ _
  rw [← hw]
  clear hw
  obtain ⟨⟨r0, r1, r2, r3, r4, r5⟩, -⟩ := ins6 R
  exact bodyPost_ret (v := .agg #[.int .i64 9, .int .i64 r, .int .i64 p, .int .i64 0, .int .i64 2, .int .i64 4]) (by simp [results, Try.results54, go_sem, r0, r1, r2, r3, r4, r5]; done) rfl ⟨rfl, hb⟩

/-- Parts that lie in a block of slices. -/
theorem threads_of {w : World} {b : Nat} {ps : List (List InsD)} {S : Nat → Prop} (hb : S b) (hn : ps.length ≤ 1000) (h : ∀ k, k < ps.length → ∃ A c, w.cell? ⟨b, k, none⟩ = some (.slice A (gett ps k).length c) ∧ (gett ps k).length ≤ c ∧ InssAt w S A (gett ps k)) : ThreadsAt w S (some ⟨b, 0, none⟩) ps :=
  ⟨by omega, fun _ => ⟨b, 0, rfl, hb, fun k hk => by rw [Nat.zero_add]; exact h k hk⟩⟩
/-- Bounds of the jumps. -/
def SmallN (l : List InsD) : Prop := ∀ d ∈ l, -1000000 ≤ d.n ∧ d.n ≤ 1000000
theorem claimL_small : SmallN claimL := by unfold SmallN claimL; simp
theorem lookL_small : SmallN lookL := by unfold SmallN lookL; simp
theorem fenL_small (b : Bool) : SmallN (fenL b) := by unfold SmallN fenL; cases b <;> simp
theorem takeT_small (r : Int) : SmallN (takeT r 0) := by unfold SmallN takeT; simp
theorem stealT_small (r : Int) : SmallN (stealT r 0) := by unfold SmallN stealT; simp
theorem small3 {a b c : List InsD} (ha : SmallN a) (hb : SmallN b) (hc : SmallN c) (k : Nat) (hk : k < [a, b, c].length) : ∀ d ∈ gett [a, b, c] k, -1000000 ≤ d.n ∧ d.n ≤ 1000000 := by
  match k, hk with
  | 0, _ => exact ha
  | 1, _ => exact hb
  | 2, _ => exact hc
/-- Three parts in a block of slices. -/
theorem three_of {w : World} {q : Nat} {a b c : List InsD} {A1 A2 A3 : Option Addr} {c1 c2 c3 : Nat} (h : Blk w q 40 #[.slice A1 a.length c1, .slice A2 b.length c2, .slice A3 c.length c3]) (l1 : a.length ≤ c1) (l2 : b.length ≤ c2) (l3 : c.length ≤ c3)
    (h1 : InssAt w (Old w.heap.size) A1 a) (h2 : InssAt w (Old w.heap.size) A2 b) (h3 : InssAt w (Old w.heap.size) A3 c) : ThreadsAt w (Old w.heap.size) (some ⟨q, 0, none⟩) [a, b, c] :=
  threads_of h.lt (by simp) fun k hk => by
    match k, hk with
    | 0, _ => exact ⟨A1, c1, h.cell 0, l1, h1⟩
    | 1, _ => exact ⟨A2, c2, h.cell 1, l2, h2⟩
    | 2, _ => exact ⟨A3, c3, h.cell 2, l3, h3⟩
theorem InssAt.old {w w' : World} {S : Nat → Prop} {A : Option Addr} {l : List InsD} (h : InssAt w S A l) (hb : Below w.heap.size w w') (hS : ∀ b, S b → b < w.heap.size) : InssAt w' (Old w'.heap.size) A l :=
  (h.below hb hS).more (fun b k => Nat.lt_of_lt_of_le (hS b k) hb.size)
theorem lit_at {W : World} {n : Nat} {l : List InsD} {cs : Array Value} (hn : n ≤ 1000) (hs : cs.size = n * 6) (hl : cs.toList = flat l) (hln : l.length = n) : InssAt (W.alloc (.cells cs 71)) (Old (W.alloc (.cells cs 71)).heap.size) (some ⟨W.heap.size, 0, none⟩) l := by
  have h := (GrowI.lit W hn hs hl).own
  subst hln
  obtain ⟨A, c, e, -, hi⟩ := own_inss h
  cases e
  exact hi.more (fun b k => k.2.2)
set_option maxRecDepth 100000 in
set_option maxHeartbeats 6400000 in
theorem ptake_yes (r f : Int) (w : World) (hrf : rfB r f = true) : Calls Try.prog 20 #[.int .i64 r, .int .i64 f] w fun e w' => InsR w w' e (takeI r (tkB f)) := by
  have hbit := tkB_bits (rf_yes hrf).2
  obtain ⟨b, hb⟩ : ∃ b, b = tkB f := ⟨_, rfl⟩
  rw [← hb] at hbit ⊢
  rw [← join_take]
  have kR := hide (fun w => itemReg_any r w)
  have kF := hide (fun w => fencesKnown_any f w)
  rw [show decide (0 ≤ r ∧ r < 2) = true from decide_eq_true (by rcases (rf_yes hrf).1 with h | h <;> omega)] at kR
  rw [show decide (0 ≤ f ∧ f ≤ 3) = true from decide_eq_true (by rcases (rf_yes hrf).2 with h | h | h | h <;> omega)] at kF
  clear hb hrf
  go_enter Try.func20, Try.ntmps20
  go_wp2_with (first | (go_at_call 53; refine (kR.out _).mono ?_; rintro e wx ⟨rfl, rfl⟩) | (go_at_call 43; refine (kF.out _).mono ?_; rintro e wx ⟨rfl, rfl⟩))
  have P1 := hide (lit_at (W := w) (l := claimL) (n := 4) (cs := #[Value.int .i64 7, Value.int .i64 2, Value.int .i64 0, Value.int .i64 0, Value.int .i64 1, Value.int .i64 0, Value.int .i64 1, Value.int .i64 3, Value.int .i64 0, Value.int .i64 0, Value.int .i64 0, Value.int .i64 1, Value.int .i64 4, Value.int .i64 2, Value.int .i64 2, Value.int .i64 3, Value.int .i64 0, Value.int .i64 0, Value.int .i64 8, Value.int .i64 0, Value.int .i64 2, Value.int .i64 0, Value.int .i64 1, Value.int .i64 0]) (by omega) rfl rfl rfl)
  have B1 := hide (below1 w (Obj.cells #[Value.int .i64 7, Value.int .i64 2, Value.int .i64 0, Value.int .i64 0, Value.int .i64 1, Value.int .i64 0, Value.int .i64 1, Value.int .i64 3, Value.int .i64 0, Value.int .i64 0, Value.int .i64 0, Value.int .i64 1, Value.int .i64 4, Value.int .i64 2, Value.int .i64 2, Value.int .i64 3, Value.int .i64 0, Value.int .i64 0, Value.int .i64 8, Value.int .i64 0, Value.int .i64 2, Value.int .i64 0, Value.int .i64 1, Value.int .i64 0] 71))
  obtain ⟨w1, hw1⟩ : ∃ x, x = w.alloc (Obj.cells #[Value.int .i64 7, Value.int .i64 2, Value.int .i64 0, Value.int .i64 0, Value.int .i64 1, Value.int .i64 0, Value.int .i64 1, Value.int .i64 3, Value.int .i64 0, Value.int .i64 0, Value.int .i64 0, Value.int .i64 1, Value.int .i64 4, Value.int .i64 2, Value.int .i64 2, Value.int .i64 3, Value.int .i64 0, Value.int .i64 0, Value.int .i64 8, Value.int .i64 0, Value.int .i64 2, Value.int .i64 0, Value.int .i64 1, Value.int .i64 0] 71) := ⟨_, rfl⟩
  rw [← hw1] at P1 B1 ⊢
  clear hw1
  obtain ⟨q1, hq1⟩ : ∃ q, q = w.heap.size := ⟨_, rfl⟩
  rw [← hq1] at P1 ⊢
  clear hq1
  refine (ringLoad_any r 2 _).mono ?_
  rintro e w2 ⟨rfl, hb⟩
  have P2 := hide (P1.out.old hb (fun _ h => h))
  have B2 := hide (B1.out.trans (hb.mono B1.out.size))
  clear hb P1 B1
  go_wp2_with fail
  refine (ringLoad_any r 2 _).mono ?_
  rintro e w3 ⟨rfl, hb⟩
  have P3 := hide (P2.out.old hb (fun _ h => h))
  have B3 := hide (B2.out.trans (hb.mono B2.out.size))
  clear hb P2 B2
  go_upto_region 5 with fail
  have hb := below1 w3 (Obj.cells #[Value.int .i64 7, Value.int .i64 4, Value.int .i64 0, Value.int .i64 0, Value.int .i64 0, Value.int .i64 0, Value.int .i64 5, Value.int .i64 5, Value.int .i64 4, Value.int .i64 2, Value.int .i64 0, Value.int .i64 0, Value.int .i64 13, Value.int .i64 0, Value.int .i64 5, Value.int .i64 0, Value.int .i64 0, Value.int .i64 5, Value.int .i64 9, Value.int .i64 r, Value.int .i64 2, Value.int .i64 0, Value.int .i64 2, Value.int .i64 4, Value.int .i64 14, Value.int .i64 0, Value.int .i64 0, Value.int .i64 0, Value.int .i64 0, Value.int .i64 16, Value.int .i64 6, Value.int .i64 5, Value.int .i64 4, Value.int .i64 2, Value.int .i64 0, Value.int .i64 0, Value.int .i64 13, Value.int .i64 0, Value.int .i64 5, Value.int .i64 0, Value.int .i64 0, Value.int .i64 14, Value.int .i64 9, Value.int .i64 r, Value.int .i64 2, Value.int .i64 0, Value.int .i64 2, Value.int .i64 4, Value.int .i64 1, Value.int .i64 3, Value.int .i64 0, Value.int .i64 0, Value.int .i64 0, Value.int .i64 1, Value.int .i64 3, Value.int .i64 3, Value.int .i64 4, Value.int .i64 3, Value.int .i64 0, Value.int .i64 0, Value.int .i64 11, Value.int .i64 5, Value.int .i64 4, Value.int .i64 3, Value.int .i64 0, Value.int .i64 0, Value.int .i64 8, Value.int .i64 0, Value.int .i64 3, Value.int .i64 0, Value.int .i64 1, Value.int .i64 0, Value.int .i64 13, Value.int .i64 0, Value.int .i64 5, Value.int .i64 0, Value.int .i64 0, Value.int .i64 15, Value.int .i64 14, Value.int .i64 0, Value.int .i64 0, Value.int .i64 0, Value.int .i64 0, Value.int .i64 16, Value.int .i64 8, Value.int .i64 0, Value.int .i64 4, Value.int .i64 0, Value.int .i64 1, Value.int .i64 0, Value.int .i64 1, Value.int .i64 r, Value.int .i64 0, Value.int .i64 0, Value.int .i64 0, Value.int .i64 0] 71)
  have T4 := hide (lit_at (W := w3) (l := takeT r 0) (n := 16) (cs := #[Value.int .i64 7, Value.int .i64 4, Value.int .i64 0, Value.int .i64 0, Value.int .i64 0, Value.int .i64 0, Value.int .i64 5, Value.int .i64 5, Value.int .i64 4, Value.int .i64 2, Value.int .i64 0, Value.int .i64 0, Value.int .i64 13, Value.int .i64 0, Value.int .i64 5, Value.int .i64 0, Value.int .i64 0, Value.int .i64 5, Value.int .i64 9, Value.int .i64 r, Value.int .i64 2, Value.int .i64 0, Value.int .i64 2, Value.int .i64 4, Value.int .i64 14, Value.int .i64 0, Value.int .i64 0, Value.int .i64 0, Value.int .i64 0, Value.int .i64 16, Value.int .i64 6, Value.int .i64 5, Value.int .i64 4, Value.int .i64 2, Value.int .i64 0, Value.int .i64 0, Value.int .i64 13, Value.int .i64 0, Value.int .i64 5, Value.int .i64 0, Value.int .i64 0, Value.int .i64 14, Value.int .i64 9, Value.int .i64 r, Value.int .i64 2, Value.int .i64 0, Value.int .i64 2, Value.int .i64 4, Value.int .i64 1, Value.int .i64 3, Value.int .i64 0, Value.int .i64 0, Value.int .i64 0, Value.int .i64 1, Value.int .i64 3, Value.int .i64 3, Value.int .i64 4, Value.int .i64 3, Value.int .i64 0, Value.int .i64 0, Value.int .i64 11, Value.int .i64 5, Value.int .i64 4, Value.int .i64 3, Value.int .i64 0, Value.int .i64 0, Value.int .i64 8, Value.int .i64 0, Value.int .i64 3, Value.int .i64 0, Value.int .i64 1, Value.int .i64 0, Value.int .i64 13, Value.int .i64 0, Value.int .i64 5, Value.int .i64 0, Value.int .i64 0, Value.int .i64 15, Value.int .i64 14, Value.int .i64 0, Value.int .i64 0, Value.int .i64 0, Value.int .i64 0, Value.int .i64 16, Value.int .i64 8, Value.int .i64 0, Value.int .i64 4, Value.int .i64 0, Value.int .i64 1, Value.int .i64 0, Value.int .i64 1, Value.int .i64 r, Value.int .i64 0, Value.int .i64 0, Value.int .i64 0, Value.int .i64 0]) (by omega) rfl rfl rfl)
  have P4 := hide (P3.out.old hb (fun _ h => h))
  have B4 := hide (B3.out.trans (hb.mono B3.out.size))
  obtain ⟨w4, hw4⟩ : ∃ x, x = w3.alloc (Obj.cells #[Value.int .i64 7, Value.int .i64 4, Value.int .i64 0, Value.int .i64 0, Value.int .i64 0, Value.int .i64 0, Value.int .i64 5, Value.int .i64 5, Value.int .i64 4, Value.int .i64 2, Value.int .i64 0, Value.int .i64 0, Value.int .i64 13, Value.int .i64 0, Value.int .i64 5, Value.int .i64 0, Value.int .i64 0, Value.int .i64 5, Value.int .i64 9, Value.int .i64 r, Value.int .i64 2, Value.int .i64 0, Value.int .i64 2, Value.int .i64 4, Value.int .i64 14, Value.int .i64 0, Value.int .i64 0, Value.int .i64 0, Value.int .i64 0, Value.int .i64 16, Value.int .i64 6, Value.int .i64 5, Value.int .i64 4, Value.int .i64 2, Value.int .i64 0, Value.int .i64 0, Value.int .i64 13, Value.int .i64 0, Value.int .i64 5, Value.int .i64 0, Value.int .i64 0, Value.int .i64 14, Value.int .i64 9, Value.int .i64 r, Value.int .i64 2, Value.int .i64 0, Value.int .i64 2, Value.int .i64 4, Value.int .i64 1, Value.int .i64 3, Value.int .i64 0, Value.int .i64 0, Value.int .i64 0, Value.int .i64 1, Value.int .i64 3, Value.int .i64 3, Value.int .i64 4, Value.int .i64 3, Value.int .i64 0, Value.int .i64 0, Value.int .i64 11, Value.int .i64 5, Value.int .i64 4, Value.int .i64 3, Value.int .i64 0, Value.int .i64 0, Value.int .i64 8, Value.int .i64 0, Value.int .i64 3, Value.int .i64 0, Value.int .i64 1, Value.int .i64 0, Value.int .i64 13, Value.int .i64 0, Value.int .i64 5, Value.int .i64 0, Value.int .i64 0, Value.int .i64 15, Value.int .i64 14, Value.int .i64 0, Value.int .i64 0, Value.int .i64 0, Value.int .i64 0, Value.int .i64 16, Value.int .i64 8, Value.int .i64 0, Value.int .i64 4, Value.int .i64 0, Value.int .i64 1, Value.int .i64 0, Value.int .i64 1, Value.int .i64 r, Value.int .i64 0, Value.int .i64 0, Value.int .i64 0, Value.int .i64 0] 71) := ⟨_, rfl⟩
  rw [← hw4] at T4 P4 B4 ⊢
  obtain ⟨q4, hq4⟩ : ∃ q, q = w3.heap.size := ⟨_, rfl⟩
  rw [← hq4] at T4 ⊢
  clear hb hw4 hq4 P3 B3
  go_wp2_with fail
  try rw [hbit]
  clear hbit
  refine (fenceIf_any b _).mono ?_
  rintro e w5 hr
  obtain ⟨A5, c5, rfl, hc5, -, hi5, hb⟩ := hr.at_
  have F5 := hide (hi5.more (S' := Old w5.heap.size) (fun b k => k.2))
  have T5 := hide (T4.out.old hb (fun _ h => h))
  have P5 := hide (P4.out.old hb (fun _ h => h))
  have B5 := hide (B4.out.trans (hb.mono B4.out.size))
  clear hb hr hi5 T4 P4 B4
  have hc := hide hc5
  clear hc5
  obtain ⟨n5, hn5⟩ : ∃ n, n = (fenL b).length := ⟨_, rfl⟩
  rw [← hn5] at ⊢
  replace hn5 := hide hn5
  go_wp2_with fail
  have hb := below1 w5 (Obj.cells #[.slice (some ⟨q1, 0, none⟩) 4 4, .slice A5 n5 c5, .slice (some ⟨q4, 0, none⟩) 16 16] 40)
  have X := Blk.new w5 40 #[.slice (some ⟨q1, 0, none⟩) 4 4, .slice A5 n5 c5, .slice (some ⟨q4, 0, none⟩) 16 16]
  have F6 := F5.out.old hb (fun _ h => h)
  have T6 := T5.out.old hb (fun _ h => h)
  have P6 := P5.out.old hb (fun _ h => h)
  have B6 := B5.out.trans (hb.mono B5.out.size)
  obtain ⟨w6, hw6⟩ : ∃ x, x = w5.alloc (Obj.cells #[.slice (some ⟨q1, 0, none⟩) 4 4, .slice A5 n5 c5, .slice (some ⟨q4, 0, none⟩) 16 16] 40) := ⟨_, rfl⟩
  rw [← hw6] at F6 T6 P6 B6 X ⊢
  clear hw6 hb F5 T5 P5 B5
  rw [hn5.out] at X
  have HT := three_of X (Nat.le_refl _) hc.out (Nat.le_refl _) P6 F6 T6
  have HB := hide B6
  have HJ := hide (joined_any (some ⟨w5.heap.size, 0, none⟩) [claimL, fenL b, takeT r 0] 3 _ w6 (fun _ h => h) HT (by rw [show [claimL, fenL b, takeT r 0].length = 3 from rfl, join_take, takeI_len]; split <;> omega) (small3 claimL_small (fenL_small b) (takeT_small r)))
  clear HT X F6 T6 P6 B6
  refine HJ.out.mono ?_
  rintro e w7 hr
  have H7 := hide (hr.mk0 HB.out)
  obtain ⟨A7, c7, rfl, -, -⟩ := hr
  go_wp2_with fail
  go_ret
  exact H7.out
set_option maxHeartbeats 800000 in
theorem ptake_no (r f : Int) (w : World) (hrf : rfB r f = false) : Calls Try.prog 20 #[.int .i64 r, .int .i64 f] w fun e w' => InsR w w' e [] := by
  have kR := hide (fun w => itemReg_any r w)
  have kF := hide (fun w => fencesKnown_any f w)
  cases h1 : decide (0 ≤ r ∧ r < 2)
  · rw [h1] at kR
    clear h1 hrf
    go_enter Try.func20, Try.ntmps20
    go_wp2_with (first | (go_at_call 53; refine (kR.out _).mono ?_; rintro e wx ⟨rfl, rfl⟩) | (go_at_call 43; refine (kF.out _).mono ?_; rintro e wx ⟨rfl, rfl⟩))
    go_ret
    exact InsR.nil _
  · rw [h1] at kR
    rw [show decide (0 ≤ f ∧ f ≤ 3) = false from decide_eq_false (fun h => by
      rw [decide_eq_true_eq] at h1
      unfold rfB at hrf
      rw [decide_eq_false_iff_not] at hrf
      omega)] at kF
    clear h1 hrf
    go_enter Try.func20, Try.ntmps20
    go_wp2_with (first | (go_at_call 53; refine (kR.out _).mono ?_; rintro e wx ⟨rfl, rfl⟩) | (go_at_call 43; refine (kF.out _).mono ?_; rintro e wx ⟨rfl, rfl⟩))
    go_ret
    exact InsR.nil _
set_option maxRecDepth 100000 in
set_option maxHeartbeats 6400000 in
theorem psteal_yes (r f : Int) (w : World) (hrf : rfB r f = true) : Calls Try.prog 25 #[.int .i64 r, .int .i64 f] w fun e w' => InsR w w' e (stealI r (stB f)) := by
  have hbit := stB_bits (rf_yes hrf).2
  obtain ⟨b, hb⟩ : ∃ b, b = stB f := ⟨_, rfl⟩
  rw [← hb] at hbit ⊢
  rw [← join_steal]
  have kR := hide (fun w => itemReg_any r w)
  have kF := hide (fun w => fencesKnown_any f w)
  rw [show decide (0 ≤ r ∧ r < 2) = true from decide_eq_true (by rcases (rf_yes hrf).1 with h | h <;> omega)] at kR
  rw [show decide (0 ≤ f ∧ f ≤ 3) = true from decide_eq_true (by rcases (rf_yes hrf).2 with h | h | h | h <;> omega)] at kF
  clear hb hrf
  go_enter Try.func25, Try.ntmps25
  go_wp2_with (first | (go_at_call 53; refine (kR.out _).mono ?_; rintro e wx ⟨rfl, rfl⟩) | (go_at_call 43; refine (kF.out _).mono ?_; rintro e wx ⟨rfl, rfl⟩))
  have P1 := hide (lit_at (W := w) (l := lookL) (n := 1) (cs := #[Value.int .i64 7, Value.int .i64 2, Value.int .i64 0, Value.int .i64 0, Value.int .i64 0, Value.int .i64 0]) (by omega) rfl rfl rfl)
  have B1 := hide (below1 w (Obj.cells #[Value.int .i64 7, Value.int .i64 2, Value.int .i64 0, Value.int .i64 0, Value.int .i64 0, Value.int .i64 0] 71))
  obtain ⟨w1, hw1⟩ : ∃ x, x = w.alloc (Obj.cells #[Value.int .i64 7, Value.int .i64 2, Value.int .i64 0, Value.int .i64 0, Value.int .i64 0, Value.int .i64 0] 71) := ⟨_, rfl⟩
  rw [← hw1] at P1 B1 ⊢
  clear hw1
  obtain ⟨q1, hq1⟩ : ∃ q, q = w.heap.size := ⟨_, rfl⟩
  rw [← hq1] at P1 ⊢
  clear hq1
  refine (ringLoad_any r 2 _).mono ?_
  rintro e w2 ⟨rfl, hb⟩
  have P2 := hide (P1.out.old hb (fun _ h => h))
  have B2 := hide (B1.out.trans (hb.mono B1.out.size))
  clear hb P1 B1
  go_upto_region 5 with fail
  have hb := below1 w2 (Obj.cells #[Value.int .i64 7, Value.int .i64 3, Value.int .i64 0, Value.int .i64 0, Value.int .i64 1, Value.int .i64 0, Value.int .i64 5, Value.int .i64 5, Value.int .i64 2, Value.int .i64 3, Value.int .i64 0, Value.int .i64 0, Value.int .i64 13, Value.int .i64 0, Value.int .i64 5, Value.int .i64 0, Value.int .i64 0, Value.int .i64 9, Value.int .i64 9, Value.int .i64 r, Value.int .i64 2, Value.int .i64 0, Value.int .i64 2, Value.int .i64 4, Value.int .i64 1, Value.int .i64 4, Value.int .i64 0, Value.int .i64 0, Value.int .i64 0, Value.int .i64 1, Value.int .i64 3, Value.int .i64 4, Value.int .i64 2, Value.int .i64 4, Value.int .i64 0, Value.int .i64 0, Value.int .i64 11, Value.int .i64 5, Value.int .i64 2, Value.int .i64 4, Value.int .i64 0, Value.int .i64 0, Value.int .i64 13, Value.int .i64 0, Value.int .i64 5, Value.int .i64 0, Value.int .i64 0, Value.int .i64 9, Value.int .i64 14, Value.int .i64 0, Value.int .i64 0, Value.int .i64 0, Value.int .i64 0, Value.int .i64 10, Value.int .i64 1, Value.int .i64 r, Value.int .i64 0, Value.int .i64 0, Value.int .i64 0, Value.int .i64 0] 71)
  have T4 := hide (lit_at (W := w2) (l := stealT r 0) (n := 10) (cs := #[Value.int .i64 7, Value.int .i64 3, Value.int .i64 0, Value.int .i64 0, Value.int .i64 1, Value.int .i64 0, Value.int .i64 5, Value.int .i64 5, Value.int .i64 2, Value.int .i64 3, Value.int .i64 0, Value.int .i64 0, Value.int .i64 13, Value.int .i64 0, Value.int .i64 5, Value.int .i64 0, Value.int .i64 0, Value.int .i64 9, Value.int .i64 9, Value.int .i64 r, Value.int .i64 2, Value.int .i64 0, Value.int .i64 2, Value.int .i64 4, Value.int .i64 1, Value.int .i64 4, Value.int .i64 0, Value.int .i64 0, Value.int .i64 0, Value.int .i64 1, Value.int .i64 3, Value.int .i64 4, Value.int .i64 2, Value.int .i64 4, Value.int .i64 0, Value.int .i64 0, Value.int .i64 11, Value.int .i64 5, Value.int .i64 2, Value.int .i64 4, Value.int .i64 0, Value.int .i64 0, Value.int .i64 13, Value.int .i64 0, Value.int .i64 5, Value.int .i64 0, Value.int .i64 0, Value.int .i64 9, Value.int .i64 14, Value.int .i64 0, Value.int .i64 0, Value.int .i64 0, Value.int .i64 0, Value.int .i64 10, Value.int .i64 1, Value.int .i64 r, Value.int .i64 0, Value.int .i64 0, Value.int .i64 0, Value.int .i64 0]) (by omega) rfl rfl rfl)
  have P4 := hide (P2.out.old hb (fun _ h => h))
  have B4 := hide (B2.out.trans (hb.mono B2.out.size))
  obtain ⟨w4, hw4⟩ : ∃ x, x = w2.alloc (Obj.cells #[Value.int .i64 7, Value.int .i64 3, Value.int .i64 0, Value.int .i64 0, Value.int .i64 1, Value.int .i64 0, Value.int .i64 5, Value.int .i64 5, Value.int .i64 2, Value.int .i64 3, Value.int .i64 0, Value.int .i64 0, Value.int .i64 13, Value.int .i64 0, Value.int .i64 5, Value.int .i64 0, Value.int .i64 0, Value.int .i64 9, Value.int .i64 9, Value.int .i64 r, Value.int .i64 2, Value.int .i64 0, Value.int .i64 2, Value.int .i64 4, Value.int .i64 1, Value.int .i64 4, Value.int .i64 0, Value.int .i64 0, Value.int .i64 0, Value.int .i64 1, Value.int .i64 3, Value.int .i64 4, Value.int .i64 2, Value.int .i64 4, Value.int .i64 0, Value.int .i64 0, Value.int .i64 11, Value.int .i64 5, Value.int .i64 2, Value.int .i64 4, Value.int .i64 0, Value.int .i64 0, Value.int .i64 13, Value.int .i64 0, Value.int .i64 5, Value.int .i64 0, Value.int .i64 0, Value.int .i64 9, Value.int .i64 14, Value.int .i64 0, Value.int .i64 0, Value.int .i64 0, Value.int .i64 0, Value.int .i64 10, Value.int .i64 1, Value.int .i64 r, Value.int .i64 0, Value.int .i64 0, Value.int .i64 0, Value.int .i64 0] 71) := ⟨_, rfl⟩
  rw [← hw4] at T4 P4 B4 ⊢
  obtain ⟨q4, hq4⟩ : ∃ q, q = w2.heap.size := ⟨_, rfl⟩
  rw [← hq4] at T4 ⊢
  clear hb hw4 hq4 P2 B2
  go_wp2_with fail
  try rw [hbit]
  clear hbit
  refine (fenceIf_any b _).mono ?_
  rintro e w5 hr
  obtain ⟨A5, c5, rfl, hc5, -, hi5, hb⟩ := hr.at_
  have F5 := hide (hi5.more (S' := Old w5.heap.size) (fun b k => k.2))
  have T5 := hide (T4.out.old hb (fun _ h => h))
  have P5 := hide (P4.out.old hb (fun _ h => h))
  have B5 := hide (B4.out.trans (hb.mono B4.out.size))
  clear hb hr hi5 T4 P4 B4
  have hc := hide hc5
  clear hc5
  obtain ⟨n5, hn5⟩ : ∃ n, n = (fenL b).length := ⟨_, rfl⟩
  rw [← hn5] at ⊢
  replace hn5 := hide hn5
  go_wp2_with fail
  have hb := below1 w5 (Obj.cells #[.slice (some ⟨q1, 0, none⟩) 1 1, .slice A5 n5 c5, .slice (some ⟨q4, 0, none⟩) 10 10] 40)
  have X := Blk.new w5 40 #[.slice (some ⟨q1, 0, none⟩) 1 1, .slice A5 n5 c5, .slice (some ⟨q4, 0, none⟩) 10 10]
  have F6 := F5.out.old hb (fun _ h => h)
  have T6 := T5.out.old hb (fun _ h => h)
  have P6 := P5.out.old hb (fun _ h => h)
  have B6 := B5.out.trans (hb.mono B5.out.size)
  obtain ⟨w6, hw6⟩ : ∃ x, x = w5.alloc (Obj.cells #[.slice (some ⟨q1, 0, none⟩) 1 1, .slice A5 n5 c5, .slice (some ⟨q4, 0, none⟩) 10 10] 40) := ⟨_, rfl⟩
  rw [← hw6] at F6 T6 P6 B6 X ⊢
  clear hw6 hb F5 T5 P5 B5
  rw [hn5.out] at X
  have HT := three_of X (Nat.le_refl _) hc.out (Nat.le_refl _) P6 F6 T6
  have HB := hide B6
  have HJ := hide (joined_any (some ⟨w5.heap.size, 0, none⟩) [lookL, fenL b, stealT r 0] 3 _ w6 (fun _ h => h) HT (by rw [show [lookL, fenL b, stealT r 0].length = 3 from rfl, join_steal, stealI_len]; split <;> omega) (small3 lookL_small (fenL_small b) (stealT_small r)))
  clear HT X F6 T6 P6 B6
  refine HJ.out.mono ?_
  rintro e w7 hr
  have H7 := hide (hr.mk0 HB.out)
  obtain ⟨A7, c7, rfl, -, -⟩ := hr
  go_wp2_with fail
  go_ret
  exact H7.out
set_option maxHeartbeats 800000 in
theorem psteal_no (r f : Int) (w : World) (hrf : rfB r f = false) : Calls Try.prog 25 #[.int .i64 r, .int .i64 f] w fun e w' => InsR w w' e [] := by
  have kR := hide (fun w => itemReg_any r w)
  have kF := hide (fun w => fencesKnown_any f w)
  cases h1 : decide (0 ≤ r ∧ r < 2)
  · rw [h1] at kR
    clear h1 hrf
    go_enter Try.func25, Try.ntmps25
    go_wp2_with (first | (go_at_call 53; refine (kR.out _).mono ?_; rintro e wx ⟨rfl, rfl⟩) | (go_at_call 43; refine (kF.out _).mono ?_; rintro e wx ⟨rfl, rfl⟩))
    go_ret
    exact InsR.nil _
  · rw [h1] at kR
    rw [show decide (0 ≤ f ∧ f ≤ 3) = false from decide_eq_false (fun h => by
      rw [decide_eq_true_eq] at h1
      unfold rfB at hrf
      rw [decide_eq_false_iff_not] at hrf
      omega)] at kF
    clear h1 hrf
    go_enter Try.func25, Try.ntmps25
    go_wp2_with (first | (go_at_call 53; refine (kR.out _).mono ?_; rintro e wx ⟨rfl, rfl⟩) | (go_at_call 43; refine (kF.out _).mono ?_; rintro e wx ⟨rfl, rfl⟩))
    go_ret
    exact InsR.nil _
end Go.Proofs.Ythgpifeljeldjaa
