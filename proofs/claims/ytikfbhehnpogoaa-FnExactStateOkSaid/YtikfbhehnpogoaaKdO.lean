/- kindOf of any state; whether a state has no memory, no buffers, no views. -/
import Derived.Test.YtikfbhehnpogoaaOkD
namespace Go.Proofs.Ytikfbhehnpogoaa
open Go.RowKit

theorem Blk.new3 (w : World) (o1 o2 o3 : Obj) (t : TypeId) (cs : Array Value) : Blk ((((w.alloc o1).alloc o2).alloc o3).alloc (Obj.cells cs t)) (w.heap.size + 1 + 1 + 1) t cs := by
  have h := Blk.new (((w.alloc o1).alloc o2).alloc o3) t cs
  simpa only [World.size_alloc] using h
theorem noCells (n : Nat) : ((n : Int) == 0) = decide (n = 0) := by
  rw [Bool.eq_iff_iff]
  simp

set_option maxRecDepth 100000 in
set_option maxHeartbeats 1600000 in
theorem kindOf_0 (A1 A2 A3 A4 A5 A6 A7 A8 A9 : Option Addr) (n1 n2 n3 n4 n5 n6 n7 n8 n9 c1 c2 c3 c4 c5 c6 c7 c8 c9 : Nat) (nx : Int) (w : World) :
    Calls Try.prog 53 #[.agg #[.slice A1 n1 c1, .slice A2 n2 c2], .agg #[.int .i64 0, .slice A3 n3 c3, .slice A4 n4 c4, .slice A5 n5 c5, .slice A6 n6 c6, .slice A7 n7 c7, .slice A8 n8 c8, .slice A9 n9 c9, .int .i64 nx]] w fun e w' => ∃ T, e = .returned (.iface 97 (.pointer (some ⟨T, 0, none⟩))) ∧ Blk w' T 101 #[.slice A1 n1 c1, .slice A2 n2 c2, .slice A3 n3 c3, .slice A4 n4 c4, .slice A5 n5 c5] ∧ w.heap.size ≤ T ∧ Below w.heap.size w w' := by
  go_enter Try.func53, Try.ntmps53
  go_wp2_with fail
  go_ret
  exact ⟨_, rfl, Blk.new3 _ _ _ _ _ _, by omega, ((below2 _ _ _).alloc (by simp; omega) _).alloc (by simp; omega) _⟩

set_option maxRecDepth 100000 in
set_option maxHeartbeats 1600000 in
theorem kindOf_1 (A1 A2 A3 A4 A5 A6 A7 A8 A9 : Option Addr) (n1 n2 n3 n4 n5 n6 n7 n8 n9 c1 c2 c3 c4 c5 c6 c7 c8 c9 : Nat) (nx : Int) (w : World) :
    Calls Try.prog 53 #[.agg #[.slice A1 n1 c1, .slice A2 n2 c2], .agg #[.int .i64 1, .slice A3 n3 c3, .slice A4 n4 c4, .slice A5 n5 c5, .slice A6 n6 c6, .slice A7 n7 c7, .slice A8 n8 c8, .slice A9 n9 c9, .int .i64 nx]] w fun e w' => ∃ T, e = .returned (.iface 103 (.pointer (some ⟨T, 0, none⟩))) ∧ Blk w' T 105 #[.slice A1 n1 c1, .slice A2 n2 c2, .slice A3 n3 c3, .slice A4 n4 c4, .slice A5 n5 c5, .slice A6 n6 c6] ∧ w.heap.size ≤ T ∧ Below w.heap.size w w' := by
  go_enter Try.func53, Try.ntmps53
  go_wp2_with fail
  go_ret
  exact ⟨_, rfl, Blk.new3 _ _ _ _ _ _, by omega, ((below2 _ _ _).alloc (by simp; omega) _).alloc (by simp; omega) _⟩

set_option maxRecDepth 100000 in
set_option maxHeartbeats 1600000 in
theorem kindOf_2 (A1 A2 A3 A4 A5 A6 A7 A8 A9 : Option Addr) (n1 n2 n3 n4 n5 n6 n7 n8 n9 c1 c2 c3 c4 c5 c6 c7 c8 c9 : Nat) (nx : Int) (w : World) :
    Calls Try.prog 53 #[.agg #[.slice A1 n1 c1, .slice A2 n2 c2], .agg #[.int .i64 2, .slice A3 n3 c3, .slice A4 n4 c4, .slice A5 n5 c5, .slice A6 n6 c6, .slice A7 n7 c7, .slice A8 n8 c8, .slice A9 n9 c9, .int .i64 nx]] w fun e w' => ∃ T, e = .returned (.iface 106 (.pointer (some ⟨T, 0, none⟩))) ∧ Blk w' T 108 #[.slice A1 n1 c1, .slice A2 n2 c2, .slice A3 n3 c3, .slice A4 n4 c4, .slice A7 n7 c7, .slice A8 n8 c8, .slice A9 n9 c9, .int .i64 nx] ∧ w.heap.size ≤ T ∧ Below w.heap.size w w' := by
  go_enter Try.func53, Try.ntmps53
  go_wp2_with fail
  go_ret
  exact ⟨_, rfl, Blk.new3 _ _ _ _ _ _, by omega, ((below2 _ _ _).alloc (by simp; omega) _).alloc (by simp; omega) _⟩

set_option maxRecDepth 100000 in
set_option maxHeartbeats 1600000 in
theorem kindOf_no (A1 A2 A3 A4 A5 A6 A7 A8 A9 : Option Addr) (n1 n2 n3 n4 n5 n6 n7 n8 n9 c1 c2 c3 c4 c5 c6 c7 c8 c9 : Nat) (nx : Int) (w : World) (kd : Int) (h0 : kd ≠ 0) (h1 : kd ≠ 1) (h2 : kd ≠ 2) :
    Calls Try.prog 53 #[.agg #[.slice A1 n1 c1, .slice A2 n2 c2], .agg #[.int .i64 kd, .slice A3 n3 c3, .slice A4 n4 c4, .slice A5 n5 c5, .slice A6 n6 c6, .slice A7 n7 c7, .slice A8 n8 c8, .slice A9 n9 c9, .int .i64 nx]] w fun e w' => e = .returned .nilIface ∧ Below w.heap.size w w' := by
  have h0' : (kd == 0) = false := by simpa using h0
  have h1' : (kd == 1) = false := by simpa using h1
  have h2' : (kd == 2) = false := by simpa using h2
  go_enter Try.func53, Try.ntmps53
  go_wp2_with fail
  go_ret
  exact ⟨rfl, (below2 _ _ _).alloc (by simp; omega) _⟩
set_option maxHeartbeats 1600000 in
theorem noMem_any (s : StD) (w : World) : Calls Try.prog 59 #[.agg s.cells] w fun e w' => e = .returned (.bool (decide (s.mem.n = 0))) ∧ Below w.heap.size w w' := by
  unfold StD.cells
  go_enter Try.func59, Try.ntmps59
  go_wp2_with fail
  go_ret
  exact ⟨ret_bool (noCells _), below1 _ _⟩
set_option maxHeartbeats 1600000 in
theorem noBufs_any (s : StD) (w : World) : Calls Try.prog 56 #[.agg s.cells] w fun e w' => e = .returned (.bool (decide (s.bufs.n = 0))) ∧ Below w.heap.size w w' := by
  unfold StD.cells
  go_enter Try.func56, Try.ntmps56
  go_wp2_with fail
  go_ret
  exact ⟨ret_bool (noCells _), below1 _ _⟩

set_option maxRecDepth 100000 in
set_option maxHeartbeats 3200000 in
theorem noViews_any (s : StD) (w : World) : Calls Try.prog 57 #[.agg s.cells] w fun e w' => e = .returned (.bool (decide (s.H.n = 0) && decide (s.view.n = 0) && decide (s.sc.n = 0) && decide (s.next = 0))) ∧ Below w.heap.size w w' := by
  have hb0 := hide (below1 w (Obj.cells s.cells 33))
  unfold StD.cells at hb0 ⊢
  by_cases hH : s.H.n = 0
  · by_cases hview : s.view.n = 0
    · by_cases hsc : s.sc.n = 0
      · have kH : ((s.H.n : Int) == 0) = true := by simp [hH]
        have kview : ((s.view.n : Int) == 0) = true := by simp [hview]
        have ksc : ((s.sc.n : Int) == 0) = true := by simp [hsc]
        have hE := hide (show (decide (s.H.n = 0) && decide (s.view.n = 0) && decide (s.sc.n = 0) && decide (s.next = 0)) = (s.next == 0) from by simp [hH, hview, hsc]; rfl)
        clear hH hview hsc
        go_enter Try.func57, Try.ntmps57
        go_wp2_with fail
        go_ret
        exact ⟨ret_bool hE.out.symm, hb0.out⟩
      · have kH : ((s.H.n : Int) == 0) = true := by simp [hH]
        have kview : ((s.view.n : Int) == 0) = true := by simp [hview]
        have ksc : ((s.sc.n : Int) == 0) = false := by rw [noCells]; simp [hsc]
        have hE := hide (show (decide (s.H.n = 0) && decide (s.view.n = 0) && decide (s.sc.n = 0) && decide (s.next = 0)) = false from by simp [hsc])
        clear hH hview hsc
        go_enter Try.func57, Try.ntmps57
        go_wp2_with fail
        go_ret
        exact ⟨ret_bool hE.out.symm, hb0.out⟩
    · have kH : ((s.H.n : Int) == 0) = true := by simp [hH]
      have kview : ((s.view.n : Int) == 0) = false := by rw [noCells]; simp [hview]
      have hE := hide (show (decide (s.H.n = 0) && decide (s.view.n = 0) && decide (s.sc.n = 0) && decide (s.next = 0)) = false from by simp [hview])
      clear hH hview
      go_enter Try.func57, Try.ntmps57
      go_wp2_with fail
      go_ret
      exact ⟨ret_bool hE.out.symm, hb0.out⟩
  · have kH : ((s.H.n : Int) == 0) = false := by rw [noCells]; simp [hH]
    have hE := hide (show (decide (s.H.n = 0) && decide (s.view.n = 0) && decide (s.sc.n = 0) && decide (s.next = 0)) = false from by simp [hH])
    clear hH
    go_enter Try.func57, Try.ntmps57
    go_wp2_with fail
    go_ret
    exact ⟨ret_bool hE.out.symm, hb0.out⟩
end Go.Proofs.Ytikfbhehnpogoaa
