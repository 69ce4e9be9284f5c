/- laws' helpers on a file: szOutcome, toOutcome, eqOutcome. -/
import Derived.Test.YtjendjbbhohjcaaIntSz
import Derived.Test.YtjendjbbhohjcaaIntTo
import Derived.Test.YtjendjbbhohjcaaIntEq
namespace Go.Proofs.Ytjendjbbhohjcaa
open Go.RowKit

set_option maxHeartbeats 800000 in
theorem szOutcome_any (A : Option Addr) (n c : Nat) (w : World) (hn : n ≤ 9223372036854775807) :
    Calls Try.prog 28 #[.agg #[.slice A n c], .int .i64 1048576] w fun e w' => e = .returned (.int .i64 (szR 1048576 n)) ∧ Below w.heap.size w w' := by
  have ks := fun w => szIntS_any A n c 1048576 w (by omega) (by omega) hn
  have hr : szR 1048576 n = -1 ∨ 0 ≤ szR 1048576 n := by unfold szR; split <;> omega
  generalize szR 1048576 n = s at *
  replace ks := hide ks
  rcases hr with rfl | hr
  · go_enter Try.func28, Try.ntmps28
    go_wp2_with fail
    refine (ks.out _).mono ?_
    rintro e w1 ⟨rfl, rfl⟩
    go_wp2_with fail
    go_ret
    exact ⟨rfl, below1 _ _⟩
  · go_enter Try.func28, Try.ntmps28
    go_wp2_with fail
    refine (ks.out _).mono ?_
    rintro e w1 ⟨rfl, rfl⟩
    go_wp2_with fail
    go_ret
    exact ⟨rfl, below1 _ _⟩

/-- An outcome's copy. -/
def OutcomeCopy (w w' : World) (e : Ending) (zs : List Int) : Prop := ∃ q, e = .returned (.agg #[.slice (some ⟨q, 0, none⟩) zs.length zs.length]) ∧ w.heap.size ≤ q ∧ RowB w' q zs ∧ Below w.heap.size w w'
set_option maxHeartbeats 800000 in
theorem toOutcome_any (A : Option Addr) (zs : List Int) (c : Nat) (S : Nat → Prop) (w : World) (hn : zs.length ≤ 1048576) (hS : ∀ b, S b → b < w.heap.size) (ha : IntsAt w S A zs) :
    Calls Try.prog 30 #[.agg #[.slice A zs.length c]] w fun e w' => OutcomeCopy w w' e zs := by
  have hb0 := (below2 w (Obj.cells #[Value.slice A zs.length c] 47) (Obj.cells #[Value.slice none 0 0] 25)).alloc (by simp; omega) (Obj.cells #[Value.slice none 0 0] 25)
  have hR := ((Blk.new (w.alloc (Obj.cells #[Value.slice A zs.length c] 47)) 25 #[Value.slice none 0 0]).alloc (Obj.cells #[Value.slice none 0 0] 25))
  have hX := Blk.new ((w.alloc (Obj.cells #[Value.slice A zs.length c] 47)).alloc (Obj.cells #[Value.slice none 0 0] 25)) 25 #[Value.slice none 0 0]
  simp only [World.size_alloc] at hR hX
  replace hR := hide hR
  replace hX := hide hX
  go_enter Try.func30, Try.ntmps30
  go_wp2_with fail
  refine (toIntS_row A zs c S _ hn (fun b h => Nat.lt_of_lt_of_le (hS b h) hb0.size) (ha.below hb0 hS)).mono ?_
  rintro e w1 ⟨rfl, hrow, hb1⟩
  have hR1 := hR.out.below hb1 (by simp)
  have hX1 := hX.out.below hb1 (by simp)
  have r0 := hR1.cell 0
  have z0 := hR1.frozen 0
  have x0 := hX1.cell 0
  have z1 := hX1.frozen 0
  simp only [List.getElem?_toArray, List.getElem?_cons_zero] at r0 x0
  have hl := hX1.lt
  have hB := hide (hb0.trans (hb1.mono (by first | (simp; omega) | simp)))
  replace hrow := hide hrow
  clear hR1 hX1 hb1
  go_wp2_with fail
  refine bodyPost_ret (v := .agg #[.slice (some ⟨w.heap.size + 1 + 1 + 1, 0, none⟩) zs.length zs.length]) (by simp [results, Try.results30, go_sem, r0]; done) rfl ⟨w.heap.size + 1 + 1 + 1, rfl, by omega, ?_, ?_⟩
  · obtain ⟨cs, h1, h2⟩ := hrow.out
    simp only [World.size_alloc] at h1
    exact ⟨cs, (h1.far (by show w.heap.size + 1 + 1 + 1 ≠ w.heap.size + 1 + 1; omega) _).far (by show w.heap.size + 1 + 1 + 1 ≠ w.heap.size + 1; omega) _, h2⟩
  · exact (hB.out.setCell (by show w.heap.size ≤ w.heap.size + 1 + 1; omega) _).setCell (by show w.heap.size ≤ w.heap.size + 1; omega) _

set_option maxHeartbeats 800000 in
theorem eqOutcome_any (A A' : Option Addr) (zs : List Int) (c c' : Nat) (S : Nat → Prop) (w : World) (hS : ∀ b, S b → b < w.heap.size) (ha : IntsAt w S A zs) (ha' : IntsAt w S A' zs) :
    Calls Try.prog 33 #[.agg #[.slice A zs.length c], .agg #[.slice A' zs.length c']] w fun e w' => e = .returned (.bool true) ∧ Below w.heap.size w w' := by
  have hb0 := below2 w (Obj.cells #[Value.slice A zs.length c] 25) (Obj.cells #[Value.slice A' zs.length c'] 25)
  go_enter Try.func33, Try.ntmps33
  go_wp2_with fail
  refine (eqIntS_any A A' zs c c' S _ (fun b h => Nat.lt_of_lt_of_le (hS b h) hb0.size) (ha.below hb0 hS) (ha'.below hb0 hS)).mono ?_
  rintro e w1 ⟨rfl, hb1⟩
  go_wp2_with fail
  go_ret
  exact ⟨rfl, below_then hb0 hb1⟩

end Go.Proofs.Ytjendjbbhohjcaa
