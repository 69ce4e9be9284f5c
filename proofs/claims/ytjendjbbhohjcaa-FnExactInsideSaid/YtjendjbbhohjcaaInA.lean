/- The program's Inside, Alike. -/
import Derived.Test.YtjendjbbhohjcaaTkT
namespace Go.Proofs.Ytjendjbbhohjcaa
open Go.RowKit

set_option maxRecDepth 100000 in
set_option maxHeartbeats 3200000 in
theorem inReg_any (r : Int) (A : Option Addr) (rs : List Int) (c n : Nat) (S : Nat → Prop) (w : World) (hz : rs.length = n) (hS : ∀ b, S b → b < w.heap.size) (ha : IntsAt w S A rs) (hn : n ≤ 1048576) :
    Calls Try.prog 66 #[.agg #[.slice A n c], .int .i64 r] w fun e w' => ∃ A' c', e = .returned (.slice A' (gotF (fun (m : Nat) => decide ((m : Int) = r)) rs n).length c') ∧ w'.ownsRow w.heap.size 3 1 (.slice A' (gotF (fun (m : Nat) => decide ((m : Int) = r)) rs n).length c') (gotF (fun (m : Nat) => decide ((m : Int) = r)) rs n).length ((sortI (gotF (fun (m : Nat) => decide ((m : Int) = r)) rs n)).map (Value.int .i64)) ∧ Below w.heap.size w w' := by
  obtain ⟨W0, hW0⟩ : ∃ x, x = w.alloc (Obj.cells #[.slice A n c] 25) := ⟨_, rfl⟩
  obtain ⟨W, hW⟩ : ∃ x, x = W0.alloc (Obj.cells #[.int .i64 r] 3) := ⟨_, rfl⟩
  have hbW0 : Below w.heap.size w W0 := by rw [hW0]; exact below1 _ _
  have hsz0 : w.heap.size + 1 = W0.heap.size := by rw [hW0]; simp
  have hbW : Below w.heap.size w W := by rw [hW]; exact hbW0.alloc hbW0.size _
  have X := hide (show Blk W w.heap.size 25 #[.slice A n c] from by rw [hW, hW0]; exact (Blk.new _ _ _).alloc _)
  have Y := show Blk W (w.heap.size + 1) 3 #[.int .i64 r] from by rw [hsz0, hW]; exact Blk.new _ _ _
  have kI := heldReg_any (w.heap.size + 1) r A rs c n (Old W.heap.size) W hz (fun _ h => h) ((ha.below hbW hS).more (fun b h => Nat.lt_of_lt_of_le (hS b h) hbW.size)) hn (Y.cell 0) Y.lt
  obtain ⟨f, hf⟩ : ∃ f : Nat → Bool, f = fun (m : Nat) => decide ((m : Int) = r) := ⟨_, rfl⟩
  rw [← hf] at kI ⊢
  replace kI := hide kI
  have BW := hide hbW
  clear hbW ha hS hz hbW0 hsz0 Y hf
  go_enter Try.func66, Try.ntmps66
  go_upto_region 1 with fail
  rw [← hW0, ← hW]
  clear hW hW0
  have x0 := X.out.cell 0
  have lx := X.out.lt
  simp only [List.getElem?_toArray, List.getElem?_cons_zero] at x0
  go_wp2_with fail
  clear x0 lx
  refine kI.out.mono ?_
  rintro e w1 ⟨A1, c1, rfl, ho1, hb1⟩
  have O1 := hide (own_base ho1 BW.out.size)
  have B1 := hide (BW.out.trans (hb1.mono BW.out.size))
  clear ho1 hb1 kI
  go_wp2_with fail
  go_ret
  exact ⟨A1, c1, rfl, O1.out, B1.out⟩
/-- How many have got in. -/
def insideN (rs : List Int) (n : Nat) : Nat := (gotF (fun (m : Nat) => decide ((m : Int) = 0)) rs n).length
/-- Have two the same in register r? -/
def alikeB (rs : List Int) (n : Nat) (r : Int) : Bool := twiceB (gotF (fun (m : Nat) => decide ((m : Int) = r)) rs n)
set_option maxRecDepth 100000 in
set_option maxHeartbeats 3200000 in
theorem inside_any (A : Option Addr) (rs : List Int) (c n : Nat) (S : Nat → Prop) (w : World) (hz : rs.length = n) (hS : ∀ b, S b → b < w.heap.size) (ha : IntsAt w S A rs) (hn : n ≤ 1048576) :
    Calls Try.prog 20 #[.agg #[.slice A n c]] w fun e w' => e = .returned (.int .i64 (insideN rs n)) ∧ Below w.heap.size w w' := by
  obtain ⟨W, hW⟩ : ∃ x, x = w.alloc (Obj.cells #[.slice A n c] 25) := ⟨_, rfl⟩
  have hbW : Below w.heap.size w W := by rw [hW]; exact below1 _ _
  have X := hide (show Blk W w.heap.size 25 #[.slice A n c] from by rw [hW]; exact Blk.new _ _ _)
  have kI := inReg_any 0 A rs c n (Old W.heap.size) W hz (fun _ h => h) ((ha.below hbW hS).more (fun b h => Nat.lt_of_lt_of_le (hS b h) hbW.size)) hn
  unfold insideN
  obtain ⟨f, hf⟩ : ∃ f : Nat → Bool, f = fun (m : Nat) => decide ((m : Int) = 0) := ⟨_, rfl⟩
  rw [← hf] at kI ⊢
  obtain ⟨m, hm⟩ : ∃ m, m = (gotF f rs n).length := ⟨_, rfl⟩
  rw [← hm] at kI ⊢
  replace kI := hide kI
  have BW := hide hbW
  clear hbW ha hS hz hm hf
  go_enter Try.func20, Try.ntmps20
  go_upto_region 1 with fail
  rw [← hW]
  clear hW
  have x0 := X.out.cell 0
  have lx := X.out.lt
  simp only [List.getElem?_toArray, List.getElem?_cons_zero] at x0
  go_wp2_with fail
  clear x0 lx
  refine kI.out.mono ?_
  rintro e w1 ⟨A1, c1, rfl, -, hb1⟩
  have B1 := hide (BW.out.trans (hb1.mono BW.out.size))
  clear hb1 kI
  go_wp2_with fail
  go_ret
  exact ⟨rfl, B1.out⟩
set_option maxRecDepth 100000 in
set_option maxHeartbeats 3200000 in
theorem alike_any (r : Int) (A : Option Addr) (rs : List Int) (c n : Nat) (S : Nat → Prop) (w : World) (hz : rs.length = n) (hS : ∀ b, S b → b < w.heap.size) (ha : IntsAt w S A rs) (hn : n ≤ 1048576) :
    Calls Try.prog 26 #[.agg #[.slice A n c], .int .i64 r] w fun e w' => e = .returned (.bool (alikeB rs n r)) ∧ Below w.heap.size w w' := by
  obtain ⟨W, hW⟩ : ∃ x, x = w.alloc (Obj.cells #[.slice A n c] 25) := ⟨_, rfl⟩
  have hbW : Below w.heap.size w W := by rw [hW]; exact below1 _ _
  have X := hide (show Blk W w.heap.size 25 #[.slice A n c] from by rw [hW]; exact Blk.new _ _ _)
  have kI := inReg_any r A rs c n (Old W.heap.size) W hz (fun _ h => h) ((ha.below hbW hS).more (fun b h => Nat.lt_of_lt_of_le (hS b h) hbW.size)) hn
  unfold alikeB
  obtain ⟨f, hf⟩ : ∃ f : Nat → Bool, f = fun (m : Nat) => decide ((m : Int) = r) := ⟨_, rfl⟩
  rw [← hf] at kI ⊢
  have hle : (gotF f rs n).length ≤ 1048576 := Nat.le_trans (gotF_len f rs n) hn
  have kT := fun v w1 => hasTwice_any v (gotF f rs n) W.heap.size w1 hle
  obtain ⟨res, hres⟩ : ∃ x, x = twiceB (gotF f rs n) := ⟨_, rfl⟩
  rw [← hres] at kT ⊢
  replace kI := hide kI
  replace kT := hide kT
  have BW := hide hbW
  clear hbW ha hS hz hle hres hf
  go_enter Try.func26, Try.ntmps26
  go_upto_region 1 with fail
  rw [← hW]
  clear hW
  have x0 := X.out.cell 0
  have lx := X.out.lt
  simp only [List.getElem?_toArray, List.getElem?_cons_zero] at x0
  go_wp2_with fail
  clear x0 lx
  refine kI.out.mono ?_
  rintro e w1 ⟨A1, c1, rfl, ho1, hb1⟩
  have B1 := hide (BW.out.trans (hb1.mono BW.out.size))
  have kT1 := hide (kT.out _ w1 ho1)
  clear ho1 hb1 kI kT
  go_wp2_with fail
  refine kT1.out.mono ?_
  rintro e w2 ⟨rfl, hb2⟩
  have B2 := hide (B1.out.trans (hb2.mono B1.out.size))
  clear hb2 kT1
  go_wp2_with fail
  go_ret
  exact ⟨rfl, B2.out⟩
end Go.Proofs.Ytjendjbbhohjcaa
