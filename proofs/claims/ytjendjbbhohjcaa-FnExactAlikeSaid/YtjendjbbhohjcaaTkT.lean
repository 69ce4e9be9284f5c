/- The program's Taken, TakenOften. -/
import Derived.Test.YtjendjbbhohjcaaTkI
import Derived.Test.YtjendjbbhohjcaaCloneI
namespace Go.Proofs.Ytjendjbbhohjcaa
open Go.RowKit

set_option maxRecDepth 100000 in
set_option maxHeartbeats 3200000 in
theorem taken_any (A : Option Addr) (rs : List Int) (c n : Nat) (S : Nat → Prop) (w : World) (hz : rs.length = n) (hS : ∀ b, S b → b < w.heap.size) (ha : IntsAt w S A rs) (hn : n ≤ 1048576) :
    Calls Try.prog 31 #[.agg #[.slice A n c]] w fun e w' => ∃ A' c', e = .returned (.slice A' (uniqI (gotTo rs n)).length c') ∧ w'.ownsRow w.heap.size 3 1 (.slice A' (uniqI (gotTo rs n)).length c') (uniqI (gotTo rs n)).length ((uniqI (gotTo rs n)).map (Value.int .i64)) ∧ Below w.heap.size w w' := by
  obtain ⟨W, hW⟩ : ∃ x, x = w.alloc (Obj.cells #[.slice A n c] 25) := ⟨_, rfl⟩
  have hbW : Below w.heap.size w W := by rw [hW]; exact below1 _ _
  have X := hide (show Blk W w.heap.size 25 #[.slice A n c] from by rw [hW]; exact Blk.new _ _ _)
  have kI := heldItem_any A rs c n (Old W.heap.size) W hz (fun _ h => h) ((ha.below hbW hS).more (fun b h => Nat.lt_of_lt_of_le (hS b h) hbW.size)) hn
  rw [gotF_item] at kI
  replace kI := hide kI
  have BW := hide hbW
  clear hbW ha hS hz
  go_enter Try.func31, Try.ntmps31
  go_upto_region 1 with fail
  rw [← hW]
  clear hW
  have x0 := X.out.cell 0
  have lx := X.out.lt
  simp only [List.getElem?_toArray, List.getElem?_cons_zero] at x0
  go_wp2_with fail
  clear x0 lx
  refine kI.out.mono ?_
  rintro e w1 ⟨A1, c1, rfl, ho1, hb1⟩
  have O1 := hide ho1
  have B1 := hide (BW.out.trans (hb1.mono BW.out.size))
  have hW1 := hide hb1.size
  have kC := hide (compact_own ho1)
  clear ho1 hb1 kI
  go_wp2_with fail
  refine kC.out.mono ?_
  rintro e w2 ⟨rfl, ho2, hg2⟩
  have O2 := hide ho2
  have hWw := hide BW.out.size
  have B2 := hide (show Below w.heap.size w w2 from B1.out.trans (below_own hg2 (fun j hj e => by have := (own_lt O1.out e.symm).1; have := hWw.out; omega) B1.out.size))
  clear ho2 hg2 B1 kC
  go_wp2_with fail
  go_ret
  exact ⟨A1, c1, rfl, own_base O2.out hWw.out, B2.out⟩
set_option maxRecDepth 100000 in
set_option maxHeartbeats 3200000 in
theorem hasTwice_any (v : Value) (l : List Int) (B : Nat) (w : World) (hl : l.length ≤ 1048576) (ho : w.ownsRow B 3 1 v l.length ((sortI l).map (Value.int .i64))) :
    Calls Try.prog 72 #[v] w fun e w' => e = .returned (.bool (twiceB l)) ∧ Below w.heap.size w w' := by
  rw [← sortI_len l] at ho
  obtain ⟨A, c, rfl, -, hi⟩ := own_ints ho
  obtain ⟨res, hres⟩ : ∃ x, x = twiceB l := ⟨_, rfl⟩
  rw [← hres]
  obtain ⟨m, hm⟩ : ∃ x, x = (sortI l).length := ⟨_, rfl⟩
  obtain ⟨u, hu⟩ : ∃ x, x = (uniqI l).length := ⟨_, rfl⟩
  have hE := hide (show decide (u < m) = res from by rw [hres, hm, hu]; unfold twiceB; rw [sortI_len])
  have kC := cloneInts_any A (sortI l) m c w hm.symm (by rw [hm, sortI_len]; exact hl) (hi.more (fun b h => h.2))
  rw [← hm]
  replace kC := hide kC
  replace hu := hide hu
  clear hres hi ho hl hm
  go_enter Try.func72, Try.ntmps72
  go_wp2_with fail
  refine kC.out.mono ?_
  rintro e w1 ⟨A1, c1, rfl, ho1, hb1⟩
  have kK := compact_own ho1
  rw [show Lib.compact (sortI l) = uniqI l from rfl, ← hu.out] at kK
  have O1 := hide ho1
  have B1 := hide hb1
  replace kK := hide kK
  clear ho1 hb1 kC hu
  go_wp2_with fail
  refine kK.out.mono ?_
  rintro e w2 ⟨rfl, -, hg2⟩
  have B2 := hide (show Below w.heap.size w w2 from B1.out.trans (below_own hg2 (fun j hj e => by have := (own_lt O1.out e.symm).1; omega) B1.out.size))
  clear hg2 kK O1 B1
  go_wp2_with fail
  go_ret
  exact ⟨ret_bool hE.out, B2.out⟩
theorem oftenB_twice (rs : List Int) (n : Nat) : oftenB rs n = twiceB (gotTo rs n) := rfl
set_option maxRecDepth 100000 in
set_option maxHeartbeats 3200000 in
theorem often_any (A : Option Addr) (rs : List Int) (c n : Nat) (S : Nat → Prop) (w : World) (hz : rs.length = n) (hS : ∀ b, S b → b < w.heap.size) (ha : IntsAt w S A rs) (hn : n ≤ 1048576) :
    Calls Try.prog 38 #[.agg #[.slice A n c]] w fun e w' => e = .returned (.bool (oftenB rs n)) ∧ Below w.heap.size w w' := by
  obtain ⟨W, hW⟩ : ∃ x, x = w.alloc (Obj.cells #[.slice A n c] 25) := ⟨_, rfl⟩
  have hbW : Below w.heap.size w W := by rw [hW]; exact below1 _ _
  have X := hide (show Blk W w.heap.size 25 #[.slice A n c] from by rw [hW]; exact Blk.new _ _ _)
  have kI := heldItem_any A rs c n (Old W.heap.size) W hz (fun _ h => h) ((ha.below hbW hS).more (fun b h => Nat.lt_of_lt_of_le (hS b h) hbW.size)) hn
  rw [gotF_item] at kI
  have hle : (gotTo rs n).length ≤ 1048576 := Nat.le_trans (gotTo_len rs n) hn
  have kT := fun v w1 => hasTwice_any v (gotTo rs n) W.heap.size w1 hle
  rw [← oftenB_twice] at kT
  obtain ⟨res, hres⟩ : ∃ x, x = oftenB rs n := ⟨_, rfl⟩
  rw [← hres] at kT ⊢
  replace kI := hide kI
  replace kT := hide kT
  have BW := hide hbW
  clear hbW ha hS hz hle hres
  go_enter Try.func38, Try.ntmps38
  go_upto_region 1 with fail
  rw [← hW]
  clear hW
  have x0 := X.out.cell 0
  have lx := X.out.lt
  simp only [List.getElem?_toArray, List.getElem?_cons_zero] at x0
  go_wp2_with fail
  clear x0 lx
  refine kI.out.mono ?_
  rintro e w1 ⟨A1, c1, rfl, ho1, hb1⟩
  have B1 := hide (BW.out.trans (hb1.mono BW.out.size))
  have kT1 := hide (kT.out _ w1 ho1)
  clear ho1 hb1 kI kT
  go_wp2_with fail
  refine kT1.out.mono ?_
  rintro e w2 ⟨rfl, hb2⟩
  have B2 := hide (B1.out.trans (hb2.mono B1.out.size))
  clear hb2 kT1
  go_wp2_with fail
  go_ret
  exact ⟨rfl, B2.out⟩
end Go.Proofs.Ytjendjbbhohjcaa
