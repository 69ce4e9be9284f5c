/- The program's Taken. -/
import Derived.Test.YthgpifeljeldjaaTkI
namespace Go.Proofs.Ythgpifeljeldjaa
open Go.RowKit

/-- Has something been got twice? -/
def oftenB (rs : List Int) (n : Nat) : Bool := decide ((uniqI (gotTo rs n)).length < (gotTo rs n).length)
set_option maxRecDepth 100000 in
set_option maxHeartbeats 3200000 in
theorem taken_any (A : Option Addr) (rs : List Int) (c n : Nat) (S : Nat → Prop) (w : World) (hz : rs.length = n) (hS : ∀ b, S b → b < w.heap.size) (ha : IntsAt w S A rs) (hn : n ≤ 1048576) :
    Calls Try.prog 14 #[.agg #[.slice A n c]] w fun e w' => ∃ A' c', e = .returned (.slice A' (uniqI (gotTo rs n)).length c') ∧ w'.ownsRow w.heap.size 3 1 (.slice A' (uniqI (gotTo rs n)).length c') (uniqI (gotTo rs n)).length ((uniqI (gotTo rs n)).map (Value.int .i64)) ∧ Below w.heap.size w w' := by
  obtain ⟨W, hW⟩ : ∃ x, x = w.alloc (Obj.cells #[.slice A n c] 33) := ⟨_, rfl⟩
  have hbW : Below w.heap.size w W := by rw [hW]; exact below1 _ _
  have X := hide (show Blk W w.heap.size 33 #[.slice A n c] from by rw [hW]; exact Blk.new _ _ _)
  have kI := hide (items_any A rs c n (Old W.heap.size) W hz (fun _ h => h) ((ha.below hbW hS).more (fun b h => Nat.lt_of_lt_of_le (hS b h) hbW.size)) hn)
  have BW := hide hbW
  clear hbW ha hS hz
  go_enter Try.func14, Try.ntmps14
  go_upto_region 1 with fail
  rw [← hW]
  clear hW
  have x0 := X.out.cell 0
  have lx := X.out.lt
  simp only [List.getElem?_toArray, List.getElem?_cons_zero] at x0
  go_wp2_with fail
  clear x0 lx
  refine kI.out.mono ?_
  rintro e w1 ⟨A1, c1, rfl, ho1, hb1⟩
  have O1 := hide ho1
  have B1 := hide (BW.out.trans (hb1.mono BW.out.size))
  have hW1 := hide hb1.size
  have kC := hide (compact_own ho1)
  clear ho1 hb1 kI
  go_wp2_with fail
  refine kC.out.mono ?_
  rintro e w2 ⟨rfl, ho2, hg2⟩
  have O2 := hide ho2
  have hWw := hide BW.out.size
  have B2 := hide (show Below w.heap.size w w2 from B1.out.trans (below_own hg2 (fun j hj e => by have := (own_lt O1.out e.symm).1; have := hWw.out; omega) B1.out.size))
  clear ho2 hg2 B1 kC
  go_wp2_with fail
  go_ret
  exact ⟨A1, c1, rfl, own_base O2.out hWw.out, B2.out⟩
end Go.Proofs.Ythgpifeljeldjaa
