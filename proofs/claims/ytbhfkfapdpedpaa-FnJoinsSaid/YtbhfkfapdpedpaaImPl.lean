/- The program's functions on views: PlaceOf, Readable, Writable, further. -/
import Derived.Test.YtbhfkfapdpedpaaSPl
import Derived.Test.YtbhfkfapdpedpaaHstP
namespace Go.Proofs.Ytbhfkfapdpedpaa
open Go.RowKit

theorem below_only {B q : Nat} {w w1 w2 : World} (h : Below B w w1) (ho : Only q w1 w2) (hq : B ≤ q) (hz : B ≤ w1.heap.size) : Below B w w2 :=
  ⟨ho.os.trans h.os, ho.tape.trans h.tape, ho.output.trans h.output, Nat.le_trans h.size ho.size, fun k hk => (ho.block k (by omega) (by omega)).trans (h.block k hk)⟩

set_option maxRecDepth 100000 in
set_option maxHeartbeats 800000 in
theorem placeOf_any (A : Option Addr) (l : List PostD) (c : Nat) (i : Int) (w : World) (hn2 : l.length ≤ 1048576) (hwf : IdsWf l) (hwi : (Lit.int .i64 i).wf = true) (hS : PostsAt w (Old w.heap.size) A l) :
    Calls Try.prog 34 #[.agg #[.slice A l.length c], .int .i64 i] w fun e w' => e = .returned (.int .i64 (placeI l i)) ∧ Below w.heap.size w w' := by
  have hB0 := below1 w (Obj.cells #[Value.slice A l.length c] 45)
  have hX := Blk.new w 45 #[Value.slice A l.length c]
  have x0 := hX.cell 0
  simp only [List.getElem?_toArray, List.getElem?_cons_zero] at x0
  have hsz : w.heap.size < (w.alloc (Obj.cells #[Value.slice A l.length c] 45)).heap.size := hX.lt
  have kH := historyOf_any A l c _ hn2 ((hS.below hB0 (fun _ h => h)).more (fun b (h : Old w.heap.size b) => show Old (w.alloc (Obj.cells #[Value.slice A l.length c] 45)).heap.size b from Nat.lt_of_lt_of_le h hB0.size))
  obtain ⟨W, hW⟩ : ∃ W, W = w.alloc (Obj.cells #[Value.slice A l.length c] 45) := ⟨_, rfl⟩
  rw [← hW] at kH x0 hB0 hsz
  replace kH := hide kH
  clear hX hS
  go_enter Try.func34, Try.ntmps34
  go_wp2_with fail
  rw [← hW]
  clear hW
  refine kH.out.mono ?_
  rintro e w1 ⟨q, p, rfl, hH, hb1, hq⟩
  have hlo := hH.lo
  have hz1 := hb1.size
  have kP := hide (hplaceOf_any W.heap.size q p A l i w1 hn2 hwf hwi (.inl hH))
  have hB1 := hide (below_then hB0 hb1)
  clear hH hb1 hB0
  go_wp2_with fail
  refine kP.out.mono ?_
  rintro e w2 ⟨rfl, -, hO⟩
  have hend := hide (below_only hB1.out hO (by omega) (by omega))
  clear hO
  go_wp2_with fail
  go_ret
  exact ⟨rfl, hend.out⟩

set_option maxRecDepth 100000 in
set_option maxHeartbeats 800000 in
theorem further_any (B q p : Nat) (A : Option Addr) (l : List PostD) (a b : Int) (w : World) (hn2 : l.length ≤ 1048576) (hwf : IdsWf l) (hwa : (Lit.int .i64 a).wf = true) (hwb : (Lit.int .i64 b).wf = true) (hH : HstS w B q p A l) :
    Calls Try.prog 105 #[.pointer (some ⟨q, 0, none⟩), .int .i64 a, .int .i64 b] w fun e w' => e = .returned (.int .i64 (laterI l a b)) ∧ Only q w w' := by
  have k1 := hide (hplaceOf_any B q p A l b w hn2 hwf hwb hH)
  have hif : laterI l a b = if placeI l b > placeI l a then b else a := rfl
  by_cases h : placeI l b > placeI l a
  · have hl : laterI l a b = b := by rw [hif, if_pos h]
    have k2 := hide (fun w h => hplaceOf_any B q p A l a w hn2 hwf hwa h)
    clear hH hif
    go_enter Try.func105, Try.ntmps105
    go_wp2_with fail
    refine k1.out.mono ?_
    rintro e w1 ⟨rfl, hH1, hO1⟩
    have k3 := hide (k2.out w1 hH1)
    replace hO1 := hide hO1
    clear hH1 k2 k1
    go_wp2_with fail
    refine k3.out.mono ?_
    rintro e w2 ⟨rfl, -, hO2⟩
    have hO := hide (hO1.out.trans hO2)
    clear hO2
    generalize placeI l b = y at *
    generalize placeI l a = x at *
    go_wp2_with fail
    go_ret
    exact ⟨ret_int hl.symm, hO.out⟩
  · have hl : laterI l a b = a := by rw [hif, if_neg h]
    have k2 := hide (fun w h => hplaceOf_any B q p A l a w hn2 hwf hwa h)
    clear hH hif
    go_enter Try.func105, Try.ntmps105
    go_wp2_with fail
    refine k1.out.mono ?_
    rintro e w1 ⟨rfl, hH1, hO1⟩
    have k3 := hide (k2.out w1 hH1)
    replace hO1 := hide hO1
    clear hH1 k2 k1
    go_wp2_with fail
    refine k3.out.mono ?_
    rintro e w2 ⟨rfl, -, hO2⟩
    have hO := hide (hO1.out.trans hO2)
    clear hO2
    generalize placeI l b = y at *
    generalize placeI l a = x at *
    go_wp2_with fail
    go_ret
    exact ⟨ret_int hl.symm, hO.out⟩

set_option maxRecDepth 100000 in
set_option maxHeartbeats 800000 in
theorem splits_any (B q p : Nat) (A : Option Addr) (l : List PostD) (d s : Int) (m : Value) (k : Nat) (w : World) (hH : Hst w B q p A l d s m) :
    Calls Try.prog 109 #[.pointer (some ⟨q, 0, none⟩), .int .i64 k] w fun e w' => e = .returned (.bool (!putB l k)) ∧ w = w' := by
  obtain ⟨⟨c0, -, -, -⟩, -, hq⟩ := hH.cells
  have hn := hH.posts.1
  by_cases hlt : k < l.length
  · obtain ⟨b, off, hp0, hbl, -, hg⟩ := hH.at_ hlt
    have hr : (!putB l k) = (getp l k).glue := by
      unfold putB
      rw [decide_eq_false (by omega)]
      simp
    clear hH
    rw [hr]
    clear hr
    go_enter Try.func109, Try.ntmps109
    go_wp2_with fail
    go_ret
    exact ⟨rfl, rfl⟩
  · have hr : (!putB l k) = false := by
      unfold putB
      rw [decide_eq_true (by omega)]
      simp
    clear hH
    rw [hr]
    clear hr
    go_enter Try.func109, Try.ntmps109
    go_wp2_with fail
    go_ret
    exact ⟨rfl, rfl⟩
end Go.Proofs.Ytbhfkfapdpedpaa
