/- The program's Readable and Writable, for any history. -/
import Derived.Test.YtbhfkfapdpedpaaImPl
namespace Go.Proofs.Ytbhfkfapdpedpaa
open Go.RowKit

set_option maxRecDepth 100000 in
set_option maxHeartbeats 1600000 in
theorem readable_any (A : Option Addr) (l : List PostD) (c : Nat) (i : Int) (w : World) (hn2 : l.length ≤ 1048576) (hwf : IdsWf l) (hwi : (Lit.int .i64 i).wf = true) (hS : PostsAt w (Old w.heap.size) A l) :
    Calls Try.prog 36 #[.agg #[.slice A l.length c], .int .i64 i] w fun e w' => RowR 3 w w' e (readI l i).length (readI l i) := by
  have hB0 := below1 w (Obj.cells #[Value.slice A l.length c] 45)
  have hX := Blk.new w 45 #[Value.slice A l.length c]
  obtain ⟨i1, hi1, hy0, hy1, hy2⟩ := info_parts Try.infoInt
  replace hi1 := hide hi1
  replace hS := hide ((hS.below hB0 (fun _ h => h)).more (fun b (h : Old w.heap.size b) => show Old (w.alloc (Obj.cells #[Value.slice A l.length c] 45)).heap.size b from Nat.lt_of_lt_of_le h hB0.size))
  have kP := hide (placeOf_any A l c i _ hn2 hwf hwi hS.out)
  obtain ⟨W, hW⟩ : ∃ W, W = w.alloc (Obj.cells #[Value.slice A l.length c] 45) := ⟨_, rfl⟩
  rw [← hW] at hX hB0 hS kP
  have hlt0 := hX.lt
  replace hX := hide hX
  have x0 := hX.out.cell 0
  simp only [List.getElem?_toArray, List.getElem?_cons_zero] at x0
  go_enter Try.func36, Try.ntmps36
  go_wp2_with fail
  rw [← hW]
  clear hW
  refine kP.out.mono ?_
  rintro e w1 ⟨rfl, hb1⟩
  have hB1 := hide (below_then hB0 hb1)
  have x1 := (hX.out.below hb1 hlt0).cell 0
  simp only [List.getElem?_toArray, List.getElem?_cons_zero] at x1
  have hlt1 := Nat.lt_of_lt_of_le hlt0 hb1.size
  clear x0 hX kP hB0 hb1
  rcases place_cases l i with ⟨hp, -⟩ | ⟨p, hp, hpl, -⟩
  · have hR := hide (show RowR 3 w w1 (.returned (.slice none 0 0)) (readI l i).length (readI l i) from by
      have e : readI l i = [] := by unfold readI; rw [if_pos hp]
      rw [e]
      exact ⟨none, 0, rfl, .inl ⟨rfl, rfl, rfl⟩, hB1.out⟩)
    simp only [hp]
    clear hp
    go_wp2_with fail
    go_ret
    exact hR.out
  · have hR := hide (show readI l i = fromTo p l.length from by unfold readI; rw [if_neg (by omega), hp, Int.toNat_natCast])
    have hpm : ((p : Int) == -1) = false := by rw [beq_eq_false_iff_ne]; omega
    simp only [hp]
    clear hp
    go_wp2_with fail
    go_loopw [6, 7] (fun v q wr => ∃ (k : Nat) (A' : Option Addr) (c' : Nat), p ≤ k ∧ k ≤ l.length ∧ q = .int .i64 k ∧ v = .slice A' (fromTo p k).length c' ∧ Grow w1 A' c' (fromTo p k) wr) (fun _ q _ => l.length - (intOf q).toNat)
    case atStart => exact ⟨p, none, 0, Nat.le_refl _, by omega, rfl, by rw [fromTo_self]; rfl, by rw [fromTo_self]; exact Grow.nil _⟩
    case round =>
      obtain ⟨k, A', c', hpk, hk, rfl, rfl, hgr⟩ := hrel
      have x2 := (hgr.low.cell (p := ⟨w.heap.size, 0, none⟩) hlt1).trans x1
      have hp0 : (0 : Int) ≤ p := by omega
      have hlen := fromTo_len p k
      have hsn := hide (fromTo_snoc hpk)
      by_cases hlt : k < l.length
      · generalize fromTo p k = zs at *
        replace hlen := hide hlen
        have hs := hide (hgr.src k)
        have ho := hide (hgr.alloc_own (Obj.cells #[Value.int .i64 (k : Int)] 3))
        have hw := hgr.low.size
        replace hgr := hide hgr
        go_wp2_with (at_builtin; refine wpList_append_src _ rfl _ _ _ rfl w1.heap.size 3 i1 _ 1 8 Try.underlying30 hi1.out hy0 hy1 hy2 rfl (by omega) (.slice A' zs.length c') zs.length (zs.map (Value.int .i64)) rfl ho.out (Old (_ + 1)) (some ⟨_, 0, none⟩) 1 1 [(k : Int)] rfl rfl hs.out (by have := hlen.out; have : maxLen = 9223372036854775807 := rfl; omega) (by have := hlen.out; omega) (by simp; omega) ?_)
        intro A2 c2 w2 hown hg2 _
        have hn := hide (hgr.out.more (by simpa using hown) hg2)
        clear hown hg2 ho hs
        go_wp2_with fail
        go_roundw
        case rel => exact ⟨k + 1, A2, c2, by omega, by omega, by go_num, by rw [hsn.out]; simp, by rw [hsn.out]; exact hn.out⟩
        case measure => simp [intOf]; omega
      · obtain rfl : k = l.length := by omega
        have hf := hide (show RowR 3 w _ (.returned (.slice A' (fromTo p l.length).length c')) (readI l i).length (readI l i) from by rw [hR.out]; exact hgr.row hB1.out)
        clear hgr hsn
        generalize fromTo p l.length = zs at *
        replace hlen := hide hlen
        go_wp2_with fail
        go_ret
        exact hf.out

set_option maxRecDepth 100000 in
set_option maxHeartbeats 1600000 in
theorem writable_any (A : Option Addr) (l : List PostD) (c : Nat) (i : Int) (w : World) (hn2 : l.length ≤ 1048576) (hwf : IdsWf l) (hwi : (Lit.int .i64 i).wf = true) (hS : PostsAt w (Old w.heap.size) A l) :
    Calls Try.prog 37 #[.agg #[.slice A l.length c], .int .i64 i] w fun e w' => RowR 3 w w' e (writeI l i).length (writeI l i) := by
  have hB0 := below1 w (Obj.cells #[Value.slice A l.length c] 45)
  have hX := Blk.new w 45 #[Value.slice A l.length c]
  obtain ⟨i1, hi1, hy0, hy1, hy2⟩ := info_parts Try.infoInt
  replace hi1 := hide hi1
  replace hS := hide ((hS.below hB0 (fun _ h => h)).more (fun b (h : Old w.heap.size b) => show Old (w.alloc (Obj.cells #[Value.slice A l.length c] 45)).heap.size b from Nat.lt_of_lt_of_le h hB0.size))
  have kH := hide (historyOf_any A l c _ hn2 hS.out)
  obtain ⟨W, hW⟩ : ∃ W, W = w.alloc (Obj.cells #[Value.slice A l.length c] 45) := ⟨_, rfl⟩
  rw [← hW] at hX hB0 hS kH
  have hlt0 := hX.lt
  replace hX := hide hX
  have x0 := hX.out.cell 0
  simp only [List.getElem?_toArray, List.getElem?_cons_zero] at x0
  go_enter Try.func37, Try.ntmps37
  go_wp2_with fail
  rw [← hW]
  clear hW
  refine kH.out.mono ?_
  rintro e w0 ⟨q, pp, rfl, hH0, hb0, hq0⟩
  have hlo := hH0.lo
  have hz0 := hb0.size
  have kP := hide (hplaceOf_any W.heap.size q pp A l i w0 hn2 hwf hwi (.inl hH0))
  have hBW := hide hb0
  clear hH0 hb0 kH
  go_wp2_with fail
  refine kP.out.mono ?_
  rintro e w1 ⟨rfl, hHS, hO⟩
  have hbW := below_only hBW.out hO (by omega) (by omega)
  have hB1 := hide (below_then hB0 hbW)
  have x1 := (hX.out.below hbW hlt0).cell 0
  simp only [List.getElem?_toArray, List.getElem?_cons_zero] at x1
  have hz1 := hbW.size
  have hlt1 : w.heap.size < w1.heap.size := by omega
  obtain ⟨d, m, hHX⟩ : ∃ d m, Hst w1 W.heap.size q pp A l d 0 m := by
    rcases hHS with h | ⟨g, -, h, -⟩
    · exact ⟨_, _, h⟩
    · exact ⟨_, _, h⟩
  replace hHX := hide hHX
  clear x0 hX kP hB0 hbW hO hHS hBW
  rcases place_cases l i with ⟨hp, -⟩ | ⟨p, hp, hpl, -⟩
  · have hR := hide (show RowR 3 w w1 (.returned (.slice none 0 0)) (writeI l i).length (writeI l i) from by
      have e : writeI l i = [] := by unfold writeI; rw [if_pos hp]
      rw [e]
      exact ⟨none, 0, rfl, .inl ⟨rfl, rfl, rfl⟩, hB1.out⟩)
    simp only [hp]
    clear hp
    go_wp2_with fail
    go_ret
    exact hR.out
  · have hR := hide (show writeI l i = putTo l (p + 1) (l.length + 1) from by unfold writeI; rw [if_neg (by omega), hp, Int.toNat_natCast])
    have hpm : ((p : Int) == -1) = false := by rw [beq_eq_false_iff_ne]; omega
    simp only [hp]
    clear hp
    go_wp2_with fail
    go_loopw [7, 8] (fun v qi wr => ∃ (k : Nat) (A' : Option Addr) (c' : Nat), p + 1 ≤ k ∧ k ≤ l.length + 1 ∧ qi = .int .i64 k ∧ v = .slice A' (putTo l (p + 1) k).length c' ∧ Grow w1 A' c' (putTo l (p + 1) k) wr) (fun _ qi _ => l.length + 1 - (intOf qi).toNat)
    case atStart => exact ⟨p + 1, none, 0, Nat.le_refl _, by omega, by go_num, by rw [putTo_self]; rfl, by rw [putTo_self]; exact Grow.nil _⟩
    case round =>
      obtain ⟨k, A', c', hpk, hk, rfl, rfl, hgr⟩ := hrel
      have x2 := (hgr.low.cell (p := ⟨w.heap.size, 0, none⟩) hlt1).trans x1
      have hlen := putTo_len l (p + 1) k
      by_cases hle : k ≤ l.length
      · have kS := splits_any W.heap.size q pp A l d 0 m k wr (hHX.out.next hgr.low)
        have hyes := hide (fun h => putTo_yes (l := l) hpk h)
        have hnope := hide (fun h => putTo_no (l := l) hpk h)
        generalize putTo l (p + 1) k = zs at *
        replace hlen := hide hlen
        have hs := hide (hgr.src k)
        have ho := hide (hgr.alloc_own (Obj.cells #[Value.int .i64 (k : Int)] 3))
        have hw := hgr.low.size
        replace hgr := hide hgr
        have hle' : (k : Int) ≤ l.length := by omega
        cases hpb : putB l k
        · rw [hpb] at kS
          have hno2 := hide (hnope.out hpb)
          replace kS := hide kS
          clear hyes hnope hpb ho hs
          go_wp2_with fail
          refine kS.out.mono ?_
          rintro e wx ⟨rfl, rfl⟩
          clear kS
          go_wp2_with fail
          go_roundw
          case rel => exact ⟨k + 1, A', c', by omega, by omega, by go_num, by rw [hno2.out], by rw [hno2.out]; exact hgr.out⟩
          case measure => simp [intOf]; omega
        · rw [hpb] at kS
          have hyes2 := hide (hyes.out hpb)
          replace kS := hide kS
          clear hyes hnope hpb
          go_wp2_with fail
          refine kS.out.mono ?_
          rintro e wx ⟨rfl, rfl⟩
          clear kS
          go_wp2_with (at_builtin; refine wpList_append_src _ rfl _ _ _ rfl w1.heap.size 3 i1 _ 1 8 Try.underlying30 hi1.out hy0 hy1 hy2 rfl (by omega) (.slice A' zs.length c') zs.length (zs.map (Value.int .i64)) rfl ho.out (Old (_ + 1)) (some ⟨_, 0, none⟩) 1 1 [(k : Int)] rfl rfl hs.out (by have := hlen.out; have : maxLen = 9223372036854775807 := rfl; omega) (by have := hlen.out; omega) (by simp; omega) ?_)
          intro A2 c2 w2 hown hg2 _
          have hn := hide (hgr.out.more (by simpa using hown) hg2)
          clear hown hg2 ho hs
          go_wp2_with fail
          go_roundw
          case rel => exact ⟨k + 1, A2, c2, by omega, by omega, by go_num, by rw [hyes2.out]; simp, by rw [hyes2.out]; exact hn.out⟩
          case measure => simp [intOf]; omega
      · obtain rfl : k = l.length + 1 := by omega
        have hf := hide (show RowR 3 w _ (.returned (.slice A' (putTo l (p + 1) (l.length + 1)).length c')) (writeI l i).length (writeI l i) from by rw [hR.out]; exact hgr.row hB1.out)
        have hq : ¬ ((l.length + 1 : Nat) : Int) ≤ l.length := by omega
        clear hgr
        generalize putTo l (p + 1) (l.length + 1) = zs at *
        replace hlen := hide hlen
        go_wp2_with fail
        go_ret
        exact hf.out
end Go.Proofs.Ytbhfkfapdpedpaa
