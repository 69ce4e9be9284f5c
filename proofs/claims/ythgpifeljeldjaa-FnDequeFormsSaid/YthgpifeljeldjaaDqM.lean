/- The model's l8moved: a row of instructions that stands further back. -/
import Derived.Test.YthgpifeljeldjaaDqD
import Derived.Deep.AppendLies
import Derived.Deep.RegionLaw
import Derived.Deep.DrawnRows
import Derived.Deep.DeepCutAuto
namespace Go.Proofs.Ythgpifeljeldjaa
open Go.RowKit

theorem movL_len (k : Int) (l : List InsD) : (movL k l).length = l.length := by simp [movL]
theorem take_getd (l : List InsD) (j : Nat) (h : j < l.length) : l.take (j + 1) = l.take j ++ [getd l j] := by
  rw [List.take_succ_eq_append_getElem h]
  simp [getd, List.getD_eq_getElem?_getD, List.getElem?_eq_getElem h]
theorem movL_step (k : Int) (l : List InsD) (j : Nat) (h : j < l.length) : movL k (l.take (j + 1)) = movL k (l.take j) ++ [movI k (getd l j)] := by
  rw [take_getd l j h]
  simp [movL]
theorem getd_mem (l : List InsD) (j : Nat) (h : j < l.length) : getd l j ∈ l := by
  unfold getd
  rw [List.getD_eq_getElem?_getD, List.getElem?_eq_getElem h]
  exact List.getElem_mem h
/-- A store into a box that is new since W, and no block of the row. -/
theorem GrowI.setFar {W w : World} {A : Option Addr} {c n i q : Nat} {l : List InsD} (h : GrowI W A c n l w) (hq : W.heap.size ≤ q) (ha : some q ≠ (Value.slice A n c).ownBlock) (u : Value) : GrowI W A c n l (w.setCell ⟨q, i, none⟩ u) :=
  ⟨own_setFar h.own (fun e => ha e.symm) u, h.low.setCell hq u⟩

set_option maxRecDepth 100000 in
set_option maxHeartbeats 12800000 in
theorem l8moved_any (A : Option Addr) (part : List InsD) (c m : Nat) (S : Nat → Prop) (w : World) (hS : ∀ b, S b → b < w.heap.size) (h : InssAt w S A part) (hlen : m + part.length ≤ 100000) (hN : ∀ d ∈ part, -1000000 ≤ d.n ∧ d.n ≤ 1000000) :
    Calls Try.prog 47 #[.slice A part.length c, .int .i64 (m : Int)] w fun e w' => InsR w w' e (movL m part) := by
  obtain ⟨i0, hi0, hz0, hz1, hz2⟩ := info_parts Try.infoIns
  replace hi0 := hide hi0
  have hI := hide (h.more (S' := Old w.heap.size) hS)
  have hpl := h.1
  have hB := hide hlen
  replace hN := hide hN
  clear h hS hlen
  go_enter Try.func47, Try.ntmps47
  go_wp2_with fail
  go_loopw [5, 6] (fun t i wr => ∃ (j n : Nat) (A' : Option Addr) (c' : Nat), j ≤ part.length ∧ i = .int .i64 j ∧ t = .slice A' n c' ∧ Hid (GrowI w A' c' n (movL m (part.take j)) wr)) (fun _ i _ => part.length - (intOf i).toNat)
  case atStart => exact ⟨0, 0, none, 0, Nat.zero_le _, rfl, rfl, hide (by simpa [movL] using GrowI.nil w)⟩
  case round =>
    obtain ⟨j, n1, A1, c1, hjle, rfl, rfl, H0⟩ := hrel
    by_cases hlt : j < part.length
    · have hBB := hB.out
      obtain ⟨q, off, rfl, hqS, hc⟩ := (hI.out.keep (S' := Old w.heap.size) (fun b o h => H0.out.low.cell (p := ⟨b, o, none⟩) h) (fun _ h => h)).2 (by omega)
      obtain ⟨d0, d1, d2, d3, d4, d5⟩ := hc j hlt
      have hNj := hN.out (getd part j) (getd_mem part j hlt)
      have hst := hide (movL_step m part j hlt)
      obtain ⟨d, hd⟩ : ∃ d, d = getd part j := ⟨_, rfl⟩
      rw [← hd] at d0 d1 d2 d3 d4 d5 hNj hst
      clear hd hc
      obtain ⟨o, r, a, b, x, n⟩ := d
      simp only at d0 d1 d2 d3 d4 d5 hNj
      have hlen := H0.out.len
      rw [movL_len, List.length_take, Nat.min_eq_left (Nat.le_of_lt hlt)] at hlen
      have hn1 : n1 + 1 ≤ 100000 := by omega
      clear hlen
      obtain ⟨l1, hl1⟩ : ∃ l1, l1 = movL m (part.take j) := ⟨_, rfl⟩
      rw [← hl1] at H0
      replace hst := hide (show movL m (part.take (j + 1)) = l1 ++ [movI m ⟨o, r, a, b, x, n⟩] from by rw [hst.out, hl1])
      clear hl1
      have hbY := below1 wr (Obj.cells #[.int .i64 o, .int .i64 r, .int .i64 a, .int .i64 b, .int .i64 x, .int .i64 n] 71)
      have Y1a := Blk.new wr 71 #[.int .i64 o, .int .i64 r, .int .i64 a, .int .i64 b, .int .i64 x, .int .i64 n]
      have H1a := H0.out.next hbY
      have hqY := Nat.lt_of_lt_of_le hqS H0.out.low.size
      have hlt' : decide ((j : Int) < (part.length : Int)) = true := decide_eq_true (by omega)
      have hjl : j < part.length := hlt
      go_upto_region 6 with fail
      obtain ⟨w1, hw1⟩ : ∃ wq, wq = wr.alloc (Obj.cells #[.int .i64 o, .int .i64 r, .int .i64 a, .int .i64 b, .int .i64 x, .int .i64 n] 71) := ⟨_, rfl⟩
      rw [← hw1] at Y1a H1a ⊢
      obtain ⟨Y, hY⟩ : ∃ Y, Y = wr.heap.size := ⟨_, rfl⟩
      have hYW : w.heap.size ≤ Y := by rw [hY]; exact H0.out.low.size
      have hYf : some Y ≠ (Value.slice A1 n1 c1).ownBlock := fun e => by
        have := (own_lt H0.out.own e.symm).2.1
        omega
      rw [← hY] at Y1a ⊢
      have Y1 := hide Y1a
      have H1 := hide H1a
      clear d0 d1 d2 d3 d4 d5 hw1 hY hbY Y1a H1a H0 hqY
      cases h13 : (o == 13)
      · cases h14 : (o == 14)
        · have hstep := hide (show movL m (part.take (j + 1)) = l1 ++ [⟨o, r, a, b, x, n⟩] from by rw [hst.out]; unfold movI leapB; rw [if_neg (by show ¬ (o == 13 || o == 14) = true; rw [h13, h14]; decide)])
          clear hst
          obtain ⟨y0, y1, y2, y3, y4, y5⟩ := (show (w1.cell? ⟨Y, 0, none⟩ = some (.int .i64 o) ∧ w1.cell? ⟨Y, 1, none⟩ = some (.int .i64 r) ∧ w1.cell? ⟨Y, 2, none⟩ = some (.int .i64 a) ∧ w1.cell? ⟨Y, 3, none⟩ = some (.int .i64 b) ∧ w1.cell? ⟨Y, 4, none⟩ = some (.int .i64 x) ∧ w1.cell? ⟨Y, 5, none⟩ = some (.int .i64 n)) from ⟨Y1.out.cell 0, Y1.out.cell 1, Y1.out.cell 2, Y1.out.cell 3, Y1.out.cell 4, Y1.out.cell 5⟩)
          have hYl1 := Y1.out.lt
          obtain ⟨w2, hw2⟩ : ∃ wq, wq = w1 := ⟨_, rfl⟩
          have H2 := hide H1.out
          have Y2 := hide Y1.out
          rw [← hw2] at H2 Y2 y0 y1 y2 y3 y4 y5 hYl1 ⊢
          clear hw2 H1 Y1
          obtain ⟨y0, y1, y2, y3, y4, y5⟩ := (show (w2.cell? ⟨Y, 0, none⟩ = some (.int .i64 o) ∧ w2.cell? ⟨Y, 1, none⟩ = some (.int .i64 r) ∧ w2.cell? ⟨Y, 2, none⟩ = some (.int .i64 a) ∧ w2.cell? ⟨Y, 3, none⟩ = some (.int .i64 b) ∧ w2.cell? ⟨Y, 4, none⟩ = some (.int .i64 x) ∧ w2.cell? ⟨Y, 5, none⟩ = some (.int .i64 n)) from ⟨Y2.out.cell 0, Y2.out.cell 1, Y2.out.cell 2, Y2.out.cell 3, Y2.out.cell 4, Y2.out.cell 5⟩)
          have hYl := Y2.out.lt
          have hW2 := H2.out.low.size
          go_wp2_with (at_builtin; refine wpList_append_lies _ rfl _ _ _ rfl w.heap.size 71 i0 _ 6 48 Try.underlying40 hi0.out hz0 hz1 hz2 rfl (by omega) (.slice A1 n1 c1) n1 (flat l1) rfl (H2.out.alloc _) ⟨w2.heap.size, 0, none⟩ 1 1 [Value.int .i64 o, Value.int .i64 r, Value.int .i64 a, Value.int .i64 b, Value.int .i64 x, Value.int .i64 n] rfl rfl (World.news_of_block (cs := #[Value.int .i64 o, Value.int .i64 r, Value.int .i64 a, Value.int .i64 b, Value.int .i64 x, Value.int .i64 n]) (t := 71) (fr := (0, 0)) (heap_alloc_new _ _)) (by simp [Value.oneCell']) (by omega) (by have : maxLen = 9223372036854775807 := rfl; omega) (by omega) (by simp; omega) _ rfl ?_)
          intro g3 cap3 w3 hown3 hg3 hat3 hlt3
          have H3 := hide (H2.out.more (k := [⟨o, r, a, b, x, n⟩]) (m := 1) (xs := [Value.int .i64 o, Value.int .i64 r, Value.int .i64 a, Value.int .i64 b, Value.int .i64 x, Value.int .i64 n]) rfl hown3 hg3)
          clear hown3 hg3 hat3 H2 Y2 y0 y1 y2 y3 y4 y5 hYl hW2
          go_wp2_with fail
          go_roundw
          case rel => exact ⟨j + 1, _, _, _, by omega, by go_num, rfl, hide (by rw [hstep.out]; exact H3.out)⟩
          case measure => simp [intOf]; omega
        · have hstep := hide (show movL m (part.take (j + 1)) = l1 ++ [⟨o, r, a, b, x, n + (m : Int)⟩] from by rw [hst.out]; unfold movI leapB; rw [if_pos (by show (o == 13 || o == 14) = true; rw [h13, h14]; rfl)])
          clear hst
          obtain ⟨y0, y1, y2, y3, y4, y5⟩ := (show (w1.cell? ⟨Y, 0, none⟩ = some (.int .i64 o) ∧ w1.cell? ⟨Y, 1, none⟩ = some (.int .i64 r) ∧ w1.cell? ⟨Y, 2, none⟩ = some (.int .i64 a) ∧ w1.cell? ⟨Y, 3, none⟩ = some (.int .i64 b) ∧ w1.cell? ⟨Y, 4, none⟩ = some (.int .i64 x) ∧ w1.cell? ⟨Y, 5, none⟩ = some (.int .i64 n)) from ⟨Y1.out.cell 0, Y1.out.cell 1, Y1.out.cell 2, Y1.out.cell 3, Y1.out.cell 4, Y1.out.cell 5⟩)
          have hYl1 := Y1.out.lt
          obtain ⟨w2, hw2⟩ : ∃ wq, wq = w1 := ⟨_, rfl⟩
          have H2 := hide H1.out
          have Y2 := hide Y1.out
          rw [← hw2] at H2 Y2 y0 y1 y2 y3 y4 y5 hYl1 ⊢
          clear hw2 H1 Y1
          obtain ⟨y5, z5⟩ := (show w2.cell? ⟨Y, 5, none⟩ = some (.int .i64 n) ∧ w2.frozen? ⟨Y, 5, none⟩ = false from ⟨Y2.out.cell 5, Y2.out.frozen 5⟩)
          have hYl2 := Y2.out.lt
          have hwm : IntKind.i64.wrap (n + (m : Int)) = n + (m : Int) := (IntWalk.i64_left _).trans (by unfold RowKit.wrap64; omega)
          go_upto_region 8 with fail
          obtain ⟨w3s, hw3s⟩ : ∃ wq, wq = w2.setCell ⟨Y, 5, none⟩ (.int .i64 (n + (m : Int))) := ⟨_, rfl⟩
          have H3s := H2.out.setFar (i := 5) hYW hYf (.int .i64 (n + (m : Int)))
          have Y3s := Y2.out.set_ 5 (.int .i64 (n + (m : Int)))
          rw [← hw3s] at H3s Y3s ⊢
          clear hw3s y5 z5 hYl2 hwm H2 Y2
          obtain ⟨w2, hw2⟩ : ∃ wq, wq = w3s := ⟨_, rfl⟩
          rw [← hw2] at H3s Y3s ⊢
          clear hw2
          have H2 := hide H3s
          have Y2 := hide (show Blk w2 Y 71 #[.int .i64 o, .int .i64 r, .int .i64 a, .int .i64 b, .int .i64 x, .int .i64 (n + (m : Int))] from Y3s)
          clear H3s Y3s
          obtain ⟨y0, y1, y2, y3, y4, y5⟩ := (show (w2.cell? ⟨Y, 0, none⟩ = some (.int .i64 o) ∧ w2.cell? ⟨Y, 1, none⟩ = some (.int .i64 r) ∧ w2.cell? ⟨Y, 2, none⟩ = some (.int .i64 a) ∧ w2.cell? ⟨Y, 3, none⟩ = some (.int .i64 b) ∧ w2.cell? ⟨Y, 4, none⟩ = some (.int .i64 x) ∧ w2.cell? ⟨Y, 5, none⟩ = some (.int .i64 (n + (m : Int)))) from ⟨Y2.out.cell 0, Y2.out.cell 1, Y2.out.cell 2, Y2.out.cell 3, Y2.out.cell 4, Y2.out.cell 5⟩)
          have hYl := Y2.out.lt
          have hW2 := H2.out.low.size
          go_wp2_with (at_builtin; refine wpList_append_lies _ rfl _ _ _ rfl w.heap.size 71 i0 _ 6 48 Try.underlying40 hi0.out hz0 hz1 hz2 rfl (by omega) (.slice A1 n1 c1) n1 (flat l1) rfl (H2.out.alloc _) ⟨w2.heap.size, 0, none⟩ 1 1 [Value.int .i64 o, Value.int .i64 r, Value.int .i64 a, Value.int .i64 b, Value.int .i64 x, Value.int .i64 (n + (m : Int))] rfl rfl (World.news_of_block (cs := #[Value.int .i64 o, Value.int .i64 r, Value.int .i64 a, Value.int .i64 b, Value.int .i64 x, Value.int .i64 (n + (m : Int))]) (t := 71) (fr := (0, 0)) (heap_alloc_new _ _)) (by simp [Value.oneCell']) (by omega) (by have : maxLen = 9223372036854775807 := rfl; omega) (by omega) (by simp; omega) _ rfl ?_)
          intro g3 cap3 w3 hown3 hg3 hat3 hlt3
          have H3 := hide (H2.out.more (k := [⟨o, r, a, b, x, (n + (m : Int))⟩]) (m := 1) (xs := [Value.int .i64 o, Value.int .i64 r, Value.int .i64 a, Value.int .i64 b, Value.int .i64 x, Value.int .i64 (n + (m : Int))]) rfl hown3 hg3)
          clear hown3 hg3 hat3 H2 Y2 y0 y1 y2 y3 y4 y5 hYl hW2
          go_wp2_with fail
          go_roundw
          case rel => exact ⟨j + 1, _, _, _, by omega, by go_num, rfl, hide (by rw [hstep.out]; exact H3.out)⟩
          case measure => simp [intOf]; omega
      · have hstep := hide (show movL m (part.take (j + 1)) = l1 ++ [⟨o, r, a, b, x, n + (m : Int)⟩] from by rw [hst.out]; unfold movI leapB; rw [if_pos (by show (o == 13 || o == 14) = true; rw [h13]; rfl)])
        clear hst
        obtain ⟨y0, y1, y2, y3, y4, y5⟩ := (show (w1.cell? ⟨Y, 0, none⟩ = some (.int .i64 o) ∧ w1.cell? ⟨Y, 1, none⟩ = some (.int .i64 r) ∧ w1.cell? ⟨Y, 2, none⟩ = some (.int .i64 a) ∧ w1.cell? ⟨Y, 3, none⟩ = some (.int .i64 b) ∧ w1.cell? ⟨Y, 4, none⟩ = some (.int .i64 x) ∧ w1.cell? ⟨Y, 5, none⟩ = some (.int .i64 n)) from ⟨Y1.out.cell 0, Y1.out.cell 1, Y1.out.cell 2, Y1.out.cell 3, Y1.out.cell 4, Y1.out.cell 5⟩)
        have hYl1 := Y1.out.lt
        obtain ⟨w2, hw2⟩ : ∃ wq, wq = w1 := ⟨_, rfl⟩
        have H2 := hide H1.out
        have Y2 := hide Y1.out
        rw [← hw2] at H2 Y2 y0 y1 y2 y3 y4 y5 hYl1 ⊢
        clear hw2 H1 Y1
        obtain ⟨y5, z5⟩ := (show w2.cell? ⟨Y, 5, none⟩ = some (.int .i64 n) ∧ w2.frozen? ⟨Y, 5, none⟩ = false from ⟨Y2.out.cell 5, Y2.out.frozen 5⟩)
        have hYl2 := Y2.out.lt
        have hwm : IntKind.i64.wrap (n + (m : Int)) = n + (m : Int) := (IntWalk.i64_left _).trans (by unfold RowKit.wrap64; omega)
        go_upto_region 8 with fail
        obtain ⟨w3s, hw3s⟩ : ∃ wq, wq = w2.setCell ⟨Y, 5, none⟩ (.int .i64 (n + (m : Int))) := ⟨_, rfl⟩
        have H3s := H2.out.setFar (i := 5) hYW hYf (.int .i64 (n + (m : Int)))
        have Y3s := Y2.out.set_ 5 (.int .i64 (n + (m : Int)))
        rw [← hw3s] at H3s Y3s ⊢
        clear hw3s y5 z5 hYl2 hwm H2 Y2
        obtain ⟨w2, hw2⟩ : ∃ wq, wq = w3s := ⟨_, rfl⟩
        rw [← hw2] at H3s Y3s ⊢
        clear hw2
        have H2 := hide H3s
        have Y2 := hide (show Blk w2 Y 71 #[.int .i64 o, .int .i64 r, .int .i64 a, .int .i64 b, .int .i64 x, .int .i64 (n + (m : Int))] from Y3s)
        clear H3s Y3s
        obtain ⟨y0, y1, y2, y3, y4, y5⟩ := (show (w2.cell? ⟨Y, 0, none⟩ = some (.int .i64 o) ∧ w2.cell? ⟨Y, 1, none⟩ = some (.int .i64 r) ∧ w2.cell? ⟨Y, 2, none⟩ = some (.int .i64 a) ∧ w2.cell? ⟨Y, 3, none⟩ = some (.int .i64 b) ∧ w2.cell? ⟨Y, 4, none⟩ = some (.int .i64 x) ∧ w2.cell? ⟨Y, 5, none⟩ = some (.int .i64 (n + (m : Int)))) from ⟨Y2.out.cell 0, Y2.out.cell 1, Y2.out.cell 2, Y2.out.cell 3, Y2.out.cell 4, Y2.out.cell 5⟩)
        have hYl := Y2.out.lt
        have hW2 := H2.out.low.size
        go_wp2_with (at_builtin; refine wpList_append_lies _ rfl _ _ _ rfl w.heap.size 71 i0 _ 6 48 Try.underlying40 hi0.out hz0 hz1 hz2 rfl (by omega) (.slice A1 n1 c1) n1 (flat l1) rfl (H2.out.alloc _) ⟨w2.heap.size, 0, none⟩ 1 1 [Value.int .i64 o, Value.int .i64 r, Value.int .i64 a, Value.int .i64 b, Value.int .i64 x, Value.int .i64 (n + (m : Int))] rfl rfl (World.news_of_block (cs := #[Value.int .i64 o, Value.int .i64 r, Value.int .i64 a, Value.int .i64 b, Value.int .i64 x, Value.int .i64 (n + (m : Int))]) (t := 71) (fr := (0, 0)) (heap_alloc_new _ _)) (by simp [Value.oneCell']) (by omega) (by have : maxLen = 9223372036854775807 := rfl; omega) (by omega) (by simp; omega) _ rfl ?_)
        intro g3 cap3 w3 hown3 hg3 hat3 hlt3
        have H3 := hide (H2.out.more (k := [⟨o, r, a, b, x, (n + (m : Int))⟩]) (m := 1) (xs := [Value.int .i64 o, Value.int .i64 r, Value.int .i64 a, Value.int .i64 b, Value.int .i64 x, Value.int .i64 (n + (m : Int))]) rfl hown3 hg3)
        clear hown3 hg3 hat3 H2 Y2 y0 y1 y2 y3 y4 y5 hYl hW2
        go_wp2_with fail
        go_roundw
        case rel => exact ⟨j + 1, _, _, _, by omega, by go_num, rfl, hide (by rw [hstep.out]; exact H3.out)⟩
        case measure => simp [intOf]; omega
    · obtain rfl : j = part.length := by omega
      have hlt' : decide ((part.length : Int) < (part.length : Int)) = false := decide_eq_false (by omega)
      have H1 := hide (show GrowI w A1 c1 n1 (movL m part) _ from by have := H0.out; rw [List.take_length] at this; exact this)
      clear H0
      go_wp2_with fail
      go_ret
      exact H1.out.ret (Below.refl _ _)
end Go.Proofs.Ythgpifeljeldjaa
