/- The model's DequeTake and DequeSteal. -/
import Derived.Test.YthgpifeljeldjaaDqD
import Derived.Deep.AppendLies
import Derived.Deep.RegionLaw
import Derived.Deep.DrawnRows
import Derived.Deep.DeepCutAuto
namespace Go.Proofs.Ythgpifeljeldjaa
open Go.RowKit

attribute [local go_sem ↓] Go.wp_at_zero Go.wp_at_succ

set_option maxHeartbeats 800000 in
theorem l8ok_any (r f : Int) (w : World) : Calls Try.prog 46 #[.int .i64 r, .int .i64 f] w fun e w' => e = .returned (.bool (rfB r f)) ∧ w = w' := by
  go_enter Try.func46, Try.ntmps46
  go_wp2
  all_goals
    go_ret
    exact ⟨ret_bool (by unfold rfB; first | (simp; done) | (simp; omega) | simp_all), rfl⟩

set_option maxRecDepth 100000 in
set_option maxHeartbeats 6400000 in
theorem stake_f (r f : Int) (W : World) (hrf : rfB r f = true) (hbit : (bits BinOp.and IntKind.i64 f 1 != 0) = false) : Calls Try.prog 19 #[.int .i64 r, .int .i64 f] W fun e w' => InsR W w' e (takeI r false) := by
  suffices h : Calls Try.prog 19 #[.int .i64 r, .int .i64 f] W fun e w' => InsR W w' e ((((((([⟨7, 2, 0, 0, 1, 0⟩, ⟨1, 3, 0, 0, 0, 1⟩, ⟨4, 2, 2, 3, 0, 0⟩, ⟨8, 0, 2, 0, 1, 0⟩] ++ [⟨7, 4, 0, 0, 0, 0⟩, ⟨5, 5, 4, 2, 0, 0⟩, ⟨13, 0, 5, 0, 0, 9⟩]) ++ [⟨9, r, 2, 0, 2, 4⟩, ⟨14, 0, 0, 0, 0, 20⟩]) ++ [⟨6, 5, 4, 2, 0, 0⟩, ⟨13, 0, 5, 0, 0, 18⟩]) ++ [⟨9, r, 2, 0, 2, 4⟩, ⟨1, 3, 0, 0, 0, 1⟩, ⟨3, 3, 4, 3, 0, 0⟩]) ++ [⟨11, 5, 4, 3, 0, 0⟩, ⟨8, 0, 3, 0, 1, 0⟩, ⟨13, 0, 5, 0, 0, 19⟩, ⟨14, 0, 0, 0, 0, 20⟩]) ++ [⟨8, 0, 4, 0, 1, 0⟩, ⟨1, r, 0, 0, 0, 0⟩])) from h
  have kO := hide (fun w => l8ok_any r f w)
  rw [hrf] at kO
  obtain ⟨i0, hi0, hz0, hz1, hz2⟩ := info_parts Try.infoIns
  replace hi0 := hide hi0
  clear hrf
  go_enter Try.func19, Try.ntmps19
  go_wp2_with fail
  refine (kO.out _).mono ?_
  rintro e wx ⟨rfl, rfl⟩
  have G0 := hide (GrowI.lit (l := [⟨7, 2, 0, 0, 1, 0⟩, ⟨1, 3, 0, 0, 0, 1⟩, ⟨4, 2, 2, 3, 0, 0⟩, ⟨8, 0, 2, 0, 1, 0⟩]) W (cs := #[Value.int .i64 7, Value.int .i64 2, Value.int .i64 0, Value.int .i64 0, Value.int .i64 1, Value.int .i64 0, Value.int .i64 1, Value.int .i64 3, Value.int .i64 0, Value.int .i64 0, Value.int .i64 0, Value.int .i64 1, Value.int .i64 4, Value.int .i64 2, Value.int .i64 2, Value.int .i64 3, Value.int .i64 0, Value.int .i64 0, Value.int .i64 8, Value.int .i64 0, Value.int .i64 2, Value.int .i64 0, Value.int .i64 1, Value.int .i64 0]) (n := 4) (by omega) rfl rfl)
  obtain ⟨w0, hw0⟩ : ∃ wq, wq = (W.alloc (Obj.cells #[Value.int .i64 7, Value.int .i64 2, Value.int .i64 0, Value.int .i64 0, Value.int .i64 1, Value.int .i64 0, Value.int .i64 1, Value.int .i64 3, Value.int .i64 0, Value.int .i64 0, Value.int .i64 0, Value.int .i64 1, Value.int .i64 4, Value.int .i64 2, Value.int .i64 2, Value.int .i64 3, Value.int .i64 0, Value.int .i64 0, Value.int .i64 8, Value.int .i64 0, Value.int .i64 2, Value.int .i64 0, Value.int .i64 1, Value.int .i64 0] 71)) := ⟨_, rfl⟩
  rw [← hw0] at G0
  go_upto_region 4 with fail
  rw [← hw0]
  clear hw0
  have hs1 := G0.out.low.size
  go_wp2_with (at_builtin; refine wpList_append_lies _ rfl _ _ _ rfl W.heap.size 71 i0 _ 6 48 Try.underlying40 hi0.out hz0 hz1 hz2 rfl (by omega) (.slice (some ⟨W.heap.size, 0, none⟩) 4 4) 4 _ rfl (G0.out.alloc _) ⟨w0.heap.size, 0, none⟩ 3 3 [Value.int .i64 7, Value.int .i64 4, Value.int .i64 0, Value.int .i64 0, Value.int .i64 0, Value.int .i64 0, Value.int .i64 5, Value.int .i64 5, Value.int .i64 4, Value.int .i64 2, Value.int .i64 0, Value.int .i64 0, Value.int .i64 13, Value.int .i64 0, Value.int .i64 5, Value.int .i64 0, Value.int .i64 0, Value.int .i64 9] rfl rfl (World.news_of_block (cs := #[Value.int .i64 7, Value.int .i64 4, Value.int .i64 0, Value.int .i64 0, Value.int .i64 0, Value.int .i64 0, Value.int .i64 5, Value.int .i64 5, Value.int .i64 4, Value.int .i64 2, Value.int .i64 0, Value.int .i64 0, Value.int .i64 13, Value.int .i64 0, Value.int .i64 5, Value.int .i64 0, Value.int .i64 0, Value.int .i64 9]) (t := 71) (fr := (0, 0)) (heap_alloc_new _ _)) (by simp [Value.oneCell']) (by omega) (by have : maxLen = 9223372036854775807 := rfl; omega) (by omega) (by simp; omega) _ rfl ?_)
  intro g1 cap1 w1 hown1 hgrow1 hat1 hlt1
  have G1 := hide (G0.out.more (k := [⟨7, 4, 0, 0, 0, 0⟩, ⟨5, 5, 4, 2, 0, 0⟩, ⟨13, 0, 5, 0, 0, 9⟩]) (m := 3) (xs := [Value.int .i64 7, Value.int .i64 4, Value.int .i64 0, Value.int .i64 0, Value.int .i64 0, Value.int .i64 0, Value.int .i64 5, Value.int .i64 5, Value.int .i64 4, Value.int .i64 2, Value.int .i64 0, Value.int .i64 0, Value.int .i64 13, Value.int .i64 0, Value.int .i64 5, Value.int .i64 0, Value.int .i64 0, Value.int .i64 9]) rfl hown1 hgrow1)
  clear G0 hown1 hgrow1 hat1 hlt1 hs1
  have hs2 := G1.out.low.size
  go_wp2_with (at_builtin; refine wpList_append_lies _ rfl _ _ _ rfl W.heap.size 71 i0 _ 6 48 Try.underlying40 hi0.out hz0 hz1 hz2 rfl (by omega) (.slice (some ⟨g1, 0, none⟩) 7 cap1) 7 _ rfl (G1.out.alloc _) ⟨w1.heap.size, 0, none⟩ 2 2 [Value.int .i64 9, Value.int .i64 r, Value.int .i64 2, Value.int .i64 0, Value.int .i64 2, Value.int .i64 4, Value.int .i64 14, Value.int .i64 0, Value.int .i64 0, Value.int .i64 0, Value.int .i64 0, Value.int .i64 20] rfl rfl (World.news_of_block (cs := #[Value.int .i64 9, Value.int .i64 r, Value.int .i64 2, Value.int .i64 0, Value.int .i64 2, Value.int .i64 4, Value.int .i64 14, Value.int .i64 0, Value.int .i64 0, Value.int .i64 0, Value.int .i64 0, Value.int .i64 20]) (t := 71) (fr := (0, 0)) (heap_alloc_new _ _)) (by simp [Value.oneCell']) (by omega) (by have : maxLen = 9223372036854775807 := rfl; omega) (by omega) (by simp; omega) _ rfl ?_)
  intro g2 cap2 w2 hown2 hgrow2 hat2 hlt2
  have G2 := hide (G1.out.more (k := [⟨9, r, 2, 0, 2, 4⟩, ⟨14, 0, 0, 0, 0, 20⟩]) (m := 2) (xs := [Value.int .i64 9, Value.int .i64 r, Value.int .i64 2, Value.int .i64 0, Value.int .i64 2, Value.int .i64 4, Value.int .i64 14, Value.int .i64 0, Value.int .i64 0, Value.int .i64 0, Value.int .i64 0, Value.int .i64 20]) rfl hown2 hgrow2)
  clear G1 hown2 hgrow2 hat2 hlt2 hs2
  have hs3 := G2.out.low.size
  go_wp2_with (at_builtin; refine wpList_append_lies _ rfl _ _ _ rfl W.heap.size 71 i0 _ 6 48 Try.underlying40 hi0.out hz0 hz1 hz2 rfl (by omega) (.slice (some ⟨g2, 0, none⟩) 9 cap2) 9 _ rfl (G2.out.alloc _) ⟨w2.heap.size, 0, none⟩ 2 2 [Value.int .i64 6, Value.int .i64 5, Value.int .i64 4, Value.int .i64 2, Value.int .i64 0, Value.int .i64 0, Value.int .i64 13, Value.int .i64 0, Value.int .i64 5, Value.int .i64 0, Value.int .i64 0, Value.int .i64 18] rfl rfl (World.news_of_block (cs := #[Value.int .i64 6, Value.int .i64 5, Value.int .i64 4, Value.int .i64 2, Value.int .i64 0, Value.int .i64 0, Value.int .i64 13, Value.int .i64 0, Value.int .i64 5, Value.int .i64 0, Value.int .i64 0, Value.int .i64 18]) (t := 71) (fr := (0, 0)) (heap_alloc_new _ _)) (by simp [Value.oneCell']) (by omega) (by have : maxLen = 9223372036854775807 := rfl; omega) (by omega) (by simp; omega) _ rfl ?_)
  intro g3 cap3 w3 hown3 hgrow3 hat3 hlt3
  have G3 := hide (G2.out.more (k := [⟨6, 5, 4, 2, 0, 0⟩, ⟨13, 0, 5, 0, 0, 18⟩]) (m := 2) (xs := [Value.int .i64 6, Value.int .i64 5, Value.int .i64 4, Value.int .i64 2, Value.int .i64 0, Value.int .i64 0, Value.int .i64 13, Value.int .i64 0, Value.int .i64 5, Value.int .i64 0, Value.int .i64 0, Value.int .i64 18]) rfl hown3 hgrow3)
  clear G2 hown3 hgrow3 hat3 hlt3 hs3
  have hs4 := G3.out.low.size
  go_wp2_with (at_builtin; refine wpList_append_lies _ rfl _ _ _ rfl W.heap.size 71 i0 _ 6 48 Try.underlying40 hi0.out hz0 hz1 hz2 rfl (by omega) (.slice (some ⟨g3, 0, none⟩) 11 cap3) 11 _ rfl (G3.out.alloc _) ⟨w3.heap.size, 0, none⟩ 3 3 [Value.int .i64 9, Value.int .i64 r, Value.int .i64 2, Value.int .i64 0, Value.int .i64 2, Value.int .i64 4, Value.int .i64 1, Value.int .i64 3, Value.int .i64 0, Value.int .i64 0, Value.int .i64 0, Value.int .i64 1, Value.int .i64 3, Value.int .i64 3, Value.int .i64 4, Value.int .i64 3, Value.int .i64 0, Value.int .i64 0] rfl rfl (World.news_of_block (cs := #[Value.int .i64 9, Value.int .i64 r, Value.int .i64 2, Value.int .i64 0, Value.int .i64 2, Value.int .i64 4, Value.int .i64 1, Value.int .i64 3, Value.int .i64 0, Value.int .i64 0, Value.int .i64 0, Value.int .i64 1, Value.int .i64 3, Value.int .i64 3, Value.int .i64 4, Value.int .i64 3, Value.int .i64 0, Value.int .i64 0]) (t := 71) (fr := (0, 0)) (heap_alloc_new _ _)) (by simp [Value.oneCell']) (by omega) (by have : maxLen = 9223372036854775807 := rfl; omega) (by omega) (by simp; omega) _ rfl ?_)
  intro g4 cap4 w4 hown4 hgrow4 hat4 hlt4
  have G4 := hide (G3.out.more (k := [⟨9, r, 2, 0, 2, 4⟩, ⟨1, 3, 0, 0, 0, 1⟩, ⟨3, 3, 4, 3, 0, 0⟩]) (m := 3) (xs := [Value.int .i64 9, Value.int .i64 r, Value.int .i64 2, Value.int .i64 0, Value.int .i64 2, Value.int .i64 4, Value.int .i64 1, Value.int .i64 3, Value.int .i64 0, Value.int .i64 0, Value.int .i64 0, Value.int .i64 1, Value.int .i64 3, Value.int .i64 3, Value.int .i64 4, Value.int .i64 3, Value.int .i64 0, Value.int .i64 0]) rfl hown4 hgrow4)
  clear G3 hown4 hgrow4 hat4 hlt4 hs4
  have hs5 := G4.out.low.size
  go_wp2_with (at_builtin; refine wpList_append_lies _ rfl _ _ _ rfl W.heap.size 71 i0 _ 6 48 Try.underlying40 hi0.out hz0 hz1 hz2 rfl (by omega) (.slice (some ⟨g4, 0, none⟩) 14 cap4) 14 _ rfl (G4.out.alloc _) ⟨w4.heap.size, 0, none⟩ 4 4 [Value.int .i64 11, Value.int .i64 5, Value.int .i64 4, Value.int .i64 3, Value.int .i64 0, Value.int .i64 0, Value.int .i64 8, Value.int .i64 0, Value.int .i64 3, Value.int .i64 0, Value.int .i64 1, Value.int .i64 0, Value.int .i64 13, Value.int .i64 0, Value.int .i64 5, Value.int .i64 0, Value.int .i64 0, Value.int .i64 19, Value.int .i64 14, Value.int .i64 0, Value.int .i64 0, Value.int .i64 0, Value.int .i64 0, Value.int .i64 20] rfl rfl (World.news_of_block (cs := #[Value.int .i64 11, Value.int .i64 5, Value.int .i64 4, Value.int .i64 3, Value.int .i64 0, Value.int .i64 0, Value.int .i64 8, Value.int .i64 0, Value.int .i64 3, Value.int .i64 0, Value.int .i64 1, Value.int .i64 0, Value.int .i64 13, Value.int .i64 0, Value.int .i64 5, Value.int .i64 0, Value.int .i64 0, Value.int .i64 19, Value.int .i64 14, Value.int .i64 0, Value.int .i64 0, Value.int .i64 0, Value.int .i64 0, Value.int .i64 20]) (t := 71) (fr := (0, 0)) (heap_alloc_new _ _)) (by simp [Value.oneCell']) (by omega) (by have : maxLen = 9223372036854775807 := rfl; omega) (by omega) (by simp; omega) _ rfl ?_)
  intro g5 cap5 w5 hown5 hgrow5 hat5 hlt5
  have G5 := hide (G4.out.more (k := [⟨11, 5, 4, 3, 0, 0⟩, ⟨8, 0, 3, 0, 1, 0⟩, ⟨13, 0, 5, 0, 0, 19⟩, ⟨14, 0, 0, 0, 0, 20⟩]) (m := 4) (xs := [Value.int .i64 11, Value.int .i64 5, Value.int .i64 4, Value.int .i64 3, Value.int .i64 0, Value.int .i64 0, Value.int .i64 8, Value.int .i64 0, Value.int .i64 3, Value.int .i64 0, Value.int .i64 1, Value.int .i64 0, Value.int .i64 13, Value.int .i64 0, Value.int .i64 5, Value.int .i64 0, Value.int .i64 0, Value.int .i64 19, Value.int .i64 14, Value.int .i64 0, Value.int .i64 0, Value.int .i64 0, Value.int .i64 0, Value.int .i64 20]) rfl hown5 hgrow5)
  clear G4 hown5 hgrow5 hat5 hlt5 hs5
  have hs6 := G5.out.low.size
  go_wp2_with (at_builtin; refine wpList_append_lies _ rfl _ _ _ rfl W.heap.size 71 i0 _ 6 48 Try.underlying40 hi0.out hz0 hz1 hz2 rfl (by omega) (.slice (some ⟨g5, 0, none⟩) 18 cap5) 18 _ rfl (G5.out.alloc _) ⟨w5.heap.size, 0, none⟩ 2 2 [Value.int .i64 8, Value.int .i64 0, Value.int .i64 4, Value.int .i64 0, Value.int .i64 1, Value.int .i64 0, Value.int .i64 1, Value.int .i64 r, Value.int .i64 0, Value.int .i64 0, Value.int .i64 0, Value.int .i64 0] rfl rfl (World.news_of_block (cs := #[Value.int .i64 8, Value.int .i64 0, Value.int .i64 4, Value.int .i64 0, Value.int .i64 1, Value.int .i64 0, Value.int .i64 1, Value.int .i64 r, Value.int .i64 0, Value.int .i64 0, Value.int .i64 0, Value.int .i64 0]) (t := 71) (fr := (0, 0)) (heap_alloc_new _ _)) (by simp [Value.oneCell']) (by omega) (by have : maxLen = 9223372036854775807 := rfl; omega) (by omega) (by simp; omega) _ rfl ?_)
  intro g6 cap6 w6 hown6 hgrow6 hat6 hlt6
  have G6 := hide (G5.out.more (k := [⟨8, 0, 4, 0, 1, 0⟩, ⟨1, r, 0, 0, 0, 0⟩]) (m := 2) (xs := [Value.int .i64 8, Value.int .i64 0, Value.int .i64 4, Value.int .i64 0, Value.int .i64 1, Value.int .i64 0, Value.int .i64 1, Value.int .i64 r, Value.int .i64 0, Value.int .i64 0, Value.int .i64 0, Value.int .i64 0]) rfl hown6 hgrow6)
  clear G5 hown6 hgrow6 hat6 hlt6 hs6
  go_wp2_with fail
  go_ret
  have HR := G6.out.ret (Below.refl _ _)
  exact HR

set_option maxRecDepth 100000 in
set_option maxHeartbeats 6400000 in
theorem stake_t (r f : Int) (W : World) (hrf : rfB r f = true) (hbit : (bits BinOp.and IntKind.i64 f 1 != 0) = true) : Calls Try.prog 19 #[.int .i64 r, .int .i64 f] W fun e w' => InsR W w' e (takeI r true) := by
  suffices h : Calls Try.prog 19 #[.int .i64 r, .int .i64 f] W fun e w' => InsR W w' e (((((((([⟨7, 2, 0, 0, 1, 0⟩, ⟨1, 3, 0, 0, 0, 1⟩, ⟨4, 2, 2, 3, 0, 0⟩, ⟨8, 0, 2, 0, 1, 0⟩] ++ [⟨12, 0, 0, 0, 0, 0⟩]) ++ [⟨7, 4, 0, 0, 0, 0⟩, ⟨5, 5, 4, 2, 0, 0⟩, ⟨13, 0, 5, 0, 0, 10⟩]) ++ [⟨9, r, 2, 0, 2, 4⟩, ⟨14, 0, 0, 0, 0, 21⟩]) ++ [⟨6, 5, 4, 2, 0, 0⟩, ⟨13, 0, 5, 0, 0, 19⟩]) ++ [⟨9, r, 2, 0, 2, 4⟩, ⟨1, 3, 0, 0, 0, 1⟩, ⟨3, 3, 4, 3, 0, 0⟩]) ++ [⟨11, 5, 4, 3, 0, 0⟩, ⟨8, 0, 3, 0, 1, 0⟩, ⟨13, 0, 5, 0, 0, 20⟩, ⟨14, 0, 0, 0, 0, 21⟩]) ++ [⟨8, 0, 4, 0, 1, 0⟩, ⟨1, r, 0, 0, 0, 0⟩])) from h
  have kO := hide (fun w => l8ok_any r f w)
  rw [hrf] at kO
  obtain ⟨i0, hi0, hz0, hz1, hz2⟩ := info_parts Try.infoIns
  replace hi0 := hide hi0
  clear hrf
  go_enter Try.func19, Try.ntmps19
  go_wp2_with fail
  refine (kO.out _).mono ?_
  rintro e wx ⟨rfl, rfl⟩
  have G0 := hide (GrowI.lit (l := [⟨7, 2, 0, 0, 1, 0⟩, ⟨1, 3, 0, 0, 0, 1⟩, ⟨4, 2, 2, 3, 0, 0⟩, ⟨8, 0, 2, 0, 1, 0⟩]) W (cs := #[Value.int .i64 7, Value.int .i64 2, Value.int .i64 0, Value.int .i64 0, Value.int .i64 1, Value.int .i64 0, Value.int .i64 1, Value.int .i64 3, Value.int .i64 0, Value.int .i64 0, Value.int .i64 0, Value.int .i64 1, Value.int .i64 4, Value.int .i64 2, Value.int .i64 2, Value.int .i64 3, Value.int .i64 0, Value.int .i64 0, Value.int .i64 8, Value.int .i64 0, Value.int .i64 2, Value.int .i64 0, Value.int .i64 1, Value.int .i64 0]) (n := 4) (by omega) rfl rfl)
  obtain ⟨w0, hw0⟩ : ∃ wq, wq = (W.alloc (Obj.cells #[Value.int .i64 7, Value.int .i64 2, Value.int .i64 0, Value.int .i64 0, Value.int .i64 1, Value.int .i64 0, Value.int .i64 1, Value.int .i64 3, Value.int .i64 0, Value.int .i64 0, Value.int .i64 0, Value.int .i64 1, Value.int .i64 4, Value.int .i64 2, Value.int .i64 2, Value.int .i64 3, Value.int .i64 0, Value.int .i64 0, Value.int .i64 8, Value.int .i64 0, Value.int .i64 2, Value.int .i64 0, Value.int .i64 1, Value.int .i64 0] 71)) := ⟨_, rfl⟩
  rw [← hw0] at G0
  go_upto_region 4 with fail
  rw [← hw0]
  clear hw0
  have hs1 := G0.out.low.size
  go_wp2_with (at_builtin; refine wpList_append_lies _ rfl _ _ _ rfl W.heap.size 71 i0 _ 6 48 Try.underlying40 hi0.out hz0 hz1 hz2 rfl (by omega) (.slice (some ⟨W.heap.size, 0, none⟩) 4 4) 4 _ rfl (G0.out.alloc _) ⟨w0.heap.size, 0, none⟩ 1 1 [Value.int .i64 12, Value.int .i64 0, Value.int .i64 0, Value.int .i64 0, Value.int .i64 0, Value.int .i64 0] rfl rfl (World.news_of_block (cs := #[Value.int .i64 12, Value.int .i64 0, Value.int .i64 0, Value.int .i64 0, Value.int .i64 0, Value.int .i64 0]) (t := 71) (fr := (0, 0)) (heap_alloc_new _ _)) (by simp [Value.oneCell']) (by omega) (by have : maxLen = 9223372036854775807 := rfl; omega) (by omega) (by simp; omega) _ rfl ?_)
  intro g1 cap1 w1 hown1 hgrow1 hat1 hlt1
  have G1 := hide (G0.out.more (k := [⟨12, 0, 0, 0, 0, 0⟩]) (m := 1) (xs := [Value.int .i64 12, Value.int .i64 0, Value.int .i64 0, Value.int .i64 0, Value.int .i64 0, Value.int .i64 0]) rfl hown1 hgrow1)
  clear G0 hown1 hgrow1 hat1 hlt1 hs1
  have hs2 := G1.out.low.size
  go_wp2_with (at_builtin; refine wpList_append_lies _ rfl _ _ _ rfl W.heap.size 71 i0 _ 6 48 Try.underlying40 hi0.out hz0 hz1 hz2 rfl (by omega) (.slice (some ⟨g1, 0, none⟩) 5 cap1) 5 _ rfl (G1.out.alloc _) ⟨w1.heap.size, 0, none⟩ 3 3 [Value.int .i64 7, Value.int .i64 4, Value.int .i64 0, Value.int .i64 0, Value.int .i64 0, Value.int .i64 0, Value.int .i64 5, Value.int .i64 5, Value.int .i64 4, Value.int .i64 2, Value.int .i64 0, Value.int .i64 0, Value.int .i64 13, Value.int .i64 0, Value.int .i64 5, Value.int .i64 0, Value.int .i64 0, Value.int .i64 10] rfl rfl (World.news_of_block (cs := #[Value.int .i64 7, Value.int .i64 4, Value.int .i64 0, Value.int .i64 0, Value.int .i64 0, Value.int .i64 0, Value.int .i64 5, Value.int .i64 5, Value.int .i64 4, Value.int .i64 2, Value.int .i64 0, Value.int .i64 0, Value.int .i64 13, Value.int .i64 0, Value.int .i64 5, Value.int .i64 0, Value.int .i64 0, Value.int .i64 10]) (t := 71) (fr := (0, 0)) (heap_alloc_new _ _)) (by simp [Value.oneCell']) (by omega) (by have : maxLen = 9223372036854775807 := rfl; omega) (by omega) (by simp; omega) _ rfl ?_)
  intro g2 cap2 w2 hown2 hgrow2 hat2 hlt2
  have G2 := hide (G1.out.more (k := [⟨7, 4, 0, 0, 0, 0⟩, ⟨5, 5, 4, 2, 0, 0⟩, ⟨13, 0, 5, 0, 0, 10⟩]) (m := 3) (xs := [Value.int .i64 7, Value.int .i64 4, Value.int .i64 0, Value.int .i64 0, Value.int .i64 0, Value.int .i64 0, Value.int .i64 5, Value.int .i64 5, Value.int .i64 4, Value.int .i64 2, Value.int .i64 0, Value.int .i64 0, Value.int .i64 13, Value.int .i64 0, Value.int .i64 5, Value.int .i64 0, Value.int .i64 0, Value.int .i64 10]) rfl hown2 hgrow2)
  clear G1 hown2 hgrow2 hat2 hlt2 hs2
  have hs3 := G2.out.low.size
  go_wp2_with (at_builtin; refine wpList_append_lies _ rfl _ _ _ rfl W.heap.size 71 i0 _ 6 48 Try.underlying40 hi0.out hz0 hz1 hz2 rfl (by omega) (.slice (some ⟨g2, 0, none⟩) 8 cap2) 8 _ rfl (G2.out.alloc _) ⟨w2.heap.size, 0, none⟩ 2 2 [Value.int .i64 9, Value.int .i64 r, Value.int .i64 2, Value.int .i64 0, Value.int .i64 2, Value.int .i64 4, Value.int .i64 14, Value.int .i64 0, Value.int .i64 0, Value.int .i64 0, Value.int .i64 0, Value.int .i64 21] rfl rfl (World.news_of_block (cs := #[Value.int .i64 9, Value.int .i64 r, Value.int .i64 2, Value.int .i64 0, Value.int .i64 2, Value.int .i64 4, Value.int .i64 14, Value.int .i64 0, Value.int .i64 0, Value.int .i64 0, Value.int .i64 0, Value.int .i64 21]) (t := 71) (fr := (0, 0)) (heap_alloc_new _ _)) (by simp [Value.oneCell']) (by omega) (by have : maxLen = 9223372036854775807 := rfl; omega) (by omega) (by simp; omega) _ rfl ?_)
  intro g3 cap3 w3 hown3 hgrow3 hat3 hlt3
  have G3 := hide (G2.out.more (k := [⟨9, r, 2, 0, 2, 4⟩, ⟨14, 0, 0, 0, 0, 21⟩]) (m := 2) (xs := [Value.int .i64 9, Value.int .i64 r, Value.int .i64 2, Value.int .i64 0, Value.int .i64 2, Value.int .i64 4, Value.int .i64 14, Value.int .i64 0, Value.int .i64 0, Value.int .i64 0, Value.int .i64 0, Value.int .i64 21]) rfl hown3 hgrow3)
  clear G2 hown3 hgrow3 hat3 hlt3 hs3
  have hs4 := G3.out.low.size
  go_wp2_with (at_builtin; refine wpList_append_lies _ rfl _ _ _ rfl W.heap.size 71 i0 _ 6 48 Try.underlying40 hi0.out hz0 hz1 hz2 rfl (by omega) (.slice (some ⟨g3, 0, none⟩) 10 cap3) 10 _ rfl (G3.out.alloc _) ⟨w3.heap.size, 0, none⟩ 2 2 [Value.int .i64 6, Value.int .i64 5, Value.int .i64 4, Value.int .i64 2, Value.int .i64 0, Value.int .i64 0, Value.int .i64 13, Value.int .i64 0, Value.int .i64 5, Value.int .i64 0, Value.int .i64 0, Value.int .i64 19] rfl rfl (World.news_of_block (cs := #[Value.int .i64 6, Value.int .i64 5, Value.int .i64 4, Value.int .i64 2, Value.int .i64 0, Value.int .i64 0, Value.int .i64 13, Value.int .i64 0, Value.int .i64 5, Value.int .i64 0, Value.int .i64 0, Value.int .i64 19]) (t := 71) (fr := (0, 0)) (heap_alloc_new _ _)) (by simp [Value.oneCell']) (by omega) (by have : maxLen = 9223372036854775807 := rfl; omega) (by omega) (by simp; omega) _ rfl ?_)
  intro g4 cap4 w4 hown4 hgrow4 hat4 hlt4
  have G4 := hide (G3.out.more (k := [⟨6, 5, 4, 2, 0, 0⟩, ⟨13, 0, 5, 0, 0, 19⟩]) (m := 2) (xs := [Value.int .i64 6, Value.int .i64 5, Value.int .i64 4, Value.int .i64 2, Value.int .i64 0, Value.int .i64 0, Value.int .i64 13, Value.int .i64 0, Value.int .i64 5, Value.int .i64 0, Value.int .i64 0, Value.int .i64 19]) rfl hown4 hgrow4)
  clear G3 hown4 hgrow4 hat4 hlt4 hs4
  have hs5 := G4.out.low.size
  go_wp2_with (at_builtin; refine wpList_append_lies _ rfl _ _ _ rfl W.heap.size 71 i0 _ 6 48 Try.underlying40 hi0.out hz0 hz1 hz2 rfl (by omega) (.slice (some ⟨g4, 0, none⟩) 12 cap4) 12 _ rfl (G4.out.alloc _) ⟨w4.heap.size, 0, none⟩ 3 3 [Value.int .i64 9, Value.int .i64 r, Value.int .i64 2, Value.int .i64 0, Value.int .i64 2, Value.int .i64 4, Value.int .i64 1, Value.int .i64 3, Value.int .i64 0, Value.int .i64 0, Value.int .i64 0, Value.int .i64 1, Value.int .i64 3, Value.int .i64 3, Value.int .i64 4, Value.int .i64 3, Value.int .i64 0, Value.int .i64 0] rfl rfl (World.news_of_block (cs := #[Value.int .i64 9, Value.int .i64 r, Value.int .i64 2, Value.int .i64 0, Value.int .i64 2, Value.int .i64 4, Value.int .i64 1, Value.int .i64 3, Value.int .i64 0, Value.int .i64 0, Value.int .i64 0, Value.int .i64 1, Value.int .i64 3, Value.int .i64 3, Value.int .i64 4, Value.int .i64 3, Value.int .i64 0, Value.int .i64 0]) (t := 71) (fr := (0, 0)) (heap_alloc_new _ _)) (by simp [Value.oneCell']) (by omega) (by have : maxLen = 9223372036854775807 := rfl; omega) (by omega) (by simp; omega) _ rfl ?_)
  intro g5 cap5 w5 hown5 hgrow5 hat5 hlt5
  have G5 := hide (G4.out.more (k := [⟨9, r, 2, 0, 2, 4⟩, ⟨1, 3, 0, 0, 0, 1⟩, ⟨3, 3, 4, 3, 0, 0⟩]) (m := 3) (xs := [Value.int .i64 9, Value.int .i64 r, Value.int .i64 2, Value.int .i64 0, Value.int .i64 2, Value.int .i64 4, Value.int .i64 1, Value.int .i64 3, Value.int .i64 0, Value.int .i64 0, Value.int .i64 0, Value.int .i64 1, Value.int .i64 3, Value.int .i64 3, Value.int .i64 4, Value.int .i64 3, Value.int .i64 0, Value.int .i64 0]) rfl hown5 hgrow5)
  clear G4 hown5 hgrow5 hat5 hlt5 hs5
  have hs6 := G5.out.low.size
  go_wp2_with (at_builtin; refine wpList_append_lies _ rfl _ _ _ rfl W.heap.size 71 i0 _ 6 48 Try.underlying40 hi0.out hz0 hz1 hz2 rfl (by omega) (.slice (some ⟨g5, 0, none⟩) 15 cap5) 15 _ rfl (G5.out.alloc _) ⟨w5.heap.size, 0, none⟩ 4 4 [Value.int .i64 11, Value.int .i64 5, Value.int .i64 4, Value.int .i64 3, Value.int .i64 0, Value.int .i64 0, Value.int .i64 8, Value.int .i64 0, Value.int .i64 3, Value.int .i64 0, Value.int .i64 1, Value.int .i64 0, Value.int .i64 13, Value.int .i64 0, Value.int .i64 5, Value.int .i64 0, Value.int .i64 0, Value.int .i64 20, Value.int .i64 14, Value.int .i64 0, Value.int .i64 0, Value.int .i64 0, Value.int .i64 0, Value.int .i64 21] rfl rfl (World.news_of_block (cs := #[Value.int .i64 11, Value.int .i64 5, Value.int .i64 4, Value.int .i64 3, Value.int .i64 0, Value.int .i64 0, Value.int .i64 8, Value.int .i64 0, Value.int .i64 3, Value.int .i64 0, Value.int .i64 1, Value.int .i64 0, Value.int .i64 13, Value.int .i64 0, Value.int .i64 5, Value.int .i64 0, Value.int .i64 0, Value.int .i64 20, Value.int .i64 14, Value.int .i64 0, Value.int .i64 0, Value.int .i64 0, Value.int .i64 0, Value.int .i64 21]) (t := 71) (fr := (0, 0)) (heap_alloc_new _ _)) (by simp [Value.oneCell']) (by omega) (by have : maxLen = 9223372036854775807 := rfl; omega) (by omega) (by simp; omega) _ rfl ?_)
  intro g6 cap6 w6 hown6 hgrow6 hat6 hlt6
  have G6 := hide (G5.out.more (k := [⟨11, 5, 4, 3, 0, 0⟩, ⟨8, 0, 3, 0, 1, 0⟩, ⟨13, 0, 5, 0, 0, 20⟩, ⟨14, 0, 0, 0, 0, 21⟩]) (m := 4) (xs := [Value.int .i64 11, Value.int .i64 5, Value.int .i64 4, Value.int .i64 3, Value.int .i64 0, Value.int .i64 0, Value.int .i64 8, Value.int .i64 0, Value.int .i64 3, Value.int .i64 0, Value.int .i64 1, Value.int .i64 0, Value.int .i64 13, Value.int .i64 0, Value.int .i64 5, Value.int .i64 0, Value.int .i64 0, Value.int .i64 20, Value.int .i64 14, Value.int .i64 0, Value.int .i64 0, Value.int .i64 0, Value.int .i64 0, Value.int .i64 21]) rfl hown6 hgrow6)
  clear G5 hown6 hgrow6 hat6 hlt6 hs6
  have hs7 := G6.out.low.size
  go_wp2_with (at_builtin; refine wpList_append_lies _ rfl _ _ _ rfl W.heap.size 71 i0 _ 6 48 Try.underlying40 hi0.out hz0 hz1 hz2 rfl (by omega) (.slice (some ⟨g6, 0, none⟩) 19 cap6) 19 _ rfl (G6.out.alloc _) ⟨w6.heap.size, 0, none⟩ 2 2 [Value.int .i64 8, Value.int .i64 0, Value.int .i64 4, Value.int .i64 0, Value.int .i64 1, Value.int .i64 0, Value.int .i64 1, Value.int .i64 r, Value.int .i64 0, Value.int .i64 0, Value.int .i64 0, Value.int .i64 0] rfl rfl (World.news_of_block (cs := #[Value.int .i64 8, Value.int .i64 0, Value.int .i64 4, Value.int .i64 0, Value.int .i64 1, Value.int .i64 0, Value.int .i64 1, Value.int .i64 r, Value.int .i64 0, Value.int .i64 0, Value.int .i64 0, Value.int .i64 0]) (t := 71) (fr := (0, 0)) (heap_alloc_new _ _)) (by simp [Value.oneCell']) (by omega) (by have : maxLen = 9223372036854775807 := rfl; omega) (by omega) (by simp; omega) _ rfl ?_)
  intro g7 cap7 w7 hown7 hgrow7 hat7 hlt7
  have G7 := hide (G6.out.more (k := [⟨8, 0, 4, 0, 1, 0⟩, ⟨1, r, 0, 0, 0, 0⟩]) (m := 2) (xs := [Value.int .i64 8, Value.int .i64 0, Value.int .i64 4, Value.int .i64 0, Value.int .i64 1, Value.int .i64 0, Value.int .i64 1, Value.int .i64 r, Value.int .i64 0, Value.int .i64 0, Value.int .i64 0, Value.int .i64 0]) rfl hown7 hgrow7)
  clear G6 hown7 hgrow7 hat7 hlt7 hs7
  go_wp2_with fail
  go_ret
  have HR := G7.out.ret (Below.refl _ _)
  exact HR

set_option maxRecDepth 100000 in
set_option maxHeartbeats 6400000 in
theorem ssteal_f (r f : Int) (W : World) (hrf : rfB r f = true) (hbit : (bits BinOp.and IntKind.i64 f 2 != 0) = false) : Calls Try.prog 24 #[.int .i64 r, .int .i64 f] W fun e w' => InsR W w' e (stealI r false) := by
  suffices h : Calls Try.prog 24 #[.int .i64 r, .int .i64 f] W fun e w' => InsR W w' e ((((([⟨7, 2, 0, 0, 0, 0⟩] ++ [⟨7, 3, 0, 0, 1, 0⟩, ⟨5, 5, 2, 3, 0, 0⟩, ⟨13, 0, 5, 0, 0, 10⟩]) ++ [⟨9, r, 2, 0, 2, 4⟩, ⟨1, 4, 0, 0, 0, 1⟩, ⟨3, 4, 2, 4, 0, 0⟩]) ++ [⟨11, 5, 2, 4, 0, 0⟩, ⟨13, 0, 5, 0, 0, 10⟩, ⟨14, 0, 0, 0, 0, 11⟩]) ++ [⟨1, r, 0, 0, 0, 0⟩])) from h
  have kO := hide (fun w => l8ok_any r f w)
  rw [hrf] at kO
  obtain ⟨i0, hi0, hz0, hz1, hz2⟩ := info_parts Try.infoIns
  replace hi0 := hide hi0
  clear hrf
  go_enter Try.func24, Try.ntmps24
  go_wp2_with fail
  refine (kO.out _).mono ?_
  rintro e wx ⟨rfl, rfl⟩
  have G0 := hide (GrowI.lit (l := [⟨7, 2, 0, 0, 0, 0⟩]) W (cs := #[Value.int .i64 7, Value.int .i64 2, Value.int .i64 0, Value.int .i64 0, Value.int .i64 0, Value.int .i64 0]) (n := 1) (by omega) rfl rfl)
  obtain ⟨w0, hw0⟩ : ∃ wq, wq = (W.alloc (Obj.cells #[Value.int .i64 7, Value.int .i64 2, Value.int .i64 0, Value.int .i64 0, Value.int .i64 0, Value.int .i64 0] 71)) := ⟨_, rfl⟩
  rw [← hw0] at G0
  go_upto_region 4 with fail
  rw [← hw0]
  clear hw0
  have hs1 := G0.out.low.size
  go_wp2_with (at_builtin; refine wpList_append_lies _ rfl _ _ _ rfl W.heap.size 71 i0 _ 6 48 Try.underlying40 hi0.out hz0 hz1 hz2 rfl (by omega) (.slice (some ⟨W.heap.size, 0, none⟩) 1 1) 1 _ rfl (G0.out.alloc _) ⟨w0.heap.size, 0, none⟩ 3 3 [Value.int .i64 7, Value.int .i64 3, Value.int .i64 0, Value.int .i64 0, Value.int .i64 1, Value.int .i64 0, Value.int .i64 5, Value.int .i64 5, Value.int .i64 2, Value.int .i64 3, Value.int .i64 0, Value.int .i64 0, Value.int .i64 13, Value.int .i64 0, Value.int .i64 5, Value.int .i64 0, Value.int .i64 0, Value.int .i64 10] rfl rfl (World.news_of_block (cs := #[Value.int .i64 7, Value.int .i64 3, Value.int .i64 0, Value.int .i64 0, Value.int .i64 1, Value.int .i64 0, Value.int .i64 5, Value.int .i64 5, Value.int .i64 2, Value.int .i64 3, Value.int .i64 0, Value.int .i64 0, Value.int .i64 13, Value.int .i64 0, Value.int .i64 5, Value.int .i64 0, Value.int .i64 0, Value.int .i64 10]) (t := 71) (fr := (0, 0)) (heap_alloc_new _ _)) (by simp [Value.oneCell']) (by omega) (by have : maxLen = 9223372036854775807 := rfl; omega) (by omega) (by simp; omega) _ rfl ?_)
  intro g1 cap1 w1 hown1 hgrow1 hat1 hlt1
  have G1 := hide (G0.out.more (k := [⟨7, 3, 0, 0, 1, 0⟩, ⟨5, 5, 2, 3, 0, 0⟩, ⟨13, 0, 5, 0, 0, 10⟩]) (m := 3) (xs := [Value.int .i64 7, Value.int .i64 3, Value.int .i64 0, Value.int .i64 0, Value.int .i64 1, Value.int .i64 0, Value.int .i64 5, Value.int .i64 5, Value.int .i64 2, Value.int .i64 3, Value.int .i64 0, Value.int .i64 0, Value.int .i64 13, Value.int .i64 0, Value.int .i64 5, Value.int .i64 0, Value.int .i64 0, Value.int .i64 10]) rfl hown1 hgrow1)
  clear G0 hown1 hgrow1 hat1 hlt1 hs1
  have hs2 := G1.out.low.size
  go_wp2_with (at_builtin; refine wpList_append_lies _ rfl _ _ _ rfl W.heap.size 71 i0 _ 6 48 Try.underlying40 hi0.out hz0 hz1 hz2 rfl (by omega) (.slice (some ⟨g1, 0, none⟩) 4 cap1) 4 _ rfl (G1.out.alloc _) ⟨w1.heap.size, 0, none⟩ 3 3 [Value.int .i64 9, Value.int .i64 r, Value.int .i64 2, Value.int .i64 0, Value.int .i64 2, Value.int .i64 4, Value.int .i64 1, Value.int .i64 4, Value.int .i64 0, Value.int .i64 0, Value.int .i64 0, Value.int .i64 1, Value.int .i64 3, Value.int .i64 4, Value.int .i64 2, Value.int .i64 4, Value.int .i64 0, Value.int .i64 0] rfl rfl (World.news_of_block (cs := #[Value.int .i64 9, Value.int .i64 r, Value.int .i64 2, Value.int .i64 0, Value.int .i64 2, Value.int .i64 4, Value.int .i64 1, Value.int .i64 4, Value.int .i64 0, Value.int .i64 0, Value.int .i64 0, Value.int .i64 1, Value.int .i64 3, Value.int .i64 4, Value.int .i64 2, Value.int .i64 4, Value.int .i64 0, Value.int .i64 0]) (t := 71) (fr := (0, 0)) (heap_alloc_new _ _)) (by simp [Value.oneCell']) (by omega) (by have : maxLen = 9223372036854775807 := rfl; omega) (by omega) (by simp; omega) _ rfl ?_)
  intro g2 cap2 w2 hown2 hgrow2 hat2 hlt2
  have G2 := hide (G1.out.more (k := [⟨9, r, 2, 0, 2, 4⟩, ⟨1, 4, 0, 0, 0, 1⟩, ⟨3, 4, 2, 4, 0, 0⟩]) (m := 3) (xs := [Value.int .i64 9, Value.int .i64 r, Value.int .i64 2, Value.int .i64 0, Value.int .i64 2, Value.int .i64 4, Value.int .i64 1, Value.int .i64 4, Value.int .i64 0, Value.int .i64 0, Value.int .i64 0, Value.int .i64 1, Value.int .i64 3, Value.int .i64 4, Value.int .i64 2, Value.int .i64 4, Value.int .i64 0, Value.int .i64 0]) rfl hown2 hgrow2)
  clear G1 hown2 hgrow2 hat2 hlt2 hs2
  have hs3 := G2.out.low.size
  go_wp2_with (at_builtin; refine wpList_append_lies _ rfl _ _ _ rfl W.heap.size 71 i0 _ 6 48 Try.underlying40 hi0.out hz0 hz1 hz2 rfl (by omega) (.slice (some ⟨g2, 0, none⟩) 7 cap2) 7 _ rfl (G2.out.alloc _) ⟨w2.heap.size, 0, none⟩ 3 3 [Value.int .i64 11, Value.int .i64 5, Value.int .i64 2, Value.int .i64 4, Value.int .i64 0, Value.int .i64 0, Value.int .i64 13, Value.int .i64 0, Value.int .i64 5, Value.int .i64 0, Value.int .i64 0, Value.int .i64 10, Value.int .i64 14, Value.int .i64 0, Value.int .i64 0, Value.int .i64 0, Value.int .i64 0, Value.int .i64 11] rfl rfl (World.news_of_block (cs := #[Value.int .i64 11, Value.int .i64 5, Value.int .i64 2, Value.int .i64 4, Value.int .i64 0, Value.int .i64 0, Value.int .i64 13, Value.int .i64 0, Value.int .i64 5, Value.int .i64 0, Value.int .i64 0, Value.int .i64 10, Value.int .i64 14, Value.int .i64 0, Value.int .i64 0, Value.int .i64 0, Value.int .i64 0, Value.int .i64 11]) (t := 71) (fr := (0, 0)) (heap_alloc_new _ _)) (by simp [Value.oneCell']) (by omega) (by have : maxLen = 9223372036854775807 := rfl; omega) (by omega) (by simp; omega) _ rfl ?_)
  intro g3 cap3 w3 hown3 hgrow3 hat3 hlt3
  have G3 := hide (G2.out.more (k := [⟨11, 5, 2, 4, 0, 0⟩, ⟨13, 0, 5, 0, 0, 10⟩, ⟨14, 0, 0, 0, 0, 11⟩]) (m := 3) (xs := [Value.int .i64 11, Value.int .i64 5, Value.int .i64 2, Value.int .i64 4, Value.int .i64 0, Value.int .i64 0, Value.int .i64 13, Value.int .i64 0, Value.int .i64 5, Value.int .i64 0, Value.int .i64 0, Value.int .i64 10, Value.int .i64 14, Value.int .i64 0, Value.int .i64 0, Value.int .i64 0, Value.int .i64 0, Value.int .i64 11]) rfl hown3 hgrow3)
  clear G2 hown3 hgrow3 hat3 hlt3 hs3
  have hs4 := G3.out.low.size
  go_wp2_with (at_builtin; refine wpList_append_lies _ rfl _ _ _ rfl W.heap.size 71 i0 _ 6 48 Try.underlying40 hi0.out hz0 hz1 hz2 rfl (by omega) (.slice (some ⟨g3, 0, none⟩) 10 cap3) 10 _ rfl (G3.out.alloc _) ⟨w3.heap.size, 0, none⟩ 1 1 [Value.int .i64 1, Value.int .i64 r, Value.int .i64 0, Value.int .i64 0, Value.int .i64 0, Value.int .i64 0] rfl rfl (World.news_of_block (cs := #[Value.int .i64 1, Value.int .i64 r, Value.int .i64 0, Value.int .i64 0, Value.int .i64 0, Value.int .i64 0]) (t := 71) (fr := (0, 0)) (heap_alloc_new _ _)) (by simp [Value.oneCell']) (by omega) (by have : maxLen = 9223372036854775807 := rfl; omega) (by omega) (by simp; omega) _ rfl ?_)
  intro g4 cap4 w4 hown4 hgrow4 hat4 hlt4
  have G4 := hide (G3.out.more (k := [⟨1, r, 0, 0, 0, 0⟩]) (m := 1) (xs := [Value.int .i64 1, Value.int .i64 r, Value.int .i64 0, Value.int .i64 0, Value.int .i64 0, Value.int .i64 0]) rfl hown4 hgrow4)
  clear G3 hown4 hgrow4 hat4 hlt4 hs4
  go_wp2_with fail
  go_ret
  have HR := G4.out.ret (Below.refl _ _)
  exact HR

set_option maxRecDepth 100000 in
set_option maxHeartbeats 6400000 in
theorem ssteal_t (r f : Int) (W : World) (hrf : rfB r f = true) (hbit : (bits BinOp.and IntKind.i64 f 2 != 0) = true) : Calls Try.prog 24 #[.int .i64 r, .int .i64 f] W fun e w' => InsR W w' e (stealI r true) := by
  suffices h : Calls Try.prog 24 #[.int .i64 r, .int .i64 f] W fun e w' => InsR W w' e (((((([⟨7, 2, 0, 0, 0, 0⟩] ++ [⟨12, 0, 0, 0, 0, 0⟩]) ++ [⟨7, 3, 0, 0, 1, 0⟩, ⟨5, 5, 2, 3, 0, 0⟩, ⟨13, 0, 5, 0, 0, 11⟩]) ++ [⟨9, r, 2, 0, 2, 4⟩, ⟨1, 4, 0, 0, 0, 1⟩, ⟨3, 4, 2, 4, 0, 0⟩]) ++ [⟨11, 5, 2, 4, 0, 0⟩, ⟨13, 0, 5, 0, 0, 11⟩, ⟨14, 0, 0, 0, 0, 12⟩]) ++ [⟨1, r, 0, 0, 0, 0⟩])) from h
  have kO := hide (fun w => l8ok_any r f w)
  rw [hrf] at kO
  obtain ⟨i0, hi0, hz0, hz1, hz2⟩ := info_parts Try.infoIns
  replace hi0 := hide hi0
  clear hrf
  go_enter Try.func24, Try.ntmps24
  go_wp2_with fail
  refine (kO.out _).mono ?_
  rintro e wx ⟨rfl, rfl⟩
  have G0 := hide (GrowI.lit (l := [⟨7, 2, 0, 0, 0, 0⟩]) W (cs := #[Value.int .i64 7, Value.int .i64 2, Value.int .i64 0, Value.int .i64 0, Value.int .i64 0, Value.int .i64 0]) (n := 1) (by omega) rfl rfl)
  obtain ⟨w0, hw0⟩ : ∃ wq, wq = (W.alloc (Obj.cells #[Value.int .i64 7, Value.int .i64 2, Value.int .i64 0, Value.int .i64 0, Value.int .i64 0, Value.int .i64 0] 71)) := ⟨_, rfl⟩
  rw [← hw0] at G0
  go_upto_region 4 with fail
  rw [← hw0]
  clear hw0
  have hs1 := G0.out.low.size
  go_wp2_with (at_builtin; refine wpList_append_lies _ rfl _ _ _ rfl W.heap.size 71 i0 _ 6 48 Try.underlying40 hi0.out hz0 hz1 hz2 rfl (by omega) (.slice (some ⟨W.heap.size, 0, none⟩) 1 1) 1 _ rfl (G0.out.alloc _) ⟨w0.heap.size, 0, none⟩ 1 1 [Value.int .i64 12, Value.int .i64 0, Value.int .i64 0, Value.int .i64 0, Value.int .i64 0, Value.int .i64 0] rfl rfl (World.news_of_block (cs := #[Value.int .i64 12, Value.int .i64 0, Value.int .i64 0, Value.int .i64 0, Value.int .i64 0, Value.int .i64 0]) (t := 71) (fr := (0, 0)) (heap_alloc_new _ _)) (by simp [Value.oneCell']) (by omega) (by have : maxLen = 9223372036854775807 := rfl; omega) (by omega) (by simp; omega) _ rfl ?_)
  intro g1 cap1 w1 hown1 hgrow1 hat1 hlt1
  have G1 := hide (G0.out.more (k := [⟨12, 0, 0, 0, 0, 0⟩]) (m := 1) (xs := [Value.int .i64 12, Value.int .i64 0, Value.int .i64 0, Value.int .i64 0, Value.int .i64 0, Value.int .i64 0]) rfl hown1 hgrow1)
  clear G0 hown1 hgrow1 hat1 hlt1 hs1
  have hs2 := G1.out.low.size
  go_wp2_with (at_builtin; refine wpList_append_lies _ rfl _ _ _ rfl W.heap.size 71 i0 _ 6 48 Try.underlying40 hi0.out hz0 hz1 hz2 rfl (by omega) (.slice (some ⟨g1, 0, none⟩) 2 cap1) 2 _ rfl (G1.out.alloc _) ⟨w1.heap.size, 0, none⟩ 3 3 [Value.int .i64 7, Value.int .i64 3, Value.int .i64 0, Value.int .i64 0, Value.int .i64 1, Value.int .i64 0, Value.int .i64 5, Value.int .i64 5, Value.int .i64 2, Value.int .i64 3, Value.int .i64 0, Value.int .i64 0, Value.int .i64 13, Value.int .i64 0, Value.int .i64 5, Value.int .i64 0, Value.int .i64 0, Value.int .i64 11] rfl rfl (World.news_of_block (cs := #[Value.int .i64 7, Value.int .i64 3, Value.int .i64 0, Value.int .i64 0, Value.int .i64 1, Value.int .i64 0, Value.int .i64 5, Value.int .i64 5, Value.int .i64 2, Value.int .i64 3, Value.int .i64 0, Value.int .i64 0, Value.int .i64 13, Value.int .i64 0, Value.int .i64 5, Value.int .i64 0, Value.int .i64 0, Value.int .i64 11]) (t := 71) (fr := (0, 0)) (heap_alloc_new _ _)) (by simp [Value.oneCell']) (by omega) (by have : maxLen = 9223372036854775807 := rfl; omega) (by omega) (by simp; omega) _ rfl ?_)
  intro g2 cap2 w2 hown2 hgrow2 hat2 hlt2
  have G2 := hide (G1.out.more (k := [⟨7, 3, 0, 0, 1, 0⟩, ⟨5, 5, 2, 3, 0, 0⟩, ⟨13, 0, 5, 0, 0, 11⟩]) (m := 3) (xs := [Value.int .i64 7, Value.int .i64 3, Value.int .i64 0, Value.int .i64 0, Value.int .i64 1, Value.int .i64 0, Value.int .i64 5, Value.int .i64 5, Value.int .i64 2, Value.int .i64 3, Value.int .i64 0, Value.int .i64 0, Value.int .i64 13, Value.int .i64 0, Value.int .i64 5, Value.int .i64 0, Value.int .i64 0, Value.int .i64 11]) rfl hown2 hgrow2)
  clear G1 hown2 hgrow2 hat2 hlt2 hs2
  have hs3 := G2.out.low.size
  go_wp2_with (at_builtin; refine wpList_append_lies _ rfl _ _ _ rfl W.heap.size 71 i0 _ 6 48 Try.underlying40 hi0.out hz0 hz1 hz2 rfl (by omega) (.slice (some ⟨g2, 0, none⟩) 5 cap2) 5 _ rfl (G2.out.alloc _) ⟨w2.heap.size, 0, none⟩ 3 3 [Value.int .i64 9, Value.int .i64 r, Value.int .i64 2, Value.int .i64 0, Value.int .i64 2, Value.int .i64 4, Value.int .i64 1, Value.int .i64 4, Value.int .i64 0, Value.int .i64 0, Value.int .i64 0, Value.int .i64 1, Value.int .i64 3, Value.int .i64 4, Value.int .i64 2, Value.int .i64 4, Value.int .i64 0, Value.int .i64 0] rfl rfl (World.news_of_block (cs := #[Value.int .i64 9, Value.int .i64 r, Value.int .i64 2, Value.int .i64 0, Value.int .i64 2, Value.int .i64 4, Value.int .i64 1, Value.int .i64 4, Value.int .i64 0, Value.int .i64 0, Value.int .i64 0, Value.int .i64 1, Value.int .i64 3, Value.int .i64 4, Value.int .i64 2, Value.int .i64 4, Value.int .i64 0, Value.int .i64 0]) (t := 71) (fr := (0, 0)) (heap_alloc_new _ _)) (by simp [Value.oneCell']) (by omega) (by have : maxLen = 9223372036854775807 := rfl; omega) (by omega) (by simp; omega) _ rfl ?_)
  intro g3 cap3 w3 hown3 hgrow3 hat3 hlt3
  have G3 := hide (G2.out.more (k := [⟨9, r, 2, 0, 2, 4⟩, ⟨1, 4, 0, 0, 0, 1⟩, ⟨3, 4, 2, 4, 0, 0⟩]) (m := 3) (xs := [Value.int .i64 9, Value.int .i64 r, Value.int .i64 2, Value.int .i64 0, Value.int .i64 2, Value.int .i64 4, Value.int .i64 1, Value.int .i64 4, Value.int .i64 0, Value.int .i64 0, Value.int .i64 0, Value.int .i64 1, Value.int .i64 3, Value.int .i64 4, Value.int .i64 2, Value.int .i64 4, Value.int .i64 0, Value.int .i64 0]) rfl hown3 hgrow3)
  clear G2 hown3 hgrow3 hat3 hlt3 hs3
  have hs4 := G3.out.low.size
  go_wp2_with (at_builtin; refine wpList_append_lies _ rfl _ _ _ rfl W.heap.size 71 i0 _ 6 48 Try.underlying40 hi0.out hz0 hz1 hz2 rfl (by omega) (.slice (some ⟨g3, 0, none⟩) 8 cap3) 8 _ rfl (G3.out.alloc _) ⟨w3.heap.size, 0, none⟩ 3 3 [Value.int .i64 11, Value.int .i64 5, Value.int .i64 2, Value.int .i64 4, Value.int .i64 0, Value.int .i64 0, Value.int .i64 13, Value.int .i64 0, Value.int .i64 5, Value.int .i64 0, Value.int .i64 0, Value.int .i64 11, Value.int .i64 14, Value.int .i64 0, Value.int .i64 0, Value.int .i64 0, Value.int .i64 0, Value.int .i64 12] rfl rfl (World.news_of_block (cs := #[Value.int .i64 11, Value.int .i64 5, Value.int .i64 2, Value.int .i64 4, Value.int .i64 0, Value.int .i64 0, Value.int .i64 13, Value.int .i64 0, Value.int .i64 5, Value.int .i64 0, Value.int .i64 0, Value.int .i64 11, Value.int .i64 14, Value.int .i64 0, Value.int .i64 0, Value.int .i64 0, Value.int .i64 0, Value.int .i64 12]) (t := 71) (fr := (0, 0)) (heap_alloc_new _ _)) (by simp [Value.oneCell']) (by omega) (by have : maxLen = 9223372036854775807 := rfl; omega) (by omega) (by simp; omega) _ rfl ?_)
  intro g4 cap4 w4 hown4 hgrow4 hat4 hlt4
  have G4 := hide (G3.out.more (k := [⟨11, 5, 2, 4, 0, 0⟩, ⟨13, 0, 5, 0, 0, 11⟩, ⟨14, 0, 0, 0, 0, 12⟩]) (m := 3) (xs := [Value.int .i64 11, Value.int .i64 5, Value.int .i64 2, Value.int .i64 4, Value.int .i64 0, Value.int .i64 0, Value.int .i64 13, Value.int .i64 0, Value.int .i64 5, Value.int .i64 0, Value.int .i64 0, Value.int .i64 11, Value.int .i64 14, Value.int .i64 0, Value.int .i64 0, Value.int .i64 0, Value.int .i64 0, Value.int .i64 12]) rfl hown4 hgrow4)
  clear G3 hown4 hgrow4 hat4 hlt4 hs4
  have hs5 := G4.out.low.size
  go_wp2_with (at_builtin; refine wpList_append_lies _ rfl _ _ _ rfl W.heap.size 71 i0 _ 6 48 Try.underlying40 hi0.out hz0 hz1 hz2 rfl (by omega) (.slice (some ⟨g4, 0, none⟩) 11 cap4) 11 _ rfl (G4.out.alloc _) ⟨w4.heap.size, 0, none⟩ 1 1 [Value.int .i64 1, Value.int .i64 r, Value.int .i64 0, Value.int .i64 0, Value.int .i64 0, Value.int .i64 0] rfl rfl (World.news_of_block (cs := #[Value.int .i64 1, Value.int .i64 r, Value.int .i64 0, Value.int .i64 0, Value.int .i64 0, Value.int .i64 0]) (t := 71) (fr := (0, 0)) (heap_alloc_new _ _)) (by simp [Value.oneCell']) (by omega) (by have : maxLen = 9223372036854775807 := rfl; omega) (by omega) (by simp; omega) _ rfl ?_)
  intro g5 cap5 w5 hown5 hgrow5 hat5 hlt5
  have G5 := hide (G4.out.more (k := [⟨1, r, 0, 0, 0, 0⟩]) (m := 1) (xs := [Value.int .i64 1, Value.int .i64 r, Value.int .i64 0, Value.int .i64 0, Value.int .i64 0, Value.int .i64 0]) rfl hown5 hgrow5)
  clear G4 hown5 hgrow5 hat5 hlt5 hs5
  go_wp2_with fail
  go_ret
  have HR := G5.out.ret (Below.refl _ _)
  exact HR

theorem stake_yes (r f : Int) (w : World) (hrf : rfB r f = true) : Calls Try.prog 19 #[.int .i64 r, .int .i64 f] w fun e w' => InsR w w' e (takeI r (tkB f)) := by
  have hb := tkB_bits (rf_yes hrf).2
  cases h : tkB f
  · exact stake_f r f w hrf (hb.trans h)
  · exact stake_t r f w hrf (hb.trans h)
set_option maxHeartbeats 800000 in
theorem stake_no (r f : Int) (w : World) (hrf : rfB r f = false) : Calls Try.prog 19 #[.int .i64 r, .int .i64 f] w fun e w' => InsR w w' e [] := by
  have kO := hide (fun w => l8ok_any r f w)
  rw [hrf] at kO
  go_enter Try.func19, Try.ntmps19
  go_wp2_with fail
  refine (kO.out _).mono ?_
  rintro e wx ⟨rfl, rfl⟩
  go_wp2_with fail
  go_ret
  exact InsR.nil _

theorem ssteal_yes (r f : Int) (w : World) (hrf : rfB r f = true) : Calls Try.prog 24 #[.int .i64 r, .int .i64 f] w fun e w' => InsR w w' e (stealI r (stB f)) := by
  have hb := stB_bits (rf_yes hrf).2
  cases h : stB f
  · exact ssteal_f r f w hrf (hb.trans h)
  · exact ssteal_t r f w hrf (hb.trans h)
set_option maxHeartbeats 800000 in
theorem ssteal_no (r f : Int) (w : World) (hrf : rfB r f = false) : Calls Try.prog 24 #[.int .i64 r, .int .i64 f] w fun e w' => InsR w w' e [] := by
  have kO := hide (fun w => l8ok_any r f w)
  rw [hrf] at kO
  go_enter Try.func24, Try.ntmps24
  go_wp2_with fail
  refine (kO.out _).mono ?_
  rintro e wx ⟨rfl, rfl⟩
  go_wp2_with fail
  go_ret
  exact InsR.nil _
end Go.Proofs.Ythgpifeljeldjaa
