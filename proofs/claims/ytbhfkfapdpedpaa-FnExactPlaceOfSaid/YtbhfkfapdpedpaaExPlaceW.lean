/- The walk of FnExactPlaceOf: it answers true and leaves its arguments. -/
import Derived.Test.YtbhfkfapdpedpaaExH
import Derived.Test.YtbhfkfapdpedpaaImPl
import Derived.Deep.RegionLaw
import Derived.Deep.DeepCutAuto
import Derived.Deep.DrawnRows
namespace Go.Proofs.Ytbhfkfapdpedpaa
open Go.RowKit

attribute [local go_sem ↓] Go.wp_at_zero Go.wp_at_succ

set_option maxHeartbeats 800000 in
theorem exPlaceOf_big (A : Option Addr) (l : List PostD) (c : Nat) (i : Int) (w : World) (hp2 : 1048576 < postSize l) (hS : PostsAt w (Old w.heap.size) A l) :
    Calls Try.prog 13 #[.agg #[.slice A l.length c], .int .i64 i] w fun e w' => e = .returned (.bool true) ∧ Below w.heap.size w w' := by
  have hb := below1 w (Obj.cells #[Value.slice A l.length c] 94)
  have ks := hide (szHist_big (c := c) hp2 _ hb.size (hS.below hb (fun _ h => h)))
  clear hS hb
  go_enter Try.func13, Try.ntmps13
  go_wp2_with fail
  refine ks.out.mono ?_
  rintro e w1 ⟨rfl, hb1⟩
  go_wp2_with fail
  go_ret
  exact ⟨rfl, below_step hb1⟩
set_option maxRecDepth 100000 in
set_option maxHeartbeats 6400000 in
theorem exPlaceOf_small (A : Option Addr) (l : List PostD) (c : Nat) (i y : Int) (w : World) (hp2 : postSize l ≤ 1048576) (hS : PostsAt w (Old w.heap.size) A l)
    (kS : ∀ A' c' w, PostsAt w (Old w.heap.size) A' l → Calls Try.prog 40 #[.agg #[.slice A' l.length c'], .int .i64 i] w fun e w' => e = .returned (.int .i64 y) ∧ Below w.heap.size w w')
    (kP : ∀ A' c' w, PostsAt w (Old w.heap.size) A' l → Calls Try.prog 34 #[.agg #[.slice A' l.length c'], .int .i64 i] w fun e w' => e = .returned (.int .i64 y) ∧ Below w.heap.size w w') :
    Calls Try.prog 13 #[.agg #[.slice A l.length c], .int .i64 i] w fun e w' => e = .returned (.bool true) ∧ Below w.heap.size w w' := by
  obtain ⟨s, hs0, ks⟩ := szHist_small (A := A) (c := c) (B := w.heap.size) hp2
  replace kS := hide kS
  replace kP := hide kP
  replace ks := hide ks
  replace hp2 := hide hp2
  obtain ⟨wG, hwG⟩ : ∃ wx, wx = w.alloc (Obj.cells #[Value.slice A l.length c] 94) := ⟨_, rfl⟩
  have hb : Below w.heap.size w wG := by rw [hwG]; exact below1 _ _
  have Gb := hide (show Blk wG w.heap.size 94 #[Value.slice A l.length c] from by rw [hwG]; exact Blk.new _ _ _)
  have S := hide (hS.below hb (fun _ h => h))
  have HB := hide hb
  have hzG : w.heap.size < wG.heap.size := Gb.out.lt
  clear hS hb
  go_enter Try.func13, Try.ntmps13
  go_wp2_with fail
  rw [← hwG]
  clear hwG
  obtain ⟨⟨cGb, -⟩, lGb⟩ := box1 Gb.out
  refine (ks.out _ HB.out.size S.out).mono ?_
  rintro e w1 ⟨rfl, hb⟩
  clear cGb lGb
  have hzw1 := hb.size
  have hBz := HB.out.size
  replace Gb := hide (Gb.out.below hb Gb.out.lt)
  replace S := hide (S.out.nextI hb hBz)
  replace HB := hide (below_next HB.out hb hBz)
  clear hBz
  clear hb
  obtain ⟨⟨cGb, -⟩, lGb⟩ := box1 Gb.out
  go_wp2_with fail
  refine (toHistI hp2.out (old_lts HB.out.size) S.out).mono ?_
  rintro e w2 ⟨qRa, rfl, hr, hb⟩
  clear cGb lGb
  have hzw2 := hb.size
  have hBz := HB.out.size
  replace Gb := hide (Gb.out.below hb Gb.out.lt)
  replace S := hide (S.out.nextI hb hBz)
  replace HB := hide (below_next HB.out hb hBz)
  clear hBz
  clear hb
  have Ra := hide hr
  clear hr
  obtain ⟨⟨cGb, -⟩, lGb⟩ := box1 Gb.out
  go_wp2_with fail
  refine (kS.out _ _ _ Ra.out.src).mono ?_
  rintro e w3 ⟨rfl, hb⟩
  clear cGb lGb
  have hzw3 := hb.size
  have hBz := HB.out.size
  replace Gb := hide (Gb.out.below hb Gb.out.lt)
  replace Ra := hide (Ra.out.next hb)
  replace S := hide (S.out.nextI hb hBz)
  replace HB := hide (below_next HB.out hb hBz)
  clear hBz
  clear hb
  clear Ra
  obtain ⟨⟨cGb, -⟩, lGb⟩ := box1 Gb.out
  go_wp2_with fail
  refine (toHistI hp2.out (old_lts HB.out.size) S.out).mono ?_
  rintro e w4 ⟨qR0, rfl, hr, hb⟩
  clear cGb lGb
  have hzw4 := hb.size
  have hBz := HB.out.size
  replace Gb := hide (Gb.out.below hb Gb.out.lt)
  replace S := hide (S.out.nextI hb hBz)
  replace HB := hide (below_next HB.out hb hBz)
  clear hBz
  clear hb
  have R0 := hide hr
  clear hr
  obtain ⟨⟨cGb, -⟩, lGb⟩ := box1 Gb.out
  go_wp2_with fail
  clear cGb lGb
  obtain ⟨w5, hw5⟩ : ∃ wx, wx = w4.alloc (Obj.cells #[Value.slice (some ⟨qR0, 0, none⟩) l.length l.length] 45) := ⟨_, rfl⟩
  have hb : Below w4.heap.size w4 w5 := by rw [hw5]; exact below1 _ _
  have X0 := hide (show Blk w5 w4.heap.size 45 #[Value.slice (some ⟨qR0, 0, none⟩) l.length l.length] from by rw [hw5]; exact Blk.new _ _ _)
  have hzw5 : w4.heap.size < w5.heap.size := X0.out.lt
  have hBz := HB.out.size
  replace Gb := hide (Gb.out.below hb Gb.out.lt)
  replace R0 := hide (R0.out.next hb)
  replace S := hide (S.out.nextI hb hBz)
  replace HB := hide (below_next HB.out hb hBz)
  clear hBz
  rw [← hw5]
  clear hw5 hb
  obtain ⟨⟨cGb, -⟩, lGb⟩ := box1 Gb.out
  obtain ⟨⟨cX0, -⟩, lX0⟩ := box1 X0.out
  refine (kP.out _ _ _ R0.out.src).mono ?_
  rintro e w6 ⟨rfl, hb⟩
  clear cGb lGb cX0 lX0
  have hzw6 := hb.size
  have hBz := HB.out.size
  replace Gb := hide (Gb.out.below hb Gb.out.lt)
  replace X0 := hide (X0.out.below hb X0.out.lt)
  replace R0 := hide (R0.out.next hb)
  replace S := hide (S.out.nextI hb hBz)
  replace HB := hide (below_next HB.out hb hBz)
  clear hBz
  clear hb
  obtain ⟨⟨cGb, -⟩, lGb⟩ := box1 Gb.out
  obtain ⟨⟨cX0, -⟩, lX0⟩ := box1 X0.out
  go_wp2_with fail
  go_cut [30] (fun s wx => s = .bool false ∧ Below w6.heap.size w6 wx)
  case first =>
    have BQ := hide (Below.refl w6.heap.size w6).drew
    have hBz := HB.out.size
    have S := hide (S.out.nextI (Below.refl _ _).drew hBz)
    have X0 := hide (show Blk w6.drew _ _ _ from X0.out)
    have R0 := hide (R0.out.next (Below.refl _ _).drew)
    go_region_law (first
      | (go_simp; refine (toHistI hp2.out (by exact old_lts hBz) S.out).mono ?_; rintro e wa ⟨qa, rfl, hra, hba⟩; have X0a := hide (X0.out.below hba X0.out.lt); have R0a := hide (R0.out.next hba); obtain ⟨⟨ya, -⟩, la⟩ := box1 X0a.out; have Ba := hide (below_then BQ.out hba); have hra := hide hra; go_simp)
      | (go_simp; refine (eqHistI R0a.out hra.out).mono ?_; rintro e wb ⟨rfl, hbb⟩; have Bb := hide (below_then Ba.out hbb); go_simp)
      | fail)
    all_goals
      go_wp2_with fail
      go_meet
      exact ⟨rfl, Bb.out⟩
  case rest =>
    obtain ⟨rfl, hb⟩ := hcut
    obtain ⟨w7, rfl⟩ : ∃ wx : World, wx = wc := ⟨_, rfl⟩
    clear cGb lGb cX0 lX0
    have hzw7 := hb.size
    have hBz := HB.out.size
    replace Gb := hide (Gb.out.below hb Gb.out.lt)
    replace X0 := hide (X0.out.below hb X0.out.lt)
    replace R0 := hide (R0.out.next hb)
    replace S := hide (S.out.nextI hb hBz)
    replace HB := hide (below_next HB.out hb hBz)
    clear hBz
    clear hb
    go_wp2_with fail
    go_ret
    exact ⟨rfl, HB.out⟩

theorem exPlaceOf_walk (A : Option Addr) (l : List PostD) (c : Nat) (i : Int) (w : World) (hS : PostsAt w (Old w.heap.size) A l) (hwf : IdsWf l) (hwi : (Lit.int .i64 i).wf = true) :
    Calls Try.prog 13 #[.agg #[.slice A l.length c], .int .i64 i] w fun e w' => e = .returned (.bool true) ∧ Below w.heap.size w w' := by
  by_cases h2 : postSize l ≤ 1048576
  · have hn2 : l.length ≤ 1048576 := by unfold postSize at h2; omega
    exact exPlaceOf_small A l c i _ w h2 hS (fun A' c' w h => splaceOf_any A' l c' i w h) (fun A' c' w h => placeOf_any A' l c' i w hn2 hwf hwi h)
  · exact exPlaceOf_big A l c i w (by omega) hS
end Go.Proofs.Ytbhfkfapdpedpaa
