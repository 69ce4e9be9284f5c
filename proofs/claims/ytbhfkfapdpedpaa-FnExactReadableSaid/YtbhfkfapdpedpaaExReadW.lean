/- The walk of FnExactReadable: it answers true and leaves its arguments. -/
import Derived.Test.YtbhfkfapdpedpaaExH
import Derived.Test.YtbhfkfapdpedpaaImRw
import Derived.Deep.RegionLaw
import Derived.Deep.DeepCutAuto
import Derived.Deep.DrawnRows
namespace Go.Proofs.Ytbhfkfapdpedpaa
open Go.RowKit

attribute [local go_sem ↓] Go.wp_at_zero Go.wp_at_succ

set_option maxHeartbeats 800000 in
theorem exReadable_big (A : Option Addr) (l : List PostD) (c : Nat) (i : Int) (w : World) (hp2 : 1048576 < postSize l) (hS : PostsAt w (Old w.heap.size) A l) :
    Calls Try.prog 15 #[.agg #[.slice A l.length c], .int .i64 i] w fun e w' => e = .returned (.bool true) ∧ Below w.heap.size w w' := by
  have hb := below1 w (Obj.cells #[Value.slice A l.length c] 94)
  have ks := hide (szHist_big (c := c) hp2 _ hb.size (hS.below hb (fun _ h => h)))
  clear hS hb
  go_enter Try.func15, Try.ntmps15
  go_wp2_with fail
  refine ks.out.mono ?_
  rintro e w1 ⟨rfl, hb1⟩
  go_wp2_with fail
  go_ret
  exact ⟨rfl, below_step hb1⟩
set_option maxRecDepth 100000 in
set_option maxHeartbeats 12800000 in
theorem exReadable_small (A : Option Addr) (l : List PostD) (c : Nat) (i : Int) (ys : List Int) (N : Nat) (w : World) (hp2 : postSize l ≤ 1048576) (hy : ys.length = N) (hN : N ≤ 1048576) (hS : PostsAt w (Old w.heap.size) A l)
    (kS : ∀ A' c' w, PostsAt w (Old w.heap.size) A' l → Calls Try.prog 38 #[.agg #[.slice A' l.length c'], .int .i64 i] w fun e w' => RowR 3 w w' e N ys)
    (kP : ∀ A' c' w, PostsAt w (Old w.heap.size) A' l → Calls Try.prog 36 #[.agg #[.slice A' l.length c'], .int .i64 i] w fun e w' => RowR 3 w w' e N ys) :
    Calls Try.prog 15 #[.agg #[.slice A l.length c], .int .i64 i] w fun e w' => e = .returned (.bool true) ∧ Below w.heap.size w w' := by
  replace hy := hide hy
  have hx1 : ¬ markZ 1 (histN l) < 0 := markZ_nonneg (by omega)
  have hx2 : ¬ markZ 1 N < 0 := markZ_nonneg (by omega)
  obtain ⟨s, hs0, ks⟩ := szHist_small (A := A) (c := c) (B := w.heap.size) hp2
  replace kS := hide kS
  replace kP := hide kP
  replace ks := hide ks
  replace hp2 := hide hp2
  obtain ⟨wG, hwG⟩ : ∃ wx, wx = w.alloc (Obj.cells #[Value.slice A l.length c] 94) := ⟨_, rfl⟩
  have hb : Below w.heap.size w wG := by rw [hwG]; exact below1 _ _
  have Gb := hide (show Blk wG w.heap.size 94 #[Value.slice A l.length c] from by rw [hwG]; exact Blk.new _ _ _)
  have S := hide (hS.below hb (fun _ h => h))
  have HB := hide hb
  have hzG : w.heap.size < wG.heap.size := Gb.out.lt
  clear hS hb
  go_enter Try.func15, Try.ntmps15
  go_wp2_with fail
  rw [← hwG]
  clear hwG
  obtain ⟨⟨cGb, -⟩, lGb⟩ := box1 Gb.out
  refine (ks.out _ HB.out.size S.out).mono ?_
  rintro e w1 ⟨rfl, hb⟩
  clear cGb lGb
  have hzw1 := hb.size
  have hBz := HB.out.size
  replace Gb := hide (Gb.out.below hb Gb.out.lt)
  replace S := hide (S.out.nextI hb hBz)
  replace HB := hide (below_next HB.out hb hBz)
  clear hBz
  clear hb
  obtain ⟨⟨cGb, -⟩, lGb⟩ := box1 Gb.out
  go_wp2_with fail
  refine (toHistI hp2.out (old_lts HB.out.size) S.out).mono ?_
  rintro e w2 ⟨qRa, rfl, hr, hb⟩
  clear cGb lGb
  have hzw2 := hb.size
  have hBz := HB.out.size
  replace Gb := hide (Gb.out.below hb Gb.out.lt)
  replace S := hide (S.out.nextI hb hBz)
  replace HB := hide (below_next HB.out hb hBz)
  clear hBz
  clear hb
  have Ra := hide hr
  clear hr
  obtain ⟨⟨cGb, -⟩, lGb⟩ := box1 Gb.out
  go_wp2_with fail
  refine (kS.out _ _ _ Ra.out.src).mono ?_
  rintro e w3 ⟨AW0, cW0, rfl, hr, hb⟩
  clear cGb lGb
  have hzw3 := hb.size
  have hBz := HB.out.size
  replace Gb := hide (Gb.out.below hb Gb.out.lt)
  replace Ra := hide (Ra.out.next hb)
  replace S := hide (S.out.nextI hb hBz)
  replace HB := hide (below_next HB.out hb hBz)
  clear hBz
  clear hb
  have W0 := hide (RvI.of hr)
  clear hr
  clear Ra
  obtain ⟨⟨cGb, -⟩, lGb⟩ := box1 Gb.out
  go_wp2_with fail
  refine (toHistI hp2.out (old_lts HB.out.size) S.out).mono ?_
  rintro e w4 ⟨qR0, rfl, hr, hb⟩
  clear cGb lGb
  have hzw4 := hb.size
  have hBz := HB.out.size
  replace Gb := hide (Gb.out.below hb Gb.out.lt)
  replace W0 := hide (W0.out.next hb)
  replace S := hide (S.out.nextI hb hBz)
  replace HB := hide (below_next HB.out hb hBz)
  clear hBz
  clear hb
  have R0 := hide hr
  clear hr
  obtain ⟨⟨cGb, -⟩, lGb⟩ := box1 Gb.out
  go_wp2_with fail
  clear cGb lGb
  obtain ⟨w5, hw5⟩ : ∃ wx, wx = w4.alloc (Obj.cells #[Value.slice (some ⟨qR0, 0, none⟩) l.length l.length] 45) := ⟨_, rfl⟩
  have hb : Below w4.heap.size w4 w5 := by rw [hw5]; exact below1 _ _
  have X0 := hide (show Blk w5 w4.heap.size 45 #[Value.slice (some ⟨qR0, 0, none⟩) l.length l.length] from by rw [hw5]; exact Blk.new _ _ _)
  have hzw5 : w4.heap.size < w5.heap.size := X0.out.lt
  have hBz := HB.out.size
  replace Gb := hide (Gb.out.below hb Gb.out.lt)
  replace W0 := hide (W0.out.next hb)
  replace R0 := hide (R0.out.next hb)
  replace S := hide (S.out.nextI hb hBz)
  replace HB := hide (below_next HB.out hb hBz)
  clear hBz
  rw [← hw5]
  clear hw5 hb
  obtain ⟨⟨cGb, -⟩, lGb⟩ := box1 Gb.out
  obtain ⟨⟨cX0, -⟩, lX0⟩ := box1 X0.out
  refine (kP.out _ _ _ R0.out.src).mono ?_
  rintro e w6 ⟨AG0, cG0, rfl, hr, hb⟩
  clear cGb lGb cX0 lX0
  have hzw6 := hb.size
  have hBz := HB.out.size
  replace Gb := hide (Gb.out.below hb Gb.out.lt)
  replace X0 := hide (X0.out.below hb X0.out.lt)
  replace W0 := hide (W0.out.next hb)
  replace R0 := hide (R0.out.next hb)
  replace S := hide (S.out.nextI hb hBz)
  replace HB := hide (below_next HB.out hb hBz)
  clear hBz
  clear hb
  have G0 := hide (RvI.of hr)
  clear hr
  obtain ⟨⟨cGb, -⟩, lGb⟩ := box1 Gb.out
  obtain ⟨⟨cX0, -⟩, lX0⟩ := box1 X0.out
  go_wp2_with fail
  refine (eqIntSI hy.out (by omega) G0.out W0.out).mono ?_
  rintro e w7 ⟨rfl, hb⟩
  clear cGb lGb cX0 lX0
  have hzw7 := hb.size
  have hBz := HB.out.size
  replace Gb := hide (Gb.out.below hb Gb.out.lt)
  replace X0 := hide (X0.out.below hb X0.out.lt)
  replace W0 := hide (W0.out.next hb)
  replace R0 := hide (R0.out.next hb)
  replace G0 := hide (G0.out.next hb)
  replace S := hide (S.out.nextI hb hBz)
  replace HB := hide (below_next HB.out hb hBz)
  clear hBz
  clear hb
  obtain ⟨⟨cGb, -⟩, lGb⟩ := box1 Gb.out
  obtain ⟨⟨cX0, -⟩, lX0⟩ := box1 X0.out
  go_wp2_with fail
  go_cut [35] (fun s wx => s = .bool false ∧ Below w7.heap.size w7 wx)
  case first =>
    have BQ := hide (Below.refl w7.heap.size w7).drew
    have hBz := HB.out.size
    have S := hide (S.out.nextI (Below.refl _ _).drew hBz)
    have X0 := hide (show Blk w7.drew _ _ _ from X0.out)
    have R0 := hide (R0.out.next (Below.refl _ _).drew)
    go_region_law (first
      | (go_simp; refine (toHistI hp2.out (by exact old_lts hBz) S.out).mono ?_; rintro e wa ⟨qa, rfl, hra, hba⟩; have X0a := hide (X0.out.below hba X0.out.lt); have R0a := hide (R0.out.next hba); obtain ⟨⟨ya, -⟩, la⟩ := box1 X0a.out; have Ba := hide (below_then BQ.out hba); have hra := hide hra; go_simp)
      | (go_simp; refine (eqHistI R0a.out hra.out).mono ?_; rintro e wb ⟨rfl, hbb⟩; have Bb := hide (below_then Ba.out hbb); go_simp)
      | fail)
    all_goals
      go_wp2_with fail
      go_meet
      exact ⟨rfl, Bb.out⟩
  case rest =>
    obtain ⟨rfl, hb⟩ := hcut
    obtain ⟨w8, rfl⟩ : ∃ wx : World, wx = wc := ⟨_, rfl⟩
    clear cGb lGb cX0 lX0
    have hzw8 := hb.size
    have hBz := HB.out.size
    replace Gb := hide (Gb.out.below hb Gb.out.lt)
    replace X0 := hide (X0.out.below hb X0.out.lt)
    replace W0 := hide (W0.out.next hb)
    replace R0 := hide (R0.out.next hb)
    replace G0 := hide (G0.out.next hb)
    replace S := hide (S.out.nextI hb hBz)
    replace HB := hide (below_next HB.out hb hBz)
    clear hBz
    clear hb
    obtain ⟨⟨cGb, -⟩, lGb⟩ := box1 Gb.out
    obtain ⟨⟨cX0, -⟩, lX0⟩ := box1 X0.out
    go_wp2_with fail
    refine (markHistI (k := 1) hp2.out (by omega) (by have := hp2.out; omega) R0.out).mono ?_
    rintro e w9 ⟨rfl, hI⟩
    clear cGb lGb cX0 lX0
    have hzw9 := hI.size
    clear R0
    clear X0
    have hBz := HB.out.size
    replace Gb := hide (Gb.out.inn hI (by omega))
    replace W0 := hide (W0.out.inn hI (by omega))
    replace G0 := hide (G0.out.inn hI (by omega))
    replace S := hide (S.out.inn hI (by omega) hBz)
    replace HB := hide (below_inn HB.out hI (by omega) hBz)
    clear hBz hI
    obtain ⟨⟨cGb, -⟩, lGb⟩ := box1 Gb.out
    go_wp2_with fail
    refine (eqIntSI hy.out (by omega) G0.out W0.out).mono ?_
    rintro e w10 ⟨rfl, hb⟩
    clear cGb lGb
    have hzw10 := hb.size
    have hBz := HB.out.size
    replace Gb := hide (Gb.out.below hb Gb.out.lt)
    replace W0 := hide (W0.out.next hb)
    replace G0 := hide (G0.out.next hb)
    replace S := hide (S.out.nextI hb hBz)
    replace HB := hide (below_next HB.out hb hBz)
    clear hBz
    clear hb
    obtain ⟨⟨cGb, -⟩, lGb⟩ := box1 Gb.out
    go_wp2_with fail
    refine (markIntSI (k := 1) hy.out (by omega) (by first | omega | exact markZ_ge (by omega)) (by first | omega | exact hzk | exact hzk2) G0.out).mono ?_
    rintro e w11 ⟨rfl, hr, hg⟩
    clear cGb lGb
    have hzw11 := hg.size
    have hBz := HB.out.size
    replace Gb := hide (Gb.out.grownI hg G0.out (by decide))
    replace W0 := hide (by first | exact W0.out.grown hg G0.out (by omega) | exact W0.out.grownT hg G0.out (by decide))
    replace S := hide (S.out.grownI hg G0.out (by omega) hBz)
    replace HB := hide (below_grownI HB.out hg G0.out (by omega) hBz)
    replace G0 := hide hr
    clear hBz hg hr
    obtain ⟨⟨cGb, -⟩, lGb⟩ := box1 Gb.out
    go_wp2_with fail
    refine (heldIntSI (k := 1) (by omega) (by first | omega | exact markZ_ge (by omega)) (by first | omega | exact hzk | exact hzk2) G0.out).mono ?_
    rintro e w12 ⟨rfl, hb⟩
    clear cGb lGb
    have hzw12 := hb.size
    have hBz := HB.out.size
    replace Gb := hide (Gb.out.below hb Gb.out.lt)
    replace W0 := hide (W0.out.next hb)
    replace G0 := hide (G0.out.next hb)
    replace S := hide (S.out.nextI hb hBz)
    replace HB := hide (below_next HB.out hb hBz)
    clear hBz
    clear hb
    obtain ⟨⟨cGb, -⟩, lGb⟩ := box1 Gb.out
    go_wp2_with fail
    refine (toHistI hp2.out (old_lts HB.out.size) S.out).mono ?_
    rintro e w13 ⟨qRh, rfl, hr, hb⟩
    clear cGb lGb
    have hzw13 := hb.size
    have hBz := HB.out.size
    replace Gb := hide (Gb.out.below hb Gb.out.lt)
    replace W0 := hide (W0.out.next hb)
    replace G0 := hide (G0.out.next hb)
    replace S := hide (S.out.nextI hb hBz)
    replace HB := hide (below_next HB.out hb hBz)
    clear hBz
    clear hb
    have Rh := hide hr
    clear hr
    obtain ⟨⟨cGb, -⟩, lGb⟩ := box1 Gb.out
    go_wp2_with fail
    refine (kP.out _ _ _ Rh.out.src).mono ?_
    rintro e w14 ⟨AH0, cH0, rfl, hr, hb⟩
    clear cGb lGb
    have hzw14 := hb.size
    have hBz := HB.out.size
    replace Gb := hide (Gb.out.below hb Gb.out.lt)
    replace W0 := hide (W0.out.next hb)
    replace G0 := hide (G0.out.next hb)
    replace Rh := hide (Rh.out.next hb)
    replace S := hide (S.out.nextI hb hBz)
    replace HB := hide (below_next HB.out hb hBz)
    clear hBz
    clear hb
    have H0 := hide (RvI.of hr)
    clear hr
    clear Rh
    obtain ⟨⟨cGb, -⟩, lGb⟩ := box1 Gb.out
    go_wp2_with fail
    refine (eqIntSI hy.out (by omega) H0.out W0.out).mono ?_
    rintro e w15 ⟨rfl, hb⟩
    clear cGb lGb
    have hzw15 := hb.size
    have hBz := HB.out.size
    replace Gb := hide (Gb.out.below hb Gb.out.lt)
    replace W0 := hide (W0.out.next hb)
    replace G0 := hide (G0.out.next hb)
    replace H0 := hide (H0.out.next hb)
    replace S := hide (S.out.nextI hb hBz)
    replace HB := hide (below_next HB.out hb hBz)
    clear hBz
    clear hb
    obtain ⟨⟨cGb, -⟩, lGb⟩ := box1 Gb.out
    go_wp2_with fail
    refine (heldIntSI (k := 1) (by omega) (by first | omega | exact markZ_ge (by omega)) (by first | omega | exact hzk | exact hzk2) G0.out).mono ?_
    rintro e w16 ⟨rfl, hb⟩
    clear cGb lGb
    have hzw16 := hb.size
    have hBz := HB.out.size
    replace Gb := hide (Gb.out.below hb Gb.out.lt)
    replace W0 := hide (W0.out.next hb)
    replace G0 := hide (G0.out.next hb)
    replace H0 := hide (H0.out.next hb)
    replace S := hide (S.out.nextI hb hBz)
    replace HB := hide (below_next HB.out hb hBz)
    clear hBz
    clear hb
    go_wp2_with fail
    go_ret
    exact ⟨rfl, HB.out⟩

theorem exReadable_walk (A : Option Addr) (l : List PostD) (c : Nat) (i : Int) (w : World) (hS : PostsAt w (Old w.heap.size) A l) (hwf : IdsWf l) (hwi : (Lit.int .i64 i).wf = true) :
    Calls Try.prog 15 #[.agg #[.slice A l.length c], .int .i64 i] w fun e w' => e = .returned (.bool true) ∧ Below w.heap.size w w' := by
  by_cases h2 : postSize l ≤ 1048576
  · have hn2 : l.length ≤ 1048576 := by unfold postSize at h2; omega
    exact exReadable_small A l c i (readI l i) (readI l i).length w h2 rfl (by have := readI_len l i; omega) hS (fun A' c' w h => sreadable_any A' l c' i w hn2 h) (fun A' c' w h => readable_any A' l c' i w hn2 hwf hwi h)
  · exact exReadable_big A l c i w (by omega) hS
end Go.Proofs.Ytbhfkfapdpedpaa
