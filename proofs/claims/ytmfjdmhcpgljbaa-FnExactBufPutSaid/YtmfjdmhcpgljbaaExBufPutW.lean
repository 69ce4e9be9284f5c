/- The walk of FnExactBufPut: it answers true and leaves its arguments. -/
import Derived.Test.YtmfjdmhcpgljbaaEx
import Derived.Test.YtmfjdmhcpgljbaaBufPut
import Derived.Deep.RegionLaw
import Derived.Deep.DeepCutAuto
import Derived.Deep.DrawnRows
namespace Go.Proofs.Ytmfjdmhcpgljbaa
open Go.RowKit

attribute [local go_sem ↓] Go.wp_at_zero Go.wp_at_succ

set_option maxHeartbeats 800000 in
theorem exBufPut_big (A : Option Addr) (n c : Nat) (x v : Int) (w : World) (hn0 : n ≤ 9223372036854775807) (hn2 : 1048576 < n) :
    Calls Try.prog 11 #[.agg #[.slice A n c], .int .i64 x, .int .i64 v] w fun e w' => e = .returned (.bool true) ∧ Below w.heap.size w w' := by
  have ks := szBuf_big (A := A) (c := c) hn0 hn2
  replace ks := hide ks
  clear hn2 hn0
  go_enter Try.func11, Try.ntmps11
  go_wp2_with fail
  refine (ks.out _).mono ?_
  rintro e w1 ⟨rfl, hb1⟩
  go_wp2_with fail
  go_ret
  exact ⟨rfl, below_step hb1⟩
set_option maxRecDepth 100000 in
set_option maxHeartbeats 12800000 in
theorem exBufPut_small (A : Option Addr) (zs ys : List Int) (n c N : Nat) (ok : Bool) (x v : Int) (w : World) (hn2 : n ≤ 1048576) (hz : zs.length = n * 2) (hS : IntsAt w (Old w.heap.size) A zs) (hN : N ≤ 1048576) (hy : ys.length = N * 2)
    (kS : ∀ A' c' w, IntsAt w (Old w.heap.size) A' zs → Calls Try.prog 32 #[.agg #[.slice A' n c'], .int .i64 x, .int .i64 v] w fun e w' => PutR w w' e N ys ok)
    (kP : ∀ A' c' w, IntsAt w (Old w.heap.size) A' zs → Calls Try.prog 31 #[.agg #[.slice A' n c'], .int .i64 x, .int .i64 v] w fun e w' => PutR w w' e N ys ok) :
    Calls Try.prog 11 #[.agg #[.slice A n c], .int .i64 x, .int .i64 v] w fun e w' => e = .returned (.bool true) ∧ Below w.heap.size w w' := by
  obtain ⟨s, hs0, ks⟩ := szBuf_small (A := A) (c := c) hn2
  replace kS := hide kS
  replace kP := hide kP
  replace ks := hide ks
  replace hz := hide hz
  replace hy := hide hy
  have hx1 : ¬ markZ 1 (n * 2) < 0 := markZ_nonneg (by omega)
  have hx2 : ¬ markZ 1 (N * 2) < 0 := markZ_nonneg (by omega)
  obtain ⟨wG, hwG⟩ : ∃ wx, wx = w.alloc (Obj.cells #[Value.slice A n c] 88) := ⟨_, rfl⟩
  have hb : Below w.heap.size w wG := by rw [hwG]; exact below1 _ _
  have Gb := hide (show Blk wG w.heap.size 88 #[Value.slice A n c] from by rw [hwG]; exact Blk.new _ _ _)
  have S := hide (hS.below hb (fun _ h => h))
  have HB := hide hb
  have hzG := hb.size
  clear hS hb
  go_enter Try.func11, Try.ntmps11
  go_wp2_with fail
  rw [← hwG]
  clear hwG
  obtain ⟨⟨cGb, -⟩, lGb⟩ := box1 Gb.out
  refine (ks.out _).mono ?_
  rintro e w1 ⟨rfl, hb⟩
  clear cGb lGb
  have hzw1 := hb.size
  have hBz := HB.out.size
  replace Gb := hide (Gb.out.below hb Gb.out.lt)
  replace S := hide (S.out.nextI hb hBz)
  replace HB := hide (below_next HB.out hb hBz)
  clear hBz
  clear hb
  obtain ⟨⟨cGb, -⟩, lGb⟩ := box1 Gb.out
  go_wp2_with fail
  refine (toBufI hz.out hn2 (old_lts HB.out.size) S.out).mono ?_
  rintro e w2 ⟨qRa, rfl, hr, hb⟩
  clear cGb lGb
  have hzw2 := hb.size
  have hBz := HB.out.size
  replace Gb := hide (Gb.out.below hb Gb.out.lt)
  replace S := hide (S.out.nextI hb hBz)
  replace HB := hide (below_next HB.out hb hBz)
  clear hBz
  clear hb
  have Ra := hide hr
  clear hr
  obtain ⟨⟨cGb, -⟩, lGb⟩ := box1 Gb.out
  go_wp2_with fail
  refine (kS.out _ _ _ (Ra.out.src (by rw [hz.out]; omega) rfl)).mono ?_
  rintro e w3 ⟨AW0, cW0, rfl, hr, hb⟩
  clear cGb lGb
  have hzw3 := hb.size
  have hBz := HB.out.size
  replace Gb := hide (Gb.out.below hb Gb.out.lt)
  replace Ra := hide (Ra.out.next hb)
  replace S := hide (S.out.nextI hb hBz)
  replace HB := hide (below_next HB.out hb hBz)
  clear hBz
  clear hb
  have W0 := hide (RvI.of hr)
  clear hr
  clear Ra
  obtain ⟨⟨cGb, -⟩, lGb⟩ := box1 Gb.out
  go_wp2_with fail
  clear cGb lGb
  obtain ⟨w4, hw4⟩ : ∃ wx, wx = w3.alloc (Obj.cells #[Value.slice AW0 N cW0] 54) := ⟨_, rfl⟩
  have hb : Below w3.heap.size w3 w4 := by rw [hw4]; exact below1 _ _
  have WB := hide (show Blk w4 w3.heap.size 54 #[Value.slice AW0 N cW0] from by rw [hw4]; exact Blk.new _ _ _)
  have hzw4 : w3.heap.size < w4.heap.size := WB.out.lt
  have hBz := HB.out.size
  replace Gb := hide (Gb.out.below hb Gb.out.lt)
  replace W0 := hide (W0.out.next hb)
  replace S := hide (S.out.nextI hb hBz)
  replace HB := hide (below_next HB.out hb hBz)
  clear hBz
  rw [← hw4]
  clear hw4 hb
  obtain ⟨⟨cGb, -⟩, lGb⟩ := box1 Gb.out
  obtain ⟨⟨cWB, -⟩, lWB⟩ := box1 WB.out
  refine (toBufI hz.out hn2 (old_lts HB.out.size) S.out).mono ?_
  rintro e w5 ⟨qR0, rfl, hr, hb⟩
  clear cGb lGb cWB lWB
  have hzw5 := hb.size
  have hBz := HB.out.size
  replace Gb := hide (Gb.out.below hb Gb.out.lt)
  replace WB := hide (WB.out.below hb WB.out.lt)
  replace W0 := hide (W0.out.next hb)
  replace S := hide (S.out.nextI hb hBz)
  replace HB := hide (below_next HB.out hb hBz)
  clear hBz
  clear hb
  have R0 := hide hr
  clear hr
  obtain ⟨⟨cGb, -⟩, lGb⟩ := box1 Gb.out
  obtain ⟨⟨cWB, -⟩, lWB⟩ := box1 WB.out
  go_wp2_with fail
  clear cGb lGb cWB lWB
  obtain ⟨w6, hw6⟩ : ∃ wx, wx = w5.alloc (Obj.cells #[Value.slice (some ⟨qR0, 0, none⟩) n n] 54) := ⟨_, rfl⟩
  have hb : Below w5.heap.size w5 w6 := by rw [hw6]; exact below1 _ _
  have X0 := hide (show Blk w6 w5.heap.size 54 #[Value.slice (some ⟨qR0, 0, none⟩) n n] from by rw [hw6]; exact Blk.new _ _ _)
  have hzw6 : w5.heap.size < w6.heap.size := X0.out.lt
  have hBz := HB.out.size
  replace Gb := hide (Gb.out.below hb Gb.out.lt)
  replace WB := hide (WB.out.below hb WB.out.lt)
  replace W0 := hide (W0.out.next hb)
  replace R0 := hide (R0.out.next hb)
  replace S := hide (S.out.nextI hb hBz)
  replace HB := hide (below_next HB.out hb hBz)
  clear hBz
  rw [← hw6]
  clear hw6 hb
  obtain ⟨⟨cGb, -⟩, lGb⟩ := box1 Gb.out
  obtain ⟨⟨cWB, -⟩, lWB⟩ := box1 WB.out
  obtain ⟨⟨cX0, -⟩, lX0⟩ := box1 X0.out
  refine (kP.out _ _ _ (R0.out.src (by rw [hz.out]; omega) rfl)).mono ?_
  rintro e w7 ⟨AG0, cG0, rfl, hr, hb⟩
  clear cGb lGb cWB lWB cX0 lX0
  have hzw7 := hb.size
  have hBz := HB.out.size
  replace Gb := hide (Gb.out.below hb Gb.out.lt)
  replace WB := hide (WB.out.below hb WB.out.lt)
  replace X0 := hide (X0.out.below hb X0.out.lt)
  replace W0 := hide (W0.out.next hb)
  replace R0 := hide (R0.out.next hb)
  replace S := hide (S.out.nextI hb hBz)
  replace HB := hide (below_next HB.out hb hBz)
  clear hBz
  clear hb
  have G0 := hide (RvI.of hr)
  clear hr
  obtain ⟨⟨cGb, -⟩, lGb⟩ := box1 Gb.out
  obtain ⟨⟨cWB, -⟩, lWB⟩ := box1 WB.out
  obtain ⟨⟨cX0, -⟩, lX0⟩ := box1 X0.out
  go_wp2_with fail
  clear cGb lGb cWB lWB cX0 lX0
  obtain ⟨w8, hw8⟩ : ∃ wx, wx = w7.alloc (Obj.cells #[Value.slice AG0 N cG0] 54) := ⟨_, rfl⟩
  have hb : Below w7.heap.size w7 w8 := by rw [hw8]; exact below1 _ _
  have GB := hide (show Blk w8 w7.heap.size 54 #[Value.slice AG0 N cG0] from by rw [hw8]; exact Blk.new _ _ _)
  have hzw8 : w7.heap.size < w8.heap.size := GB.out.lt
  have hBz := HB.out.size
  replace Gb := hide (Gb.out.below hb Gb.out.lt)
  replace WB := hide (WB.out.below hb WB.out.lt)
  replace X0 := hide (X0.out.below hb X0.out.lt)
  replace W0 := hide (W0.out.next hb)
  replace R0 := hide (R0.out.next hb)
  replace G0 := hide (G0.out.next hb)
  replace S := hide (S.out.nextI hb hBz)
  replace HB := hide (below_next HB.out hb hBz)
  clear hBz
  rw [← hw8]
  clear hw8 hb
  obtain ⟨⟨cGb, -⟩, lGb⟩ := box1 Gb.out
  obtain ⟨⟨cWB, -⟩, lWB⟩ := box1 WB.out
  obtain ⟨⟨cX0, -⟩, lX0⟩ := box1 X0.out
  obtain ⟨⟨cGB, -⟩, lGB⟩ := box1 GB.out
  refine (eqBufI hy.out (by omega) G0.out W0.out).mono ?_
  rintro e w9 ⟨rfl, hb⟩
  clear cGb lGb cWB lWB cX0 lX0 cGB lGB
  have hzw9 := hb.size
  have hBz := HB.out.size
  replace Gb := hide (Gb.out.below hb Gb.out.lt)
  replace WB := hide (WB.out.below hb WB.out.lt)
  replace X0 := hide (X0.out.below hb X0.out.lt)
  replace GB := hide (GB.out.below hb GB.out.lt)
  replace W0 := hide (W0.out.next hb)
  replace R0 := hide (R0.out.next hb)
  replace G0 := hide (G0.out.next hb)
  replace S := hide (S.out.nextI hb hBz)
  replace HB := hide (below_next HB.out hb hBz)
  clear hBz
  clear hb
  obtain ⟨⟨cGb, -⟩, lGb⟩ := box1 Gb.out
  obtain ⟨⟨cWB, -⟩, lWB⟩ := box1 WB.out
  obtain ⟨⟨cX0, -⟩, lX0⟩ := box1 X0.out
  obtain ⟨⟨cGB, -⟩, lGB⟩ := box1 GB.out
  go_wp2_with fail
  go_cut [53] (fun s wx => s = .bool false ∧ Below w9.heap.size w9 wx)
  case first =>
    have BQ := hide (Below.refl w9.heap.size w9).drew
    have hBz := HB.out.size
    have S := hide (S.out.nextI (Below.refl _ _).drew hBz)
    have X0 := hide (show Blk w9.drew _ _ _ from X0.out)
    have R0 := hide (R0.out.next (Below.refl _ _).drew)
    go_region_law (first
      | (go_simp; refine (toBufI hz.out hn2 (by exact old_lts hBz) S.out).mono ?_; rintro e wa ⟨qa, rfl, hra, hba⟩; have X0a := hide (X0.out.below hba X0.out.lt); have R0a := hide (R0.out.next hba); obtain ⟨⟨ya, -⟩, la⟩ := box1 X0a.out; have Ba := hide (below_then BQ.out hba); have hra := hide hra; go_simp)
      | (go_simp; refine (eqBufI hz.out (by omega) R0a.out hra.out).mono ?_; rintro e wb ⟨rfl, hbb⟩; have Bb := hide (below_then Ba.out hbb); go_simp)
      | fail)
    all_goals
      go_wp2_with fail
      go_meet
      exact ⟨rfl, Bb.out⟩
  case rest =>
    obtain ⟨rfl, hb⟩ := hcut
    obtain ⟨w10, rfl⟩ : ∃ wx : World, wx = wc := ⟨_, rfl⟩
    clear cGb lGb cWB lWB cX0 lX0 cGB lGB
    have hzw10 := hb.size
    have hBz := HB.out.size
    replace Gb := hide (Gb.out.below hb Gb.out.lt)
    replace WB := hide (WB.out.below hb WB.out.lt)
    replace X0 := hide (X0.out.below hb X0.out.lt)
    replace GB := hide (GB.out.below hb GB.out.lt)
    replace W0 := hide (W0.out.next hb)
    replace R0 := hide (R0.out.next hb)
    replace G0 := hide (G0.out.next hb)
    replace S := hide (S.out.nextI hb hBz)
    replace HB := hide (below_next HB.out hb hBz)
    clear hBz
    clear hb
    obtain ⟨⟨cGb, -⟩, lGb⟩ := box1 Gb.out
    obtain ⟨⟨cWB, -⟩, lWB⟩ := box1 WB.out
    obtain ⟨⟨cX0, -⟩, lX0⟩ := box1 X0.out
    obtain ⟨⟨cGB, -⟩, lGB⟩ := box1 GB.out
    go_wp2_with fail
    refine (markBufI (k := 1) hz.out (by omega) (by first | omega | exact markZ_ge (by omega)) (by first | omega | exact hzk) R0.out).mono ?_
    rintro e w11 ⟨rfl, hr, hg⟩
    clear cGb lGb cWB lWB cX0 lX0 cGB lGB
    have hzw11 := hg.size
    have hBz := HB.out.size
    replace Gb := hide (Gb.out.grownI hg R0.out (by decide))
    replace WB := hide (WB.out.grownI hg R0.out (by decide))
    replace X0 := hide (X0.out.grownI hg R0.out (by decide))
    replace GB := hide (GB.out.grownI hg R0.out (by decide))
    replace W0 := hide (by first | exact W0.out.grown hg R0.out (by omega) | exact W0.out.grownT hg R0.out (by decide))
    replace G0 := hide (by first | exact G0.out.grown hg R0.out (by omega) | exact G0.out.grownT hg R0.out (by decide))
    replace S := hide (S.out.grownI hg R0.out (by omega) hBz)
    replace HB := hide (below_grownI HB.out hg R0.out (by omega) hBz)
    replace R0 := hide hr
    clear hBz hg hr
    clear R0
    clear X0
    obtain ⟨⟨cGb, -⟩, lGb⟩ := box1 Gb.out
    obtain ⟨⟨cWB, -⟩, lWB⟩ := box1 WB.out
    obtain ⟨⟨cGB, -⟩, lGB⟩ := box1 GB.out
    go_wp2_with fail
    refine (eqBufI hy.out (by omega) G0.out W0.out).mono ?_
    rintro e w12 ⟨rfl, hb⟩
    clear cGb lGb cWB lWB cGB lGB
    have hzw12 := hb.size
    have hBz := HB.out.size
    replace Gb := hide (Gb.out.below hb Gb.out.lt)
    replace WB := hide (WB.out.below hb WB.out.lt)
    replace GB := hide (GB.out.below hb GB.out.lt)
    replace W0 := hide (W0.out.next hb)
    replace G0 := hide (G0.out.next hb)
    replace S := hide (S.out.nextI hb hBz)
    replace HB := hide (below_next HB.out hb hBz)
    clear hBz
    clear hb
    obtain ⟨⟨cGb, -⟩, lGb⟩ := box1 Gb.out
    obtain ⟨⟨cWB, -⟩, lWB⟩ := box1 WB.out
    obtain ⟨⟨cGB, -⟩, lGB⟩ := box1 GB.out
    go_wp2_with fail
    refine (markBufI (k := 1) hy.out (by omega) (by first | omega | exact markZ_ge (by omega)) (by first | omega | exact hzk) G0.out).mono ?_
    rintro e w13 ⟨rfl, hr, hg⟩
    clear cGb lGb cWB lWB cGB lGB
    have hzw13 := hg.size
    have hBz := HB.out.size
    replace Gb := hide (Gb.out.grownI hg G0.out (by decide))
    replace WB := hide (WB.out.grownI hg G0.out (by decide))
    replace GB := hide (GB.out.grownI hg G0.out (by decide))
    replace W0 := hide (by first | exact W0.out.grown hg G0.out (by omega) | exact W0.out.grownT hg G0.out (by decide))
    replace S := hide (S.out.grownI hg G0.out (by omega) hBz)
    replace HB := hide (below_grownI HB.out hg G0.out (by omega) hBz)
    replace G0 := hide hr
    clear hBz hg hr
    obtain ⟨⟨cGb, -⟩, lGb⟩ := box1 Gb.out
    obtain ⟨⟨cWB, -⟩, lWB⟩ := box1 WB.out
    obtain ⟨⟨cGB, -⟩, lGB⟩ := box1 GB.out
    go_wp2_with fail
    refine (heldBufI (k := 1) (by omega) (by first | omega | exact markZ_ge (by omega)) (by first | omega | exact hzk) G0.out).mono ?_
    rintro e w14 ⟨rfl, hb⟩
    clear cGb lGb cWB lWB cGB lGB
    have hzw14 := hb.size
    have hBz := HB.out.size
    replace Gb := hide (Gb.out.below hb Gb.out.lt)
    replace WB := hide (WB.out.below hb WB.out.lt)
    replace GB := hide (GB.out.below hb GB.out.lt)
    replace W0 := hide (W0.out.next hb)
    replace G0 := hide (G0.out.next hb)
    replace S := hide (S.out.nextI hb hBz)
    replace HB := hide (below_next HB.out hb hBz)
    clear hBz
    clear hb
    obtain ⟨⟨cGb, -⟩, lGb⟩ := box1 Gb.out
    obtain ⟨⟨cWB, -⟩, lWB⟩ := box1 WB.out
    obtain ⟨⟨cGB, -⟩, lGB⟩ := box1 GB.out
    go_wp2_with fail
    refine (toBufI hz.out hn2 (old_lts HB.out.size) S.out).mono ?_
    rintro e w15 ⟨qRh, rfl, hr, hb⟩
    clear cGb lGb cWB lWB cGB lGB
    have hzw15 := hb.size
    have hBz := HB.out.size
    replace Gb := hide (Gb.out.below hb Gb.out.lt)
    replace WB := hide (WB.out.below hb WB.out.lt)
    replace GB := hide (GB.out.below hb GB.out.lt)
    replace W0 := hide (W0.out.next hb)
    replace G0 := hide (G0.out.next hb)
    replace S := hide (S.out.nextI hb hBz)
    replace HB := hide (below_next HB.out hb hBz)
    clear hBz
    clear hb
    have Rh := hide hr
    clear hr
    obtain ⟨⟨cGb, -⟩, lGb⟩ := box1 Gb.out
    obtain ⟨⟨cWB, -⟩, lWB⟩ := box1 WB.out
    obtain ⟨⟨cGB, -⟩, lGB⟩ := box1 GB.out
    go_wp2_with fail
    refine (kP.out _ _ _ (Rh.out.src (by rw [hz.out]; omega) rfl)).mono ?_
    rintro e w16 ⟨AH0, cH0, rfl, hr, hb⟩
    clear cGb lGb cWB lWB cGB lGB
    have hzw16 := hb.size
    have hBz := HB.out.size
    replace Gb := hide (Gb.out.below hb Gb.out.lt)
    replace WB := hide (WB.out.below hb WB.out.lt)
    replace GB := hide (GB.out.below hb GB.out.lt)
    replace W0 := hide (W0.out.next hb)
    replace G0 := hide (G0.out.next hb)
    replace Rh := hide (Rh.out.next hb)
    replace S := hide (S.out.nextI hb hBz)
    replace HB := hide (below_next HB.out hb hBz)
    clear hBz
    clear hb
    have H0 := hide (RvI.of hr)
    clear hr
    clear Rh
    obtain ⟨⟨cGb, -⟩, lGb⟩ := box1 Gb.out
    obtain ⟨⟨cWB, -⟩, lWB⟩ := box1 WB.out
    obtain ⟨⟨cGB, -⟩, lGB⟩ := box1 GB.out
    go_wp2_with fail
    clear cGb lGb cWB lWB cGB lGB
    obtain ⟨w17, hw17⟩ : ∃ wx, wx = w16.alloc (Obj.cells #[Value.slice AH0 N cH0] 54) := ⟨_, rfl⟩
    have hb : Below w16.heap.size w16 w17 := by rw [hw17]; exact below1 _ _
    have HX := hide (show Blk w17 w16.heap.size 54 #[Value.slice AH0 N cH0] from by rw [hw17]; exact Blk.new _ _ _)
    have hzw17 : w16.heap.size < w17.heap.size := HX.out.lt
    have hBz := HB.out.size
    replace Gb := hide (Gb.out.below hb Gb.out.lt)
    replace WB := hide (WB.out.below hb WB.out.lt)
    replace GB := hide (GB.out.below hb GB.out.lt)
    replace W0 := hide (W0.out.next hb)
    replace G0 := hide (G0.out.next hb)
    replace H0 := hide (H0.out.next hb)
    replace S := hide (S.out.nextI hb hBz)
    replace HB := hide (below_next HB.out hb hBz)
    clear hBz
    rw [← hw17]
    clear hw17 hb
    obtain ⟨⟨cGb, -⟩, lGb⟩ := box1 Gb.out
    obtain ⟨⟨cWB, -⟩, lWB⟩ := box1 WB.out
    obtain ⟨⟨cGB, -⟩, lGB⟩ := box1 GB.out
    obtain ⟨⟨cHX, -⟩, lHX⟩ := box1 HX.out
    refine (eqBufI hy.out (by omega) H0.out W0.out).mono ?_
    rintro e w18 ⟨rfl, hb⟩
    clear cGb lGb cWB lWB cGB lGB cHX lHX
    have hzw18 := hb.size
    have hBz := HB.out.size
    replace Gb := hide (Gb.out.below hb Gb.out.lt)
    replace WB := hide (WB.out.below hb WB.out.lt)
    replace GB := hide (GB.out.below hb GB.out.lt)
    replace HX := hide (HX.out.below hb HX.out.lt)
    replace W0 := hide (W0.out.next hb)
    replace G0 := hide (G0.out.next hb)
    replace H0 := hide (H0.out.next hb)
    replace S := hide (S.out.nextI hb hBz)
    replace HB := hide (below_next HB.out hb hBz)
    clear hBz
    clear hb
    obtain ⟨⟨cGb, -⟩, lGb⟩ := box1 Gb.out
    obtain ⟨⟨cWB, -⟩, lWB⟩ := box1 WB.out
    obtain ⟨⟨cGB, -⟩, lGB⟩ := box1 GB.out
    obtain ⟨⟨cHX, -⟩, lHX⟩ := box1 HX.out
    go_wp2_with fail
    refine (heldBufI (k := 1) (by omega) (by first | omega | exact markZ_ge (by omega)) (by first | omega | exact hzk) G0.out).mono ?_
    rintro e w19 ⟨rfl, hb⟩
    clear cGb lGb cWB lWB cGB lGB cHX lHX
    have hzw19 := hb.size
    have hBz := HB.out.size
    replace Gb := hide (Gb.out.below hb Gb.out.lt)
    replace WB := hide (WB.out.below hb WB.out.lt)
    replace GB := hide (GB.out.below hb GB.out.lt)
    replace HX := hide (HX.out.below hb HX.out.lt)
    replace W0 := hide (W0.out.next hb)
    replace G0 := hide (G0.out.next hb)
    replace H0 := hide (H0.out.next hb)
    replace S := hide (S.out.nextI hb hBz)
    replace HB := hide (below_next HB.out hb hBz)
    clear hBz
    clear hb
    go_wp2_with fail
    go_ret
    exact ⟨rfl, HB.out⟩

theorem exBufPut_walk (A : Option Addr) (n c : Nat) (x v : Int) (w : World) (hn0 : n ≤ 9223372036854775807) (hS : n ≤ 1048576 → ∃ zs : List Int, zs.length = n * 2 ∧ IntsAt w (Old w.heap.size) A zs) :
    Calls Try.prog 11 #[.agg #[.slice A n c], .int .i64 x, .int .i64 v] w fun e w' => e = .returned (.bool true) ∧ Below w.heap.size w w' := by
  by_cases h2 : n ≤ 1048576
  · obtain ⟨zs, hz, hi⟩ := hS h2
    by_cases h4 : 4 ≤ n
    · exact exBufPut_small A zs [] n c 0 false x v w h2 hz hi (by omega) rfl (fun A' c' w _ => sbufPut_no A' n c' x v w h4) (fun A' c' w _ => bufPut_no A' n c' x v w h4)
    · exact exBufPut_small A zs (zs ++ [x, v]) n c (n + 1) true x v w h2 hz hi (by omega) (by simp [hz]; omega) (fun A' c' w h => sbufPut_yes A' zs n c' x v w hz (by omega) h) (fun A' c' w h => bufPut_yes A' zs n c' x v w hz (by omega) h)
  · exact exBufPut_big A n c x v w hn0 (by omega)
end Go.Proofs.Ytmfjdmhcpgljbaa
