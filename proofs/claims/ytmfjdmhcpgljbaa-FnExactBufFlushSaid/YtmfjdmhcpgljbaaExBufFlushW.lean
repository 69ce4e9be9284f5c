/- The walk of FnExactBufFlush: it answers true and leaves its arguments. -/
import Derived.Test.YtmfjdmhcpgljbaaEx
import Derived.Test.YtmfjdmhcpgljbaaBufFl
import Derived.Deep.RegionLaw
import Derived.Deep.DeepCutAuto
import Derived.Deep.DrawnRows
namespace Go.Proofs.Ytmfjdmhcpgljbaa
open Go.RowKit

attribute [local go_sem ↓] Go.wp_at_zero Go.wp_at_succ

set_option maxHeartbeats 800000 in
theorem exBufFlush_bigm (A D : Option Addr) (n c m d : Nat) (w : World) (hm2 : 1048576 < m) :
    Calls Try.prog 12 #[.agg #[.slice A n c], .slice D m d] w fun e w' => e = .returned (.bool true) ∧ Below w.heap.size w w' := by
  have hmi : (1048576 : Int) < m := by omega
  go_enter Try.func12, Try.ntmps12
  go_wp2
  go_ret
  exact ⟨rfl, below1 _ _⟩
set_option maxHeartbeats 800000 in
theorem exBufFlush_bign (A D : Option Addr) (n c m d : Nat) (w : World) (hn0 : n ≤ 9223372036854775807) (hm2 : m ≤ 1048576) (hn2 : 1048576 < n) :
    Calls Try.prog 12 #[.agg #[.slice A n c], .slice D m d] w fun e w' => e = .returned (.bool true) ∧ Below w.heap.size w w' := by
  have hmi : ¬ (1048576 : Int) < m := by omega
  have ks := szBuf_big (A := A) (c := c) hn0 hn2
  replace ks := hide ks
  clear hn2 hn0
  go_enter Try.func12, Try.ntmps12
  go_wp2_with fail
  refine (ks.out _).mono ?_
  rintro e w1 ⟨rfl, hb1⟩
  go_wp2_with fail
  go_ret
  exact ⟨rfl, below_step hb1⟩
set_option maxRecDepth 100000 in
set_option maxHeartbeats 12800000 in
theorem exBufFlush_small (A D : Option Addr) (zs ms ys us : List Int) (n c m d N K : Nat) (ok : Bool) (w : World) (hm2 : m ≤ 1048576) (hn2 : n ≤ 1048576) (hz : zs.length = n * 2) (hm : ms.length = m) (hS : IntsAt w (Old w.heap.size) A zs) (hM : IntsAt w (Old w.heap.size) D ms) (hN : N ≤ 1048576) (hK : K ≤ 1048576) (hy : ys.length = N * 2) (hu : us.length = K)
    (kS : ∀ A' D' w, IntsAt w (Old w.heap.size) A' zs → IntsAt w (Old w.heap.size) D' ms → Calls Try.prog 52 #[.agg #[.slice A' n n], .slice D' m m] w fun e w' => FlushR w w' e N ys K us ok)
    (kP : ∀ A' D' w, IntsAt w (Old w.heap.size) A' zs → IntsAt w (Old w.heap.size) D' ms → Calls Try.prog 27 #[.agg #[.slice A' n n], .slice D' m m] w fun e w' => FlushR w w' e N ys K us ok) :
    Calls Try.prog 12 #[.agg #[.slice A n c], .slice D m d] w fun e w' => e = .returned (.bool true) ∧ Below w.heap.size w w' := by
  have hmi : ¬ (1048576 : Int) < m := by omega
  obtain ⟨s, hs0, ks⟩ := szBuf_small (A := A) (c := c) hn2
  replace kS := hide kS
  replace kP := hide kP
  replace ks := hide ks
  replace hz := hide hz
  replace hm := hide hm
  replace hy := hide hy
  replace hu := hide hu
  have hzk : markZ 1 (n * 2) ≤ 4194304 := by unfold markZ; omega
  have hzk2 : markZ 1 (N * 2) ≤ 4194304 := by unfold markZ; omega
  have hx1 : ¬ markZ (markZ 1 (n * 2)) m < 0 := markZ_nonneg (markZ_ge (by omega))
  have hx2 : ¬ markZ 1 (N * 2) < 0 := markZ_nonneg (by omega)
  have hx3 : ¬ markZ (markZ 1 (N * 2)) K < 0 := markZ_nonneg (markZ_ge (by omega))
  obtain ⟨wG, hwG⟩ : ∃ wx, wx = w.alloc (Obj.cells #[Value.slice A n c] 88) := ⟨_, rfl⟩
  have hb : Below w.heap.size w wG := by rw [hwG]; exact below1 _ _
  have Gb := hide (show Blk wG w.heap.size 88 #[Value.slice A n c] from by rw [hwG]; exact Blk.new _ _ _)
  have S := hide (hS.below hb (fun _ h => h))
  have M := hide (hM.below hb (fun _ h => h))
  have HB := hide hb
  have hzG := hb.size
  clear hS hM hb
  go_enter Try.func12, Try.ntmps12
  go_wp2_with fail
  rw [← hwG]
  clear hwG
  obtain ⟨⟨cGb, -⟩, lGb⟩ := box1 Gb.out
  refine (ks.out _).mono ?_
  rintro e w1 ⟨rfl, hb⟩
  clear cGb lGb
  have hzw1 := hb.size
  have hBz := HB.out.size
  replace Gb := hide (Gb.out.below hb Gb.out.lt)
  replace S := hide (S.out.nextI hb hBz)
  replace M := hide (M.out.nextI hb hBz)
  replace HB := hide (below_next HB.out hb hBz)
  clear hBz
  clear hb
  obtain ⟨⟨cGb, -⟩, lGb⟩ := box1 Gb.out
  go_wp2_with fail
  refine (toBufI hz.out hn2 (old_lts HB.out.size) S.out).mono ?_
  rintro e w2 ⟨qRa, rfl, hr, hb⟩
  clear cGb lGb
  have hzw2 := hb.size
  have hBz := HB.out.size
  replace Gb := hide (Gb.out.below hb Gb.out.lt)
  replace S := hide (S.out.nextI hb hBz)
  replace M := hide (M.out.nextI hb hBz)
  replace HB := hide (below_next HB.out hb hBz)
  clear hBz
  clear hb
  have Ra := hide hr
  clear hr
  obtain ⟨⟨cGb, -⟩, lGb⟩ := box1 Gb.out
  go_wp2_with fail
  refine (toIntSI hm.out hm2 (old_lts HB.out.size) M.out).mono ?_
  rintro e w3 ⟨qRb, rfl, hr, hb⟩
  clear cGb lGb
  have hzw3 := hb.size
  have hBz := HB.out.size
  replace Gb := hide (Gb.out.below hb Gb.out.lt)
  replace Ra := hide (Ra.out.next hb)
  replace S := hide (S.out.nextI hb hBz)
  replace M := hide (M.out.nextI hb hBz)
  replace HB := hide (below_next HB.out hb hBz)
  clear hBz
  clear hb
  have Rb := hide hr
  clear hr
  obtain ⟨⟨cGb, -⟩, lGb⟩ := box1 Gb.out
  go_wp2_with fail
  refine (kS.out _ _ _ (Ra.out.src (by rw [hz.out]; omega) rfl) (Rb.out.src (by rw [hm.out]; omega) rfl)).mono ?_
  rintro e w4 ⟨AW0, cW0, AW1, cW1, rfl, hr, hr2, -, hb⟩
  clear cGb lGb
  have hzw4 := hb.size
  have hBz := HB.out.size
  replace Gb := hide (Gb.out.below hb Gb.out.lt)
  replace Ra := hide (Ra.out.next hb)
  replace Rb := hide (Rb.out.next hb)
  replace S := hide (S.out.nextI hb hBz)
  replace M := hide (M.out.nextI hb hBz)
  replace HB := hide (below_next HB.out hb hBz)
  clear hBz
  clear hb
  have W0 := hide (RvI.of hr)
  have W1 := hide (RvI.of hr2)
  clear hr hr2
  clear Ra
  clear Rb
  obtain ⟨⟨cGb, -⟩, lGb⟩ := box1 Gb.out
  go_wp2_with fail
  clear cGb lGb
  obtain ⟨w5, hw5⟩ : ∃ wx, wx = w4.alloc (Obj.cells #[Value.slice AW0 N cW0] 54) := ⟨_, rfl⟩
  have hb : Below w4.heap.size w4 w5 := by rw [hw5]; exact below1 _ _
  have WB := hide (show Blk w5 w4.heap.size 54 #[Value.slice AW0 N cW0] from by rw [hw5]; exact Blk.new _ _ _)
  have hzw5 : w4.heap.size < w5.heap.size := WB.out.lt
  have hBz := HB.out.size
  replace Gb := hide (Gb.out.below hb Gb.out.lt)
  replace W0 := hide (W0.out.next hb)
  replace W1 := hide (W1.out.next hb)
  replace S := hide (S.out.nextI hb hBz)
  replace M := hide (M.out.nextI hb hBz)
  replace HB := hide (below_next HB.out hb hBz)
  clear hBz
  rw [← hw5]
  clear hw5 hb
  obtain ⟨⟨cGb, -⟩, lGb⟩ := box1 Gb.out
  obtain ⟨⟨cWB, -⟩, lWB⟩ := box1 WB.out
  refine (toBufI hz.out hn2 (old_lts HB.out.size) S.out).mono ?_
  rintro e w6 ⟨qR0, rfl, hr, hb⟩
  clear cGb lGb cWB lWB
  have hzw6 := hb.size
  have hBz := HB.out.size
  replace Gb := hide (Gb.out.below hb Gb.out.lt)
  replace WB := hide (WB.out.below hb WB.out.lt)
  replace W0 := hide (W0.out.next hb)
  replace W1 := hide (W1.out.next hb)
  replace S := hide (S.out.nextI hb hBz)
  replace M := hide (M.out.nextI hb hBz)
  replace HB := hide (below_next HB.out hb hBz)
  clear hBz
  clear hb
  have R0 := hide hr
  clear hr
  obtain ⟨⟨cGb, -⟩, lGb⟩ := box1 Gb.out
  obtain ⟨⟨cWB, -⟩, lWB⟩ := box1 WB.out
  go_wp2_with fail
  clear cGb lGb cWB lWB
  obtain ⟨w7, hw7⟩ : ∃ wx, wx = w6.alloc (Obj.cells #[Value.slice (some ⟨qR0, 0, none⟩) n n] 54) := ⟨_, rfl⟩
  have hb : Below w6.heap.size w6 w7 := by rw [hw7]; exact below1 _ _
  have X0 := hide (show Blk w7 w6.heap.size 54 #[Value.slice (some ⟨qR0, 0, none⟩) n n] from by rw [hw7]; exact Blk.new _ _ _)
  have hzw7 : w6.heap.size < w7.heap.size := X0.out.lt
  have hBz := HB.out.size
  replace Gb := hide (Gb.out.below hb Gb.out.lt)
  replace WB := hide (WB.out.below hb WB.out.lt)
  replace W0 := hide (W0.out.next hb)
  replace W1 := hide (W1.out.next hb)
  replace R0 := hide (R0.out.next hb)
  replace S := hide (S.out.nextI hb hBz)
  replace M := hide (M.out.nextI hb hBz)
  replace HB := hide (below_next HB.out hb hBz)
  clear hBz
  rw [← hw7]
  clear hw7 hb
  obtain ⟨⟨cGb, -⟩, lGb⟩ := box1 Gb.out
  obtain ⟨⟨cWB, -⟩, lWB⟩ := box1 WB.out
  obtain ⟨⟨cX0, -⟩, lX0⟩ := box1 X0.out
  refine (toIntSI hm.out hm2 (old_lts HB.out.size) M.out).mono ?_
  rintro e w8 ⟨qR1, rfl, hr, hb⟩
  clear cGb lGb cWB lWB cX0 lX0
  have hzw8 := hb.size
  have hBz := HB.out.size
  replace Gb := hide (Gb.out.below hb Gb.out.lt)
  replace WB := hide (WB.out.below hb WB.out.lt)
  replace X0 := hide (X0.out.below hb X0.out.lt)
  replace W0 := hide (W0.out.next hb)
  replace W1 := hide (W1.out.next hb)
  replace R0 := hide (R0.out.next hb)
  replace S := hide (S.out.nextI hb hBz)
  replace M := hide (M.out.nextI hb hBz)
  replace HB := hide (below_next HB.out hb hBz)
  clear hBz
  clear hb
  have R1 := hide hr
  clear hr
  obtain ⟨⟨cGb, -⟩, lGb⟩ := box1 Gb.out
  obtain ⟨⟨cWB, -⟩, lWB⟩ := box1 WB.out
  obtain ⟨⟨cX0, -⟩, lX0⟩ := box1 X0.out
  go_wp2_with fail
  refine (kP.out _ _ _ (R0.out.src (by rw [hz.out]; omega) rfl) (R1.out.src (by rw [hm.out]; omega) rfl)).mono ?_
  rintro e w9 ⟨AG0, cG0, AG1, cG1, rfl, hr, hr2, -, hb⟩
  clear cGb lGb cWB lWB cX0 lX0
  have hzw9 := hb.size
  have hBz := HB.out.size
  replace Gb := hide (Gb.out.below hb Gb.out.lt)
  replace WB := hide (WB.out.below hb WB.out.lt)
  replace X0 := hide (X0.out.below hb X0.out.lt)
  replace W0 := hide (W0.out.next hb)
  replace W1 := hide (W1.out.next hb)
  replace R0 := hide (R0.out.next hb)
  replace R1 := hide (R1.out.next hb)
  replace S := hide (S.out.nextI hb hBz)
  replace M := hide (M.out.nextI hb hBz)
  replace HB := hide (below_next HB.out hb hBz)
  clear hBz
  clear hb
  have G0 := hide (RvI.of hr)
  have G1 := hide (RvI.of hr2)
  clear hr hr2
  obtain ⟨⟨cGb, -⟩, lGb⟩ := box1 Gb.out
  obtain ⟨⟨cWB, -⟩, lWB⟩ := box1 WB.out
  obtain ⟨⟨cX0, -⟩, lX0⟩ := box1 X0.out
  go_wp2_with fail
  clear cGb lGb cWB lWB cX0 lX0
  obtain ⟨w10, hw10⟩ : ∃ wx, wx = w9.alloc (Obj.cells #[Value.slice AG0 N cG0] 54) := ⟨_, rfl⟩
  have hb : Below w9.heap.size w9 w10 := by rw [hw10]; exact below1 _ _
  have GB := hide (show Blk w10 w9.heap.size 54 #[Value.slice AG0 N cG0] from by rw [hw10]; exact Blk.new _ _ _)
  have hzw10 : w9.heap.size < w10.heap.size := GB.out.lt
  have hBz := HB.out.size
  replace Gb := hide (Gb.out.below hb Gb.out.lt)
  replace WB := hide (WB.out.below hb WB.out.lt)
  replace X0 := hide (X0.out.below hb X0.out.lt)
  replace W0 := hide (W0.out.next hb)
  replace W1 := hide (W1.out.next hb)
  replace R0 := hide (R0.out.next hb)
  replace R1 := hide (R1.out.next hb)
  replace G0 := hide (G0.out.next hb)
  replace G1 := hide (G1.out.next hb)
  replace S := hide (S.out.nextI hb hBz)
  replace M := hide (M.out.nextI hb hBz)
  replace HB := hide (below_next HB.out hb hBz)
  clear hBz
  rw [← hw10]
  clear hw10 hb
  obtain ⟨⟨cGb, -⟩, lGb⟩ := box1 Gb.out
  obtain ⟨⟨cWB, -⟩, lWB⟩ := box1 WB.out
  obtain ⟨⟨cX0, -⟩, lX0⟩ := box1 X0.out
  obtain ⟨⟨cGB, -⟩, lGB⟩ := box1 GB.out
  refine (eqBufI hy.out (by omega) G0.out W0.out).mono ?_
  rintro e w11 ⟨rfl, hb⟩
  clear cGb lGb cWB lWB cX0 lX0 cGB lGB
  have hzw11 := hb.size
  have hBz := HB.out.size
  replace Gb := hide (Gb.out.below hb Gb.out.lt)
  replace WB := hide (WB.out.below hb WB.out.lt)
  replace X0 := hide (X0.out.below hb X0.out.lt)
  replace GB := hide (GB.out.below hb GB.out.lt)
  replace W0 := hide (W0.out.next hb)
  replace W1 := hide (W1.out.next hb)
  replace R0 := hide (R0.out.next hb)
  replace R1 := hide (R1.out.next hb)
  replace G0 := hide (G0.out.next hb)
  replace G1 := hide (G1.out.next hb)
  replace S := hide (S.out.nextI hb hBz)
  replace M := hide (M.out.nextI hb hBz)
  replace HB := hide (below_next HB.out hb hBz)
  clear hBz
  clear hb
  obtain ⟨⟨cGb, -⟩, lGb⟩ := box1 Gb.out
  obtain ⟨⟨cWB, -⟩, lWB⟩ := box1 WB.out
  obtain ⟨⟨cX0, -⟩, lX0⟩ := box1 X0.out
  obtain ⟨⟨cGB, -⟩, lGB⟩ := box1 GB.out
  go_wp2_with fail
  refine (eqIntSI hu.out (by omega) G1.out W1.out).mono ?_
  rintro e w12 ⟨rfl, hb⟩
  clear cGb lGb cWB lWB cX0 lX0 cGB lGB
  have hzw12 := hb.size
  have hBz := HB.out.size
  replace Gb := hide (Gb.out.below hb Gb.out.lt)
  replace WB := hide (WB.out.below hb WB.out.lt)
  replace X0 := hide (X0.out.below hb X0.out.lt)
  replace GB := hide (GB.out.below hb GB.out.lt)
  replace W0 := hide (W0.out.next hb)
  replace W1 := hide (W1.out.next hb)
  replace R0 := hide (R0.out.next hb)
  replace R1 := hide (R1.out.next hb)
  replace G0 := hide (G0.out.next hb)
  replace G1 := hide (G1.out.next hb)
  replace S := hide (S.out.nextI hb hBz)
  replace M := hide (M.out.nextI hb hBz)
  replace HB := hide (below_next HB.out hb hBz)
  clear hBz
  clear hb
  obtain ⟨⟨cGb, -⟩, lGb⟩ := box1 Gb.out
  obtain ⟨⟨cWB, -⟩, lWB⟩ := box1 WB.out
  obtain ⟨⟨cX0, -⟩, lX0⟩ := box1 X0.out
  obtain ⟨⟨cGB, -⟩, lGB⟩ := box1 GB.out
  go_wp2_with fail
  go_cut [67] (fun s wx => s = .bool false ∧ Below w12.heap.size w12 wx)
  case first =>
    have BQ := hide (Below.refl w12.heap.size w12).drew
    have hBz := HB.out.size
    have S := hide (S.out.nextI (Below.refl _ _).drew hBz)
    have X0 := hide (show Blk w12.drew _ _ _ from X0.out)
    have R0 := hide (R0.out.next (Below.refl _ _).drew)
    go_region_law (first
      | (go_simp; refine (toBufI hz.out hn2 (by exact old_lts hBz) S.out).mono ?_; rintro e wa ⟨qa, rfl, hra, hba⟩; have X0a := hide (X0.out.below hba X0.out.lt); have R0a := hide (R0.out.next hba); obtain ⟨⟨ya, -⟩, la⟩ := box1 X0a.out; have Ba := hide (below_then BQ.out hba); have hra := hide hra; go_simp)
      | (go_simp; refine (eqBufI hz.out (by omega) R0a.out hra.out).mono ?_; rintro e wb ⟨rfl, hbb⟩; have Bb := hide (below_then Ba.out hbb); go_simp)
      | fail)
    all_goals
      go_wp2_with fail
      go_meet
      exact ⟨rfl, Bb.out⟩
  case rest =>
    obtain ⟨rfl, hb⟩ := hcut
    obtain ⟨w13, rfl⟩ : ∃ wx : World, wx = wc := ⟨_, rfl⟩
    clear cGb lGb cWB lWB cX0 lX0 cGB lGB
    have hzw13 := hb.size
    have hBz := HB.out.size
    replace Gb := hide (Gb.out.below hb Gb.out.lt)
    replace WB := hide (WB.out.below hb WB.out.lt)
    replace X0 := hide (X0.out.below hb X0.out.lt)
    replace GB := hide (GB.out.below hb GB.out.lt)
    replace W0 := hide (W0.out.next hb)
    replace W1 := hide (W1.out.next hb)
    replace R0 := hide (R0.out.next hb)
    replace R1 := hide (R1.out.next hb)
    replace G0 := hide (G0.out.next hb)
    replace G1 := hide (G1.out.next hb)
    replace S := hide (S.out.nextI hb hBz)
    replace M := hide (M.out.nextI hb hBz)
    replace HB := hide (below_next HB.out hb hBz)
    clear hBz
    clear hb
    obtain ⟨⟨cGb, -⟩, lGb⟩ := box1 Gb.out
    obtain ⟨⟨cWB, -⟩, lWB⟩ := box1 WB.out
    obtain ⟨⟨cX0, -⟩, lX0⟩ := box1 X0.out
    obtain ⟨⟨cGB, -⟩, lGB⟩ := box1 GB.out
    go_wp2_with fail
    refine (toIntSI hm.out hm2 (old_lts HB.out.size) M.out).mono ?_
    rintro e w14 ⟨qR2, rfl, hr, hb⟩
    clear cGb lGb cWB lWB cX0 lX0 cGB lGB
    have hzw14 := hb.size
    have hBz := HB.out.size
    replace Gb := hide (Gb.out.below hb Gb.out.lt)
    replace WB := hide (WB.out.below hb WB.out.lt)
    replace X0 := hide (X0.out.below hb X0.out.lt)
    replace GB := hide (GB.out.below hb GB.out.lt)
    replace W0 := hide (W0.out.next hb)
    replace W1 := hide (W1.out.next hb)
    replace R0 := hide (R0.out.next hb)
    replace R1 := hide (R1.out.next hb)
    replace G0 := hide (G0.out.next hb)
    replace G1 := hide (G1.out.next hb)
    replace S := hide (S.out.nextI hb hBz)
    replace M := hide (M.out.nextI hb hBz)
    replace HB := hide (below_next HB.out hb hBz)
    clear hBz
    clear hb
    have R2 := hide hr
    clear hr
    obtain ⟨⟨cGb, -⟩, lGb⟩ := box1 Gb.out
    obtain ⟨⟨cWB, -⟩, lWB⟩ := box1 WB.out
    obtain ⟨⟨cX0, -⟩, lX0⟩ := box1 X0.out
    obtain ⟨⟨cGB, -⟩, lGB⟩ := box1 GB.out
    go_wp2_with fail
    refine (eqIntSI hm.out (by omega) R1.out R2.out).mono ?_
    rintro e w15 ⟨rfl, hb⟩
    clear cGb lGb cWB lWB cX0 lX0 cGB lGB
    have hzw15 := hb.size
    have hBz := HB.out.size
    replace Gb := hide (Gb.out.below hb Gb.out.lt)
    replace WB := hide (WB.out.below hb WB.out.lt)
    replace X0 := hide (X0.out.below hb X0.out.lt)
    replace GB := hide (GB.out.below hb GB.out.lt)
    replace W0 := hide (W0.out.next hb)
    replace W1 := hide (W1.out.next hb)
    replace R0 := hide (R0.out.next hb)
    replace R1 := hide (R1.out.next hb)
    replace G0 := hide (G0.out.next hb)
    replace G1 := hide (G1.out.next hb)
    replace R2 := hide (R2.out.next hb)
    replace S := hide (S.out.nextI hb hBz)
    replace M := hide (M.out.nextI hb hBz)
    replace HB := hide (below_next HB.out hb hBz)
    clear hBz
    clear hb
    clear R2
    obtain ⟨⟨cGb, -⟩, lGb⟩ := box1 Gb.out
    obtain ⟨⟨cWB, -⟩, lWB⟩ := box1 WB.out
    obtain ⟨⟨cX0, -⟩, lX0⟩ := box1 X0.out
    obtain ⟨⟨cGB, -⟩, lGB⟩ := box1 GB.out
    go_wp2_with fail
    refine (markBufI (k := 1) hz.out (by omega) (by first | omega | exact markZ_ge (by omega)) (by first | omega | exact hzk) R0.out).mono ?_
    rintro e w16 ⟨rfl, hr, hg⟩
    clear cGb lGb cWB lWB cX0 lX0 cGB lGB
    have hzw16 := hg.size
    have hBz := HB.out.size
    replace Gb := hide (Gb.out.grownI hg R0.out (by decide))
    replace WB := hide (WB.out.grownI hg R0.out (by decide))
    replace X0 := hide (X0.out.grownI hg R0.out (by decide))
    replace GB := hide (GB.out.grownI hg R0.out (by decide))
    replace W0 := hide (by first | exact W0.out.grown hg R0.out (by omega) | exact W0.out.grownT hg R0.out (by decide))
    replace W1 := hide (by first | exact W1.out.grown hg R0.out (by omega) | exact W1.out.grownT hg R0.out (by decide))
    replace R1 := hide (by first | exact R1.out.grown hg R0.out (by omega) | exact R1.out.grownT hg R0.out (by decide))
    replace G0 := hide (by first | exact G0.out.grown hg R0.out (by omega) | exact G0.out.grownT hg R0.out (by decide))
    replace G1 := hide (by first | exact G1.out.grown hg R0.out (by omega) | exact G1.out.grownT hg R0.out (by decide))
    replace S := hide (S.out.grownI hg R0.out (by omega) hBz)
    replace M := hide (M.out.grownI hg R0.out (by omega) hBz)
    replace HB := hide (below_grownI HB.out hg R0.out (by omega) hBz)
    replace R0 := hide hr
    clear hBz hg hr
    obtain ⟨⟨cGb, -⟩, lGb⟩ := box1 Gb.out
    obtain ⟨⟨cWB, -⟩, lWB⟩ := box1 WB.out
    obtain ⟨⟨cX0, -⟩, lX0⟩ := box1 X0.out
    obtain ⟨⟨cGB, -⟩, lGB⟩ := box1 GB.out
    go_wp2_with fail
    refine (markIntSI (k := markZ 1 (n * 2)) hm.out (by omega) (by first | omega | exact markZ_ge (by omega)) (by first | omega | exact hzk | exact hzk2) R1.out).mono ?_
    rintro e w17 ⟨rfl, hr, hg⟩
    clear cGb lGb cWB lWB cX0 lX0 cGB lGB
    have hzw17 := hg.size
    have hBz := HB.out.size
    replace Gb := hide (Gb.out.grownI hg R1.out (by decide))
    replace WB := hide (WB.out.grownI hg R1.out (by decide))
    replace X0 := hide (X0.out.grownI hg R1.out (by decide))
    replace GB := hide (GB.out.grownI hg R1.out (by decide))
    replace W0 := hide (by first | exact W0.out.grown hg R1.out (by omega) | exact W0.out.grownT hg R1.out (by decide))
    replace W1 := hide (by first | exact W1.out.grown hg R1.out (by omega) | exact W1.out.grownT hg R1.out (by decide))
    replace R0 := hide (by first | exact R0.out.grown hg R1.out (by omega) | exact R0.out.grownT hg R1.out (by decide))
    replace G0 := hide (by first | exact G0.out.grown hg R1.out (by omega) | exact G0.out.grownT hg R1.out (by decide))
    replace G1 := hide (by first | exact G1.out.grown hg R1.out (by omega) | exact G1.out.grownT hg R1.out (by decide))
    replace S := hide (S.out.grownI hg R1.out (by omega) hBz)
    replace M := hide (M.out.grownI hg R1.out (by omega) hBz)
    replace HB := hide (below_grownI HB.out hg R1.out (by omega) hBz)
    replace R1 := hide hr
    clear hBz hg hr
    clear R0
    clear X0
    clear R1
    obtain ⟨⟨cGb, -⟩, lGb⟩ := box1 Gb.out
    obtain ⟨⟨cWB, -⟩, lWB⟩ := box1 WB.out
    obtain ⟨⟨cGB, -⟩, lGB⟩ := box1 GB.out
    go_wp2_with fail
    refine (eqBufI hy.out (by omega) G0.out W0.out).mono ?_
    rintro e w18 ⟨rfl, hb⟩
    clear cGb lGb cWB lWB cGB lGB
    have hzw18 := hb.size
    have hBz := HB.out.size
    replace Gb := hide (Gb.out.below hb Gb.out.lt)
    replace WB := hide (WB.out.below hb WB.out.lt)
    replace GB := hide (GB.out.below hb GB.out.lt)
    replace W0 := hide (W0.out.next hb)
    replace W1 := hide (W1.out.next hb)
    replace G0 := hide (G0.out.next hb)
    replace G1 := hide (G1.out.next hb)
    replace S := hide (S.out.nextI hb hBz)
    replace M := hide (M.out.nextI hb hBz)
    replace HB := hide (below_next HB.out hb hBz)
    clear hBz
    clear hb
    obtain ⟨⟨cGb, -⟩, lGb⟩ := box1 Gb.out
    obtain ⟨⟨cWB, -⟩, lWB⟩ := box1 WB.out
    obtain ⟨⟨cGB, -⟩, lGB⟩ := box1 GB.out
    go_wp2_with fail
    refine (eqIntSI hu.out (by omega) G1.out W1.out).mono ?_
    rintro e w19 ⟨rfl, hb⟩
    clear cGb lGb cWB lWB cGB lGB
    have hzw19 := hb.size
    have hBz := HB.out.size
    replace Gb := hide (Gb.out.below hb Gb.out.lt)
    replace WB := hide (WB.out.below hb WB.out.lt)
    replace GB := hide (GB.out.below hb GB.out.lt)
    replace W0 := hide (W0.out.next hb)
    replace W1 := hide (W1.out.next hb)
    replace G0 := hide (G0.out.next hb)
    replace G1 := hide (G1.out.next hb)
    replace S := hide (S.out.nextI hb hBz)
    replace M := hide (M.out.nextI hb hBz)
    replace HB := hide (below_next HB.out hb hBz)
    clear hBz
    clear hb
    obtain ⟨⟨cGb, -⟩, lGb⟩ := box1 Gb.out
    obtain ⟨⟨cWB, -⟩, lWB⟩ := box1 WB.out
    obtain ⟨⟨cGB, -⟩, lGB⟩ := box1 GB.out
    go_wp2_with fail
    refine (markBufI (k := 1) hy.out (by omega) (by first | omega | exact markZ_ge (by omega)) (by first | omega | exact hzk) G0.out).mono ?_
    rintro e w20 ⟨rfl, hr, hg⟩
    clear cGb lGb cWB lWB cGB lGB
    have hzw20 := hg.size
    have hBz := HB.out.size
    replace Gb := hide (Gb.out.grownI hg G0.out (by decide))
    replace WB := hide (WB.out.grownI hg G0.out (by decide))
    replace GB := hide (GB.out.grownI hg G0.out (by decide))
    replace W0 := hide (by first | exact W0.out.grown hg G0.out (by omega) | exact W0.out.grownT hg G0.out (by decide))
    replace W1 := hide (by first | exact W1.out.grown hg G0.out (by omega) | exact W1.out.grownT hg G0.out (by decide))
    replace G1 := hide (by first | exact G1.out.grown hg G0.out (by omega) | exact G1.out.grownT hg G0.out (by decide))
    replace S := hide (S.out.grownI hg G0.out (by omega) hBz)
    replace M := hide (M.out.grownI hg G0.out (by omega) hBz)
    replace HB := hide (below_grownI HB.out hg G0.out (by omega) hBz)
    replace G0 := hide hr
    clear hBz hg hr
    obtain ⟨⟨cGb, -⟩, lGb⟩ := box1 Gb.out
    obtain ⟨⟨cWB, -⟩, lWB⟩ := box1 WB.out
    obtain ⟨⟨cGB, -⟩, lGB⟩ := box1 GB.out
    go_wp2_with fail
    refine (markIntSI (k := markZ 1 (N * 2)) hu.out (by omega) (by first | omega | exact markZ_ge (by omega)) (by first | omega | exact hzk | exact hzk2) G1.out).mono ?_
    rintro e w21 ⟨rfl, hr, hg⟩
    clear cGb lGb cWB lWB cGB lGB
    have hzw21 := hg.size
    have hBz := HB.out.size
    replace Gb := hide (Gb.out.grownI hg G1.out (by decide))
    replace WB := hide (WB.out.grownI hg G1.out (by decide))
    replace GB := hide (GB.out.grownI hg G1.out (by decide))
    replace W0 := hide (by first | exact W0.out.grown hg G1.out (by omega) | exact W0.out.grownT hg G1.out (by decide))
    replace W1 := hide (by first | exact W1.out.grown hg G1.out (by omega) | exact W1.out.grownT hg G1.out (by decide))
    replace G0 := hide (by first | exact G0.out.grown hg G1.out (by omega) | exact G0.out.grownT hg G1.out (by decide))
    replace S := hide (S.out.grownI hg G1.out (by omega) hBz)
    replace M := hide (M.out.grownI hg G1.out (by omega) hBz)
    replace HB := hide (below_grownI HB.out hg G1.out (by omega) hBz)
    replace G1 := hide hr
    clear hBz hg hr
    obtain ⟨⟨cGb, -⟩, lGb⟩ := box1 Gb.out
    obtain ⟨⟨cWB, -⟩, lWB⟩ := box1 WB.out
    obtain ⟨⟨cGB, -⟩, lGB⟩ := box1 GB.out
    go_wp2_with fail
    refine (heldBufI (k := 1) (by omega) (by first | omega | exact markZ_ge (by omega)) (by first | omega | exact hzk) G0.out).mono ?_
    rintro e w22 ⟨rfl, hb⟩
    clear cGb lGb cWB lWB cGB lGB
    have hzw22 := hb.size
    have hBz := HB.out.size
    replace Gb := hide (Gb.out.below hb Gb.out.lt)
    replace WB := hide (WB.out.below hb WB.out.lt)
    replace GB := hide (GB.out.below hb GB.out.lt)
    replace W0 := hide (W0.out.next hb)
    replace W1 := hide (W1.out.next hb)
    replace G0 := hide (G0.out.next hb)
    replace G1 := hide (G1.out.next hb)
    replace S := hide (S.out.nextI hb hBz)
    replace M := hide (M.out.nextI hb hBz)
    replace HB := hide (below_next HB.out hb hBz)
    clear hBz
    clear hb
    obtain ⟨⟨cGb, -⟩, lGb⟩ := box1 Gb.out
    obtain ⟨⟨cWB, -⟩, lWB⟩ := box1 WB.out
    obtain ⟨⟨cGB, -⟩, lGB⟩ := box1 GB.out
    go_wp2_with fail
    refine (heldIntSI (k := markZ 1 (N * 2)) (by omega) (by first | omega | exact markZ_ge (by omega)) (by first | omega | exact hzk | exact hzk2) G1.out).mono ?_
    rintro e w23 ⟨rfl, hb⟩
    clear cGb lGb cWB lWB cGB lGB
    have hzw23 := hb.size
    have hBz := HB.out.size
    replace Gb := hide (Gb.out.below hb Gb.out.lt)
    replace WB := hide (WB.out.below hb WB.out.lt)
    replace GB := hide (GB.out.below hb GB.out.lt)
    replace W0 := hide (W0.out.next hb)
    replace W1 := hide (W1.out.next hb)
    replace G0 := hide (G0.out.next hb)
    replace G1 := hide (G1.out.next hb)
    replace S := hide (S.out.nextI hb hBz)
    replace M := hide (M.out.nextI hb hBz)
    replace HB := hide (below_next HB.out hb hBz)
    clear hBz
    clear hb
    obtain ⟨⟨cGb, -⟩, lGb⟩ := box1 Gb.out
    obtain ⟨⟨cWB, -⟩, lWB⟩ := box1 WB.out
    obtain ⟨⟨cGB, -⟩, lGB⟩ := box1 GB.out
    go_wp2_with fail
    refine (toBufI hz.out hn2 (old_lts HB.out.size) S.out).mono ?_
    rintro e w24 ⟨qRh, rfl, hr, hb⟩
    clear cGb lGb cWB lWB cGB lGB
    have hzw24 := hb.size
    have hBz := HB.out.size
    replace Gb := hide (Gb.out.below hb Gb.out.lt)
    replace WB := hide (WB.out.below hb WB.out.lt)
    replace GB := hide (GB.out.below hb GB.out.lt)
    replace W0 := hide (W0.out.next hb)
    replace W1 := hide (W1.out.next hb)
    replace G0 := hide (G0.out.next hb)
    replace G1 := hide (G1.out.next hb)
    replace S := hide (S.out.nextI hb hBz)
    replace M := hide (M.out.nextI hb hBz)
    replace HB := hide (below_next HB.out hb hBz)
    clear hBz
    clear hb
    have Rh := hide hr
    clear hr
    obtain ⟨⟨cGb, -⟩, lGb⟩ := box1 Gb.out
    obtain ⟨⟨cWB, -⟩, lWB⟩ := box1 WB.out
    obtain ⟨⟨cGB, -⟩, lGB⟩ := box1 GB.out
    go_wp2_with fail
    refine (toIntSI hm.out hm2 (old_lts HB.out.size) M.out).mono ?_
    rintro e w25 ⟨qRi, rfl, hr, hb⟩
    clear cGb lGb cWB lWB cGB lGB
    have hzw25 := hb.size
    have hBz := HB.out.size
    replace Gb := hide (Gb.out.below hb Gb.out.lt)
    replace WB := hide (WB.out.below hb WB.out.lt)
    replace GB := hide (GB.out.below hb GB.out.lt)
    replace W0 := hide (W0.out.next hb)
    replace W1 := hide (W1.out.next hb)
    replace G0 := hide (G0.out.next hb)
    replace G1 := hide (G1.out.next hb)
    replace Rh := hide (Rh.out.next hb)
    replace S := hide (S.out.nextI hb hBz)
    replace M := hide (M.out.nextI hb hBz)
    replace HB := hide (below_next HB.out hb hBz)
    clear hBz
    clear hb
    have Ri := hide hr
    clear hr
    obtain ⟨⟨cGb, -⟩, lGb⟩ := box1 Gb.out
    obtain ⟨⟨cWB, -⟩, lWB⟩ := box1 WB.out
    obtain ⟨⟨cGB, -⟩, lGB⟩ := box1 GB.out
    go_wp2_with fail
    refine (kP.out _ _ _ (Rh.out.src (by rw [hz.out]; omega) rfl) (Ri.out.src (by rw [hm.out]; omega) rfl)).mono ?_
    rintro e w26 ⟨AH0, cH0, AH1, cH1, rfl, hr, hr2, -, hb⟩
    clear cGb lGb cWB lWB cGB lGB
    have hzw26 := hb.size
    have hBz := HB.out.size
    replace Gb := hide (Gb.out.below hb Gb.out.lt)
    replace WB := hide (WB.out.below hb WB.out.lt)
    replace GB := hide (GB.out.below hb GB.out.lt)
    replace W0 := hide (W0.out.next hb)
    replace W1 := hide (W1.out.next hb)
    replace G0 := hide (G0.out.next hb)
    replace G1 := hide (G1.out.next hb)
    replace Rh := hide (Rh.out.next hb)
    replace Ri := hide (Ri.out.next hb)
    replace S := hide (S.out.nextI hb hBz)
    replace M := hide (M.out.nextI hb hBz)
    replace HB := hide (below_next HB.out hb hBz)
    clear hBz
    clear hb
    have H0 := hide (RvI.of hr)
    have H1 := hide (RvI.of hr2)
    clear hr hr2
    clear Rh
    clear Ri
    obtain ⟨⟨cGb, -⟩, lGb⟩ := box1 Gb.out
    obtain ⟨⟨cWB, -⟩, lWB⟩ := box1 WB.out
    obtain ⟨⟨cGB, -⟩, lGB⟩ := box1 GB.out
    go_wp2_with fail
    clear cGb lGb cWB lWB cGB lGB
    obtain ⟨w27, hw27⟩ : ∃ wx, wx = w26.alloc (Obj.cells #[Value.slice AH0 N cH0] 54) := ⟨_, rfl⟩
    have hb : Below w26.heap.size w26 w27 := by rw [hw27]; exact below1 _ _
    have HX := hide (show Blk w27 w26.heap.size 54 #[Value.slice AH0 N cH0] from by rw [hw27]; exact Blk.new _ _ _)
    have hzw27 : w26.heap.size < w27.heap.size := HX.out.lt
    have hBz := HB.out.size
    replace Gb := hide (Gb.out.below hb Gb.out.lt)
    replace WB := hide (WB.out.below hb WB.out.lt)
    replace GB := hide (GB.out.below hb GB.out.lt)
    replace W0 := hide (W0.out.next hb)
    replace W1 := hide (W1.out.next hb)
    replace G0 := hide (G0.out.next hb)
    replace G1 := hide (G1.out.next hb)
    replace H0 := hide (H0.out.next hb)
    replace H1 := hide (H1.out.next hb)
    replace S := hide (S.out.nextI hb hBz)
    replace M := hide (M.out.nextI hb hBz)
    replace HB := hide (below_next HB.out hb hBz)
    clear hBz
    rw [← hw27]
    clear hw27 hb
    obtain ⟨⟨cGb, -⟩, lGb⟩ := box1 Gb.out
    obtain ⟨⟨cWB, -⟩, lWB⟩ := box1 WB.out
    obtain ⟨⟨cGB, -⟩, lGB⟩ := box1 GB.out
    obtain ⟨⟨cHX, -⟩, lHX⟩ := box1 HX.out
    refine (eqBufI hy.out (by omega) H0.out W0.out).mono ?_
    rintro e w28 ⟨rfl, hb⟩
    clear cGb lGb cWB lWB cGB lGB cHX lHX
    have hzw28 := hb.size
    have hBz := HB.out.size
    replace Gb := hide (Gb.out.below hb Gb.out.lt)
    replace WB := hide (WB.out.below hb WB.out.lt)
    replace GB := hide (GB.out.below hb GB.out.lt)
    replace HX := hide (HX.out.below hb HX.out.lt)
    replace W0 := hide (W0.out.next hb)
    replace W1 := hide (W1.out.next hb)
    replace G0 := hide (G0.out.next hb)
    replace G1 := hide (G1.out.next hb)
    replace H0 := hide (H0.out.next hb)
    replace H1 := hide (H1.out.next hb)
    replace S := hide (S.out.nextI hb hBz)
    replace M := hide (M.out.nextI hb hBz)
    replace HB := hide (below_next HB.out hb hBz)
    clear hBz
    clear hb
    obtain ⟨⟨cGb, -⟩, lGb⟩ := box1 Gb.out
    obtain ⟨⟨cWB, -⟩, lWB⟩ := box1 WB.out
    obtain ⟨⟨cGB, -⟩, lGB⟩ := box1 GB.out
    obtain ⟨⟨cHX, -⟩, lHX⟩ := box1 HX.out
    go_wp2_with fail
    refine (eqIntSI hu.out (by omega) H1.out W1.out).mono ?_
    rintro e w29 ⟨rfl, hb⟩
    clear cGb lGb cWB lWB cGB lGB cHX lHX
    have hzw29 := hb.size
    have hBz := HB.out.size
    replace Gb := hide (Gb.out.below hb Gb.out.lt)
    replace WB := hide (WB.out.below hb WB.out.lt)
    replace GB := hide (GB.out.below hb GB.out.lt)
    replace HX := hide (HX.out.below hb HX.out.lt)
    replace W0 := hide (W0.out.next hb)
    replace W1 := hide (W1.out.next hb)
    replace G0 := hide (G0.out.next hb)
    replace G1 := hide (G1.out.next hb)
    replace H0 := hide (H0.out.next hb)
    replace H1 := hide (H1.out.next hb)
    replace S := hide (S.out.nextI hb hBz)
    replace M := hide (M.out.nextI hb hBz)
    replace HB := hide (below_next HB.out hb hBz)
    clear hBz
    clear hb
    obtain ⟨⟨cGb, -⟩, lGb⟩ := box1 Gb.out
    obtain ⟨⟨cWB, -⟩, lWB⟩ := box1 WB.out
    obtain ⟨⟨cGB, -⟩, lGB⟩ := box1 GB.out
    obtain ⟨⟨cHX, -⟩, lHX⟩ := box1 HX.out
    go_wp2_with fail
    refine (heldBufI (k := 1) (by omega) (by first | omega | exact markZ_ge (by omega)) (by first | omega | exact hzk) G0.out).mono ?_
    rintro e w30 ⟨rfl, hb⟩
    clear cGb lGb cWB lWB cGB lGB cHX lHX
    have hzw30 := hb.size
    have hBz := HB.out.size
    replace Gb := hide (Gb.out.below hb Gb.out.lt)
    replace WB := hide (WB.out.below hb WB.out.lt)
    replace GB := hide (GB.out.below hb GB.out.lt)
    replace HX := hide (HX.out.below hb HX.out.lt)
    replace W0 := hide (W0.out.next hb)
    replace W1 := hide (W1.out.next hb)
    replace G0 := hide (G0.out.next hb)
    replace G1 := hide (G1.out.next hb)
    replace H0 := hide (H0.out.next hb)
    replace H1 := hide (H1.out.next hb)
    replace S := hide (S.out.nextI hb hBz)
    replace M := hide (M.out.nextI hb hBz)
    replace HB := hide (below_next HB.out hb hBz)
    clear hBz
    clear hb
    obtain ⟨⟨cGb, -⟩, lGb⟩ := box1 Gb.out
    obtain ⟨⟨cWB, -⟩, lWB⟩ := box1 WB.out
    obtain ⟨⟨cGB, -⟩, lGB⟩ := box1 GB.out
    obtain ⟨⟨cHX, -⟩, lHX⟩ := box1 HX.out
    go_wp2_with fail
    refine (heldIntSI (k := markZ 1 (N * 2)) (by omega) (by first | omega | exact markZ_ge (by omega)) (by first | omega | exact hzk | exact hzk2) G1.out).mono ?_
    rintro e w31 ⟨rfl, hb⟩
    clear cGb lGb cWB lWB cGB lGB cHX lHX
    have hzw31 := hb.size
    have hBz := HB.out.size
    replace Gb := hide (Gb.out.below hb Gb.out.lt)
    replace WB := hide (WB.out.below hb WB.out.lt)
    replace GB := hide (GB.out.below hb GB.out.lt)
    replace HX := hide (HX.out.below hb HX.out.lt)
    replace W0 := hide (W0.out.next hb)
    replace W1 := hide (W1.out.next hb)
    replace G0 := hide (G0.out.next hb)
    replace G1 := hide (G1.out.next hb)
    replace H0 := hide (H0.out.next hb)
    replace H1 := hide (H1.out.next hb)
    replace S := hide (S.out.nextI hb hBz)
    replace M := hide (M.out.nextI hb hBz)
    replace HB := hide (below_next HB.out hb hBz)
    clear hBz
    clear hb
    go_wp2_with fail
    go_ret
    exact ⟨rfl, HB.out⟩

theorem exBufFlush_walk (A D : Option Addr) (n c d : Nat) (ms : List Int) (w : World) (hn0 : n ≤ 9223372036854775807) (hS : n ≤ 1048576 → ∃ zs : List Int, zs.length = n * 2 ∧ IntsAt w (Old w.heap.size) A zs) (hM : IntsAt w (Old w.heap.size) D ms) :
    Calls Try.prog 12 #[.agg #[.slice A n c], .slice D ms.length d] w fun e w' => e = .returned (.bool true) ∧ Below w.heap.size w w' := by
  by_cases h1 : ms.length ≤ 1048576
  · by_cases h2 : n ≤ 1048576
    · obtain ⟨zs, hz, hi⟩ := hS h2
      by_cases h0 : n = 0
      · subst h0
        exact exBufFlush_small A D zs ms [] [] 0 c ms.length d 0 0 false w h1 h2 hz rfl hi hM (by omega) (by omega) rfl rfl (fun A' D' w _ _ => sbufFlush_nil A' D' 0 _ _ w) (fun A' D' w _ _ => bufFlush_nil A' D' 0 _ _ w)
      · cases hc : cellB (geti zs 0) ms.length
        · exact exBufFlush_small A D zs ms [] [] n c ms.length d 0 0 false w h1 h2 hz rfl hi hM (by omega) (by omega) rfl rfl (fun A' D' w h _ => sbufFlush_no A' D' zs n n _ _ w hz (by omega) hc h) (fun A' D' w h _ => bufFlush_no A' D' zs n n _ _ w hz (by omega) hc h)
        · exact exBufFlush_small A D zs ms (zs.drop 2) (ms.set (geti zs 0).toNat (geti zs 1)) n c ms.length d (n - 1) ms.length true w h1 h2 hz rfl hi hM (by omega) h1 (by rw [List.length_drop, hz]; omega) (by simp) (fun A' D' w h k => sbufFlush_yes A' D' zs ms n n _ _ w hz (by omega) (Nat.le_refl _) h2 rfl h1 hc h k) (fun A' D' w h k => bufFlush_yes A' D' zs ms n n _ _ w hz (by omega) (Nat.le_refl _) h2 rfl h1 hc h k)
    · exact exBufFlush_bign A D n c ms.length d w hn0 h1 (by omega)
  · exact exBufFlush_bigm A D n c ms.length d w (by omega)
end Go.Proofs.Ytmfjdmhcpgljbaa
