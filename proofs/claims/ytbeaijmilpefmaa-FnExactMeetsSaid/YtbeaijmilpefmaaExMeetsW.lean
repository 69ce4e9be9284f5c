/- The walk of FnExactMeets: it answers true and leaves its arguments. -/
import Derived.Test.YtbeaijmilpefmaaMeetsS
import Derived.Test.YtbeaijmilpefmaaOutI
import Derived.Deep.RegionLaw
import Derived.Deep.DeepCutAuto
import Derived.Deep.DrawnRows
namespace Go.Proofs.Ytbeaijmilpefmaa
open Go.RowKit

attribute [local go_sem ↓] Go.wp_at_zero Go.wp_at_succ

set_option maxHeartbeats 800000 in
theorem exMeets_bign (A D : Option Addr) (n c m d : Nat) (w : World) (hn0 : n ≤ 9223372036854775807) (hn2 : 1048576 < n) :
    Calls Try.prog 3 #[.agg #[.slice A n c], .slice D m d] w fun e w' => e = .returned (.bool true) ∧ Below w.heap.size w w' := by
  have ks := szOut_big (A := A) (c := c) hn0 hn2
  replace ks := hide ks
  clear hn2 hn0
  go_enter Try.func3, Try.ntmps3
  go_wp2_with fail
  refine (ks.out _).mono ?_
  rintro e w1 ⟨rfl, hb1⟩
  go_wp2_with fail
  go_ret
  exact ⟨rfl, below_step hb1⟩
set_option maxHeartbeats 800000 in
theorem exMeets_bigm (A D : Option Addr) (n c m d : Nat) (w : World) (hn2 : n ≤ 1048576) (hm0 : m ≤ 9223372036854775807) (hm2 : 1048576 - n < m) :
    Calls Try.prog 3 #[.agg #[.slice A n c], .slice D m d] w fun e w' => e = .returned (.bool true) ∧ Below w.heap.size w w' := by
  obtain ⟨s, hs1, hs0, ks⟩ := szOut_small (A := A) (c := c) hn2
  have kc := fun w => szCondS_any D m d s w (by omega) (by omega) hm0
  rw [szR_neg (by omega)] at kc
  replace ks := hide ks
  replace kc := hide kc
  replace hs1 := hide hs1
  clear hn2 hm0 hm2
  go_enter Try.func3, Try.ntmps3
  go_wp2_with fail
  refine (ks.out _).mono ?_
  rintro e w1 ⟨rfl, hb1⟩
  go_wp2_with fail
  refine (kc.out _).mono ?_
  rintro e w2 ⟨rfl, rfl⟩
  go_wp2_with fail
  go_ret
  exact ⟨rfl, below_step hb1⟩
set_option maxRecDepth 100000 in
set_option maxHeartbeats 6400000 in
theorem exMeets_small (A D : Option Addr) (rs zs : List Int) (n c m d : Nat) (w : World) (hn2 : n ≤ 1048576) (hm2 : m ≤ 1048576 - n) (hz : rs.length = n) (hm : zs.length = m * 3) (hS : IntsAt w (Old w.heap.size) A rs) (hM : IntsAt w (Old w.heap.size) D zs) :
    Calls Try.prog 3 #[.agg #[.slice A n c], .slice D m d] w fun e w' => e = .returned (.bool true) ∧ Below w.heap.size w w' := by
  obtain ⟨s, hs1, hs0, ks⟩ := szOut_small (A := A) (c := c) hn2
  have kc := fun w => szCondS_any D m d s w (by omega) (by omega) (by omega)
  obtain ⟨s2, hs2, hs20⟩ : ∃ s2 : Int, s2 = szR s m ∧ ¬ s2 < 0 := ⟨_, rfl, by rw [szR_pos (by omega)]; omega⟩
  rw [← hs2] at kc
  replace hs2 := hide hs2
  replace hs1 := hide hs1
  replace hm2 : m ≤ 1048576 := by omega
  have kS := fun A' D' c' d' w => smeets_any A' D' rs zs c' m d' w (by omega) hm2 hm
  have kP := fun A' D' c' d' w => meets_any A' D' rs zs c' m d' w (by omega) hm2 hm
  rw [hz] at kS kP
  generalize meetsB rs zs m = y at *
  replace kS := hide kS
  replace kP := hide kP
  replace ks := hide ks
  replace kc := hide kc
  replace hz := hide hz
  replace hm := hide hm
  obtain ⟨wG, hwG⟩ : ∃ wx, wx = w.alloc (Obj.cells #[Value.slice A n c] 24) := ⟨_, rfl⟩
  have hb : Below w.heap.size w wG := by rw [hwG]; exact below1 _ _
  have Gb := hide (show Blk wG w.heap.size 24 #[Value.slice A n c] from by rw [hwG]; exact Blk.new _ _ _)
  have S := hide (hS.below hb (fun _ h => h))
  have M := hide (hM.below hb (fun _ h => h))
  have HB := hide hb
  have hzG := hb.size
  clear hS hM hb
  go_enter Try.func3, Try.ntmps3
  go_wp2_with fail
  rw [← hwG]
  clear hwG
  obtain ⟨⟨cGb, -⟩, lGb⟩ := box1 Gb.out
  refine (ks.out _).mono ?_
  rintro e w1 ⟨rfl, hb⟩
  clear cGb lGb
  have hzw1 := hb.size
  have hBz := HB.out.size
  replace Gb := hide (Gb.out.below hb Gb.out.lt)
  replace S := hide (S.out.nextI hb hBz)
  replace M := hide (M.out.nextI hb hBz)
  replace HB := hide (below_next HB.out hb hBz)
  clear hBz
  clear hb
  go_wp2_with fail
  refine (kc.out _).mono ?_
  rintro e wz ⟨rfl, rfl⟩
  obtain ⟨⟨cGb, -⟩, lGb⟩ := box1 Gb.out
  go_wp2_with fail
  refine (toOutI hz.out hn2 (old_lts HB.out.size) S.out).mono ?_
  rintro e w2 ⟨qRa, rfl, hr, hb⟩
  clear cGb lGb
  have hzw2 := hb.size
  have hBz := HB.out.size
  replace Gb := hide (Gb.out.below hb Gb.out.lt)
  replace S := hide (S.out.nextI hb hBz)
  replace M := hide (M.out.nextI hb hBz)
  replace HB := hide (below_next HB.out hb hBz)
  clear hBz
  clear hb
  have Ra := hide hr
  clear hr
  obtain ⟨⟨cGb, -⟩, lGb⟩ := box1 Gb.out
  go_wp2_with fail
  refine (toCondSI hm.out hm2 (old_lts HB.out.size) M.out).mono ?_
  rintro e w3 ⟨qRb, rfl, hr, hb⟩
  clear cGb lGb
  have hzw3 := hb.size
  have hBz := HB.out.size
  replace Gb := hide (Gb.out.below hb Gb.out.lt)
  replace Ra := hide (Ra.out.next hb)
  replace S := hide (S.out.nextI hb hBz)
  replace M := hide (M.out.nextI hb hBz)
  replace HB := hide (below_next HB.out hb hBz)
  clear hBz
  clear hb
  have Rb := hide hr
  clear hr
  obtain ⟨⟨cGb, -⟩, lGb⟩ := box1 Gb.out
  go_wp2_with fail
  refine (kS.out _ _ _ _ _ (Ra.out.src (by rw [hz.out]; omega) rfl) (Rb.out.src (by rw [hm.out]; omega) rfl)).mono ?_
  rintro e w4 ⟨rfl, hb⟩
  clear cGb lGb
  have hzw4 := hb.size
  have hBz := HB.out.size
  replace Gb := hide (Gb.out.below hb Gb.out.lt)
  replace Ra := hide (Ra.out.next hb)
  replace Rb := hide (Rb.out.next hb)
  replace S := hide (S.out.nextI hb hBz)
  replace M := hide (M.out.nextI hb hBz)
  replace HB := hide (below_next HB.out hb hBz)
  clear hBz
  clear hb
  clear Ra
  clear Rb
  obtain ⟨⟨cGb, -⟩, lGb⟩ := box1 Gb.out
  go_wp2_with fail
  refine (toOutI hz.out hn2 (old_lts HB.out.size) S.out).mono ?_
  rintro e w5 ⟨qR0, rfl, hr, hb⟩
  clear cGb lGb
  have hzw5 := hb.size
  have hBz := HB.out.size
  replace Gb := hide (Gb.out.below hb Gb.out.lt)
  replace S := hide (S.out.nextI hb hBz)
  replace M := hide (M.out.nextI hb hBz)
  replace HB := hide (below_next HB.out hb hBz)
  clear hBz
  clear hb
  have R0 := hide hr
  clear hr
  obtain ⟨⟨cGb, -⟩, lGb⟩ := box1 Gb.out
  go_wp2_with fail
  clear cGb lGb
  obtain ⟨w6, hw6⟩ : ∃ wx, wx = w5.alloc (Obj.cells #[Value.slice (some ⟨qR0, 0, none⟩) n n] 29) := ⟨_, rfl⟩
  have hb : Below w5.heap.size w5 w6 := by rw [hw6]; exact below1 _ _
  have X0 := hide (show Blk w6 w5.heap.size 29 #[Value.slice (some ⟨qR0, 0, none⟩) n n] from by rw [hw6]; exact Blk.new _ _ _)
  have hzw6 : w5.heap.size < w6.heap.size := X0.out.lt
  have hBz := HB.out.size
  replace Gb := hide (Gb.out.below hb Gb.out.lt)
  replace R0 := hide (R0.out.next hb)
  replace S := hide (S.out.nextI hb hBz)
  replace M := hide (M.out.nextI hb hBz)
  replace HB := hide (below_next HB.out hb hBz)
  clear hBz
  rw [← hw6]
  clear hw6 hb
  obtain ⟨⟨cGb, -⟩, lGb⟩ := box1 Gb.out
  obtain ⟨⟨cX0, -⟩, lX0⟩ := box1 X0.out
  refine (toCondSI hm.out hm2 (old_lts HB.out.size) M.out).mono ?_
  rintro e w7 ⟨qR1, rfl, hr, hb⟩
  clear cGb lGb cX0 lX0
  have hzw7 := hb.size
  have hBz := HB.out.size
  replace Gb := hide (Gb.out.below hb Gb.out.lt)
  replace X0 := hide (X0.out.below hb X0.out.lt)
  replace R0 := hide (R0.out.next hb)
  replace S := hide (S.out.nextI hb hBz)
  replace M := hide (M.out.nextI hb hBz)
  replace HB := hide (below_next HB.out hb hBz)
  clear hBz
  clear hb
  have R1 := hide hr
  clear hr
  obtain ⟨⟨cGb, -⟩, lGb⟩ := box1 Gb.out
  obtain ⟨⟨cX0, -⟩, lX0⟩ := box1 X0.out
  go_wp2_with fail
  refine (kP.out _ _ _ _ _ (R0.out.src (by rw [hz.out]; omega) rfl) (R1.out.src (by rw [hm.out]; omega) rfl)).mono ?_
  rintro e w8 ⟨rfl, hb⟩
  clear cGb lGb cX0 lX0
  have hzw8 := hb.size
  have hBz := HB.out.size
  replace Gb := hide (Gb.out.below hb Gb.out.lt)
  replace X0 := hide (X0.out.below hb X0.out.lt)
  replace R0 := hide (R0.out.next hb)
  replace R1 := hide (R1.out.next hb)
  replace S := hide (S.out.nextI hb hBz)
  replace M := hide (M.out.nextI hb hBz)
  replace HB := hide (below_next HB.out hb hBz)
  clear hBz
  clear hb
  obtain ⟨⟨cGb, -⟩, lGb⟩ := box1 Gb.out
  obtain ⟨⟨cX0, -⟩, lX0⟩ := box1 X0.out
  go_wp2_with fail
  go_cut [39] (fun s wx => s = .bool false ∧ Below w8.heap.size w8 wx)
  case first =>
    have BQ := hide (Below.refl w8.heap.size w8).drew
    have hBz := HB.out.size
    have S := hide (S.out.nextI (Below.refl _ _).drew hBz)
    have X0 := hide (show Blk w8.drew _ _ _ from X0.out)
    have R0 := hide (R0.out.next (Below.refl _ _).drew)
    go_region_law (first
      | (go_simp; refine (toOutI hz.out hn2 (by exact old_lts hBz) S.out).mono ?_; rintro e wa ⟨qa, rfl, hra, hba⟩; have X0a := hide (X0.out.below hba X0.out.lt); have R0a := hide (R0.out.next hba); obtain ⟨⟨ya, -⟩, la⟩ := box1 X0a.out; have Ba := hide (below_then BQ.out hba); have hra := hide hra; go_simp)
      | (go_simp; refine (eqOutI hz.out (by omega) R0a.out hra.out).mono ?_; rintro e wb ⟨rfl, hbb⟩; have Bb := hide (below_then Ba.out hbb); go_simp)
      | fail)
    all_goals
      go_wp2_with fail
      go_meet
      exact ⟨rfl, Bb.out⟩
  case rest =>
    obtain ⟨rfl, hb⟩ := hcut
    obtain ⟨w9, rfl⟩ : ∃ wx : World, wx = wc := ⟨_, rfl⟩
    clear cGb lGb cX0 lX0
    have hzw9 := hb.size
    have hBz := HB.out.size
    replace Gb := hide (Gb.out.below hb Gb.out.lt)
    replace X0 := hide (X0.out.below hb X0.out.lt)
    replace R0 := hide (R0.out.next hb)
    replace R1 := hide (R1.out.next hb)
    replace S := hide (S.out.nextI hb hBz)
    replace M := hide (M.out.nextI hb hBz)
    replace HB := hide (below_next HB.out hb hBz)
    clear hBz
    clear hb
    obtain ⟨⟨cGb, -⟩, lGb⟩ := box1 Gb.out
    obtain ⟨⟨cX0, -⟩, lX0⟩ := box1 X0.out
    go_wp2_with fail
    refine (toCondSI hm.out hm2 (old_lts HB.out.size) M.out).mono ?_
    rintro e w10 ⟨qR2, rfl, hr, hb⟩
    clear cGb lGb cX0 lX0
    have hzw10 := hb.size
    have hBz := HB.out.size
    replace Gb := hide (Gb.out.below hb Gb.out.lt)
    replace X0 := hide (X0.out.below hb X0.out.lt)
    replace R0 := hide (R0.out.next hb)
    replace R1 := hide (R1.out.next hb)
    replace S := hide (S.out.nextI hb hBz)
    replace M := hide (M.out.nextI hb hBz)
    replace HB := hide (below_next HB.out hb hBz)
    clear hBz
    clear hb
    have R2 := hide hr
    clear hr
    obtain ⟨⟨cGb, -⟩, lGb⟩ := box1 Gb.out
    obtain ⟨⟨cX0, -⟩, lX0⟩ := box1 X0.out
    go_wp2_with fail
    refine (eqCondSI hm.out (by omega) R1.out R2.out).mono ?_
    rintro e w11 ⟨rfl, hb⟩
    clear cGb lGb cX0 lX0
    have hzw11 := hb.size
    have hBz := HB.out.size
    replace Gb := hide (Gb.out.below hb Gb.out.lt)
    replace X0 := hide (X0.out.below hb X0.out.lt)
    replace R0 := hide (R0.out.next hb)
    replace R1 := hide (R1.out.next hb)
    replace R2 := hide (R2.out.next hb)
    replace S := hide (S.out.nextI hb hBz)
    replace M := hide (M.out.nextI hb hBz)
    replace HB := hide (below_next HB.out hb hBz)
    clear hBz
    clear hb
    go_wp2_with fail
    go_ret
    exact ⟨rfl, HB.out⟩

theorem exMeets_walk (A D : Option Addr) (rs : List Int) (c m d : Nat) (w : World) (hS : IntsAt w (Old w.heap.size) A rs) (hm0 : m ≤ 9223372036854775807) (hM : m ≤ 1048576 → ∃ zs : List Int, zs.length = m * 3 ∧ IntsAt w (Old w.heap.size) D zs) :
    Calls Try.prog 3 #[.agg #[.slice A rs.length c], .slice D m d] w fun e w' => e = .returned (.bool true) ∧ Below w.heap.size w w' := by
  by_cases h1 : rs.length ≤ 1048576
  · by_cases h2 : m ≤ 1048576 - rs.length
    · obtain ⟨zs, hz, hi⟩ := hM (by omega)
      exact exMeets_small A D rs zs rs.length c m d w h1 h2 rfl hz hS hi
    · exact exMeets_bigm A D rs.length c m d w h1 hm0 (by omega)
  · exact exMeets_bign A D rs.length c m d w hS.1 (by omega)
end Go.Proofs.Ytbeaijmilpefmaa
