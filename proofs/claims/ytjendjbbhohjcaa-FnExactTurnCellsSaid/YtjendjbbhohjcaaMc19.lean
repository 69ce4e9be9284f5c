/- FnExactTurnCells: for every program and every row of numbers, TurnCells answers as the model does, leaves its arguments as they were, and its answer owns its memory. No condition. -/
import Derived.Test.YtjendjbbhohjcaaMc0
import Derived.Test.YtjendjbbhohjcaaMc1
import Derived.Test.YtjendjbbhohjcaaMc2
import Derived.Test.YtjendjbbhohjcaaMc7
import Derived.Test.YtjendjbbhohjcaaMc15
import Derived.Test.YtjendjbbhohjcaaMc18
import Derived.Deep.RegionHeld3
import Derived.Deep.DeepCutAuto
namespace Go.Proofs.Ytjendjbbhohjcaa
open Go.RowKit

set_option maxRecDepth 100000 in
set_option maxHeartbeats 25600000 in
theorem exactTurnCells_in (p : ProgD) (A1 A2 A : Option Addr) (c1 c2 m c : Nat) (zs : List Int) (w : World) (hp : ProgAt w (Old w.heap.size) (.agg #[.slice A1 p.init.length c1, .slice A2 p.ts.length c2]) p) (hz : zs.length = m) (hA : IntsAt w (Old w.heap.size) A zs) :
    Calls Try.prog 8 #[.agg #[.slice A1 p.init.length c1, .slice A2 p.ts.length c2], .slice A m c] w fun e w' => e = .returned (.bool true) ∧ Below w.heap.size w w' := by
  have hm9 : m ≤ 9223372036854775807 := by rw [← hz]; exact hA.1
  obtain ⟨n, hn⟩ : ∃ n, n = w.heap.size := ⟨_, rfl⟩
  have hb0 := hide (below1 w (Obj.cells #[.slice A1 p.init.length c1, .slice A2 p.ts.length c2] 58))
  have hE0 := hide (show EpR n A1 A2 c1 c2 p (w.alloc (Obj.cells #[.slice A1 p.init.length c1, .slice A2 p.ts.length c2] 58)) from by
    subst hn
    exact ⟨Blk.new w 58 #[.slice A1 p.init.length c1, .slice A2 p.ts.length c2], hp.below hb0.out (fun _ h => h)⟩)
  have hA0 := hide (show IntsAt (w.alloc (Obj.cells #[.slice A1 p.init.length c1, .slice A2 p.ts.length c2] 58)) (Old n) A zs from by
    subst hn
    exact hA.below hb0.out (fun _ h => h))
  rw [← hn] at hb0
  clear hp hA
  replace hz := hide hz
  obtain ⟨w0, hw0⟩ : ∃ wq, wq = w.alloc (Obj.cells #[.slice A1 p.init.length c1, .slice A2 p.ts.length c2] 58) := ⟨_, rfl⟩
  rw [← hw0] at hE0 hb0 hA0
  obtain ⟨x0, x1⟩ := hE0.out.cells
  have lE := hE0.out.bp.lt
  by_cases hbig : 1048576 < m
  · have hb' : decide ((1048576 : Int) < (m : Int)) = true := decide_eq_true (by omega)
    go_enter Try.func8, Try.ntmps8
    go_wp2_with fail
    try rw [← hw0]
    go_ret
    rw [hn] at hb0
    exact ⟨rfl, hb0.out⟩
  have hb' : decide ((1048576 : Int) < (m : Int)) = false := decide_eq_false (by omega)
  have hm : m ≤ 1048576 := by omega
  go_enter Try.func8, Try.ntmps8
  go_upto_region 4 with fail
  rw [← hw0, ← hn]
  replace hn := hide hn
  clear hw0
  go_wp2_with fail
  clear x0 x1 lE
  refine (szProg_any p _ (Old n) 1048576 w0 (by omega) (by omega) hE0.out.lts hE0.out.pr).mono ?_
  rintro e w1 ⟨rfl, hb1⟩
  have H1 := hide (hE0.out.next hb1)
  have B1 := hide (hb0.out.trans (hb1.mono (Nat.le_of_lt hE0.out.bp.lt)))
  have Z1 := hide (hA0.out.below hb1 hE0.out.lts)
  clear hE0 hb1 hb0 hA0
  by_cases hz1 : (1048576 : Int) < progSize p
  · rw [szR_neg hz1]
    clear hz1
    go_wp2_with fail
    go_ret
    rw [← hn.out]
    exact ⟨rfl, B1.out⟩
  · rw [szR_pos hz1]
    obtain ⟨left2, hleft2⟩ : ∃ l : Int, l = 1048576 - (progSize p : Int) := ⟨_, rfl⟩
    rw [← hleft2]
    have hlt0 : decide (left2 < 0) = false := decide_eq_false (by omega)
    have hzp : progSize p ≤ 1048576 := by omega
    replace hzp := hide hzp
    have kS := fun A1 A2 A c1 c2 c w (a : PArg w A1 A2 c1 c2 p) (ha : IntsAt w (Old w.heap.size) A zs) => scells_any (.agg #[.slice A1 p.init.length c1, .slice A2 p.ts.length c2]) p A zs m c w ⟨A1, c1, A2, c2, rfl, a.cc, a.ini, a.ts⟩ ha hz.out
    have kI := fun A1 A2 A c1 c2 c w (a : PArg w A1 A2 c1 c2 p) (ha : IntsAt w (Old w.heap.size) A zs) => pcells_any (.agg #[.slice A1 p.init.length c1, .slice A2 p.ts.length c2]) p A zs m c w ⟨A1, c1, A2, c2, rfl, a.cc, a.ini, a.ts⟩ ha hz.out
    have hqs := tcQ_size p zs
    generalize tcQ p zs = qd at kS kI hqs
    generalize tcB p zs = ok at kS kI
    replace kS := hide kS
    replace kI := hide kI
    replace hqs := hide hqs
    clear hz1 hleft2
    obtain ⟨x0, x1⟩ := H1.out.cells
    have lE := H1.out.bp.lt
    go_wp2_with fail
    clear x0 x1 lE
    refine (H1.out.copy hzp.out).mono ?_
    rintro e w2 ⟨q0, qt, rfl, hc2, hb2⟩
    have C2 := hide hc2
    have H2 := hide (H1.out.next hb2)
    have Z2 := hide (Z1.out.below hb2 (old_lts (Nat.le_of_lt H1.out.bp.lt)))
    have B2 := hide (B1.out.trans (hb2.mono (Nat.le_of_lt H1.out.bp.lt)))
    clear hc2 hb2 H1 B1 Z1
    go_wp2_with fail
    refine (toIntSI hz.out hm (old_lts (Nat.le_of_lt H2.out.bp.lt)) Z2.out).mono ?_
    rintro e w3 ⟨q8, rfl, hr3, hb3⟩
    have C3 := hide (C2.out.next hb3)
    have R3 := hide hr3
    have H3 := hide (H2.out.next hb3)
    have Z3 := hide (Z2.out.below hb3 (old_lts (Nat.le_of_lt H2.out.bp.lt)))
    have B3 := hide (B2.out.trans (hb3.mono (Nat.le_of_lt H2.out.bp.lt)))
    clear hr3 hb3 H2 B2 Z2 C2
    go_wp2_with fail
    refine (kS.out _ _ _ _ _ _ _ (C3.out.arg hzp.out) (R3.out.src (by have := hz.out; omega) rfl)).mono ?_
    rintro e w4 hr4
    obtain ⟨A5, c5, A6, c6, vs0, rfl, hr4, hb4⟩ := hr4.form
    have hb5 := below1 w4 (Obj.cells #[.slice A5 qd.init.length c5, .slice A6 qd.ts.length c6] 37)
    have hb45 := below_then hb4 hb5
    have H5 := hide (H3.out.next hb45)
    have Z5 := hide (Z3.out.below hb45 (old_lts (Nat.le_of_lt H3.out.bp.lt)))
    have B5 := hide (B3.out.trans (hb45.mono (Nat.le_of_lt H3.out.bp.lt)))
    have P5 := hide (hr4.next hb5)
    have X5 := hide (Blk.new w4 37 #[.slice A5 qd.init.length c5, .slice A6 qd.ts.length c6])
    have N5 := hide (show n < w4.heap.size from Nat.lt_of_lt_of_le H3.out.bp.lt hb4.size)
    clear hr4 hb4 hb5 hb45 H3 Z3 B3 C3 R3
    obtain ⟨x0, x1⟩ := H5.out.cells
    have lE := H5.out.bp.lt
    go_wp2_with fail
    clear x0 x1 lE
    obtain ⟨w5, hw5⟩ : ∃ wq, wq = w4.alloc (Obj.cells #[.slice A5 qd.init.length c5, .slice A6 qd.ts.length c6] 37) := ⟨_, rfl⟩
    rw [← hw5] at H5 Z5 B5 P5 X5 ⊢
    obtain ⟨l0, hl0⟩ : ∃ x, x = w3.heap.size := ⟨_, rfl⟩
    rw [← hl0] at P5
    obtain ⟨b6, hb6⟩ : ∃ x, x = w4.heap.size := ⟨_, rfl⟩
    rw [← hb6] at X5 P5 N5 ⊢
    have K5 := hide (show FX n b6 l0 b6 A1 A2 A A5 A6 c1 c2 c5 c6 p qd zs vs0 w5 from ⟨H5.out, Z5.out, X5.out, P5.out, N5.out, Nat.le_refl _⟩)
    clear hw5 hl0 hb6 H5 Z5 X5 P5 N5
    obtain ⟨h0, hh0⟩ : ∃ x, x = b6 := ⟨_, rfl⟩
    have H5 := hide (show FX n b6 l0 h0 A1 A2 A A5 A6 c1 c2 c5 c6 p qd zs vs0 w5 from by rw [hh0]; exact K5.out)
    clear hh0 K5
    refine (H5.out.e.copy hzp.out).mono ?_
    rintro e w6 ⟨q1, qu, rfl, hc6, hb6⟩
    have hb7 := below1 w6 (Obj.cells #[.slice (some ⟨q1, 0, none⟩) p.init.length p.init.length, .slice (some ⟨qu, 0, none⟩) p.ts.length p.ts.length] 37)
    have C7 := hide (hc6.next hb7)
    have I7 := hide (hc6.in_.next hb7)
    have X7 := hide (Blk.new w6 37 #[.slice (some ⟨q1, 0, none⟩) p.init.length p.init.length, .slice (some ⟨qu, 0, none⟩) p.ts.length p.ts.length])
    have hb67 := below_then hb6 hb7
    have H7 := hide (H5.out.next hb67)
    have B7 := hide (B5.out.trans (hb67.mono H5.out.nle))
    have L7 := hide (show b6 < w5.heap.size from H5.out.x.lt)
    have M7 := hide hb6.size
    clear hc6 hb6 hb7 hb67 H5 B5
    go_wp2_with fail
    obtain ⟨w7, hw7⟩ : ∃ wq, wq = w6.alloc (Obj.cells #[.slice (some ⟨q1, 0, none⟩) p.init.length p.init.length, .slice (some ⟨qu, 0, none⟩) p.ts.length p.ts.length] 37) := ⟨_, rfl⟩
    rw [← hw7] at C7 I7 X7 H7 B7 ⊢
    obtain ⟨lo, hlo⟩ : ∃ x, x = w5.heap.size := ⟨_, rfl⟩
    rw [← hlo] at C7 I7 L7 M7
    obtain ⟨b8, hb8⟩ : ∃ x, x = w6.heap.size := ⟨_, rfl⟩
    rw [← hb8] at I7 X7 M7 ⊢
    clear hw7 hlo hb8
    go_wp2_with fail
    refine (toIntSI hz.out hm (old_lts (Nat.le_of_lt H7.out.e.bp.lt)) H7.out.s).mono ?_
    rintro e w8 ⟨q9, rfl, hr8, hb8⟩
    have R8 := hide hr8
    have AD := hide hb8.size
    have V8 := hide (show b8 < w7.heap.size from X7.out.lt)
    have H8 := hide (H7.out.next hb8)
    have B8 := hide (B7.out.trans (hb8.mono H7.out.nle))
    have C8 := hide (C7.out.next hb8)
    have I8 := hide (I7.out.next hb8)
    have X8 := hide (X7.out.next hb8)
    clear H7 B7 C7 I7 X7 hr8 hb8
    obtain ⟨a1, ha1⟩ : ∃ x, x = w7.heap.size := ⟨_, rfl⟩
    obtain ⟨d1, hd1⟩ : ∃ x, x = w8.heap.size := ⟨_, rfl⟩
    rw [← ha1, ← hd1] at R8 AD
    rw [← ha1] at V8
    have U8 := hide (show d1 ≤ w8.heap.size from Nat.le_of_eq hd1)
    clear ha1 hd1
    have lX := X8.out.lt
    have z0 := X8.out.cell 0
    have z1 := X8.out.cell 1
    simp only [List.getElem?_toArray, List.getElem?_cons_zero, List.getElem?_cons_succ] at z0 z1
    go_wp2_with fail
    clear z0 z1 lX
    refine (kI.out _ _ _ _ _ _ _ (C8.out.arg hzp.out) (R8.out.src (by have := hz.out; omega) rfl)).mono ?_
    rintro e w9 hr9
    obtain ⟨A7, c7, A8, c8, vs1, rfl, hr9, hb9⟩ := hr9.form
    have hb10 := below1 w9 (Obj.cells #[.slice A7 qd.init.length c7, .slice A8 qd.ts.length c8] 37)
    have hb90 := below_then hb9 hb10
    have W9 := hide hb9.size
    have G10 := hide (hr9.next hb10)
    have Y10 := hide (Blk.new w9 37 #[.slice A7 qd.init.length c7, .slice A8 qd.ts.length c8])
    have H10 := hide (H8.out.next hb90)
    have B10 := hide (B8.out.trans (hb90.mono H8.out.nle))
    have C10 := hide (C8.out.next hb90)
    have I10 := hide (I8.out.next hb90)
    have X10 := hide (X8.out.next hb90)
    have R10 := hide (R8.out.next hb90)
    clear H8 B8 C8 I8 X8 R8 hr9 hb9 hb10 hb90
    have lY := Y10.out.lt
    have lZ := H10.out.x.lt
    have y0 := Y10.out.cell 0
    have y1 := Y10.out.cell 1
    obtain ⟨x0, x1⟩ := H10.out.cells6
    simp only [List.getElem?_toArray, List.getElem?_cons_zero, List.getElem?_cons_succ] at y0 y1
    go_wp2_with fail
    clear y0 y1 x0 x1 lY lZ
    obtain ⟨w10, hw10⟩ : ∃ wq, wq = w9.alloc (Obj.cells #[.slice A7 qd.init.length c7, .slice A8 qd.ts.length c8] 37) := ⟨_, rfl⟩
    rw [← hw10] at G10 Y10 C10 I10 X10 R10 H10 B10 ⊢
    obtain ⟨l1, hl1⟩ : ∃ x, x = w8.heap.size := ⟨_, rfl⟩
    rw [← hl1] at G10 U8 W9
    obtain ⟨b10, hb10⟩ : ∃ x, x = w9.heap.size := ⟨_, rfl⟩
    rw [← hb10] at G10 Y10 W9 ⊢
    clear hw10 hl1 hb10
    obtain ⟨h1, hh1⟩ : ∃ x, x = b10 := ⟨_, rfl⟩
    have K10 := hide (show PrI w10 l1 h1 qd (.slice A7 qd.init.length c7) (.slice A8 qd.ts.length c8) vs1 from by rw [hh1]; exact G10.out)
    have T10 := hide (show h1 ≤ b10 from Nat.le_of_eq hh1)
    have O := hide (show n < b6 ∧ h0 ≤ b6 ∧ b6 < lo ∧ lo ≤ b8 ∧ b8 < a1 ∧ a1 ≤ d1 ∧ d1 ≤ l1 ∧ l1 ≤ h1 ∧ h1 ≤ b10 from ⟨H10.out.b.1, H10.out.b.2, L7.out, M7.out, V8.out, AD.out, U8.out, by have := W9.out; omega, T10.out⟩)
    clear hh1 G10 L7 M7 V8 AD U8 W9 T10
    have G10 := hide K10.out
    clear K10
    refine (G10.out.eq H10.out.w0).mono ?_
    rintro e w11 ⟨rfl, hb11⟩
    have H11 := hide (H10.out.next hb11)
    have B11 := hide (B10.out.trans (hb11.mono H10.out.nle))
    have C11 := hide (C10.out.next hb11)
    have I11 := hide (I10.out.next hb11)
    have X11 := hide (X10.out.next hb11)
    have R11 := hide (R10.out.next hb11)
    have G11 := hide (G10.out.next hb11)
    have Y11 := hide (Y10.out.next hb11)
    clear H10 B10 C10 I10 X10 R10 G10 Y10 hb11
    go_wp2_with fail
    have H13 := hide (H11.out.next (Below.refl _ _).drew)
    have C13 := hide (C11.out.next (Below.refl _ _).drew)
    have I13 := hide (I11.out.next (Below.refl _ _).drew)
    have X13 := hide (X11.out.next (Below.refl _ _).drew)
    have Y13 := hide (Y11.out.next (Below.refl _ _).drew)
    have R13 := hide (R11.out.next (Below.refl _ _).drew)
    have G13 := hide (G11.out.next (Below.refl _ _).drew)
    have B13 := hide B11.out.drew
    clear H11 B11 C11 I11 X11 R11 G11 Y11
    refine wp_region_held_drew (S := (fun w' => (w'.cell? ⟨n, 0, none⟩ = some (.slice A1 p.init.length c1) ∧ w'.cell? ⟨n, 1, none⟩ = some (.slice A2 p.ts.length c2)) ∧ w'.cell? ⟨b8, 0, none⟩ = some (.slice (some ⟨q1, 0, none⟩) p.init.length p.init.length) ∧ w'.cell? ⟨b8, 1, none⟩ = some (.slice (some ⟨qu, 0, none⟩) p.ts.length p.ts.length))) (by kernel_rfl) ?_ (fun hHeld => ?_)
    · exact cells14 H13.out.e X13.out
    refine wpAnyH_take (i := 0) (oi := { dst := some 52, op := Op.load 37 (.tmp 8), type := 37, pos := "exact.go:3456", after := #[], guard := none }) (v := ?_) rfl (by kernel_rfl) (by kernel_rfl) (by kernel_rfl) (fun _ _ _ h => h) (Or.inl ⟨by rfl, ?_⟩) hHeld ?_
    rotate_left
    · (intro wq hSw; (try dsimp only at hSw); first | (go_simp; done) | (go_simp; with_reducible rfl))
    try simp only [Act.put, qa, qb, qc]
    refine wpAnyH_take (i := 1) (oi := { dst := some 53, op := Op.load 58 (.tmp 2), type := 58, pos := "exact.go:3456", after := #[], guard := none }) (v := ?_) rfl (by kernel_rfl) (by kernel_rfl) (by kernel_rfl) (fun _ _ _ h => h) (Or.inl ⟨by rfl, ?_⟩) hHeld ?_
    rotate_left
    · (intro wq hSw; (try dsimp only at hSw); first | (go_simp; done) | (go_simp; with_reducible rfl))
    try simp only [Act.put, qa, qb, qc]
    refine wpAnyH_ready (rs := [2]) (by kernel_rfl) (by simp) ?_
    refine AllReadyH.cons (o := { dst := some 54, op := Op.call { callee := Callee.value (.func 41), args := #[.tmp 53], argTypes := #[58] }, type := 37, pos := "exact.go:3456", after := #[⟨1, .data⟩], guard := none }) rfl (fun K hK => ?_) AllReadyH.nil
    go_simp
    go_at_call 41; refine (H13.out.e.copy hzp.out).mono ?_; rintro e w14 ⟨q2, qv, rfl, hc14, hb14⟩; have K14 := hide hc14; have H14 := hide (H13.out.next hb14); have B14 := hide (B13.out.trans (hb14.mono H13.out.nle)); have C14 := hide (C13.out.next hb14); have X14 := hide (X13.out.next hb14); have Y14 := hide (Y13.out.next hb14); have R14 := hide (R13.out.next hb14); have I14 := hide (I13.out.next hb14); have G14 := hide (G13.out.next hb14); clear hc14 hb14
    refine hK.out _ _ ?_ (fun hHeldN => ?_)
    · exact cells14 H14.out.e X14.out
    clear hK K hHeld
    have hHeld := hHeldN
    clear hHeldN
    try simp only [Act.put, qa, qb, qc]
    refine wpAnyH_ready (rs := [3]) (by kernel_rfl) (by simp) ?_
    refine AllReadyH.cons (o := { dst := some 55, op := Op.call { callee := Callee.value (.func 44), args := #[.tmp 52, .tmp 54], argTypes := #[37, 37] }, type := 4, pos := "exact.go:3456", after := #[⟨0, .data⟩, ⟨2, .data⟩, ⟨2, .chain⟩], guard := none }) rfl (fun K hK => ?_) AllReadyH.nil
    go_simp
    go_at_call 44; refine (C14.out.same K14.out hzp.out).mono ?_; rintro e w15 ⟨rfl, hb15⟩; have H15 := hide (H14.out.next hb15); have B15 := hide (B14.out.trans (hb15.mono H14.out.nle)); have X15 := hide (X14.out.next hb15); have Y15 := hide (Y14.out.next hb15); have R15 := hide (R14.out.next hb15); have I15 := hide (I14.out.next hb15); have G15 := hide (G14.out.next hb15); clear hb15
    refine hK.out _ _ ?_ (fun hHeldN => ?_)
    · exact cells14 H15.out.e X15.out
    clear hK K hHeld
    have hHeld := hHeldN
    clear hHeldN
    try simp only [Act.put, qa, qb, qc]
    refine wpAnyH_take (i := 4) (oi := { dst := some 56, op := Op.unOp UnOp.not 4 (.tmp 55), type := 4, pos := "exact.go:3456", after := #[⟨3, .data⟩], guard := none }) (v := ?_) rfl (by kernel_rfl) (by kernel_rfl) (by kernel_rfl) (fun _ _ _ h => h) (Or.inl ⟨by rfl, ?_⟩) hHeld ?_
    rotate_left
    · (intro wq hSw; (try dsimp only at hSw); first | (go_simp; done) | (go_simp; with_reducible rfl))
    try simp only [Act.put, qa, qb, qc]
    refine wpAnyH_done (by kernel_rfl) ?_ _
    clear hHeld C14 K14 H13 B13 X13 Y13 R13 I13 G13 H14 B14 X14 Y14 R14 I14 G14 C13
    go_wp2_with fail
    refine (toIntSI hz.out hm (old_lts (Nat.le_of_lt H15.out.e.bp.lt)) H15.out.s).mono ?_
    rintro e w16 ⟨q10, rfl, hr16, hb16⟩
    have K16 := hide hr16
    have H16 := hide (H15.out.next hb16)
    have B16 := hide (B15.out.trans (hb16.mono H15.out.nle))
    have X16 := hide (X15.out.next hb16)
    have Y16 := hide (Y15.out.next hb16)
    have R16 := hide (R15.out.next hb16)
    have I16 := hide (I15.out.next hb16)
    have G16 := hide (G15.out.next hb16)
    clear H15 B15 X15 Y15 R15 I15 G15 hr16 hb16
    go_wp2_with fail
    refine (eqIntSI hz.out (by omega) R16.out K16.out).mono ?_
    rintro e w17 ⟨rfl, hb17⟩
    have H17 := hide (H16.out.next hb17)
    have B17 := hide (B16.out.trans (hb17.mono H16.out.nle))
    have X17 := hide (X16.out.next hb17)
    have Y17 := hide (Y16.out.next hb17)
    have R17 := hide (R16.out.next hb17)
    have I17 := hide (I16.out.next hb17)
    have G17 := hide (G16.out.next hb17)
    clear H16 B16 X16 Y16 R16 I16 G16 K16 hb17
    have lX := X17.out.lt
    have z0 := X17.out.cell 0
    have z1 := X17.out.cell 1
    simp only [List.getElem?_toArray, List.getElem?_cons_zero, List.getElem?_cons_succ] at z0 z1
    go_wp2_with fail
    clear z0 z1 lX
    refine (I17.out.mark hzp.out).mono ?_
    rintro e w18 ⟨⟨mk, rfl, hmk⟩, hi18⟩
    have hO := O.out
    have hll := Y17.out.lt
    have H18 := hide (H17.out.inn hi18 (by omega) (by omega) (by omega) (by omega))
    have B18 := hide (B17.out.trans ((hi18.below (by omega)).mono (by omega)))
    have R18 := hide (R17.out.inn hi18 (by omega))
    have G18 := hide (G17.out.inn hi18 (by omega))
    have Y18 := hide (blk_inn Y17.out hi18 (by omega))
    clear hi18 H17 B17 R17 G17 Y17 X17 I17 hll hO
    go_wp2_with fail
    refine (markIntSI (k := (mk : Int)) hz.out hm (by omega) (by omega) R18.out).mono ?_
    rintro e w19 ⟨rfl, hv19, hg19⟩
    have hi19 := inn_grown hg19 (fun x hx => ⟨(R18.out.1.own_lt hx).1, R18.out.2 x hx⟩)
    have hO := O.out
    have hll := Y18.out.lt
    have H19 := hide (H18.out.inn hi19 (by omega) (by omega) (by omega) (by omega))
    have B19 := hide (B18.out.trans ((hi19.below (by omega)).mono (by omega)))
    have G19 := hide (G18.out.inn hi19 (by omega))
    have Y19 := hide (blk_inn Y18.out hi19 (by omega))
    clear hi19 hv19 hg19 H18 B18 R18 G18 Y18 hll hO
    obtain ⟨mz, hmz⟩ : ∃ mz, mz = markZ (mk : Int) m := ⟨_, rfl⟩
    have hmz0 : decide (mz < 0) = false := decide_eq_false (by rw [hmz]; exact markZ_nonneg (by omega))
    rw [← hmz]
    clear hmz hmk
    have lY := Y19.out.lt
    have lZ := H19.out.x.lt
    have y0 := Y19.out.cell 0
    have y1 := Y19.out.cell 1
    obtain ⟨x0, x1⟩ := H19.out.cells6
    simp only [List.getElem?_toArray, List.getElem?_cons_zero, List.getElem?_cons_succ] at y0 y1
    go_wp2_with fail
    clear y0 y1 x0 x1 lY lZ hmz0
    refine (G19.out.eq H19.out.w0).mono ?_
    rintro e w20 ⟨rfl, hb20⟩
    have H20 := hide (H19.out.next hb20)
    have B20 := hide (B19.out.trans (hb20.mono H19.out.nle))
    have G20 := hide (G19.out.next hb20)
    have Y20 := hide (Y19.out.next hb20)
    clear H19 B19 G19 Y19 hb20
    have lY := Y20.out.lt
    have y0 := Y20.out.cell 0
    have y1 := Y20.out.cell 1
    simp only [List.getElem?_toArray, List.getElem?_cons_zero, List.getElem?_cons_succ] at y0 y1
    go_wp2_with fail
    clear y0 y1 lY
    refine (G20.out.mark hqs.out).mono ?_
    rintro e w21 ⟨rfl, hg21, hi21⟩
    have hO := O.out
    have hll := Y20.out.lt
    have H21 := hide (H20.out.inn hi21 (by omega) (by omega) (by omega) (by omega))
    have B21 := hide (B20.out.trans ((hi21.below (by omega)).mono (by omega)))
    have Y21 := hide (blk_inn Y20.out hi21 (by omega))
    have G21 := hide hg21
    clear hi21 hg21 H20 B20 G20 Y20 hll hO
    obtain ⟨mz, hmz⟩ : ∃ mz : Int, mz = (markM qd : Int) := ⟨_, rfl⟩
    have hmz0 : decide (mz < 0) = false := decide_eq_false (by omega)
    have hmm : (mz != mz) = false := by simp
    rw [← hmz]
    replace hmz := hide hmz
    have lY := Y21.out.lt
    have y0 := Y21.out.cell 0
    have y1 := Y21.out.cell 1
    simp only [List.getElem?_toArray, List.getElem?_cons_zero, List.getElem?_cons_succ] at y0 y1
    go_wp2_with fail
    clear y0 y1 lY
    have kh := G21.out.held hqs.out
    rw [← hmz.out] at kh
    refine kh.mono ?_
    rintro e w22 ⟨rfl, hb22⟩
    clear kh
    have H22 := hide (H21.out.next hb22)
    have B22 := hide (B21.out.trans (hb22.mono H21.out.nle))
    have G22 := hide (G21.out.next hb22)
    have Y22 := hide (Y21.out.next hb22)
    clear H21 B21 G21 Y21 hb22
    obtain ⟨x0, x1⟩ := H22.out.e.cells
    have lE := H22.out.e.bp.lt
    go_wp2_with fail
    clear x0 x1 lE
    refine (H22.out.e.copy hzp.out).mono ?_
    rintro e w23 ⟨q3, qx, rfl, hc23, hb23⟩
    have C23 := hide hc23
    have H23 := hide (H22.out.next hb23)
    have B23 := hide (B22.out.trans (hb23.mono H22.out.nle))
    have G23 := hide (G22.out.next hb23)
    have Y23 := hide (Y22.out.next hb23)
    clear H22 B22 G22 Y22 hc23 hb23
    go_wp2_with fail
    refine (toIntSI hz.out hm (old_lts (Nat.le_of_lt H23.out.e.bp.lt)) H23.out.s).mono ?_
    rintro e w24 ⟨q11, rfl, hr24, hb24⟩
    have R24 := hide hr24
    have H24 := hide (H23.out.next hb24)
    have B24 := hide (B23.out.trans (hb24.mono H23.out.nle))
    have G24 := hide (G23.out.next hb24)
    have Y24 := hide (Y23.out.next hb24)
    have C24 := hide (C23.out.next hb24)
    clear H23 B23 G23 Y23 C23 hr24 hb24
    go_wp2_with fail
    refine (kI.out _ _ _ _ _ _ _ (C24.out.arg hzp.out) (R24.out.src (by have := hz.out; omega) rfl)).mono ?_
    rintro e w25 hr25
    obtain ⟨A3, c3, A4, c4, vs2, rfl, hr25, hb25⟩ := hr25.form
    have hb26 := below1 w25 (Obj.cells #[.slice A3 qd.init.length c3, .slice A4 qd.ts.length c4] 37)
    have hb56 := below_then hb25 hb26
    have J26 := hide (hr25.next hb26)
    have E26 := hide (Blk.new w25 37 #[.slice A3 qd.init.length c3, .slice A4 qd.ts.length c4])
    have H26 := hide (H24.out.next hb56)
    have B26 := hide (B24.out.trans (hb56.mono H24.out.nle))
    have G26 := hide (G24.out.next hb56)
    have Y26 := hide (Y24.out.next hb56)
    clear H24 B24 G24 Y24 C24 R24 hr25 hb25 hb26 hb56
    have lY := E26.out.lt
    have lZ := H26.out.x.lt
    have y0 := E26.out.cell 0
    have y1 := E26.out.cell 1
    obtain ⟨x0, x1⟩ := H26.out.cells6
    simp only [List.getElem?_toArray, List.getElem?_cons_zero, List.getElem?_cons_succ] at y0 y1
    go_wp2_with fail
    clear y0 y1 x0 x1 lY lZ
    obtain ⟨w26, hw26⟩ : ∃ wq, wq = w25.alloc (Obj.cells #[.slice A3 qd.init.length c3, .slice A4 qd.ts.length c4] 37) := ⟨_, rfl⟩
    rw [← hw26] at J26 E26 H26 B26 G26 Y26 ⊢
    obtain ⟨b15, hb15⟩ : ∃ x, x = w25.heap.size := ⟨_, rfl⟩
    rw [← hb15] at J26 E26 ⊢
    clear hw26 hb15
    refine (J26.out.eq H26.out.w0).mono ?_
    rintro e w27 ⟨rfl, hb27⟩
    have H27 := hide (H26.out.next hb27)
    have B27 := hide (B26.out.trans (hb27.mono H26.out.nle))
    have G27 := hide (G26.out.next hb27)
    have Y27 := hide (Y26.out.next hb27)
    clear H26 B26 G26 Y26 hb27 J26 E26
    have lY := Y27.out.lt
    have y0 := Y27.out.cell 0
    have y1 := Y27.out.cell 1
    simp only [List.getElem?_toArray, List.getElem?_cons_zero, List.getElem?_cons_succ] at y0 y1
    go_wp2_with fail
    clear y0 y1 lY
    have kh := G27.out.held hqs.out
    rw [← hmz.out] at kh
    refine kh.mono ?_
    rintro e w28 ⟨rfl, hb28⟩
    clear kh
    have B28 := hide (B27.out.trans (hb28.mono H27.out.nle))
    clear hb28 H27 B27 G27 Y27
    go_wp2_with fail
    go_ret
    rw [← hn.out]
    exact ⟨rfl, B28.out⟩

theorem exactTurnCells_walk (v : Value) (p : ProgD) (A : Option Addr) (zs : List Int) (c : Nat) (w : World) (hp : ProgAt w (Old w.heap.size) v p) (hA : IntsAt w (Old w.heap.size) A zs) :
    Calls Try.prog 8 #[v, .slice A zs.length c] w fun e w' => e = .returned (.bool true) ∧ Below w.heap.size w w' := by
  obtain ⟨A1, c1, A2, c2, rfl, hcc, hi, ht⟩ := hp
  exact exactTurnCells_in p A1 A2 A c1 c2 _ c zs w ⟨A1, c1, A2, c2, rfl, hcc, hi, ht⟩ rfl hA
end Go.Proofs.Ytjendjbbhohjcaa

namespace Go.Proofs.Ytjendjbbhohjcaa
open Go.RowKit Go.Joins Go.ChangeShapes Go.WideShapes Go.ChangeAt Go.Deep

theorem laidOut_fnExactTurnCells : laidOutB Try.prog = true := by kernel_rfl
theorem own_fnExactTurnCells : ownKnob Try.prog.godebug = none := by kernel_rfl

set_option maxRecDepth 100000 in
theorem fnExactTurnCells_lifted (os : Os) (started : os.Started) (H : Type) (enc : TypeId × Value → H) :
    ReturnsInHanded {} Try.checked os 8 .any (Rows.fnExactTurnCellsSpec.pre6 enc Try.prog Try.f8 [] false) (Rows.fnExactTurnCellsSpec.post enc Try.prog Try.f8 false true false false) := by
  refine returnsInHanded_of_change (C := Try.checked) own_fnExactTurnCells started (by kernel_rfl) Try.func8
    (ChangeSpec.witness6 (enc := enc) (C := Try.checked) (os := os) false ⟨#[], #[.agg #[.slice none 0 0, .slice none 0 0], .slice none 0 0], []⟩ 8 (by kernel_rfl) (by kernel_rfl) (by kernel_rfl) (by kernel_rfl)) ?_
  intro W base args ds gs before hval hW _ _
  have hW' := hW
  obtain ⟨p, q, hA0, hV, rfl, hfz, hnd⟩ := hW
  have hA : DataW.TrodAll enc Try.prog W 0 (fun _ => true) true Try.f8.params.toList args.toList ds p := hA0
  rw [Try.params8] at hA hval
  obtain ⟨v0, v1, d0, d1, p0, p1, hargs, hds, hp, h0, h1⟩ := trodAll_two hA
  obtain rfl : args = #[v0, v1] := by cases args; simp_all
  obtain ⟨pd0, hpd0⟩ := open_prog (hval 0 _ v0 rfl rfl) h0
  obtain ⟨A1, c1, zs1, rfl, -, hi1⟩ := open_ints_arg (hval 1 _ v1 rfl rfl) h1
  refine (exactTurnCells_walk v0 pd0 A1 zs1 c1 W hpd0 hi1).mono fun e W' ⟨he, hb⟩ => ⟨_, he, ?_⟩
  refine law_post laidOut_fnExactTurnCells (fun t ht => ?_) rfl (by kernel_rfl) Try.underlying4 (fun ds hds => ?_) hW' hb
  · rw [Try.params8] at ht
    simp at ht
    rcases ht with rfl | rfl
    all_goals exact ⟨by kernel_rfl, of_decide_eq_true (by kernel_rfl)⟩
  · rw [Try.params8] at hds
    match ds, hds with
    | [_, _], _ => exact ⟨rfl, rfl, rfl⟩

theorem fnExactTurnCells_holds : Rows.FnExactTurnCellsSaid :=
  OpenClaim.holds_of_wide 8 Try.f8 rfl rfl rfl rfl rfl rfl rfl ⟨rfl, rfl, rfl, rfl, rfl⟩ rfl rfl rfl rfl rfl (by kernel_rfl) Try.func8 (by kernel_rfl)
    (of_decide_eq_true (by kernel_rfl)) (by unfold Func.isWrapper; first | (rw [if_pos (by decide +kernel)]; kernel_rfl) | (rw [if_neg (by decide +kernel)]; exact ⟨rfl, rfl⟩))
    (fun os started H enc _ => fnExactTurnCells_lifted os started H enc)
#print axioms fnExactTurnCells_holds
end Go.Proofs.Ytjendjbbhohjcaa
