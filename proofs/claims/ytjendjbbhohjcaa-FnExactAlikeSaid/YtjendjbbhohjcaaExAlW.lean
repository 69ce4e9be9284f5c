/- The walk of FnExactAlike: it answers true and leaves its argument. -/
import Derived.Test.YtjendjbbhohjcaaInS
import Derived.Test.YtjendjbbhohjcaaMkO
import Derived.Test.YtjendjbbhohjcaaOutI
import Derived.Deep.RegionHeld3
namespace Go.Proofs.Ytjendjbbhohjcaa
open Go.RowKit

/-- What the walk carries: the argument in its box. -/
structure OO (n : Nat) (A : Option Addr) (c m : Nat) (rs : List Int) (w0 w : World) : Prop where
  z : IntsAt w (Old n) A rs
  bl : Below n w0 w
  g : Blk w n 47 #[.slice A m c]
section
variable {n : Nat} {A : Option Addr} {c m : Nat} {rs : List Int} {w0 w w' : World}
theorem OO.nle (h : OO n A c m rs w0 w) : n ≤ w.heap.size := Nat.le_of_lt h.g.lt
theorem OO.next (h : OO n A c m rs w0 w) (hb : Below w.heap.size w w') : OO n A c m rs w0 w' :=
  ⟨h.z.nextI hb h.nle, h.bl.trans (hb.mono h.nle), h.g.below hb h.g.lt⟩
end
set_option maxHeartbeats 800000 in
theorem exAl_big (A : Option Addr) (n c : Nat) (x : Int) (w : World) (hn0 : n ≤ 9223372036854775807) (hn2 : 1048576 < n) :
    Calls Try.prog 14 #[.agg #[.slice A n c], .int .i64 x] w fun e w' => e = .returned (.bool true) ∧ Below w.heap.size w w' := by
  have ks := szOut_big (A := A) (c := c) hn0 hn2
  replace ks := hide ks
  clear hn2 hn0
  go_enter Try.func14, Try.ntmps14
  go_wp2_with fail
  refine (ks.out _).mono ?_
  rintro e w1 ⟨rfl, hb1⟩
  go_wp2_with fail
  go_ret
  exact ⟨rfl, below_step hb1⟩
set_option maxRecDepth 100000 in
set_option maxHeartbeats 12800000 in
theorem exAl_small (A : Option Addr) (rs : List Int) (m c : Nat) (x : Int) (w : World) (hz : rs.length = m) (hm2 : m ≤ 1048576) (ha : IntsAt w (Old w.heap.size) A rs) :
    Calls Try.prog 14 #[.agg #[.slice A m c], .int .i64 x] w fun e w' => e = .returned (.bool true) ∧ Below w.heap.size w w' := by
  obtain ⟨s, hs1, hs0, ks⟩ := szOut_small (A := A) (c := c) hm2
  have kS := fun A' c' w (h : IntsAt w (Old w.heap.size) A' rs) => salike_any x A' rs c' m (Old w.heap.size) w hz (fun _ h => h) h hm2
  have kI := fun A' c' w (h : IntsAt w (Old w.heap.size) A' rs) => alike_any x A' rs c' m (Old w.heap.size) w hz (fun _ h => h) h hm2
  obtain ⟨q, hq⟩ : ∃ y, y = alikeB rs m x := ⟨_, rfl⟩
  rw [← hq] at kS kI
  have hqq : (q != q) = false := by simp
  clear hq
  replace kS := hide kS
  replace kI := hide kI
  replace hz := hide hz
  replace ks := hide ks
  replace hs1 := hide hs1
  obtain ⟨n, hn⟩ : ∃ y, y = w.heap.size := ⟨_, rfl⟩
  have hb0 := below1 w (Obj.cells #[.slice A m c] 47)
  have G0 := Blk.new w 47 #[.slice A m c]
  obtain ⟨wG, hwG⟩ : ∃ y, y = w.alloc (Obj.cells #[.slice A m c] 47) := ⟨_, rfl⟩
  have hlG : n < wG.heap.size := by rw [hwG, hn]; simp
  rw [← hwG, ← hn] at G0
  rw [← hwG] at hb0
  rw [← hn] at hb0 ha
  have H0 := hide (show OO n A c m rs w wG from ⟨ha.below hb0 (fun _ h => h), hb0, G0⟩)
  clear ha hb0 G0 hlG
  go_enter Try.func14, Try.ntmps14
  go_upto_region 1 with fail
  rw [← hwG, ← hn]
  replace hn := hide hn
  clear hwG
  have lg := H0.out.g.lt
  have g0 := H0.out.g.cell 0
  simp only [List.getElem?_toArray, List.getElem?_cons_zero] at g0
  go_wp2_with fail
  clear lg g0
  refine (ks.out _).mono ?_
  rintro e w1 ⟨rfl, hb1⟩
  have H1 := hide (H0.out.next hb1)
  clear H0 hb1
  have lg := H1.out.g.lt
  have g0 := H1.out.g.cell 0
  simp only [List.getElem?_toArray, List.getElem?_cons_zero] at g0
  go_wp2_with fail
  clear lg g0
  refine (toOutI hz.out hm2 (old_lts H1.out.nle) H1.out.z).mono ?_
  rintro e w2 ⟨q2, rfl, hr2, hb2⟩
  have R2 := hide (hr2.src (by have := hz.out; omega) rfl)
  clear hr2
  have H2 := hide (H1.out.next hb2)
  clear H1 hb2
  go_wp2_with fail
  refine (kS.out _ _ _ R2.out).mono ?_
  rintro e w3 ⟨rfl, hb3⟩
  clear R2
  have H3 := hide (H2.out.next hb3)
  clear H2 hb3
  have lg := H3.out.g.lt
  have g0 := H3.out.g.cell 0
  simp only [List.getElem?_toArray, List.getElem?_cons_zero] at g0
  go_wp2_with fail
  clear lg g0
  refine (toOutI hz.out hm2 (old_lts H3.out.nle) H3.out.z).mono ?_
  rintro e w5 ⟨q5, rfl, hr5, hb5⟩
  have hbn := below1 w5 (Obj.cells #[.slice (some ⟨q5, 0, none⟩) m m] 25)
  have hb6 := below_then hb5 hbn
  have R6 := hide (hr5.next hbn)
  have X6 := hide (Blk.new w5 25 #[.slice (some ⟨q5, 0, none⟩) m m])
  clear hr5 hb5 hbn
  have H6 := hide (H3.out.next hb6)
  clear H3 hb6
  go_upto_region 7 with fail
  obtain ⟨w6, hw6⟩ : ∃ y, y = w5.alloc (Obj.cells #[.slice (some ⟨q5, 0, none⟩) m m] 25) := ⟨_, rfl⟩
  rw [← hw6] at R6 X6 H6 ⊢
  obtain ⟨b7, hb7⟩ : ∃ y, y = w5.heap.size := ⟨_, rfl⟩
  rw [← hb7] at X6 ⊢
  clear hw6 hb7
  have lx := X6.out.lt
  have x0 := X6.out.cell 0
  simp only [List.getElem?_toArray, List.getElem?_cons_zero] at x0
  go_wp2_with fail
  clear lx x0
  refine (kI.out _ _ _ (R6.out.src (by have := hz.out; omega) rfl)).mono ?_
  rintro e w8 ⟨rfl, hb8⟩
  have H8 := hide (H6.out.next hb8)
  have R8 := hide (R6.out.next hb8)
  have X8 := hide (X6.out.below hb8 X6.out.lt)
  clear H6 R6 X6 hb8
  have hC := hide (fun w' (hb : Below w8.heap.size w8 w') => (show w'.cell? ⟨n, 0, none⟩ = some (.slice A m c) ∧ w'.cell? ⟨b7, 0, none⟩ = some (.slice (some ⟨q5, 0, none⟩) m m) from ⟨(H8.out.g.below hb H8.out.g.lt).cell 0, (X8.out.below hb X8.out.lt).cell 0⟩))
  go_upto_region 10 with fail
  refine wp_region_held_drew (S := (fun w' : World => w'.cell? ⟨n, 0, none⟩ = some (.slice A m c) ∧ w'.cell? ⟨b7, 0, none⟩ = some (.slice (some ⟨q5, 0, none⟩) m m))) (by kernel_rfl) ?_ (fun hHeld => ?_)
  · exact hC.out _ (Below.refl _ _).drew
  refine wpAnyH_take (i := 0) (oi := { dst := some 26, op := Op.load 25 (Operand.tmp 7), type := 25, pos := "exact.go:3675", after := #[], guard := none }) (v := ?_) rfl (by kernel_rfl) (by kernel_rfl) (by kernel_rfl) (fun _ _ _ h => h) (Or.inl ⟨by rfl, ?_⟩) hHeld ?_
  rotate_left
  · (intro wq hSw; (try dsimp only at hSw); first | (go_simp; done) | (go_simp; with_reducible rfl))
  try simp only [Act.put, List.setIfInBounds_toArray, List.set_cons_zero, List.set_cons_succ]
  refine wpAnyH_take (i := 1) (oi := { dst := some 27, op := Op.load 47 (Operand.tmp 2), type := 47, pos := "exact.go:3675", after := #[], guard := none }) (v := ?_) rfl (by kernel_rfl) (by kernel_rfl) (by kernel_rfl) (fun _ _ _ h => h) (Or.inl ⟨by rfl, ?_⟩) hHeld ?_
  rotate_left
  · (intro wq hSw; (try dsimp only at hSw); first | (go_simp; done) | (go_simp; with_reducible rfl))
  try simp only [Act.put, List.setIfInBounds_toArray, List.set_cons_zero, List.set_cons_succ]
  refine wpAnyH_ready (rs := [2]) (by kernel_rfl) (by simp) ?_
  refine AllReadyH.cons (o := { dst := some 28, op := Op.call { callee := Callee.value (Operand.func 30), args := #[Operand.tmp 27], argTypes := #[47] }, type := 25, pos := "exact.go:3675", after := #[{ on := 1, ground := Ground.data }], guard := none }) rfl (fun K hK => ?_) AllReadyH.nil
  go_simp
  go_at_call 30
  refine (toOutI (w := w8.drew) hz.out hm2 (by exact old_lts H8.out.nle) (show IntsAt w8.drew (Old n) A rs from H8.out.z.nextI (Below.refl _ _).drew H8.out.nle)).mono ?_
  rintro e w10 ⟨q10, rfl, hr10, hb10⟩
  have Bd10 := hide (show Below w8.heap.size w8 w10 from ((Below.refl _ _).drew).trans hb10)
  have R10 := hide (R8.out.next Bd10.out)
  have K10 := hide hr10
  clear hr10 hb10
  refine hK.out _ _ ?_ (fun hHeldN => ?_)
  · exact (hC.out _ Bd10.out)
  clear hK K hHeld
  have hHeld := hHeldN
  clear hHeldN
  try simp only [Act.put, List.setIfInBounds_toArray, List.set_cons_zero, List.set_cons_succ]
  refine wpAnyH_ready (rs := [3]) (by kernel_rfl) (by simp) ?_
  refine AllReadyH.cons (o := { dst := some 29, op := Op.call { callee := Callee.value (Operand.func 33), args := #[Operand.tmp 26, Operand.tmp 28], argTypes := #[25, 25] }, type := 4, pos := "exact.go:3675", after := #[{ on := 0, ground := Ground.data }, { on := 2, ground := Ground.data }, { on := 2, ground := Ground.chain }], guard := none }) rfl (fun K hK => ?_) AllReadyH.nil
  go_simp
  go_at_call 33
  refine (eqOutI hz.out (by omega) R10.out K10.out).mono ?_
  rintro e w11 ⟨rfl, hb11⟩
  have Bd11 := hide (Bd10.out.trans (hb11.mono Bd10.out.size))
  clear hb11 R10 K10
  refine hK.out _ _ ?_ (fun hHeldN => ?_)
  · exact (hC.out _ Bd11.out)
  clear hK K hHeld
  have hHeld := hHeldN
  clear hHeldN
  try simp only [Act.put, List.setIfInBounds_toArray, List.set_cons_zero, List.set_cons_succ]
  refine wpAnyH_take (i := 4) (oi := { dst := some 30, op := Op.unOp UnOp.not 4 (Operand.tmp 29), type := 4, pos := "exact.go:3675", after := #[{ on := 3, ground := Ground.data }], guard := none }) (v := ?_) rfl (by kernel_rfl) (by kernel_rfl) (by kernel_rfl) (fun _ _ _ h => h) (Or.inl ⟨by rfl, ?_⟩) hHeld ?_
  rotate_left
  · (intro wq hSw; (try dsimp only at hSw); first | (go_simp; done) | (go_simp; with_reducible rfl))
  try simp only [Act.put, List.setIfInBounds_toArray, List.set_cons_zero, List.set_cons_succ]
  refine wpAnyH_done (by kernel_rfl) ?_ _
  clear hHeld hC
  have hb12 := Bd11.out
  clear Bd10 Bd11
  have H11 := hide (H8.out.next hb12)
  have X11 := hide (X8.out.below hb12 X8.out.lt)
  clear H8 X8 hb12
  go_wp2_with fail
  go_ret
  rw [← hn.out]
  exact ⟨rfl, H11.out.bl⟩
theorem exAl_walk (A : Option Addr) (rs : List Int) (c : Nat) (x : Int) (w : World) (ha : IntsAt w (Old w.heap.size) A rs) :
    Calls Try.prog 14 #[.agg #[.slice A rs.length c], .int .i64 x] w fun e w' => e = .returned (.bool true) ∧ Below w.heap.size w w' := by
  by_cases h : rs.length ≤ 1048576
  · exact exAl_small A rs rs.length c x w rfl h ha
  · exact exAl_big A rs.length c x w ha.1 (by omega)
end Go.Proofs.Ytjendjbbhohjcaa
