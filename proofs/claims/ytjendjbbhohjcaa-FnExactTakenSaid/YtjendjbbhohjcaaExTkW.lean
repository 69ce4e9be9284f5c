/- The walk of FnExactTaken: it answers true and leaves its argument. -/
import Derived.Test.YtjendjbbhohjcaaTkT
import Derived.Test.YtjendjbbhohjcaaTkP
import Derived.Test.YtjendjbbhohjcaaMkO
import Derived.Test.YtjendjbbhohjcaaOutI
import Derived.Deep.RegionHeld3
namespace Go.Proofs.Ytjendjbbhohjcaa
open Go.RowKit

/-- What the walk carries: the argument in its box, the model's answer. -/
structure OX (n l0 h0 : Nat) (A A5 : Option Addr) (c c5 m u : Nat) (rs us : List Int) (w0 w : World) : Prop where
  z : IntsAt w (Old n) A rs
  bl : Below n w0 w
  g : Blk w n 47 #[.slice A m c]
  w0 : RvI 3 w l0 h0 (.slice A5 u c5) u us
  b : n < l0 ∧ l0 ≤ h0
section
variable {n l0 h0 : Nat} {A A5 : Option Addr} {c c5 m u : Nat} {rs us : List Int} {w0 : World} {w w' : World}
theorem OX.nle (h : OX n l0 h0 A A5 c c5 m u rs us w0 w) : n ≤ w.heap.size := Nat.le_of_lt h.g.lt
theorem OX.next (h : OX n l0 h0 A A5 c c5 m u rs us w0 w) (hb : Below w.heap.size w w') : OX n l0 h0 A A5 c c5 m u rs us w0 w' :=
  ⟨h.z.nextI hb h.nle, h.bl.trans (hb.mono h.nle), h.g.below hb h.g.lt, h.w0.next hb, h.b⟩
theorem OX.inn {a b : Nat} (h : OX n l0 h0 A A5 c c5 m u rs us w0 w) (hi' : Inn a b w w') (hl : a ≤ w.heap.size) (h7 : h0 ≤ a) : OX n l0 h0 A A5 c c5 m u rs us w0 w' :=
  ⟨h.z.below (hi'.below hl) (fun _ k => by have := h.b; have : _ < n := k; omega), h.bl.trans ((hi'.below hl).mono (by have := h.b; omega)), blk_inn h.g hi' (by have := h.b; omega), h.w0.inn hi' (by omega), h.b⟩
end
set_option maxHeartbeats 800000 in
theorem exTk_big (A : Option Addr) (n c : Nat) (w : World) (hn0 : n ≤ 9223372036854775807) (hn2 : 1048576 < n) :
    Calls Try.prog 5 #[.agg #[.slice A n c]] w fun e w' => e = .returned (.bool true) ∧ Below w.heap.size w w' := by
  have ks := szOut_big (A := A) (c := c) hn0 hn2
  replace ks := hide ks
  clear hn2 hn0
  go_enter Try.func5, Try.ntmps5
  go_wp2_with fail
  refine (ks.out _).mono ?_
  rintro e w1 ⟨rfl, hb1⟩
  go_wp2_with fail
  go_ret
  exact ⟨rfl, below_step hb1⟩
set_option maxRecDepth 100000 in
set_option maxHeartbeats 12800000 in
theorem exTk_small (A : Option Addr) (rs : List Int) (m c : Nat) (w : World) (hz : rs.length = m) (hm2 : m ≤ 1048576) (ha : IntsAt w (Old w.heap.size) A rs) :
    Calls Try.prog 5 #[.agg #[.slice A m c]] w fun e w' => e = .returned (.bool true) ∧ Below w.heap.size w w' := by
  obtain ⟨s, hs1, hs0, ks⟩ := szOut_small (A := A) (c := c) hm2
  have kS := fun A' c' w (h : IntsAt w (Old w.heap.size) A' rs) => staken_any A' rs c' m (Old w.heap.size) w hz (fun _ h => h) h hm2
  have kI := fun A' c' w (h : IntsAt w (Old w.heap.size) A' rs) => taken_any A' rs c' m (Old w.heap.size) w hz (fun _ h => h) h hm2
  have hule : (uniqI (gotTo rs m)).length ≤ m := Nat.le_trans (by unfold uniqI; exact Nat.le_trans (Lib.compact_length_le _) (Nat.le_of_eq (sortI_len _))) (gotTo_len rs m)
  obtain ⟨us, hus⟩ : ∃ y, y = uniqI (gotTo rs m) := ⟨_, rfl⟩
  rw [← hus] at kS kI hule
  obtain ⟨u, hu⟩ : ∃ y, y = us.length := ⟨_, rfl⟩
  rw [← hu] at kS kI hule
  have hu2 : u ≤ 1048576 := by omega
  replace kS := hide kS
  replace kI := hide kI
  replace hu := hide hu.symm
  replace hz := hide hz
  replace ks := hide ks
  replace hs1 := hide hs1
  clear hus hule
  obtain ⟨n, hn⟩ : ∃ y, y = w.heap.size := ⟨_, rfl⟩
  have hb0 := below1 w (Obj.cells #[.slice A m c] 47)
  have G0 := Blk.new w 47 #[.slice A m c]
  obtain ⟨wG, hwG⟩ : ∃ y, y = w.alloc (Obj.cells #[.slice A m c] 47) := ⟨_, rfl⟩
  have hlG : n < wG.heap.size := by rw [hwG, hn]; simp
  rw [← hwG, ← hn] at G0
  rw [← hwG] at hb0
  rw [← hn] at hb0 ha
  have Z0 := hide (ha.below hb0 (fun _ h => h))
  have B0 := hide hb0
  have G0 := hide G0
  clear ha hb0
  go_enter Try.func5, Try.ntmps5
  go_upto_region 1 with fail
  rw [← hwG, ← hn]
  replace hn := hide hn
  clear hwG
  have lg := G0.out.lt
  have g0 := G0.out.cell 0
  simp only [List.getElem?_toArray, List.getElem?_cons_zero] at g0
  go_wp2_with fail
  refine (ks.out _).mono ?_
  rintro e w1 ⟨rfl, hb1⟩
  have Z1 := hide (Z0.out.nextI hb1 (Nat.le_of_lt hlG))
  have B1 := hide (B0.out.trans (hb1.mono (Nat.le_of_lt hlG)))
  have G1 := hide (G0.out.below hb1 G0.out.lt)
  have hl1 := Nat.lt_of_lt_of_le hlG hb1.size
  clear Z0 B0 G0 hb1 hlG
  clear lg g0
  have lg := G1.out.lt
  have g0 := G1.out.cell 0
  simp only [List.getElem?_toArray, List.getElem?_cons_zero] at g0
  go_wp2_with fail
  clear lg g0
  refine (toOutI hz.out hm2 (old_lts (Nat.le_of_lt hl1)) Z1.out).mono ?_
  rintro e w2 ⟨q2, rfl, hr2, hb2⟩
  have R2 := hide (hr2.src (by have := hz.out; omega) rfl)
  have Z2 := hide (Z1.out.nextI hb2 (Nat.le_of_lt hl1))
  have B2 := hide (B1.out.trans (hb2.mono (Nat.le_of_lt hl1)))
  have G2 := hide (G1.out.below hb2 G1.out.lt)
  have hl2 := Nat.lt_of_lt_of_le hl1 hb2.size
  clear Z1 B1 G1 hb2 hl1 hr2
  go_wp2_with fail
  refine (kS.out _ _ _ R2.out).mono ?_
  rintro e w3 ⟨A5, c5, rfl, ho3, hb3⟩
  have H3 := hide (show OX n w2.heap.size w3.heap.size A A5 c c5 m u rs us w w3 from ⟨Z2.out.nextI hb3 (Nat.le_of_lt hl2), B2.out.trans (hb3.mono (Nat.le_of_lt hl2)), G2.out.below hb3 G2.out.lt, RvI.of (RvT.of_own ho3), ⟨hl2, hb3.size⟩⟩)
  clear Z2 B2 G2 R2 ho3 hb3 hl2
  obtain ⟨l0, hl0⟩ : ∃ y, y = w2.heap.size := ⟨_, rfl⟩
  obtain ⟨h0, hh0⟩ : ∃ y, y = w3.heap.size := ⟨_, rfl⟩
  rw [← hl0, ← hh0] at H3
  have V3 := hide (Nat.le_of_eq hh0)
  clear hl0 hh0
  have lg := H3.out.g.lt
  have g0 := H3.out.g.cell 0
  simp only [List.getElem?_toArray, List.getElem?_cons_zero] at g0
  go_wp2_with fail
  clear lg g0
  refine (toOutI hz.out hm2 (old_lts H3.out.nle) H3.out.z).mono ?_
  rintro e w5 ⟨q5, rfl, hr5, hb5⟩
  have hbn := below1 w5 (Obj.cells #[.slice (some ⟨q5, 0, none⟩) m m] 25)
  have hb6 := below_then hb5 hbn
  have R6 := hide (hr5.next hbn)
  have X6 := hide (Blk.new w5 25 #[.slice (some ⟨q5, 0, none⟩) m m])
  have AD := hide hb5.size
  clear hr5 hb5 hbn
  have H6 := hide (H3.out.next hb6)
  clear H3 hb6
  go_upto_region 7 with fail
  obtain ⟨w6, hw6⟩ : ∃ y, y = w5.alloc (Obj.cells #[.slice (some ⟨q5, 0, none⟩) m m] 25) := ⟨_, rfl⟩
  rw [← hw6] at R6 X6 H6 ⊢
  obtain ⟨a1, ha1⟩ : ∃ y, y = w3.heap.size := ⟨_, rfl⟩
  obtain ⟨b7, hb7⟩ : ∃ y, y = w5.heap.size := ⟨_, rfl⟩
  rw [← ha1, ← hb7] at R6 AD
  rw [← hb7] at X6 ⊢
  rw [← ha1] at V3
  clear hw6 ha1 hb7
  obtain ⟨d1, hd1⟩ : ∃ y, y = b7 := ⟨_, rfl⟩
  have R6 := hide (show RvI 3 w6 a1 d1 (.slice (some ⟨q5, 0, none⟩) m m) m rs from by rw [hd1]; exact R6.out)
  have O := hide (show h0 ≤ a1 ∧ a1 ≤ d1 ∧ d1 ≤ b7 from ⟨V3.out, by rw [hd1]; exact AD.out, Nat.le_of_eq hd1⟩)
  clear hd1 V3 AD
  have lx := X6.out.lt
  have x0 := X6.out.cell 0
  simp only [List.getElem?_toArray, List.getElem?_cons_zero] at x0
  go_wp2_with fail
  clear lx x0
  refine (kI.out _ _ _ (R6.out.src (by have := hz.out; omega) rfl)).mono ?_
  rintro e w7 ⟨A7, c7, rfl, ho7, hb7⟩
  have G7 := hide (show RvI 3 w7 w6.heap.size w7.heap.size (.slice A7 u c7) u us from RvI.of (RvT.of_own ho7))
  have U7 := hide hb7.size
  have hxl := X6.out.lt
  clear ho7
  have H7 := hide (H6.out.next hb7)
  have R7 := hide (R6.out.next hb7)
  have X7 := hide (X6.out.below hb7 X6.out.lt)
  clear H6 R6 X6 hb7
  obtain ⟨l1, hl1⟩ : ∃ y, y = w6.heap.size := ⟨_, rfl⟩
  obtain ⟨h1, hh1⟩ : ∃ y, y = w7.heap.size := ⟨_, rfl⟩
  rw [← hl1, ← hh1] at G7 U7
  rw [← hl1] at hxl
  have O2 := hide (show b7 < l1 ∧ l1 ≤ h1 ∧ h1 ≤ w7.heap.size from ⟨hxl, U7.out, Nat.le_of_eq hh1⟩)
  clear hl1 hh1 hxl U7
  go_wp2_with fail
  refine (eqIntSI hu.out (by omega) G7.out H7.out.w0).mono ?_
  rintro e w8 ⟨rfl, hb8⟩
  have O3 := hide (show b7 < l1 ∧ l1 ≤ h1 ∧ h1 ≤ w8.heap.size from ⟨O2.out.1, O2.out.2.1, Nat.le_trans O2.out.2.2 hb8.size⟩)
  clear O2
  have H8 := hide (H7.out.next hb8)
  have R8 := hide (R7.out.next hb8)
  have X8 := hide (X7.out.below hb8 X7.out.lt)
  have G8 := hide (G7.out.next hb8)
  clear H7 R7 X7 G7 hb8
  have hC := hide (fun w' (hb : Below w8.heap.size w8 w') => (show w'.cell? ⟨n, 0, none⟩ = some (.slice A m c) ∧ w'.cell? ⟨b7, 0, none⟩ = some (.slice (some ⟨q5, 0, none⟩) m m) from ⟨(H8.out.g.below hb H8.out.g.lt).cell 0, (X8.out.below hb X8.out.lt).cell 0⟩))
  go_upto_region 10 with fail
  refine wp_region_held_drew (S := (fun w' : World => w'.cell? ⟨n, 0, none⟩ = some (.slice A m c) ∧ w'.cell? ⟨b7, 0, none⟩ = some (.slice (some ⟨q5, 0, none⟩) m m))) (by kernel_rfl) ?_ (fun hHeld => ?_)
  · exact hC.out _ (Below.refl _ _).drew
  refine wpAnyH_take (i := 0) (oi := { dst := some 27, op := Op.load 25 (Operand.tmp 5), type := 25, pos := "exact.go:2974", after := #[], guard := none }) (v := ?_) rfl (by kernel_rfl) (by kernel_rfl) (by kernel_rfl) (fun _ _ _ h => h) (Or.inl ⟨by rfl, ?_⟩) hHeld ?_
  rotate_left
  · (intro wq hSw; (try dsimp only at hSw); first | (go_simp; done) | (go_simp; with_reducible rfl))
  try simp only [Act.put, List.setIfInBounds_toArray, List.set_cons_zero, List.set_cons_succ]
  refine wpAnyH_take (i := 1) (oi := { dst := some 28, op := Op.load 47 (Operand.tmp 1), type := 47, pos := "exact.go:2974", after := #[], guard := none }) (v := ?_) rfl (by kernel_rfl) (by kernel_rfl) (by kernel_rfl) (fun _ _ _ h => h) (Or.inl ⟨by rfl, ?_⟩) hHeld ?_
  rotate_left
  · (intro wq hSw; (try dsimp only at hSw); first | (go_simp; done) | (go_simp; with_reducible rfl))
  try simp only [Act.put, List.setIfInBounds_toArray, List.set_cons_zero, List.set_cons_succ]
  refine wpAnyH_ready (rs := [2]) (by kernel_rfl) (by simp) ?_
  refine AllReadyH.cons (o := { dst := some 29, op := Op.call { callee := Callee.value (Operand.func 30), args := #[Operand.tmp 28], argTypes := #[47] }, type := 25, pos := "exact.go:2974", after := #[{ on := 1, ground := Ground.data }], guard := none }) rfl (fun K hK => ?_) AllReadyH.nil
  go_simp
  go_at_call 30
  refine (toOutI (w := w8.drew) hz.out hm2 (by exact old_lts H8.out.nle) (show IntsAt w8.drew (Old n) A rs from H8.out.z.nextI (Below.refl _ _).drew H8.out.nle)).mono ?_
  rintro e w10 ⟨q10, rfl, hr10, hb10⟩
  have Bd10 := hide (show Below w8.heap.size w8 w10 from ((Below.refl _ _).drew).trans hb10)
  have R10 := hide (R8.out.next Bd10.out)
  have K10 := hide hr10
  clear hr10 hb10
  refine hK.out _ _ ?_ (fun hHeldN => ?_)
  · exact (hC.out _ Bd10.out)
  clear hK K hHeld
  have hHeld := hHeldN
  clear hHeldN
  try simp only [Act.put, List.setIfInBounds_toArray, List.set_cons_zero, List.set_cons_succ]
  refine wpAnyH_ready (rs := [3]) (by kernel_rfl) (by simp) ?_
  refine AllReadyH.cons (o := { dst := some 30, op := Op.call { callee := Callee.value (Operand.func 33), args := #[Operand.tmp 27, Operand.tmp 29], argTypes := #[25, 25] }, type := 4, pos := "exact.go:2974", after := #[{ on := 0, ground := Ground.data }, { on := 2, ground := Ground.data }, { on := 2, ground := Ground.chain }], guard := none }) rfl (fun K hK => ?_) AllReadyH.nil
  go_simp
  go_at_call 33
  refine (eqOutI hz.out (by omega) R10.out K10.out).mono ?_
  rintro e w11 ⟨rfl, hb11⟩
  have Bd11 := hide (Bd10.out.trans (hb11.mono Bd10.out.size))
  clear hb11 R10 K10
  refine hK.out _ _ ?_ (fun hHeldN => ?_)
  · exact (hC.out _ Bd11.out)
  clear hK K hHeld
  have hHeld := hHeldN
  clear hHeldN
  try simp only [Act.put, List.setIfInBounds_toArray, List.set_cons_zero, List.set_cons_succ]
  refine wpAnyH_take (i := 4) (oi := { dst := some 31, op := Op.unOp UnOp.not 4 (Operand.tmp 30), type := 4, pos := "exact.go:2974", after := #[{ on := 3, ground := Ground.data }], guard := none }) (v := ?_) rfl (by kernel_rfl) (by kernel_rfl) (by kernel_rfl) (fun _ _ _ h => h) (Or.inl ⟨by rfl, ?_⟩) hHeld ?_
  rotate_left
  · (intro wq hSw; (try dsimp only at hSw); first | (go_simp; done) | (go_simp; with_reducible rfl))
  try simp only [Act.put, List.setIfInBounds_toArray, List.set_cons_zero, List.set_cons_succ]
  refine wpAnyH_done (by kernel_rfl) ?_ _
  clear hHeld hC
  have hb12 := Bd11.out
  have O4 := hide (show h1 ≤ w11.heap.size from Nat.le_trans O3.out.2.2 hb12.size)
  clear Bd10 Bd11
  have H11 := hide (H8.out.next hb12)
  have R11 := hide (R8.out.next hb12)
  have X11 := hide (X8.out.below hb12 X8.out.lt)
  have G11 := hide (G8.out.next hb12)
  clear H8 R8 X8 G8 hb12
  have lx := X11.out.lt
  have x0 := X11.out.cell 0
  simp only [List.getElem?_toArray, List.getElem?_cons_zero] at x0
  go_wp2_with fail
  clear lx x0
  refine (markOutIn hz.out hm2 (by omega) (by omega) R11.out).mono ?_
  rintro e w12 ⟨rfl, hi12⟩
  have hO := O.out
  have hO3 := O3.out
  have hO4 := O4.out
  have H12 := hide (H11.out.inn hi12 (by omega) (by omega))
  have G12 := hide (G11.out.inn hi12 (by omega))
  have O5 := hide (Nat.le_trans hO4 hi12.size)
  clear hi12 H11 G11 R11 X11 hO hO3 hO4 O4
  obtain ⟨mz, hmz⟩ : ∃ mz, mz = markZ 1 m := ⟨_, rfl⟩
  have hmz0 : decide (mz < 0) = false := decide_eq_false (by rw [hmz]; exact markZ_nonneg (by omega))
  rw [← hmz]
  clear hmz
  go_wp2_with fail
  refine (eqIntSI hu.out (by omega) G12.out H12.out.w0).mono ?_
  rintro e w13 ⟨rfl, hb13⟩
  have O6 := hide (Nat.le_trans O5.out hb13.size)
  clear O5
  have H13 := hide (H12.out.next hb13)
  have G13 := hide (G12.out.next hb13)
  clear H12 G12 hb13
  go_wp2_with fail
  refine (markIntIn hu.out hu2 (by omega) (by omega) G13.out).mono ?_
  rintro e w14 ⟨rfl, hv14, hi14⟩
  have hO := O.out
  have hO3 := O3.out
  have hO6 := O6.out
  have H14 := hide (H13.out.inn hi14 (by omega) (by omega))
  have G14 := hide (show RvI 3 w14 l1 h1 (.slice A7 u c7) u (marks 1 u) from hv14)
  clear hv14 hi14 H13 G13 hO hO3 hO6 O6 hmz0
  have kH := hide (fun (w : World) (h : RvI 3 w l1 h1 (.slice A7 u c7) u (marks 1 u)) => heldIntSI (k := 1) hu2 (by omega) (by omega) h)
  obtain ⟨mz, hmz⟩ : ∃ mz, mz = markZ 1 u := ⟨_, rfl⟩
  have hmz0 : decide (mz < 0) = false := decide_eq_false (by rw [hmz]; exact markZ_nonneg (by omega))
  have hmm : (mz != mz) = false := by simp
  rw [← hmz] at kH ⊢
  clear hmz
  go_wp2_with fail
  refine (kH.out _ G14.out).mono ?_
  rintro e w15 ⟨rfl, hb15⟩
  have H15 := hide (H14.out.next hb15)
  have G15 := hide (G14.out.next hb15)
  clear H14 G14 hb15
  have lg := H15.out.g.lt
  have g0 := H15.out.g.cell 0
  simp only [List.getElem?_toArray, List.getElem?_cons_zero] at g0
  go_wp2_with fail
  clear lg g0
  refine (toOutI hz.out hm2 (old_lts H15.out.nle) H15.out.z).mono ?_
  rintro e w16 ⟨q16, rfl, hr16, hb16⟩
  have R16 := hide (hr16.src (by have := hz.out; omega) rfl)
  clear hr16
  have H16 := hide (H15.out.next hb16)
  have G16 := hide (G15.out.next hb16)
  clear H15 G15 hb16
  go_wp2_with fail
  refine (kI.out _ _ _ R16.out).mono ?_
  rintro e w17 ⟨A9, c9, rfl, ho17, hb17⟩
  have J17 := hide (show RvI 3 w17 w16.heap.size w17.heap.size (.slice A9 u c9) u us from RvI.of (RvT.of_own ho17))
  clear ho17 R16
  have H17 := hide (H16.out.next hb17)
  have G17 := hide (G16.out.next hb17)
  clear H16 G16 hb17
  go_wp2_with fail
  refine (eqIntSI hu.out (by omega) J17.out H17.out.w0).mono ?_
  rintro e w18 ⟨rfl, hb18⟩
  clear J17
  have H18 := hide (H17.out.next hb18)
  have G18 := hide (G17.out.next hb18)
  clear H17 G17 hb18
  go_wp2_with fail
  refine (kH.out _ G18.out).mono ?_
  rintro e w19 ⟨rfl, hb19⟩
  have H19 := hide (H18.out.next hb19)
  have G19 := hide (G18.out.next hb19)
  clear H18 G18 hb19
  go_wp2_with fail
  go_ret
  rw [← hn.out]
  exact ⟨rfl, H19.out.bl⟩
theorem exTk_walk (A : Option Addr) (rs : List Int) (c : Nat) (w : World) (ha : IntsAt w (Old w.heap.size) A rs) :
    Calls Try.prog 5 #[.agg #[.slice A rs.length c]] w fun e w' => e = .returned (.bool true) ∧ Below w.heap.size w w' := by
  by_cases h : rs.length ≤ 1048576
  · exact exTk_small A rs rs.length c w rfl h ha
  · exact exTk_big A rs.length c w ha.1 (by omega)
end Go.Proofs.Ytjendjbbhohjcaa
