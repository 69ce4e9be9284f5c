/- The walk of FnExactSpots: it answers true and leaves its argument. -/
import Derived.Test.YtfkaacfeikmabaaEpP
import Derived.Test.YtfkaacfeikmabaaSpSp
import Derived.Test.YtfkaacfeikmabaaSpI
import Derived.Deep.RegionHeld3
import Derived.Deep.DeepCutAuto
namespace Go.Proofs.Ytfkaacfeikmabaa
open Go.RowKit

theorem RvI.inn {t : TypeId} {w w' : World} {lo hi a b n : Nat} {v : Value} {zs : List Int} (h : RvI t w a b v n zs) (hi' : Inn lo hi w w') (ha : b ≤ lo ∨ hi ≤ a) : RvI t w' a b v n zs :=
  ⟨h.1.keep (fun k hk e => hi'.block k hk (fun e' => by
    have h1 := h.2 k e
    have h2 := (h.1.own_lt e).1
    omega)), h.2⟩
theorem RvI.low {t : TypeId} {w w' : World} {B a b n : Nat} {v : Value} {zs : List Int} (h : RvI t w a b v n zs) (hb : Below B w w') (ha : b ≤ B) : RvI t w' a b v n zs :=
  ⟨h.1.keep (fun k hk e => hb.block k (by have := h.2 k e; omega)), h.2⟩
theorem SpotR.row {w w' : World} {e : Ending} {m : Nat} {zs : List Int} (h : SpotR w w' e m zs) : ∃ A c, e = .returned (.slice A m c) ∧ RvI 105 w' w.heap.size w'.heap.size (.slice A m c) m zs ∧ Below w.heap.size w w' := by
  obtain ⟨A, c, h1, h2, h3⟩ := h
  exact ⟨A, c, h1, .of h2, h3⟩
theorem blk_inn {lo hi q : Nat} {t : TypeId} {cs : Array Value} {w w' : World} (h : Blk w q t cs) (hi' : Inn lo hi w w') (hq : q < lo ∨ hi ≤ q) : Blk w' q t cs :=
  (hi'.block q h.lt (fun e => by omega)).trans h
structure SpX (n U q1 qu m l0 h0 l1 h1 : Nat) (A1 A2 A5 A6 : Option Addr) (c1 c2 c5 c6 : Nat) (p : ProgD) (zs ys : List Int) (w : World) : Prop where
  e : EpR n A1 A2 c1 c2 p w
  x : Blk w U 31 #[.slice (some ⟨q1, 0, none⟩) p.init.length p.init.length, .slice (some ⟨qu, 0, none⟩) p.ts.length p.ts.length]
  r : RvI 105 w l0 h0 (.slice A5 m c5) m zs
  g : RvI 105 w l1 h1 (.slice A6 m c6) m ys
  b : n < l1 ∧ U < l1 ∧ h0 ≤ l1 ∧ l1 ≤ w.heap.size
section
variable {n U q1 qu m l0 h0 l1 h1 : Nat} {A1 A2 A5 A6 : Option Addr} {c1 c2 c5 c6 : Nat} {p : ProgD} {zs ys : List Int} {w w' : World}
theorem SpX.next (h : SpX n U q1 qu m l0 h0 l1 h1 A1 A2 A5 A6 c1 c2 c5 c6 p zs ys w) (hb : Below w.heap.size w w') : SpX n U q1 qu m l0 h0 l1 h1 A1 A2 A5 A6 c1 c2 c5 c6 p zs ys w' :=
  ⟨h.e.next hb, h.x.below hb h.x.lt, h.r.next hb, h.g.next hb, by have := h.b; have := hb.size; omega⟩
theorem SpX.nle (h : SpX n U q1 qu m l0 h0 l1 h1 A1 A2 A5 A6 c1 c2 c5 c6 p zs ys w) : n ≤ w.heap.size := Nat.le_of_lt h.e.bp.lt
theorem SpX.c10 (h : SpX n U q1 qu m l0 h0 l1 h1 A1 A2 A5 A6 c1 c2 c5 c6 p zs ys w) : (w.cell? ⟨n, 0, none⟩ = some (.slice A1 p.init.length c1) ∧ w.cell? ⟨n, 1, none⟩ = some (.slice A2 p.ts.length c2)) ∧ w.cell? ⟨U, 0, none⟩ = some (.slice (some ⟨q1, 0, none⟩) p.init.length p.init.length) ∧ w.cell? ⟨U, 1, none⟩ = some (.slice (some ⟨qu, 0, none⟩) p.ts.length p.ts.length) := ⟨⟨h.e.bp.cell 0, h.e.bp.cell 1⟩, h.x.cell 0, h.x.cell 1⟩
theorem SpX.inn {lo hi : Nat} (h : SpX n U q1 qu m l0 h0 l1 h1 A1 A2 A5 A6 c1 c2 c5 c6 p zs ys w) (hi' : Inn lo hi w w') (hn : n < lo) (hU : hi ≤ U) (h0l : h0 ≤ lo) (h1l : hi ≤ l1) (hl : lo ≤ w.heap.size) : SpX n U q1 qu m l0 h0 l1 h1 A1 A2 A5 A6 c1 c2 c5 c6 p zs ys w' :=
  ⟨h.e.inn hi' hn hl, blk_inn h.x hi' (Or.inr hU), h.r.inn hi' (Or.inl h0l), h.g.inn hi' (Or.inr h1l), by have := h.b; have := hi'.size; omega⟩
/-- What the marks in the answer leave. -/
theorem SpX.marked {vs : List Int} (h : SpX n U q1 qu m l0 h0 l1 h1 A1 A2 A5 A6 c1 c2 c5 c6 p zs ys w) (hg : w.grownBy w' (Value.slice A6 m c6).ownBlock) (hv : RvI 105 w' l1 h1 (.slice A6 m c6) m vs) : SpX n U q1 qu m l0 h0 l1 h1 A1 A2 A5 A6 c1 c2 c5 c6 p zs vs w' ∧ Below l1 w w' := by
  obtain ⟨b1, b2, b3, b4⟩ := h.b
  have hb : Below l1 w w' := below_own hg (fun k hk e => by have := (h.g.1.own_lt e.symm).1; omega) b4
  exact ⟨⟨⟨h.e.bp.below hb b1, h.e.pr.below hb (fun _ k => Nat.lt_trans k b1)⟩, h.x.below hb b2, h.r.low hb b3, hv, b1, b2, b3, Nat.le_trans b4 hb.size⟩, hb⟩
end
set_option maxRecDepth 100000 in
set_option maxHeartbeats 12800000 in
theorem exSpots_in (p : ProgD) (A1 A2 : Option Addr) (c1 c2 : Nat) (w : World) (hp : ProgAt w (Old w.heap.size) (.agg #[.slice A1 p.init.length c1, .slice A2 p.ts.length c2]) p) :
    Calls Try.prog 4 #[.agg #[.slice A1 p.init.length c1, .slice A2 p.ts.length c2]] w fun e w' => e = .returned (.bool true) ∧ Below w.heap.size w w' := by
  have kS := hide (fun A1 A2 c1 c2 w (a : PArg w A1 A2 c1 c2 p) => sspots_any p A1 A2 c1 c2 _ w (Nat.le_refl _) a.cc a.ini a.ts)
  have kI := hide (fun A1 A2 c1 c2 w (a : PArg w A1 A2 c1 c2 p) => spots_any p A1 A2 c1 c2 _ w (Nat.le_refl _) a.cc a.ini a.ts)
  have hm := spotsK_le p
  have hz := spotsL_len p
  generalize spotsK p = m at kS kI hm hz
  generalize spotsL p = zs at kS kI hz
  replace hz := hide hz
  obtain ⟨n, hn⟩ : ∃ n, n = w.heap.size := ⟨_, rfl⟩
  have hb0 := hide (below1 w (Obj.cells #[.slice A1 p.init.length c1, .slice A2 p.ts.length c2] 25))
  have hE0 := hide (show EpR n A1 A2 c1 c2 p (w.alloc (Obj.cells #[.slice A1 p.init.length c1, .slice A2 p.ts.length c2] 25)) from by
    subst hn
    exact ⟨Blk.new w 25 #[.slice A1 p.init.length c1, .slice A2 p.ts.length c2], hp.below hb0.out (fun _ h => h)⟩)
  rw [← hn] at hb0
  clear hp
  obtain ⟨w0, hw0⟩ : ∃ wq, wq = w.alloc (Obj.cells #[.slice A1 p.init.length c1, .slice A2 p.ts.length c2] 25) := ⟨_, rfl⟩
  rw [← hw0] at hE0 hb0
  go_enter Try.func4, Try.ntmps4
  go_wp2_with fail
  try rw [← hw0]
  rw [← hn]
  replace hn := hide hn
  clear hw0
  refine (szProg_any p _ (Old n) 1048576 w0 (by omega) (by omega) hE0.out.lts hE0.out.pr).mono ?_
  rintro e w1 ⟨rfl, hb1⟩
  have E1 := hide (hE0.out.next hb1)
  have B1 := hide (hb0.out.trans (hb1.mono (Nat.le_of_lt hE0.out.bp.lt)))
  clear hE0 hb1 hb0
  by_cases hz : (1048576 : Int) < progSize p
  · rw [szR_neg hz]
    clear hz
    go_wp2_with fail
    go_ret
    rw [← hn.out]
    exact ⟨rfl, B1.out⟩
  · rw [szR_pos hz]
    obtain ⟨left, hleft⟩ : ∃ l : Int, l = 1048576 - (progSize p : Int) := ⟨_, rfl⟩
    rw [← hleft]
    have hlt0 : decide (left < 0) = false := decide_eq_false (by omega)
    have hzp : progSize p ≤ 1048576 := by omega
    replace hzp := hide hzp
    clear hz hleft
    obtain ⟨x0, x1⟩ := E1.out.cells
    have l0 := E1.out.bp.lt
    go_wp2_with fail
    clear x0 x1 l0 hlt0
    refine (E1.out.copy hzp.out).mono ?_
    rintro e w2 ⟨q0, qt, rfl, hc2, hb2⟩
    have C2 := hide hc2
    have E2 := hide (E1.out.next hb2)
    have B2 := hide (B1.out.trans (hb2.mono (Nat.le_of_lt E1.out.bp.lt)))
    clear hc2 hb2 E1 B1
    obtain ⟨x0, x1⟩ := E2.out.cells
    go_wp2_with fail
    clear x0 x1
    refine (kS.out _ _ _ _ _ (C2.out.arg hzp.out)).mono ?_
    rintro e w3 hr3
    obtain ⟨A5, c5, rfl, hr3, hb3⟩ := hr3.row
    have R3 := hide hr3
    have E3 := hide (E2.out.next hb3)
    have B3 := hide (B2.out.trans (hb3.mono (Nat.le_of_lt E2.out.bp.lt)))
    have N3 := hide (show n < w3.heap.size from E3.out.bp.lt)
    clear hr3 hb3 E2 B2 C2
    obtain ⟨l0, hl0⟩ : ∃ x, x = w2.heap.size := ⟨_, rfl⟩
    rw [← hl0] at R3
    clear hl0
    obtain ⟨x0, x1⟩ := E3.out.cells
    have lE := E3.out.bp.lt
    go_wp2_with fail
    clear x0 x1 lE
    refine (E3.out.copy hzp.out).mono ?_
    rintro e w5 ⟨q1, qu, rfl, hc5, hb5⟩
    have C5 := hide hc5
    have R5 := hide (R3.out.next hb5)
    have E5 := hide (E3.out.next hb5)
    have B5 := hide (B3.out.trans (hb5.mono (Nat.le_of_lt E3.out.bp.lt)))
    obtain ⟨lo, hlo⟩ : ∃ x, x = w3.heap.size := ⟨_, rfl⟩
    rw [← hlo] at C5 R5 N3
    have L5 := hide (show lo ≤ w5.heap.size from by rw [hlo]; exact hb5.size)
    clear hc5 hb5 R3 E3 B3 hlo
    have I5 := hide C5.out.in_
    obtain ⟨hi, hhi⟩ : ∃ x, x = w5.heap.size := ⟨_, rfl⟩
    rw [← hhi] at I5 L5
    have hb6 : Below w5.heap.size w5 (w5.alloc (Obj.cells #[.slice (some ⟨q1, 0, none⟩) p.init.length p.init.length, .slice (some ⟨qu, 0, none⟩) p.ts.length p.ts.length] 31)) := below1 _ _
    have X6 := hide (Blk.new w5 31 #[.slice (some ⟨q1, 0, none⟩) p.init.length p.init.length, .slice (some ⟨qu, 0, none⟩) p.ts.length p.ts.length])
    rw [← hhi] at X6
    have C6 := hide (C5.out.next hb6)
    have I6 := hide (I5.out.next hb6)
    have R6 := hide (R5.out.next hb6)
    have E6 := hide (E5.out.next hb6)
    have B6 := hide (B5.out.trans (hb6.mono (Nat.le_of_lt E5.out.bp.lt)))
    have z0 := X6.out.cell 0
    have z1 := X6.out.cell 1
    have l1 := X6.out.lt
    rw [hhi] at z0 z1 l1
    simp only [List.getElem?_toArray, List.getElem?_cons_zero, List.getElem?_cons_succ] at z0 z1
    clear hb6
    go_wp2_with fail
    clear z0 z1 l1 C5 I5 R5 E5 B5
    obtain ⟨w6, hw6⟩ : ∃ wq, wq = w5.alloc (Obj.cells #[.slice (some ⟨q1, 0, none⟩) p.init.length p.init.length, .slice (some ⟨qu, 0, none⟩) p.ts.length p.ts.length] 31) := ⟨_, rfl⟩
    rw [← hw6] at X6 C6 I6 R6 E6 B6 ⊢
    rw [← hhi]
    clear hw6 hhi
    refine (kI.out _ _ _ _ _ (C6.out.arg hzp.out)).mono ?_
    rintro e w7 hr7
    obtain ⟨A6, c6, rfl, hr7, hb7⟩ := hr7.row
    have C7 := hide (C6.out.next hb7)
    have I7 := hide (I6.out.next hb7)
    have B7 := hide (B6.out.trans (hb7.mono (Nat.le_of_lt E6.out.bp.lt)))
    have H7 := hide (show SpX n hi q1 qu m l0 lo w6.heap.size w7.heap.size A1 A2 A5 A6 c1 c2 c5 c6 p zs zs w7 from
      ⟨E6.out.next hb7, X6.out.below hb7 X6.out.lt, R6.out.next hb7, hr7, E6.out.bp.lt, X6.out.lt, by have := X6.out.lt; have := L5.out; omega, hb7.size⟩)
    have W7 := hide (show hi < w6.heap.size from X6.out.lt)
    obtain ⟨l1, hl1⟩ : ∃ x, x = w6.heap.size := ⟨_, rfl⟩
    obtain ⟨h1, hh1⟩ : ∃ x, x = w7.heap.size := ⟨_, rfl⟩
    rw [← hl1, ← hh1] at H7
    rw [← hl1] at W7
    clear hr7 hb7 C6 I6 R6 E6 B6 X6 hl1 hh1
    go_wp2_with fail
    refine (eqSpotI hz.out (by omega) H7.out.g H7.out.r).mono ?_
    rintro e w8 ⟨rfl, hb8⟩
    have H8 := hide (H7.out.next hb8)
    have C8 := hide (C7.out.next hb8)
    have I8 := hide (I7.out.next hb8)
    have B8 := hide (B7.out.trans (hb8.mono H7.out.nle))
    clear hb8 H7 C7 I7 B7
    go_wp2_with fail
    have H9 := hide (H8.out.next (Below.refl _ _).drew)
    have C9 := hide (C8.out.next (Below.refl _ _).drew)
    have I9 := hide (I8.out.next (Below.refl _ _).drew)
    have B9 := hide B8.out.drew
    clear H8 C8 I8 B8
    refine wp_region_held_drew (S := (fun w' => (w'.cell? ⟨n, 0, none⟩ = some (.slice A1 p.init.length c1) ∧ w'.cell? ⟨n, 1, none⟩ = some (.slice A2 p.ts.length c2)) ∧ w'.cell? ⟨hi, 0, none⟩ = some (.slice (some ⟨q1, 0, none⟩) p.init.length p.init.length) ∧ w'.cell? ⟨hi, 1, none⟩ = some (.slice (some ⟨qu, 0, none⟩) p.ts.length p.ts.length))) (by kernel_rfl) ?_ (fun hHeld => ?_)
    · exact H9.out.c10
    refine wpAnyH_take (i := 0) (oi := { dst := some 27, op := Op.load 31 (Operand.tmp 5), type := 31, pos := "exact.go:2755", after := #[], guard := none }) (v := ?_) rfl (by kernel_rfl) (by kernel_rfl) (by kernel_rfl) (fun _ _ _ h => h) (Or.inl ⟨by rfl, ?_⟩) hHeld ?_
    rotate_left
    · (intro wq hSw; (try dsimp only at hSw); first | (go_simp; done) | (go_simp; with_reducible rfl))
    try simp only [Act.put, List.setIfInBounds_toArray, List.set_cons_zero, List.set_cons_succ]
    refine wpAnyH_take (i := 1) (oi := { dst := some 28, op := Op.load 25 (Operand.tmp 1), type := 25, pos := "exact.go:2755", after := #[], guard := none }) (v := ?_) rfl (by kernel_rfl) (by kernel_rfl) (by kernel_rfl) (fun _ _ _ h => h) (Or.inl ⟨by rfl, ?_⟩) hHeld ?_
    rotate_left
    · (intro wq hSw; (try dsimp only at hSw); first | (go_simp; done) | (go_simp; with_reducible rfl))
    try simp only [Act.put, List.setIfInBounds_toArray, List.set_cons_zero, List.set_cons_succ]
    refine wpAnyH_ready (rs := [2]) (by kernel_rfl) (by simp) ?_
    refine AllReadyH.cons (o := { dst := some 29, op := Op.call { callee := Callee.value (Operand.func 16), args := #[Operand.tmp 28], argTypes := #[25] }, type := 31, pos := "exact.go:2755", after := #[{ on := 1, ground := Ground.data }], guard := none }) rfl (fun K hK => ?_) AllReadyH.nil
    go_simp
    go_at_call 16; refine (H9.out.e.copy hzp.out).mono ?_; rintro e w10 ⟨q2, qv, rfl, hc10, hb10⟩; have K10 := hide hc10; have H10 := hide (H9.out.next hb10); have C10 := hide (C9.out.next hb10); have I10 := hide (I9.out.next hb10); have B10 := hide (B9.out.trans (hb10.mono H9.out.nle)); clear hc10 hb10
    refine hK.out _ _ ?_ (fun hHeldN => ?_)
    · exact H10.out.c10
    clear hK K hHeld
    have hHeld := hHeldN
    clear hHeldN
    try simp only [Act.put, List.setIfInBounds_toArray, List.set_cons_zero, List.set_cons_succ]
    refine wpAnyH_ready (rs := [3]) (by kernel_rfl) (by simp) ?_
    refine AllReadyH.cons (o := { dst := some 30, op := Op.call { callee := Callee.value (Operand.func 19), args := #[Operand.tmp 27, Operand.tmp 29], argTypes := #[31, 31] }, type := 4, pos := "exact.go:2755", after := #[{ on := 0, ground := Ground.data }, { on := 2, ground := Ground.data }, { on := 2, ground := Ground.chain }], guard := none }) rfl (fun K hK => ?_) AllReadyH.nil
    go_simp
    go_at_call 19; refine (C10.out.same K10.out hzp.out).mono ?_; rintro e w11 ⟨rfl, hb11⟩; have H11 := hide (H10.out.next hb11); have I11 := hide (I10.out.next hb11); have B11 := hide (B10.out.trans (hb11.mono H10.out.nle)); clear hb11
    refine hK.out _ _ ?_ (fun hHeldN => ?_)
    · exact H11.out.c10
    clear hK K hHeld
    have hHeld := hHeldN
    clear hHeldN
    try simp only [Act.put, List.setIfInBounds_toArray, List.set_cons_zero, List.set_cons_succ]
    refine wpAnyH_take (i := 4) (oi := { dst := some 31, op := Op.unOp UnOp.not 4 (Operand.tmp 30), type := 4, pos := "exact.go:2755", after := #[{ on := 3, ground := Ground.data }], guard := none }) (v := ?_) rfl (by kernel_rfl) (by kernel_rfl) (by kernel_rfl) (fun _ _ _ h => h) (Or.inl ⟨by rfl, ?_⟩) hHeld ?_
    rotate_left
    · (intro wq hSw; (try dsimp only at hSw); first | (go_simp; done) | (go_simp; with_reducible rfl))
    try simp only [Act.put, List.setIfInBounds_toArray, List.set_cons_zero, List.set_cons_succ]
    refine wpAnyH_done (by kernel_rfl) ?_ _
    clear hHeld C10 K10 I10 H9 C9 I9 B9 H10 B10
    have z0 := H11.out.x.cell 0
    have z1 := H11.out.x.cell 1
    simp only [List.getElem?_toArray, List.getElem?_cons_zero, List.getElem?_cons_succ] at z0 z1
    go_wp2_with fail
    clear z0 z1
    refine (I11.out.mark hzp.out).mono ?_
    rintro e w12 ⟨⟨mk, rfl, hmk⟩, hi12⟩
    have hll : lo ≤ w11.heap.size := by have := H11.out.b; have := L5.out; have := W7.out; omega
    have H12 := hide (H11.out.inn hi12 N3.out (Nat.le_refl _) (Nat.le_refl _) (Nat.le_of_lt W7.out) hll)
    have B12 := hide (B11.out.trans ((hi12.below hll).mono (Nat.le_of_lt N3.out)))
    clear hi12 H11 B11 I11 hll
    have hm0 : decide ((mk : Int) < 0) = false := decide_eq_false (by omega)
    clear hmk
    go_wp2_with fail
    refine (eqSpotI hz.out (by omega) H12.out.g H12.out.r).mono ?_
    rintro e w13 ⟨rfl, hb13⟩
    have H13 := hide (H12.out.next hb13)
    have B13 := hide (B12.out.trans (hb13.mono H12.out.nle))
    clear hb13 H12 B12
    go_wp2_with fail
    clear hm0
    refine (markSpotI (k := 1) hz.out (by omega) (by omega) (by omega) H13.out.g).mono ?_
    rintro e w14 ⟨rfl, hv14, hg14⟩
    obtain ⟨hh14, hb14⟩ := H13.out.marked hg14 hv14
    have H14 := hide hh14
    have B14 := hide (B13.out.trans (hb14.mono (Nat.le_of_lt H13.out.b.1)))
    clear hv14 hg14 hh14 hb14 H13 B13
    go_wp2_with fail
    refine (heldSpotI (k := 1) (by omega) (by omega) (by omega) H14.out.g).mono ?_
    rintro e w15 ⟨rfl, rfl⟩
    obtain ⟨mz, hmz⟩ : ∃ mz, mz = markZ 1 (m * 2) := ⟨_, rfl⟩
    have hmz0 : decide (mz < 0) = false := decide_eq_false (by rw [hmz]; exact markZ_nonneg (by omega))
    rw [← hmz]
    replace hmz := hide hmz
    have hmm : (mz != mz) = false := by simp
    obtain ⟨x0, x1⟩ := H14.out.e.cells
    have l0' := H14.out.e.bp.lt
    go_wp2_with fail
    clear x0 x1 l0'
    refine (H14.out.e.copy hzp.out).mono ?_
    rintro e w16 ⟨q3, qx, rfl, hc16, hb16⟩
    have H16 := hide (H14.out.next hb16)
    have B16 := hide (B14.out.trans (hb16.mono H14.out.nle))
    have C16 := hide hc16
    clear hc16 hb16 H14 B14
    go_wp2_with fail
    refine (kI.out _ _ _ _ _ (C16.out.arg hzp.out)).mono ?_
    rintro e w17 hr17
    obtain ⟨A7, c7, rfl, hr17, hb17⟩ := hr17.row
    have H17 := hide (H16.out.next hb17)
    have B17 := hide (B16.out.trans (hb17.mono H16.out.nle))
    have R17 := hide hr17
    clear hr17 hb17 H16 B16 C16
    go_wp2_with fail
    refine (eqSpotI hz.out (by omega) R17.out H17.out.r).mono ?_
    rintro e w18 ⟨rfl, hb18⟩
    have H18 := hide (H17.out.next hb18)
    have B18 := hide (B17.out.trans (hb18.mono H17.out.nle))
    clear hb18 H17 B17 R17
    go_wp2_with fail
    have kh := heldSpotI (k := 1) (by omega) (by omega) (by omega) H18.out.g
    rw [← hmz.out] at kh
    refine kh.mono ?_
    rintro e w19 ⟨rfl, rfl⟩
    clear kh
    go_wp2_with fail
    go_ret
    rw [← hn.out]
    exact ⟨rfl, B18.out⟩

theorem exSpots_walk (v : Value) (p : ProgD) (w : World) (hp : ProgAt w (Old w.heap.size) v p) :
    Calls Try.prog 4 #[v] w fun e w' => e = .returned (.bool true) ∧ Below w.heap.size w w' := by
  obtain ⟨A1, c1, A2, c2, rfl, hcc, hi, ht⟩ := hp
  exact exSpots_in p A1 A2 c1 c2 w ⟨A1, c1, A2, c2, rfl, hcc, hi, ht⟩
end Go.Proofs.Ytfkaacfeikmabaa
