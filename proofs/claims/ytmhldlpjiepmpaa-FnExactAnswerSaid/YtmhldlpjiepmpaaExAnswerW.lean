/- The walk of laws.FnExactAnswer: it answers true and leaves its argument. -/
import Derived.Test.YtmhldlpjiepmpaaPoE
import Derived.Test.YtmhldlpjiepmpaaPoH
import Derived.Deep.Cut
import Derived.Test.YtmhldlpjiepmpaaSAn
import Derived.Test.YtmhldlpjiepmpaaCra
namespace Go.Proofs.Ytmhldlpjiepmpaa
open Go.RowKit

set_option maxRecDepth 100000 in
set_option maxHeartbeats 6400000 in
theorem exAnswer_walk (a : PA) (p : PoolD) (w : World) (ha : PoolAt w (Old w.heap.size) a p) :
    Calls Try.prog 15 #[.agg #[.slice a.A0 p.js.length a.c0, .slice a.A1 p.dq.length a.c1, .slice a.A2 p.ran.length a.c2, .slice a.A3 p.dn.length a.c3, .slice a.A4 p.lf.length a.c4, .slice a.A5 p.sm.length a.c5, .slice a.A6 p.vl.length a.c6]] w fun e w' => e = .returned (.bool true) ∧ Below w.heap.size w w' := by
  have hb0 := below1 w (Obj.cells #[.slice a.A0 p.js.length a.c0, .slice a.A1 p.dq.length a.c1, .slice a.A2 p.ran.length a.c2, .slice a.A3 p.dn.length a.c3, .slice a.A4 p.lf.length a.c4, .slice a.A5 p.sm.length a.c5, .slice a.A6 p.vl.length a.c6] 67)
  have X0 := Blk.new w 67 #[.slice a.A0 p.js.length a.c0, .slice a.A1 p.dq.length a.c1, .slice a.A2 p.ran.length a.c2, .slice a.A3 p.dn.length a.c3, .slice a.A4 p.lf.length a.c4, .slice a.A5 p.sm.length a.c5, .slice a.A6 p.vl.length a.c6]
  obtain ⟨w0, hw0⟩ : ∃ w0, w0 = w.alloc (Obj.cells #[.slice a.A0 p.js.length a.c0, .slice a.A1 p.dq.length a.c1, .slice a.A2 p.ran.length a.c2, .slice a.A3 p.dn.length a.c3, .slice a.A4 p.lf.length a.c4, .slice a.A5 p.sm.length a.c5, .slice a.A6 p.vl.length a.c6] 67) := ⟨_, rfl⟩
  rw [← hw0] at hb0 X0
  have ha0 := ha.below hb0 (fun _ h => h)
  have hS0 : ∀ b, Old w.heap.size b → b < w0.heap.size := fun b h => Nat.lt_of_lt_of_le h hb0.size
  have ks := szPool_any a p (Old w.heap.size) 1048576 w0 (by omega) (by omega) hS0 ha0
  unfold PA.cells at ks
  obtain ⟨⟨x0, x1, x2, x3, x4, x5, x6⟩, xl⟩ := box7 X0
  obtain ⟨q, hq⟩ : ∃ q, q = w.heap.size := ⟨_, rfl⟩
  rw [← hq] at X0 x0 x1 x2 x3 x4 x5 x6 xl
  replace X0 := hide X0
  replace hb0 := hide hb0
  by_cases hz : poolSize p ≤ 1048576
  · rw [szR_pos (by omega)] at ks
    have hzz := poolSize_le hz
    have hsz := hide hzz.1
    have hzQ := hide hzz.2
    have kT := hide (fun w' (hb : Below w0.heap.size w0 w') => toPoolA a p _ w' hz (fun b h => Nat.lt_of_lt_of_le (hS0 b h) hb.size) (ha0.below hb hS0))
    have kS := fun a' w' (h : PoolAt w' (Old w'.heap.size) a' p) => sanswer_any a' p _ w' hsz hzQ (fun _ h => h) h
    have kI := fun a' w' (h : PoolAt w' (Old w'.heap.size) a' p) => answer_any a' p _ w' hsz hzQ (fun _ h => h) h
    have kE := fun a1 a2 w' (h : PoolAt w' (Old w'.heap.size) a1 p) (k : PoolAt w' (Old w'.heap.size) a2 p) => eqPool_any a1 a2 p _ w' (fun _ h => h) h k
    unfold PA.cells at kS kI kE
    obtain ⟨⟨rv, rb⟩, hr⟩ : ∃ r, r = ansI p := ⟨_, rfl⟩
    rw [← hr] at kS kI
    dsimp only at kS kI
    clear hr
    have hs : (0 : Int) ≤ 1048576 - (poolSize p : Int) := by omega
    obtain ⟨s, hs2⟩ : ∃ s, s = 1048576 - (poolSize p : Int) := ⟨_, rfl⟩
    rw [← hs2] at ks hs
    replace ks := hide ks
    replace kS := hide kS
    replace kI := hide kI
    replace kE := hide kE
    replace hS0 := hide hS0
    clear hs2 ha ha0 hz hzz
    go_enter Try.func15, Try.ntmps15
    go_upto_region 2 with fail
    rw [← hw0, ← hq]
    clear hw0
    replace hq := hide hq
    go_upto_region 5 with (go_at_call 44; refine ks.out.mono ?_; rintro e w1 ⟨rfl, hb1⟩)
    clear x0 x1 x2 x3 x4 x5 x6
    obtain ⟨⟨x0, x1, x2, x3, x4, x5, x6⟩, -⟩ := box7 (X0.out.below hb1 xl)
    go_upto_region 6 with (first | (go_at_call 45; refine (kT.out _ hb1).mono ?_; rintro e w2 ⟨a2, rfl, h2, hb2⟩) | (go_at_call 30; refine (kS.out _ _ h2).mono ?_; rintro e w3 ⟨rfl, hb3⟩))
    have hb13 := below_next (below_next hb1 hb2 hb1.size) hb3 (below_next hb1 hb2 hb1.size).size
    clear h2 hb1 hb2 hb3 x0 x1 x2 x3 x4 x5 x6
    obtain ⟨⟨x0, x1, x2, x3, x4, x5, x6⟩, -⟩ := box7 (X0.out.below hb13 xl)
    replace hb13 := hide hb13
    go_upto_region 7 with (go_at_call 45; refine (kT.out _ hb13.out).mono ?_; rintro e w4 ⟨a4, rfl, h4, hb4⟩)
    have hb14 := below_next hb13.out hb4 hb13.out.size
    clear hb13 x0 x1 x2 x3 x4 x5 x6
    have hb5 := below1 w4 (Obj.cells #[.slice a4.A0 p.js.length a4.c0, .slice a4.A1 p.dq.length a4.c1, .slice a4.A2 p.ran.length a4.c2, .slice a4.A3 p.dn.length a4.c3, .slice a4.A4 p.lf.length a4.c4, .slice a4.A5 p.sm.length a4.c5, .slice a4.A6 p.vl.length a4.c6] 28)
    have Y5 := Blk.new w4 28 #[.slice a4.A0 p.js.length a4.c0, .slice a4.A1 p.dq.length a4.c1, .slice a4.A2 p.ran.length a4.c2, .slice a4.A3 p.dn.length a4.c3, .slice a4.A4 p.lf.length a4.c4, .slice a4.A5 p.sm.length a4.c5, .slice a4.A6 p.vl.length a4.c6]
    obtain ⟨w5, hw5⟩ : ∃ w5, w5 = w4.alloc (Obj.cells #[.slice a4.A0 p.js.length a4.c0, .slice a4.A1 p.dq.length a4.c1, .slice a4.A2 p.ran.length a4.c2, .slice a4.A3 p.dn.length a4.c3, .slice a4.A4 p.lf.length a4.c4, .slice a4.A5 p.sm.length a4.c5, .slice a4.A6 p.vl.length a4.c6] 28) := ⟨_, rfl⟩
    rw [← hw5] at hb5 Y5
    rw [← hw5]
    clear hw5
    obtain ⟨g, hg⟩ : ∃ g, g = w4.heap.size := ⟨_, rfl⟩
    rw [← hg] at Y5
    rw [← hg]
    have h5 := (h4.below hb5 (fun _ k => k)).more (fun b k => Nat.lt_of_lt_of_le k hb5.size)
    have hb15 := below_next hb14 hb5 hb14.size
    have hgl := Y5.lt
    obtain ⟨⟨y0, y1, y2, y3, y4, y5, y6⟩, yl⟩ := box7 Y5
    replace Y5 := hide Y5
    replace hg := hide hg
    replace hb15 := hide hb15
    clear h4 hb4 hb14 hb5
    go_upto_region 8 with (go_at_call 27; refine (kI.out _ _ h5).mono ?_; rintro e w6 ⟨rfl, hb6⟩)
    have hb06 := below_next hb15.out hb6 hb15.out.size
    have X6 := hide (show Blk w6.drew q 67 #[.slice a.A0 p.js.length a.c0, .slice a.A1 p.dq.length a.c1, .slice a.A2 p.ran.length a.c2, .slice a.A3 p.dn.length a.c3, .slice a.A4 p.lf.length a.c4, .slice a.A5 p.sm.length a.c5, .slice a.A6 p.vl.length a.c6] from X0.out.below hb06.drew xl)
    have Y6 := hide (show Blk w6.drew g 28 #[.slice a4.A0 p.js.length a4.c0, .slice a4.A1 p.dq.length a4.c1, .slice a4.A2 p.ran.length a4.c2, .slice a4.A3 p.dn.length a4.c3, .slice a4.A4 p.lf.length a4.c4, .slice a4.A5 p.sm.length a4.c5, .slice a4.A6 p.vl.length a4.c6] from Y5.out.below hb6.drew hgl)
    have h6 := hide (show PoolAt w6.drew (Old w6.drew.heap.size) a4 p from (h5.below hb6.drew (fun _ k => k)).more (fun b k => Nat.lt_of_lt_of_le k hb6.drew.size))
    have hb06d := hide hb06.drew
    have lt6 := hide (show q < w6.drew.heap.size ∧ g < w6.drew.heap.size from ⟨Nat.lt_of_lt_of_le xl hb06.size, Nat.lt_of_lt_of_le hgl hb6.size⟩)
    clear h5 hb6 hb06 y0 y1 y2 y3 y4 y5 y6 yl
    go_upto_region 10 with fail
    refine wp_region_held_drew (S := (fun w' => w'.cell? ⟨g, 0, none⟩ = some (.slice a4.A0 p.js.length a4.c0) ∧ w'.cell? ⟨g, 1, none⟩ = some (.slice a4.A1 p.dq.length a4.c1) ∧ w'.cell? ⟨g, 2, none⟩ = some (.slice a4.A2 p.ran.length a4.c2) ∧ w'.cell? ⟨g, 3, none⟩ = some (.slice a4.A3 p.dn.length a4.c3) ∧ w'.cell? ⟨g, 4, none⟩ = some (.slice a4.A4 p.lf.length a4.c4) ∧ w'.cell? ⟨g, 5, none⟩ = some (.slice a4.A5 p.sm.length a4.c5) ∧ w'.cell? ⟨g, 6, none⟩ = some (.slice a4.A6 p.vl.length a4.c6) ∧ w'.cell? ⟨q, 0, none⟩ = some (.slice a.A0 p.js.length a.c0) ∧ w'.cell? ⟨q, 1, none⟩ = some (.slice a.A1 p.dq.length a.c1) ∧ w'.cell? ⟨q, 2, none⟩ = some (.slice a.A2 p.ran.length a.c2) ∧ w'.cell? ⟨q, 3, none⟩ = some (.slice a.A3 p.dn.length a.c3) ∧ w'.cell? ⟨q, 4, none⟩ = some (.slice a.A4 p.lf.length a.c4) ∧ w'.cell? ⟨q, 5, none⟩ = some (.slice a.A5 p.sm.length a.c5) ∧ w'.cell? ⟨q, 6, none⟩ = some (.slice a.A6 p.vl.length a.c6))) (by kernel_rfl) ?_ (fun hHeld => ?_)
    · exact two7 Y6.out X6.out
    refine wpAnyH_take (i := 0) (oi := { dst := some 35, op := Op.load 28 (Operand.tmp 6), type := 28, pos := "exact.go:3289", after := #[], guard := none }) (v := ?_) rfl (by kernel_rfl) (by kernel_rfl) (by kernel_rfl) (fun _ _ _ h => h) (Or.inl ⟨by rfl, ?_⟩) hHeld ?_
    rotate_left
    · (intro wq hSw; (try dsimp only at hSw); first | (go_simp; done) | (go_simp; with_reducible rfl))
    try simp only [Act.put, List.setIfInBounds_toArray, List.set_cons_zero, List.set_cons_succ]
    refine wpAnyH_take (i := 1) (oi := { dst := some 36, op := Op.load 67 (Operand.tmp 1), type := 67, pos := "exact.go:3289", after := #[], guard := none }) (v := ?_) rfl (by kernel_rfl) (by kernel_rfl) (by kernel_rfl) (fun _ _ _ h => h) (Or.inl ⟨by rfl, ?_⟩) hHeld ?_
    rotate_left
    · (intro wq hSw; (try dsimp only at hSw); first | (go_simp; done) | (go_simp; with_reducible rfl))
    try simp only [Act.put, List.setIfInBounds_toArray, List.set_cons_zero, List.set_cons_succ]
    refine wpAnyH_ready (rs := [2]) (by kernel_rfl) (by simp) ?_
    refine AllReadyH.cons (o := { dst := some 37, op := Op.call { callee := Callee.value (Operand.func 45), args := #[Operand.tmp 36], argTypes := #[67] }, type := 28, pos := "exact.go:3289", after := #[{ on := 1, ground := Ground.data }], guard := none }) rfl (fun K hK => ?_) AllReadyH.nil
    go_simp
    go_at_call 45; refine (kT.out _ hb06d.out).mono ?_; rintro e w7 ⟨a7, rfl, h7, hb7⟩; have X7 := X6.out.below hb7 lt6.out.1; have Y7 := Y6.out.below hb7 lt6.out.2; have h47 := (h6.out.below hb7 (fun _ k => k)).more (fun b k => Nat.lt_of_lt_of_le k hb7.size)
    refine hK.out _ _ ?_ (fun hHeldN => ?_)
    · exact two7 Y7 X7
    clear hK K hHeld
    have hHeld := hHeldN
    clear hHeldN
    try simp only [Act.put, List.setIfInBounds_toArray, List.set_cons_zero, List.set_cons_succ]
    refine wpAnyH_ready (rs := [3]) (by kernel_rfl) (by simp) ?_
    refine AllReadyH.cons (o := { dst := some 38, op := Op.call { callee := Callee.value (Operand.func 40), args := #[Operand.tmp 35, Operand.tmp 37], argTypes := #[28, 28] }, type := 4, pos := "exact.go:3289", after := #[{ on := 0, ground := Ground.data }, { on := 2, ground := Ground.data }, { on := 2, ground := Ground.chain }], guard := none }) rfl (fun K hK => ?_) AllReadyH.nil
    go_simp
    go_at_call 40; refine (kE.out a4 a7 _ h47 h7).mono ?_; rintro e w8 ⟨rfl, hb8⟩; have X8 := Blk.below X7 hb8 (Blk.lt X7); have Y8 := Blk.below Y7 hb8 (Blk.lt Y7)
    refine hK.out _ _ ?_ (fun hHeldN => ?_)
    · exact two7 Y8 X8
    clear hK K hHeld
    have hHeld := hHeldN
    clear hHeldN
    try simp only [Act.put, List.setIfInBounds_toArray, List.set_cons_zero, List.set_cons_succ]
    refine wpAnyH_take (i := 4) (oi := { dst := some 39, op := Op.unOp UnOp.not 4 (Operand.tmp 38), type := 4, pos := "exact.go:3289", after := #[{ on := 3, ground := Ground.data }], guard := none }) (v := ?_) rfl (by kernel_rfl) (by kernel_rfl) (by kernel_rfl) (fun _ _ _ h => h) (Or.inl ⟨by rfl, ?_⟩) hHeld ?_
    rotate_left
    · (intro wq hSw; (try dsimp only at hSw); first | (go_simp; done) | (go_simp; with_reducible rfl))
    try simp only [Act.put, List.setIfInBounds_toArray, List.set_cons_zero, List.set_cons_succ]
    refine wpAnyH_done (by kernel_rfl) ?_ _
    clear hHeld
    have hfin := hide (below_next hb0.out (below_next (below_next hb06d.out hb7 hb06d.out.size) hb8 (below_next hb06d.out hb7 hb06d.out.size).size) hb0.out.size)
    go_wp2_with fail
    go_ret
    exact ⟨rfl, hfin.out⟩
  · rw [szR_neg (by omega)] at ks
    replace ks := hide ks
    clear hz ha
    go_enter Try.func15, Try.ntmps15
    go_upto_region 2 with fail
    rw [← hw0, ← hq]
    clear hw0
    replace hq := hide hq
    go_wp2_with (go_at_call 44; refine ks.out.mono ?_; rintro e w1 ⟨rfl, hb1⟩)
    go_ret
    exact ⟨rfl, below_next hb0.out hb1 hb0.out.size⟩
end Go.Proofs.Ytmhldlpjiepmpaa
