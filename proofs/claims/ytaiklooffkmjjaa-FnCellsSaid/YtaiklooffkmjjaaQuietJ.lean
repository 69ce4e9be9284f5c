/- impl.Quiet where no register is set: fences and jumps. -/
import Derived.Test.YtaiklooffkmjjaaQuiet
namespace Go.Proofs.Ytaiklooffkmjjaa
open Go.RowKit

set_option maxRecDepth 100000 in
set_option maxHeartbeats 6400000 in
theorem quiet_jmp (o x n pc : Int) (r a b : Nat) (A : Option Addr) (zs : List Int) (c : Nat) (w : World) (hr : r < 6) (ha : a < 6) (hb : b < 6) (hz : zs.length = 6) (hS : IntsAt w (Old w.heap.size) A zs) (ho : o = 12 ∨ o = 13 ∨ o = 14) :
    Calls Try.prog 24 #[.agg #[.int .i64 o, .int .i64 r, .int .i64 a, .int .i64 b, .int .i64 x, .int .i64 n], .int .i64 pc, .agg #[.slice A 6 c]] w fun e w' => QuietYes w w' e (quietRow o n r a b zs) (quietPc o n pc a zs) := by
  have H0 := hide ((Fr.start (o := o) (r := r) (a := a) (b := b) (x := x) (n := n) (c := c) hS).next ((Below.refl _ _).alloc (Nat.le_refl _) (Obj.cells #[Value.slice none 0 0] 32)))
  have hR0 := Blk.new ((w.alloc (Obj.cells #[Value.int .i64 o, Value.int .i64 r, Value.int .i64 a, Value.int .i64 b, Value.int .i64 x, Value.int .i64 n] 24)).alloc (Obj.cells #[Value.slice A zs.length c] 32)) 32 #[.slice none 0 0]
  simp only [World.size_alloc] at hR0
  rw [hz] at H0 hR0
  replace hR0 := hide hR0
  have k2 := fun w => quietK_any o w
  rw [show quietB o = true from by rcases ho with rfl | rfl | rfl <;> decide] at k2
  replace k2 := hide k2
  have k4 := fun w => regs_any o r a b x n w
  rw [show regsB r a b = true from by simp [regsB, regB]; omega] at k4
  replace k4 := hide k4
  have kc := fun w hS => clone_any A zs c w (by omega) (by omega) hS
  rw [hz] at kc
  replace kc := hide kc
  have i0 : ∀ (p1 p2 p3 p4 p5 : Bool) (w : World), (Instr.index 89 (.agg #[.bool p1, .bool p2, .bool p3, .bool p4, .bool p5]) (.int .i64 0)).run Try.prog w = .ok (.bool p1) w := fun _ _ _ _ _ _ => by kernel_rfl
  have k6 := fun w => uses_any o w
  rw [show uR o = false from by rcases ho with rfl | rfl | rfl <;> decide] at k6
  replace k6 := hide k6
  have k7 := fun S w hS hin => result_any (S := S) (zs := zs) (A := A) (w := w) o r x n a b c ha hb hz hS hin
  replace k7 := hide k7
  have k8 := fun w hin => jumps_any (zs := zs) (A := A) (w := w) o r x n a b c ha hz hin
  rw [hz] at k8
  have hpc : quietPc o n pc a zs = if jumpsB o (geti zs a) then n else wrap64 (pc + 1) := rfl
  have hrow : quietRow o n r a b zs = if o ≤ 6 then zs.set r (calcV o n (geti zs a) (geti zs b)) else zs := rfl
  rw [hpc, hrow, if_neg (show ¬ o ≤ 6 by omega)]
  clear hpc hrow k7
  generalize jumpsB o (geti zs a) = jb at *
  replace k8 := hide k8
  go_enter Try.func24, Try.ntmps24
  go_wp2_with fail
  refine (kind_any _ _ _ _ _ _ _).mono ?_
  rintro e w1 ⟨rfl, hb1⟩
  have H1 := hide (H0.out.next hb1)
  have R1 := hide (hR0.out.below hb1 (by simp))
  obtain ⟨-, e6⟩ := H1.out.cells
  rw [hz] at e6
  go_wp2_with fail
  refine (k2.out _).mono ?_
  rintro e w2 ⟨rfl, rfl⟩
  go_wp2_with fail
  refine (fileOk_any _ _ _ _).mono ?_
  rintro e w3 ⟨rfl, hb3⟩
  have H3 := hide (H1.out.next hb3)
  have R3 := hide (R1.out.below hb3 R1.out.lt)
  clear e6
  obtain ⟨⟨e1, e2, e3, e4, e5, e7⟩, -⟩ := H3.out.cells
  go_wp2_with fail
  refine (k4.out _).mono ?_
  rintro e w4 ⟨rfl, hb4⟩
  have H4 := hide (H3.out.next hb4)
  have R4 := hide (R3.out.below hb4 R3.out.lt)
  clear e1 e2 e3 e4 e5 e7
  obtain ⟨⟨e1, e2, e3, e4, e5, e7⟩, e6⟩ := H4.out.cells
  rw [hz] at e6
  go_wp2_with fail
  refine (kc.out _ (H4.out.row.more (fun _ h => Nat.lt_of_lt_of_le h H4.out.below.size))).mono ?_
  rintro e w5 ⟨q, cq, rfl, hown, hb5⟩
  rw [hz] at hown
  simp only [hz]
  have hlR := R4.out.lt
  have hq5 : q < w5.heap.size := (own_lt hown rfl).2.1
  have Q5 := hide (show Qr w o r a b x n A c zs w5.heap.size q cq zs (w5.alloc (Obj.cells #[Value.slice (some ⟨q, 0, none⟩) 6 cq] 32)) from
    ⟨(H4.out.next hb5).next ((Below.refl _ _).alloc (Nat.le_refl _) _), ⟨_, (R4.out.below hb5 hlR).alloc _⟩, Blk.new _ _ _, own_keep (own_base hown (by omega)) (fun b _ hlt => Below.heap_alloc w5 _ b hlt), hq5⟩)
  clear e1 e2 e3 e4 e5 e7 e6 hown
  obtain ⟨⟨e1, e2, e3, e4, e5, e7⟩, e6⟩ := Q5.out.fr.cells
  go_wp2_with fail
  refine (kind_any _ _ _ _ _ _ _).mono ?_
  rintro e w6 ⟨rfl, hb6⟩
  have Q6 := hide (Q5.out.next hb6)
  go_wp2_with fail
  refine (k6.out _).mono ?_
  rintro e w7 ⟨rfl, hb7⟩
  have Q7 := hide (Q6.out.next hb7)
  clear e1 e2 e3 e4 e5 e7 e6
  have QC := hide Q7.out
  clear Q7 Q6 Q5 hb6 hb7 hb5 R1 R3 R4 hR0 H1 H3 H4 H0
  obtain ⟨⟨e1, e2, e3, e4, e5, e7⟩, e6⟩ := QC.out.fr.cells
  rw [hz] at e6
  go_wp2_with fail
  refine (k8.out _ (QC.out.fr.row.more (fun _ h => Nat.lt_of_lt_of_le h QC.out.fr.below.size))).mono ?_
  rintro e w9 ⟨rfl, hb9⟩
  have QQ := hide (QC.out.next hb9)
  clear e1 e2 e3 e4 e5 e7 e6
  obtain ⟨⟨e1, e2, e3, e4, e5, e7⟩, e6⟩ := QQ.out.fr.cells
  obtain ⟨d0, ⟨u, d1⟩, d2⟩ := QQ.out.cells
  have hown := QQ.out.row
  have hq0 := (own_blk hown).1
  have hfin := hide (own_setFar (own_base hown (show w.heap.size ≤ w.heap.size + 1 + 1 + 1 by omega)) (p := ⟨w.heap.size + 1 + 1, 0, none⟩) (by simp [Value.ownBlock]; omega) (.slice (some ⟨q, 0, none⟩) 6 cq))
  have hBf := hide QQ.out.fr.below
  clear hown
  cases jb
  · go_wp2_with fail
    refine bodyPost_ret (v := .tuple #[.agg #[.slice (some ⟨q, 0, none⟩) 6 cq], .int .i64 (wrap64 (pc + 1))]) (by simp [results, Try.results24, go_sem, d1]; done) rfl ⟨⟨q, cq, rfl, hz, hfin.out⟩, hBf.out.setCell (by show w.heap.size ≤ w.heap.size + 1 + 1; omega) _⟩
  · go_wp2_with fail
    go_region
    all_goals
      go_wp2_with fail
      refine bodyPost_ret (v := .tuple #[.agg #[.slice (some ⟨q, 0, none⟩) 6 cq], .int .i64 n]) (by simp [results, Try.results24, go_sem, d1]; done) rfl ⟨⟨q, cq, rfl, hz, hfin.out⟩, ?_⟩
      first | exact hBf.out.setCell (by show w.heap.size ≤ w.heap.size + 1 + 1; omega) _ | exact (hBf.out.setCell (by show w.heap.size ≤ w.heap.size + 1 + 1; omega) _).drew
end Go.Proofs.Ytaiklooffkmjjaa
