/- spec.Quiet where no register is set: fences and jumps. -/
import Derived.Test.YtaiklooffkmjjaaSQuiet
namespace Go.Proofs.Ytaiklooffkmjjaa
open Go.RowKit

set_option maxRecDepth 100000 in
set_option maxHeartbeats 6400000 in
theorem squiet_jmp (o x n pc : Int) (r a b : Nat) (A : Option Addr) (zs : List Int) (c : Nat) (w : World) (hr : r < 6) (ha : a < 6) (hb : b < 6) (hz : zs.length = 6) (hS : IntsAt w (Old w.heap.size) A zs) (ho : (o = 12) ∨ (o = 13 ∧ geti zs a = 0) ∨ (o = 13 ∧ (geti zs a == 0) = false) ∨ (o = 14)) :
    Calls Try.prog 21 #[.agg #[.int .i64 o, .int .i64 r, .int .i64 a, .int .i64 b, .int .i64 x, .int .i64 n], .int .i64 pc, .agg #[.slice A 6 c]] w fun e w' => QuietYes w w' e (quietRow o n r a b zs) (quietPc o n pc a zs) := by
  obtain ⟨i1, hi1, hy0, hy1, hy2⟩ := info_parts Try.infoInt
  have hi1 := hide hi1
  have H0 := hide (((Fr.start (o := o) (r := r) (a := a) (b := b) (x := x) (n := n) (c := c) hS).next ((Below.refl _ _).alloc (Nat.le_refl _) (Obj.cells #[Value.slice none 0 0] 32))).next ((Below.refl _ _).alloc (Nat.le_refl _) (Obj.cells #[] 3)))
  have hR0 := (Blk.new ((w.alloc (Obj.cells #[Value.int .i64 o, Value.int .i64 r, Value.int .i64 a, Value.int .i64 b, Value.int .i64 x, Value.int .i64 n] 24)).alloc (Obj.cells #[Value.slice A zs.length c] 32)) 32 #[.slice none 0 0]).alloc (Obj.cells #[] 3)
  have hown0 := own_lit (((w.alloc (Obj.cells #[Value.int .i64 o, Value.int .i64 r, Value.int .i64 a, Value.int .i64 b, Value.int .i64 x, Value.int .i64 n] 24)).alloc (Obj.cells #[Value.slice A zs.length c] 32)).alloc (Obj.cells #[.slice none 0 0] 32)) (w.heap.size + 1 + 1 + 1) 3 1 0 #[] (by simp) (by omega) rfl
  simp only [World.size_alloc] at hR0 hown0
  rw [hz] at H0 hR0 hown0
  replace hR0 := hide hR0
  replace hown0 := hide hown0
  obtain ⟨bb, off, rfl, hbb, hci⟩ := hS.2 (by omega)
  have hbb : bb < w.heap.size := hbb
  have hnews := hide (news_of_ints H0.out.row)
  have kq := hide (fun w => (show Calls Try.prog 54 #[.int .i64 o] w fun e w' => e = .returned (.bool (spQ o)) ∧ w' = w from l2quiet_any o w))
  have s12 : spQ 12 = false := by decide
  have s13 : spQ 13 = true := by decide
  have s14 : spQ 14 = true := by decide
  have k1 := fun (z : Nat) (hz : z < 6) w => l1reg_any z w
  have kr : ∀ (z : Nat) (hz : z < 6) (w : World), Calls Try.prog 41 #[.int .i64 z] w fun e w' => e = .returned (.bool true) ∧ w = w' := fun z hz w => by
    have := l1reg_any z w
    rwa [show regB z = true from by unfold regB; simp; omega] at this
  replace kr := hide kr
  clear k1
  have hpc : quietPc o n pc a zs = if jumpsB o (geti zs a) then n else wrap64 (pc + 1) := rfl
  have hrow : quietRow o n r a b zs = if o ≤ 6 then zs.set r (calcV o n (geti zs a) (geti zs b)) else zs := rfl
  rw [hpc, hrow, if_neg (show ¬ o ≤ 6 by omega)]
  clear hpc hrow hci
  have ha' : (a : Int) < 6 := by omega
  rcases ho with rfl | ⟨rfl, h1⟩ | ⟨rfl, h1⟩ | rfl
  all_goals
    generalize hP : (if jumpsB _ (geti zs a) = true then n else wrap64 (pc + 1)) = P
    replace hP := hide hP
    go_enter Try.func21, Try.ntmps21
    go_wp2_with (first | (go_at_call 54; refine (kq.out _).mono ?_; rintro e w1 ⟨rfl, rfl⟩) | (go_at_call 41; refine (kr.out _ (by assumption) _).mono ?_; rintro e w1 ⟨rfl, rfl⟩) | (at_builtin; refine wpList_append_lies _ rfl _ _ _ rfl (w.heap.size + 1 + 1 + 1) 3 i1 _ 1 8 Try.underlying30 hi1.out hy0 hy1 hy2 rfl (by omega) (.slice (some ⟨w.heap.size + 1 + 1 + 1, 0, none⟩) 0 0) 0 [] rfl hown0.out ⟨bb, off, none⟩ 6 c (zs.map (Value.int .i64)) rfl (by simp [hz]) hnews.out (by simp [Value.oneCell']) (by omega) (by have : maxLen = 9223372036854775807 := rfl; omega) (by omega) (by simp) _ rfl ?_))
    intro q cq w5 hown hgr hat hlt
    have hB5 := below_grown (B := w.heap.size + 1 + 1 + 1) hgr (fun k hk => by simp [Value.ownBlock]; omega) (by simp)
    have hl5 := hB5.size
    have hR5 := hR0.out.below hB5 (by omega)
    have Q5 := hide (show Qr w _ r a b x n (some ⟨bb, off, none⟩) c zs w5.heap.size q cq zs (w5.alloc (Obj.cells #[Value.slice (some ⟨q, 0, none⟩) 6 cq] 32)) from
      ⟨(H0.out.low hB5 (by omega)).next ((Below.refl _ _).alloc (Nat.le_refl _) _), ⟨_, hR5.alloc _⟩, Blk.new _ _ _, own_keep (by simpa using hown) (fun b _ hlt => Below.heap_alloc w5 _ b hlt), hlt⟩)
    clear hown hgr hat hB5 hR5
    obtain ⟨⟨e1, e2, e3, e4, e5, e7⟩, e6⟩ := Q5.out.fr.cells
    rw [hz] at e6
    obtain ⟨d0, ⟨u, d1⟩, d2⟩ := Q5.out.cells
    have QQ := hide Q5.out
    have hown := QQ.out.row
    have hq0 := (own_blk hown).1
    have hfin := hide (own_setFar (own_base hown (show w.heap.size ≤ w.heap.size + 1 + 1 + 1 by omega)) (p := ⟨w.heap.size + 1 + 1, 0, none⟩) (by simp [Value.ownBlock]; omega) (.slice (some ⟨q, 0, none⟩) 6 cq))
    have hBf := hide QQ.out.fr.below
    clear hown
    have hbb5 : bb < w5.heap.size := by simp only [World.size_alloc] at hl5; omega
    have hrow1 : w5.cell? ⟨bb, off + a, none⟩ = some (.int .i64 (geti zs a)) := by
      obtain ⟨b2, off2, e, -, hc⟩ := QQ.out.fr.row.2 (by omega)
      cases e
      rw [← hc a (by omega)]
      exact ((below1 w5 _).cell (p := ⟨bb, off + a, none⟩) (by show bb < w5.heap.size; simp only [World.size_alloc] at hl5; omega)).symm
    go_wp2_with fail
  · refine bodyPost_ret (v := .tuple #[.agg #[.slice (some ⟨q, 0, none⟩) 6 cq], .int .i64 (wrap64 (pc + 1))]) (by simp [results, Try.results21, go_sem, d1]; done) rfl ⟨⟨q, cq, by rw [← hP.out]; simp [jumpsB], hz, hfin.out⟩, hBf.out.setCell (by show w.heap.size ≤ w.heap.size + 1 + 1; omega) _⟩
  · go_region
    all_goals
      go_wp2_with fail
      refine bodyPost_ret (v := .tuple #[.agg #[.slice (some ⟨q, 0, none⟩) 6 cq], .int .i64 n]) (by simp [results, Try.results21, go_sem, d1]; done) rfl ⟨⟨q, cq, by rw [← hP.out]; simp [jumpsB, h1], hz, hfin.out⟩, ?_⟩
      first | exact hBf.out.setCell (by show w.heap.size ≤ w.heap.size + 1 + 1; omega) _ | exact (hBf.out.setCell (by show w.heap.size ≤ w.heap.size + 1 + 1; omega) _).drew
  · refine bodyPost_ret (v := .tuple #[.agg #[.slice (some ⟨q, 0, none⟩) 6 cq], .int .i64 (wrap64 (pc + 1))]) (by simp [results, Try.results21, go_sem, d1]; done) rfl ⟨⟨q, cq, by have h2 : ¬ geti zs a = 0 := (by simpa using h1); rw [← hP.out]; simp [jumpsB, h2], hz, hfin.out⟩, hBf.out.setCell (by show w.heap.size ≤ w.heap.size + 1 + 1; omega) _⟩
  · go_region
    all_goals
      go_wp2_with fail
      refine bodyPost_ret (v := .tuple #[.agg #[.slice (some ⟨q, 0, none⟩) 6 cq], .int .i64 n]) (by simp [results, Try.results21, go_sem, d1]; done) rfl ⟨⟨q, cq, by rw [← hP.out]; simp [jumpsB], hz, hfin.out⟩, ?_⟩
      first | exact hBf.out.setCell (by show w.heap.size ≤ w.heap.size + 1 + 1; omega) _ | exact (hBf.out.setCell (by show w.heap.size ≤ w.heap.size + 1 + 1; omega) _).drew
end Go.Proofs.Ytaiklooffkmjjaa
