/- spec.Quiet, for every instruction, place and file. -/
import Derived.Test.YtaiklooffkmjjaaQuiet
namespace Go.Proofs.Ytaiklooffkmjjaa
open Go.RowKit

def spQ (o : Int) : Bool := decide ((1 ≤ o ∧ o ≤ 6) ∨ o = 13 ∨ o = 14)
theorem quietB_eq (o : Int) : quietB o = (spQ o || decide (o = 12)) := by
  unfold quietB spQ knownB touchN
  rw [Bool.eq_iff_iff]
  simp
  omega

section
variable {w0 w w' : World} {o r a b x n : Int} {A : Option Addr} {c : Nat} {zs : List Int}
theorem Fr.low {B : Nat} (h : Fr w0 o r a b x n A c zs w) (hb : Below B w w') (hB : w0.heap.size + 1 < B) : Fr w0 o r a b x n A c zs w' :=
  ⟨h.I.below hb (by omega), h.F.below hb hB, h.row.below hb (fun k hk => by have : k < w0.heap.size := hk; omega), h.below.trans (hb.mono (by omega))⟩
end

set_option maxRecDepth 100000 in
set_option maxHeartbeats 6400000 in
theorem squiet_no (o r a b x n pc : Int) (A : Option Addr) (zs : List Int) (c : Nat) (w : World) (hok : quietOk o r a b zs = false) :
    Calls Try.prog 21 #[.agg #[.int .i64 o, .int .i64 r, .int .i64 a, .int .i64 b, .int .i64 x, .int .i64 n], .int .i64 pc, .agg #[.slice A zs.length c]] w fun e w' => QuietNo w w' e := by
  have hB := hide ((below2 w (Obj.cells #[Value.int .i64 o, Value.int .i64 r, Value.int .i64 a, Value.int .i64 b, Value.int .i64 x, Value.int .i64 n] 24) (Obj.cells #[Value.slice A zs.length c] 32)).alloc (by simp; omega) (Obj.cells #[Value.slice none 0 0] 32))
  have kq := hide (fun w => (show Calls Try.prog 54 #[.int .i64 o] w fun e w' => e = .returned (.bool (spQ o)) ∧ w' = w from l2quiet_any o w))
  have hb : ((spQ o || decide (o = 12)) && decide (zs.length = 6) && (regB r && regB a && regB b)) = false := by rw [← quietB_eq]; exact hok
  have hcases : (spQ o = false ∧ ¬ o = 12) ∨ ((spQ o = true ∨ (spQ o = false ∧ o = 12)) ∧ (¬ (zs.length : Int) = 6 ∨ ((zs.length : Int) = 6 ∧ (regB r = false ∨ (regB r = true ∧ (regB a = false ∨ (regB a = true ∧ regB b = false))))))) := by
    cases h1 : spQ o
    · by_cases h2 : o = 12
      · refine .inr ⟨.inr ⟨rfl, h2⟩, ?_⟩
        by_cases h3 : zs.length = 6
        · refine .inr ⟨by omega, ?_⟩
          rw [h1, h2, h3] at hb
          cases h4 : regB r
          · exact .inl rfl
          · cases h5 : regB a
            · exact .inr ⟨rfl, .inl rfl⟩
            · exact .inr ⟨rfl, .inr ⟨rfl, by simpa [h4, h5] using hb⟩⟩
        · exact .inl (by omega)
      · exact .inl ⟨rfl, h2⟩
    · refine .inr ⟨.inl rfl, ?_⟩
      by_cases h3 : zs.length = 6
      · refine .inr ⟨by omega, ?_⟩
        rw [h1, h3] at hb
        cases h4 : regB r
        · exact .inl rfl
        · cases h5 : regB a
          · exact .inr ⟨rfl, .inl rfl⟩
          · exact .inr ⟨rfl, .inr ⟨rfl, by simpa [h4, h5] using hb⟩⟩
      · exact .inl (by omega)
  clear hb hok
  generalize spQ o = s at *
  rcases hcases with ⟨rfl, h1⟩ | ⟨rfl | ⟨rfl, rfl⟩, h2 | ⟨h2, h3 | ⟨h3, h4 | ⟨h4, h5⟩⟩⟩⟩
  all_goals
    go_enter Try.func21, Try.ntmps21
    go_wp2_with (first | (go_at_call 54; refine (kq.out _).mono ?_; rintro e w1 ⟨rfl, rfl⟩) | (go_at_call 41; refine (l1reg_any _ _).mono ?_; rintro e w1 ⟨rfl, rfl⟩))
    refine bodyPost_ret (v := .tuple #[.agg #[.slice none 0 0], .int .i64 (-1)]) (by simp [results, Try.results21, go_sem]; done) rfl ⟨rfl, ?_⟩
    first | exact hB.out | exact hB.out.setCell (by show w.heap.size ≤ w.heap.size + 1 + 1; omega) _

set_option maxRecDepth 100000 in
set_option maxHeartbeats 6400000 in
theorem squiet_set (o x n pc : Int) (r a b : Nat) (A : Option Addr) (zs : List Int) (c : Nat) (w : World) (hr : r < 6) (ha : a < 6) (hb : b < 6) (hz : zs.length = 6) (hS : IntsAt w (Old w.heap.size) A zs) (ho : 1 ≤ o ∧ o ≤ 6) :
    Calls Try.prog 21 #[.agg #[.int .i64 o, .int .i64 r, .int .i64 a, .int .i64 b, .int .i64 x, .int .i64 n], .int .i64 pc, .agg #[.slice A 6 c]] w fun e w' => QuietYes w w' e (quietRow o n r a b zs) (quietPc o n pc a zs) := by
  obtain ⟨i1, hi1, hy0, hy1, hy2⟩ := info_parts Try.infoInt
  have hi1 := hide hi1
  have H0 := hide (((Fr.start (o := o) (r := r) (a := a) (b := b) (x := x) (n := n) (c := c) hS).next ((Below.refl _ _).alloc (Nat.le_refl _) (Obj.cells #[Value.slice none 0 0] 32))).next ((Below.refl _ _).alloc (Nat.le_refl _) (Obj.cells #[] 3)))
  have hR0 := (Blk.new ((w.alloc (Obj.cells #[Value.int .i64 o, Value.int .i64 r, Value.int .i64 a, Value.int .i64 b, Value.int .i64 x, Value.int .i64 n] 24)).alloc (Obj.cells #[Value.slice A zs.length c] 32)) 32 #[.slice none 0 0]).alloc (Obj.cells #[] 3)
  have hown0 := own_lit (((w.alloc (Obj.cells #[Value.int .i64 o, Value.int .i64 r, Value.int .i64 a, Value.int .i64 b, Value.int .i64 x, Value.int .i64 n] 24)).alloc (Obj.cells #[Value.slice A zs.length c] 32)).alloc (Obj.cells #[.slice none 0 0] 32)) (w.heap.size + 1 + 1 + 1) 3 1 0 #[] (by simp) (by omega) rfl
  simp only [World.size_alloc] at hR0 hown0
  rw [hz] at H0 hR0 hown0
  replace hR0 := hide hR0
  replace hown0 := hide hown0
  obtain ⟨bb, off, rfl, hbb, hci⟩ := hS.2 (by omega)
  have hbb : bb < w.heap.size := hbb
  have hnews := hide (news_of_ints H0.out.row)
  have kq := hide (fun w => (show Calls Try.prog 54 #[.int .i64 o] w fun e w' => e = .returned (.bool (spQ o)) ∧ w' = w from l2quiet_any o w))
  rw [show spQ o = true from by unfold spQ; simp; omega] at kq
  have k1 := fun (z : Nat) (hz : z < 6) w => l1reg_any z w
  have kr : ∀ (z : Nat) (hz : z < 6) (w : World), Calls Try.prog 41 #[.int .i64 z] w fun e w' => e = .returned (.bool true) ∧ w = w' := fun z hz w => by
    have := l1reg_any z w
    rwa [show regB z = true from by unfold regB; simp; omega] at this
  replace kr := hide kr
  clear k1
  have hpc : quietPc o n pc a zs = if jumpsB o (geti zs a) then n else wrap64 (pc + 1) := rfl
  have hrow : quietRow o n r a b zs = if o ≤ 6 then zs.set r (calcV o n (geti zs a) (geti zs b)) else zs := rfl
  rw [hpc, hrow, if_pos ho.2, show jumpsB o (geti zs a) = false from by unfold jumpsB; simp; omega]
  clear hpc hrow hci
  go_enter Try.func21, Try.ntmps21
  go_wp2_with (first | (go_at_call 54; refine (kq.out _).mono ?_; rintro e w1 ⟨rfl, rfl⟩) | (go_at_call 41; refine (kr.out _ (by assumption) _).mono ?_; rintro e w1 ⟨rfl, rfl⟩) | (at_builtin; refine wpList_append_lies _ rfl _ _ _ rfl (w.heap.size + 1 + 1 + 1) 3 i1 _ 1 8 Try.underlying30 hi1.out hy0 hy1 hy2 rfl (by omega) (.slice (some ⟨w.heap.size + 1 + 1 + 1, 0, none⟩) 0 0) 0 [] rfl hown0.out ⟨bb, off, none⟩ 6 c (zs.map (Value.int .i64)) rfl (by simp [hz]) hnews.out (by simp [Value.oneCell']) (by omega) (by have : maxLen = 9223372036854775807 := rfl; omega) (by omega) (by simp) _ rfl ?_))
  intro q cq w5 hown hgr hat hlt
  have hB5 := below_grown (B := w.heap.size + 1 + 1 + 1) hgr (fun k hk => by simp [Value.ownBlock]; omega) (by simp)
  have hl5 := hB5.size
  have hR5 := hR0.out.below hB5 (by omega)
  have Q5 := hide (show Qr w o r a b x n (some ⟨bb, off, none⟩) c zs w5.heap.size q cq zs (w5.alloc (Obj.cells #[Value.slice (some ⟨q, 0, none⟩) 6 cq] 32)) from
    ⟨(H0.out.low hB5 (by omega)).next ((Below.refl _ _).alloc (Nat.le_refl _) _), ⟨_, hR5.alloc _⟩, Blk.new _ _ _, own_keep (by simpa using hown) (fun b _ hlt => Below.heap_alloc w5 _ b hlt), hlt⟩)
  clear hown hgr hat hB5 hR5
  obtain ⟨⟨e1, e2, e3, e4, e5, e7⟩, e6⟩ := Q5.out.fr.cells
  rw [hz] at e6
  obtain ⟨d0, ⟨u, d1⟩, d2⟩ := Q5.out.cells
  have hri : (r : Int) < 6 := by omega
  have k7 := fun w hin => l2calc_any (zs := zs) (A := some ⟨bb, off, none⟩) (w := w) o r x n a b c ho ha hb hz hin
  rw [hz] at k7
  replace k7 := hide k7
  have hq0 := (own_blk Q5.out.row).1
  go_wp2_with fail
  go_region_law (first
    | (go_simp; refine (k7.out _ (Q5.out.drew.fr.row.more (fun _ h => Nat.lt_of_lt_of_le h Q5.out.drew.fr.below.size))).mono ?_; rintro e w8 ⟨rfl, hb8⟩; have Q8 := hide (Q5.out.drew.next hb8); obtain ⟨⟨c1, c2, c3, c4, c5, c7⟩, c6⟩ := Q8.out.fr.cells; rw [hz] at c6; obtain ⟨b0, ⟨u9, b3⟩, b4⟩ := Q8.out.cells; obtain ⟨⟨u8, b1⟩, b2⟩ := Q8.out.at_ hr; go_simp))
  all_goals
    have Q9 := hide (Q8.out.set r (calcV o n (geti zs a) (geti zs b)))
    have hfin := hide (own_setFar (own_base Q9.out.row (show w.heap.size ≤ w.heap.size + 1 + 1 + 1 by omega)) (p := ⟨w.heap.size + 1 + 1, 0, none⟩) (by simp [Value.ownBlock]; omega) (.slice (some ⟨q, 0, none⟩) 6 cq))
    have hBf := hide Q9.out.fr.below
    obtain ⟨f0, ⟨u10, f3⟩, f4⟩ := Q9.out.cells
    go_wp2_with fail
    refine bodyPost_ret (v := .tuple #[.agg #[.slice (some ⟨q, 0, none⟩) 6 cq], .int .i64 (wrap64 (pc + 1))]) (by simp [results, Try.results21, go_sem, f3]; done) rfl ⟨⟨q, cq, rfl, by simp [hz], hfin.out⟩, hBf.out.setCell (by show w.heap.size ≤ w.heap.size + 1 + 1; omega) _⟩
end Go.Proofs.Ytaiklooffkmjjaa
