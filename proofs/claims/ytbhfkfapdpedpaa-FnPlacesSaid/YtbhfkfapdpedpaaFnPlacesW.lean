/- The walk of FnPlaces: it answers true, whatever is drawn. -/
import Derived.Test.YtbhfkfapdpedpaaDPl
import Derived.Test.YtbhfkfapdpedpaaViews
import Derived.Test.YtbhfkfapdpedpaaPlL
import Derived.Test.YtbhfkfapdpedpaaSPl
import Derived.Test.YtbhfkfapdpedpaaExH
import Derived.Deep.RegionHeld3
namespace Go.Proofs.Ytbhfkfapdpedpaa
open Go.RowKit

attribute [local go_sem ↓] Go.wp_at_zero Go.wp_at_succ

/-- What is known of the places of a number: nothing, or where it stands. -/
def PlK (n : Nat) (k : Int) (ys zs : List Int) (N M : Nat) : Prop := (k = -1 ∧ N = 0 ∧ M = 0) ∨ ∃ p : Nat, k = p ∧ p < n ∧ N = n - p ∧ geti ys 0 = p ∧ 0 < M ∧ M ≤ N ∧ geti zs (M - 1) = n ∧ (p : Int) < geti zs 0
theorem plK (l : List PostD) (i : Int) : PlK l.length (placeI l i) (readI l i) (writeI l i) (readI l i).length (writeI l i).length := by
  rcases place_cases l i with ⟨h, -⟩ | ⟨p, h, hp, -⟩
  · exact .inl ⟨h, by rw [readI_no h]; rfl, by rw [writeI_no h]; rfl⟩
  · obtain ⟨h1, h2⟩ := readI_yes h hp
    obtain ⟨h3, h4, h5, h6⟩ := writeI_last h hp
    exact .inr ⟨p, h, hp, h1, h2, h3, by rw [h1]; exact h6, h4, h5⟩

/-- Four cells that the last line reads. -/
def PlC (T bR oR bW oW m : Nat) (v r0 z0 zM : Value) (w : World) : Prop := (w.cell? ⟨T, 0, none⟩ = some v ∧ w.cell? ⟨bR, oR, none⟩ = some r0 ∧ w.cell? ⟨bW, oW, none⟩ = some z0 ∧ w.cell? ⟨bW, oW + m, none⟩ = some zM)
theorem PlC.next {T bR oR bW oW m : Nat} {v r0 z0 zM : Value} {w w' : World} (h : PlC T bR oR bW oW m v r0 z0 zM w) (hl : T < w.heap.size ∧ bR < w.heap.size ∧ bW < w.heap.size) (hb : Below w.heap.size w w') : PlC T bR oR bW oW m v r0 z0 zM w' :=
  ⟨(hb.cell (p := ⟨T, 0, none⟩) hl.1).trans h.1, (hb.cell (p := ⟨bR, oR, none⟩) hl.2.1).trans h.2.1, (hb.cell (p := ⟨bW, oW, none⟩) hl.2.2).trans h.2.2.1, (hb.cell (p := ⟨bW, oW + m, none⟩) hl.2.2).trans h.2.2.2⟩

set_option maxRecDepth 100000 in
set_option maxHeartbeats 12800000 in
theorem fnPlaces_walk (A : Option Addr) (n c : Nat) (w : World) (hn : n ≤ c) (ha : BytesAt w (Old w.heap.size) A n) :
    Calls Try.prog 7 #[.slice A n c] w fun e w' => e = .returned (.bool true) ∧ Below w.heap.size w w' := by
  go_enter Try.func7, Try.ntmps7
  go_wp2_with fail
  refine (drawReadable_any A n c _ hn ha).mono ?_
  rintro e w1 ⟨A1, c1, l, x, rfl, ⟨hl1, hl5, hlc⟩, hsm, hi0, hx, hb0⟩
  replace hb0 := hide hb0
  have hi : PostsAt w1 (Old w1.heap.size) A1 l := hi0.more (fun _ h => h.2)
  clear hi0
  have hwf := smallP_wf hsm
  have hwx : (Lit.int .i64 x).wf = true := WalkArith.wf_i64 ⟨by omega, by omega⟩
  have hk0 := plK l x
  have hyl := readI_len l x
  have hzl := writeI_len l x
  have kR := fun A' c' w => readable_any A' l c' x w (by omega) hwf hwx
  have kSR := fun A' c' w => sreadable_any A' l c' x w (by omega)
  have kW := fun A' c' w => writable_any A' l c' x w (by omega) hwf hwx
  have kSW := fun A' c' w => swritable_any A' l c' x w (by omega)
  have kP := fun A' c' w => placeOf_any A' l c' x w (by omega) hwf hwx
  have kSP := fun A' c' w => splaceOf_any A' l c' x w
  obtain ⟨N, hN⟩ : ∃ N, N = (readI l x).length := ⟨_, rfl⟩
  obtain ⟨M, hM⟩ : ∃ M, M = (writeI l x).length := ⟨_, rfl⟩
  obtain ⟨ys, hy⟩ : ∃ ys, ys = readI l x := ⟨_, rfl⟩
  obtain ⟨zs, hz⟩ : ∃ zs, zs = writeI l x := ⟨_, rfl⟩
  obtain ⟨k, hk⟩ : ∃ k, k = placeI l x := ⟨_, rfl⟩
  rw [← hN, ← hM, ← hy, ← hz, ← hk] at hk0
  rw [← hN] at hyl
  rw [← hM] at hzl
  simp only [← hN] at kR kSR
  simp only [← hy] at kR kSR
  simp only [← hM] at kW kSW
  simp only [← hz] at kW kSW
  simp only [← hk] at kP kSP
  rw [← hy] at hN
  rw [← hz] at hM
  clear hy hz hk hsm hwf hwx
  replace hk0 := hide hk0
  replace kR := hide kR
  replace kSR := hide kSR
  replace kW := hide kW
  replace kSW := hide kSW
  replace kP := hide kP
  replace kSP := hide kSP
  replace hN := hide hN.symm
  replace hM := hide hM.symm
  have S := hide hi
  have HB := hide (Below.refl w1.heap.size w1)
  clear hi
  go_wp2_with fail
  obtain ⟨w2, hw2⟩ : ∃ wx, wx = w1.alloc (Obj.cells #[Value.slice A1 l.length c1] 45) := ⟨_, rfl⟩
  have hb : Below w1.heap.size w1 w2 := by rw [hw2]; exact below1 _ _
  have hszw2 : w2.heap.size = w1.heap.size + 1 := by rw [hw2, World.size_alloc]
  have NHb := hide (show Blk w2 (w1.heap.size) 45 #[Value.slice A1 l.length c1] from by rw [hw2]; exact Blk.new _ _ _)
  have hBz := HB.out.size
  replace S := hide (S.out.nextI hb hBz)
  replace HB := hide (below_next HB.out hb hBz)
  clear hBz
  have Hb := hide NHb.out
  clear NHb
  clear hb
  rw [← hw2]
  clear hw2
  have hzw2 := Nat.le_of_eq hszw2.symm
  clear hszw2
  obtain ⟨⟨cHb, -⟩, lHb⟩ := box1 Hb.out
  refine (kR.out _ _ _ (S.out.more (old_lts HB.out.size))).mono ?_
  rintro e w3 ⟨AR, cR, rfl, hr, hb⟩
  clear cHb lHb
  have hzw3 := hb.size
  have hBz := HB.out.size
  replace Hb := hide (Hb.out.below hb Hb.out.lt)
  replace S := hide (S.out.nextI hb hBz)
  replace HB := hide (below_next HB.out hb hBz)
  clear hBz
  clear hb
  have R := hide (RvI.of hr)
  clear hr
  obtain ⟨⟨cHb, -⟩, lHb⟩ := box1 Hb.out
  go_wp2_with fail
  refine (kW.out _ _ _ (S.out.more (old_lts HB.out.size))).mono ?_
  rintro e w4 ⟨AWr, cWr, rfl, hr, hb⟩
  clear cHb lHb
  have hzw4 := hb.size
  have hBz := HB.out.size
  replace Hb := hide (Hb.out.below hb Hb.out.lt)
  replace R := hide (R.out.next hb)
  replace S := hide (S.out.nextI hb hBz)
  replace HB := hide (below_next HB.out hb hBz)
  clear hBz
  clear hb
  have Wr := hide (RvI.of hr)
  clear hr
  obtain ⟨⟨cHb, -⟩, lHb⟩ := box1 Hb.out
  go_wp2_with fail
  refine (kSR.out _ _ _ (S.out.more (old_lts HB.out.size))).mono ?_
  rintro e w5 ⟨AR2, cR2, rfl, hr, hb⟩
  clear cHb lHb
  have hzw5 := hb.size
  have hBz := HB.out.size
  replace Hb := hide (Hb.out.below hb Hb.out.lt)
  replace R := hide (R.out.next hb)
  replace Wr := hide (Wr.out.next hb)
  replace S := hide (S.out.nextI hb hBz)
  replace HB := hide (below_next HB.out hb hBz)
  clear hBz
  clear hb
  have R2 := hide (RvI.of hr)
  clear hr
  obtain ⟨⟨cHb, -⟩, lHb⟩ := box1 Hb.out
  go_wp2_with fail
  refine (sameIntsI hN.out (by omega) R.out R2.out).mono ?_
  rintro e w6 ⟨rfl, hb⟩
  clear cHb lHb
  have hzw6 := hb.size
  have hBz := HB.out.size
  replace Hb := hide (Hb.out.below hb Hb.out.lt)
  replace R := hide (R.out.next hb)
  replace Wr := hide (Wr.out.next hb)
  replace R2 := hide (R2.out.next hb)
  replace S := hide (S.out.nextI hb hBz)
  replace HB := hide (below_next HB.out hb hBz)
  clear hBz
  clear hb
  clear R2
  obtain ⟨⟨cHb, -⟩, lHb⟩ := box1 Hb.out
  go_wp2_with fail
  refine (kSW.out _ _ _ (S.out.more (old_lts HB.out.size))).mono ?_
  rintro e w7 ⟨AW2, cW2, rfl, hr, hb⟩
  clear cHb lHb
  have hzw7 := hb.size
  have hBz := HB.out.size
  replace Hb := hide (Hb.out.below hb Hb.out.lt)
  replace R := hide (R.out.next hb)
  replace Wr := hide (Wr.out.next hb)
  replace S := hide (S.out.nextI hb hBz)
  replace HB := hide (below_next HB.out hb hBz)
  clear hBz
  clear hb
  have W2 := hide (RvI.of hr)
  clear hr
  obtain ⟨⟨cHb, -⟩, lHb⟩ := box1 Hb.out
  go_wp2_with fail
  refine (sameIntsI hM.out (by omega) Wr.out W2.out).mono ?_
  rintro e w8 ⟨rfl, hb⟩
  clear cHb lHb
  have hzw8 := hb.size
  have hBz := HB.out.size
  replace Hb := hide (Hb.out.below hb Hb.out.lt)
  replace R := hide (R.out.next hb)
  replace Wr := hide (Wr.out.next hb)
  replace W2 := hide (W2.out.next hb)
  replace S := hide (S.out.nextI hb hBz)
  replace HB := hide (below_next HB.out hb hBz)
  clear hBz
  clear hb
  clear W2
  obtain ⟨⟨cHb, -⟩, lHb⟩ := box1 Hb.out
  go_wp2_with fail
  refine (kP.out _ _ _ (S.out.more (old_lts HB.out.size))).mono ?_
  rintro e w9 ⟨rfl, hb⟩
  clear cHb lHb
  have hzw9 := hb.size
  have hBz := HB.out.size
  replace Hb := hide (Hb.out.below hb Hb.out.lt)
  replace R := hide (R.out.next hb)
  replace Wr := hide (Wr.out.next hb)
  replace S := hide (S.out.nextI hb hBz)
  replace HB := hide (below_next HB.out hb hBz)
  clear hBz
  clear hb
  obtain ⟨⟨cHb, -⟩, lHb⟩ := box1 Hb.out
  go_wp2_with fail
  refine (kSP.out _ _ _ (S.out.more (old_lts HB.out.size))).mono ?_
  rintro e w10 ⟨rfl, hb⟩
  clear cHb lHb
  have hzw10 := hb.size
  have hBz := HB.out.size
  replace Hb := hide (Hb.out.below hb Hb.out.lt)
  replace R := hide (R.out.next hb)
  replace Wr := hide (Wr.out.next hb)
  replace S := hide (S.out.nextI hb hBz)
  replace HB := hide (below_next HB.out hb hBz)
  clear hBz
  clear hb
  have hRs := (R.out.src (by rw [hN.out]; omega) rfl)
  have hWs := (Wr.out.src (by rw [hM.out]; omega) rfl)
  clear kR kSR kW kSW kP kSP
  rcases hk0.out with ⟨rfl, rfl, rfl⟩ | ⟨p, rfl, hp, hNp, hy0, hM0, hMN, hzM, hz0⟩
  · clear hRs hWs
    obtain ⟨⟨cHb, -⟩, lHb⟩ := box1 Hb.out
    go_wp2_with fail
    refine (views_any _).mono ?_
    rintro e w11 ⟨rfl, hb⟩
    clear cHb lHb
    have hzw11 := hb.size
    have hBz := HB.out.size
    replace Hb := hide (Hb.out.below hb Hb.out.lt)
    replace R := hide (R.out.next hb)
    replace Wr := hide (Wr.out.next hb)
    replace S := hide (S.out.nextI hb hBz)
    replace HB := hide (below_next HB.out hb hBz)
    clear hBz
    clear hb
    go_wp2_with fail
    go_ret
    exact ⟨rfl, below_then hb0.out HB.out⟩
  · obtain ⟨bR, oR, rfl, hbR, cR0⟩ := hRs.2 (by rw [hN.out]; omega)
    obtain ⟨bW, oW, rfl, hbW, cW0⟩ := hWs.2 (by rw [hM.out]; omega)
    have r0 := cR0 0 (by rw [hN.out]; omega)
    have z0 := cW0 0 (by rw [hM.out]; omega)
    obtain ⟨m, hmM⟩ : ∃ m, m = M - 1 := ⟨_, rfl⟩
    rw [← hmM] at hzM
    have zM := cW0 m (by rw [hM.out]; omega)
    rw [hy0] at r0
    rw [hzM] at zM
    obtain ⟨y0, hy0'⟩ : ∃ y, y = geti zs 0 := ⟨_, rfl⟩
    rw [← hy0'] at z0 hz0
    rw [Nat.add_zero] at r0 z0
    clear cR0 cW0 hRs hWs hy0' hy0 hzM hk0
    have hw1 : IntKind.i64.wrap ((l.length : Int) - (p : Int)) = (l.length : Int) - p := small_in (by omega)
    have hw2 : IntKind.i64.wrap ((M : Int) - 1) = (m : Int) := by rw [small_in (by omega)]; omega
    have hb1 : ((N : Int) == (l.length : Int) - (p : Int)) = true := by rw [beq_iff_eq]; omega
    have hb2 : decide ((p : Int) < y0) = true := decide_eq_true hz0
    have hb3 : decide (M ≤ N) = true := decide_eq_true hMN
    have hN0 : 0 < N := by omega
    have hM1 : (0 : Int) ≤ (m : Int) := by omega
    have hM2 : (m : Int) < (M : Int) := by omega
    clear hmM
    have HB2 := hide (HB.out.drew)
    have hzd := HB.out.size
    clear hNp hMN hz0 HB
    obtain ⟨⟨cHb, -⟩, lHb⟩ := box1 Hb.out
    have hlt := hide (show w1.heap.size < w10.drew.heap.size ∧ bR < w10.drew.heap.size ∧ bW < w10.drew.heap.size from ⟨lHb, hbR, hbW⟩)
    have H0 := hide (show PlC w1.heap.size bR oR bW oW m (.slice A1 l.length c1) (.int .i64 p) (.int .i64 y0) (.int .i64 l.length) w10.drew from ⟨cHb, r0, z0, zM⟩)
    clear cHb lHb r0 z0 zM hbR hbW
    go_wp2_with fail
    go_region_held3 (fun w' => w'.cell? ⟨w1.heap.size, 0, none⟩ = some (Value.slice A1 l.length c1) ∧ w'.cell? ⟨bR, oR, none⟩ = some (Value.int .i64 p) ∧ w'.cell? ⟨bW, oW, none⟩ = some (Value.int .i64 y0) ∧ w'.cell? ⟨bW, oW + m, none⟩ = some (Value.int .i64 l.length))
      (first | exact H0.out | exact HE.out)
      (first
      | (go_at_call 33; refine (views_any _).mono ?_; rintro e wE ⟨rfl, hbE⟩; have HE := hide (H0.out.next hlt.out hbE)))
    all_goals
      replace hbE := hide hbE
      go_wp2_with fail
      go_ret
      exact ⟨rfl, below_then hb0.out (HB2.out.trans (hbE.out.mono (by simpa using hzd)))⟩
end Go.Proofs.Ytbhfkfapdpedpaa
