/- FnBufs: for every code, one reads one's own last write, and behind all that wait the memory is what one read. No condition. -/
import Derived.Test.YtmfjdmhcpgljbaaDBuf
import Derived.Test.YtmfjdmhcpgljbaaBufs
import Derived.Test.YtmfjdmhcpgljbaaAllRd
namespace Go.Proofs.Ytmfjdmhcpgljbaa
open Go.RowKit Go.ChangeShapes Go.WideShapes Go.ChangeAt

/-- What the loop holds: the box with what is left to let go, the memory so far. -/
structure BfAt (wT : World) (T m r k : Nat) (zs ms : List Int) (v : Value) (w : World) : Prop where
  box : ∃ A c, Blk w T 54 #[.slice A r c] ∧ r ≤ c ∧ IntsAt w (fun b => b < w.heap.size ∧ b ≠ T) A (zs.drop (k * 2))
  mem : ∃ M d, v = .slice M m d ∧ IntsAt w (fun b => b < w.heap.size ∧ b ≠ T) M (allTo zs ms k)
  low : Below T wT w
  lt : wT.heap.size ≤ w.heap.size

set_option maxRecDepth 100000 in
set_option maxHeartbeats 25600000 in
theorem fnBufs_walk (A : Option Addr) (n c : Nat) (w : World) (hn : n ≤ c) (ha : BytesAt w (Old w.heap.size) A n) :
    Calls Try.prog 5 #[.slice A n c] w fun e w' => e = .returned (.bool true) ∧ Below w.heap.size w w' := by
  obtain ⟨i1, hi1, hy0, hy1, hy2⟩ := info_parts Try.infoInt
  replace hi1 := hide hi1
  go_enter Try.func5, Try.ntmps5
  go_wp2_with fail
  refine (drawBufRead_any A n c _ hn ha).mono ?_
  rintro e w1 ⟨A1, n1, c1, D1, m1, d1, zs, ms, x, rfl, ⟨hz, hn7, hnc⟩, ⟨hm, hm3, hmd⟩, hi, hj, hx, hb0⟩
  replace hb0 := hide hb0
  have kP := fun A D w => bufRead_any A D zs ms n1 c1 m1 d1 x w hz (by omega) hm (by omega)
  have kS := fun A D w => sbufRead_any A D zs ms n1 c1 m1 d1 x w hz (by omega) hm (by omega)
  have kA := fun A D w => bufAll_any A D zs ms n1 c1 m1 d1 w hz (by omega) hm (by omega)
  have hrd := hide (allTo_read zs ms x n1)
  have hul := hide (show (allTo zs ms n1).length = m1 by rw [allTo_len]; exact hm)
  obtain ⟨y, hy⟩ : ∃ y, y = readTo zs ms x n1 := ⟨_, rfl⟩
  rw [← hy] at kP kS hrd
  replace hrd := hide hrd.out
  replace hy := hide hy
  replace kP := hide kP
  replace kS := hide kS
  replace kA := hide kA
  have S := hide hi
  have M := hide hj
  have HB := hide (Below.refl w1.heap.size w1)
  replace hz := hide hz
  replace hm := hide hm
  clear hi hj
  go_wp2_with fail
  obtain ⟨w2, hw2⟩ : ∃ wx, wx = w1.alloc (Obj.cells #[Value.slice A1 n1 c1] 54) := ⟨_, rfl⟩
  have hb : Below w1.heap.size w1 w2 := by rw [hw2]; exact below1 _ _
  have hszw2 : w2.heap.size = w1.heap.size + 1 := by rw [hw2, World.size_alloc]
  have NBb := hide (show Blk w2 (w1.heap.size) 54 #[Value.slice A1 n1 c1] from by rw [hw2]; exact Blk.new _ _ _)
  have hBz := HB.out.size
  replace S := hide (S.out.nextI hb hBz)
  replace M := hide (M.out.nextI hb hBz)
  replace HB := hide (below_next HB.out hb hBz)
  clear hBz
  have Bb := hide NBb.out
  clear NBb
  clear hb
  rw [← hw2]
  clear hw2
  have hzw2 := Nat.le_of_eq hszw2.symm
  clear hszw2
  obtain ⟨⟨cBb, -⟩, lBb⟩ := box1 Bb.out
  refine (kP.out _ _ _ (S.out.more (old_lts HB.out.size)) (M.out.more (old_lts HB.out.size))).mono ?_
  rintro e w3 ⟨rfl, hb⟩
  clear cBb lBb
  have hzw3 := hb.size
  have hBz := HB.out.size
  replace Bb := hide (Bb.out.below hb Bb.out.lt)
  replace S := hide (S.out.nextI hb hBz)
  replace M := hide (M.out.nextI hb hBz)
  replace HB := hide (below_next HB.out hb hBz)
  clear hBz
  clear hb
  obtain ⟨⟨cBb, -⟩, lBb⟩ := box1 Bb.out
  go_wp2_with fail
  refine (kS.out _ _ _ (S.out.more (old_lts HB.out.size)) (M.out.more (old_lts HB.out.size))).mono ?_
  rintro e w4 ⟨rfl, hb⟩
  clear cBb lBb
  have hzw4 := hb.size
  have hBz := HB.out.size
  replace Bb := hide (Bb.out.below hb Bb.out.lt)
  replace S := hide (S.out.nextI hb hBz)
  replace M := hide (M.out.nextI hb hBz)
  replace HB := hide (below_next HB.out hb hBz)
  clear hBz
  clear hb
  obtain ⟨⟨cBb, -⟩, lBb⟩ := box1 Bb.out
  go_wp2_with fail
  refine (kA.out _ _ _ (S.out.more (old_lts HB.out.size)) (M.out.more (old_lts HB.out.size))).mono ?_
  rintro e w5 ⟨AU, cU, rfl, hr, hb⟩
  clear cBb lBb
  have hzw5 := hb.size
  have hBz := HB.out.size
  replace Bb := hide (Bb.out.below hb Bb.out.lt)
  replace S := hide (S.out.nextI hb hBz)
  replace M := hide (M.out.nextI hb hBz)
  replace HB := hide (below_next HB.out hb hBz)
  clear hBz
  clear hb
  have U := hide (RvI.of hr)
  clear hr
  have hus := (U.out.src (by have := hul.out; omega) rfl)
  have ht : (¬ 0 ≤ x) ∨ (0 ≤ x ∧ ¬ x < (m1 : Int)) ∨ ((0 ≤ x ∧ x < (m1 : Int)) ∧ ∃ b off, AU = some ⟨b, off, none⟩ ∧ w5.cell? ⟨b, off + x.toNat, none⟩ = some (.int .i64 y)) := by
    by_cases h0 : 0 ≤ x
    · by_cases h1 : x < (m1 : Int)
      · refine .inr (.inr ⟨⟨h0, h1⟩, ?_⟩)
        obtain ⟨b, off, e, -, hc⟩ := hus.2 (by rw [hul.out]; omega)
        have hcx := hc x.toNat (by rw [hul.out]; omega)
        rw [hrd.out ⟨h0, by rw [hm.out]; exact h1⟩] at hcx
        exact ⟨b, off, e, hcx⟩
      · exact .inr (.inl ⟨h0, h1⟩)
    · exact .inl h0
  clear hus hrd kP kS kA
  have Mo := hide M.out
  have hmo := hide (own_row (w := w5) (B := w5.heap.size) (e := 3) (size := 1) (n := 0) (cs := #[]) (Nat.le_refl _) (by omega) rfl)
  have hM1 := hide ((M.out.more (old_lts HB.out.size)).below (below1 w5 (Obj.cells #[] 3)) (fun _ h => h))
  obtain ⟨⟨cBb, -⟩, lBb⟩ := box1 Bb.out
  rcases ht with h0 | ⟨h0, h1⟩ | ⟨⟨h0, h1⟩, bU, oU, rfl, hcU⟩
  all_goals
    try (have h0' : decide (0 ≤ x) = false := by simpa using h0)
    try (have h1' : decide (x < (m1 : Int)) = false := by simpa using h1)
    go_wp2_with (at_builtin; refine wpList_append_src _ rfl _ _ _ rfl w5.heap.size 3 i1 _ 1 8 Try.underlying23 hi1.out hy0 hy1 hy2 rfl (by omega) (.slice (some ⟨w5.heap.size, 0, none⟩) 0 0) 0 [] rfl hmo.out (Old w5.heap.size) D1 m1 d1 ms rfl (by rw [hm.out]; simp) hM1.out (by have : maxLen = 9223372036854775807 := rfl; omega) (by omega) (by simp) ?_)
    intro AM cM wM hown hgr _
    clear cBb lBb
    try clear hcU
    have hb : Below w5.heap.size w5 wM := (below1 _ _).trans (below_own hgr (fun k hk e => by
      have e2 : w5.heap.size = k := by simpa [Value.ownBlock] using e.symm
      omega) (by simp))
    have hzM := hb.size
    have hown1 := hide hown
    clear hgr hown hM1 hmo Mo
    have hBz := HB.out.size
    replace Bb := hide (Bb.out.below hb Bb.out.lt)
    replace U := hide (U.out.next hb)
    replace S := hide (S.out.nextI hb hBz)
    replace M := hide (M.out.nextI hb hBz)
    replace HB := hide (below_next HB.out hb hBz)
    clear hBz
    clear hb
    clear M
    have MM := hide (RvI.of (RvT.of_own (zs := ms) (by simpa using hown1.out)))
    clear hown1
    obtain ⟨⟨cBb, -⟩, lBb⟩ := box1 Bb.out
    go_wp2_with fail
    clear cBb lBb
    obtain ⟨w6, hw6⟩ : ∃ wx, wx = wM.alloc (Obj.cells #[Value.slice A1 n1 c1] 54) := ⟨_, rfl⟩
    have hb : Below wM.heap.size wM w6 := by rw [hw6]; exact below1 _ _
    have hszw6 : w6.heap.size = wM.heap.size + 1 := by rw [hw6, World.size_alloc]
    have NCc := hide (show Blk w6 (wM.heap.size) 54 #[Value.slice A1 n1 c1] from by rw [hw6]; exact Blk.new _ _ _)
    have hBz := HB.out.size
    replace Bb := hide (Bb.out.below hb Bb.out.lt)
    replace U := hide (U.out.next hb)
    replace MM := hide (MM.out.next hb)
    replace S := hide (S.out.nextI hb hBz)
    replace HB := hide (below_next HB.out hb hBz)
    clear hBz
    have Cc := hide NCc.out
    clear NCc
    clear hb
    rw [← hw6]
    clear hw6
    have hzw6 := Nat.le_of_eq hszw6.symm
    clear hszw6
    have HT := hide (show BfAt w6 wM.heap.size m1 n1 0 zs ms (.slice AM m1 cM) w6 from
      ⟨⟨A1, c1, Cc.out, hnc, (by rw [Nat.zero_mul, List.drop_zero]; exact S.out.more (fun b h => by have h1 : b < w1.heap.size := h; have h2 := HB.out.size; omega))⟩, ⟨AM, cM, rfl, (by exact (MM.out.srcN (by have := hm.out; omega) rfl).more (fun b h => ⟨by have h1 := h.2; omega, by have h1 := h.2; omega⟩))⟩, Below.refl _ _, Nat.le_refl _⟩)
    go_loopw [8] (fun s8 wr => ∃ r k, r + k = n1 ∧ BfAt w6 wM.heap.size m1 r k zs ms s8 wr) (fun _ wr => boxLen wr wM.heap.size)
    case atStart => exact ⟨n1, 0, rfl, HT.out⟩
    case round =>
      obtain ⟨r, k, hrk, ⟨⟨A4, c4, hB4, hrc, hi4⟩, ⟨M4, d4, rfl, hj4⟩, hlow, hlt4⟩⟩ := hrel
      have cB4 := hB4.cell 0
      have zB4 := hB4.frozen 0
      have lB4 := hB4.lt
      simp only [List.getElem?_toArray, List.getElem?_cons_zero] at cB4
      have hUr := hide (((U.out.srcN (by have := hul.out; omega) rfl).below hlow (fun b h => by have h1 := h.2; omega)).more (S' := fun b => b < wr.heap.size) (fun b h => by have h1 := h.2; omega))
      have HBr := hide (HB.out.trans (hlow.mono (by omega)))
      have hwr : w1.heap.size ≤ wr.heap.size := by omega
      replace hB4 := hide hB4
      replace hi4 := hide hi4
      replace hj4 := hide hj4
      replace hlow := hide hlow
      rcases r with _ | r
      · obtain rfl : k = n1 := by omega
        go_wp2_with fail
        refine (sameInts_any M4 _ (allTo zs ms k) m1 d4 cU (fun b => b < wr.heap.size) wr hul.out (fun _ h => h) (hj4.out.more (fun _ h => h.1)) hUr.out).mono ?_
        rintro e w21 ⟨rfl, hb⟩
        replace HBr := hide (HBr.out.trans (hb.mono hwr))
        have hwr2 := hb.size
        clear hb
        go_wp2_with fail
        refine (bufs_any _).mono ?_
        rintro e w22 ⟨rfl, hb⟩
        replace HBr := hide (HBr.out.trans (hb.mono (by omega)))
        clear hb
        go_wp2_with fail
        go_ret
        exact ⟨rfl, below_then hb0.out HBr.out⟩
      · have hzr : (zs.drop (k * 2)).length = (r + 1) * 2 := by rw [List.length_drop, hz.out]; omega
        have hml : (allTo zs ms k).length = m1 := by rw [allTo_len]; exact hm.out
        have hrn : (0 : Int) < ((r + 1 : Nat) : Int) := by omega
        have e0 : geti (zs.drop (k * 2)) 0 = geti zs (k * 2) := by rw [geti_drop, Nat.add_zero]
        have e1 : geti (zs.drop (k * 2)) 1 = geti zs (k * 2 + 1) := geti_drop _ _ _
        obtain ⟨b4, o4, rfl, hbB4, x0, -⟩ := hi4.out.two hzr (show 0 < r + 1 by omega)
        simp only [Nat.zero_mul, Nat.add_zero] at x0
        rw [e0] at x0
        cases hc : cellB (geti zs (k * 2)) m1
        · have kF := fun w h => bufFlush_no (some ⟨b4, o4, none⟩) M4 (zs.drop (k * 2)) (r + 1) c4 m1 d4 w hzr (by omega) (by rw [e0]; exact hc) h
          replace kF := hide kF
          have hng : geti zs (k * 2) < 0 ∨ (¬ geti zs (k * 2) < 0 ∧ (m1 : Int) ≤ geti zs (k * 2)) := by
            have h1 : ¬ (0 ≤ geti zs (k * 2) ∧ geti zs (k * 2) < m1) := by simpa [cellB] using hc
            omega
          have hbl : b4 < wr.heap.size := hbB4.1
          clear hc e0 e1 hzr hml
          go_wp2_with fail
          refine (kF.out _ (hi4.out.more (fun _ h => h.1))).mono ?_
          rintro e w21 ⟨A5, c5, D5, d5, rfl, -, -, -, -, hb⟩
          have cT := (hB4.out.below hb lB4).cell 0
          simp only [List.getElem?_toArray, List.getElem?_cons_zero] at cT
          have lT := (hB4.out.below hb lB4).lt
          have x1 := (hb.cell (p := ⟨b4, o4, none⟩) hbl).trans x0
          have lb1 : b4 < w21.heap.size := Nat.lt_of_lt_of_le hbl hb.size
          replace HBr := hide (HBr.out.trans (hb.mono hwr))
          have hwr2 := hb.size
          clear hb cB4 zB4 x0
          have hb6 := below1 w21 (Obj.cells #[Value.slice A5 0 c5] 54)
          replace HBr := hide (HBr.out.trans (hb6.mono (by omega)))
          replace hb6 := hide hb6
          have hwl : w1.heap.size ≤ w21.heap.size + 1 := by omega
          rcases hng with hneg | ⟨hneg, hge⟩
          · go_wp2_with fail
            refine (bufs_any _).mono ?_
            rintro e w22 ⟨rfl, hb⟩
            replace HBr := hide (HBr.out.trans (hb.mono (by simpa using hwl)))
            clear hb
            go_wp2_with fail
            go_ret
            exact ⟨rfl, below_then hb0.out HBr.out⟩
          · have hneg' : decide (geti zs (k * 2) < 0) = false := by simpa using hneg
            go_wp2_with fail
            refine (bufs_any _).mono ?_
            rintro e w22 ⟨rfl, hb⟩
            replace HBr := hide (HBr.out.trans (hb.mono (by simpa using hwl)))
            clear hb
            go_wp2_with fail
            go_ret
            exact ⟨rfl, below_then hb0.out HBr.out⟩
        · have kF := fun w h h2 => bufFlush_yes (some ⟨b4, o4, none⟩) M4 (zs.drop (k * 2)) (allTo zs ms k) (r + 1) c4 m1 d4 w hzr (by omega) hrc (by omega) hml (by omega) (by rw [e0]; exact hc) h h2
          have e2 : (allTo zs ms k).set (geti (zs.drop (k * 2)) 0).toNat (geti (zs.drop (k * 2)) 1) = allTo zs ms (k + 1) := by
            rw [e0, e1, allTo, if_pos (by rw [hm.out]; exact hc)]
          have e3 : (zs.drop (k * 2)).drop 2 = zs.drop ((k + 1) * 2) := by rw [List.drop_drop]; congr 1; omega
          rw [e2, e3, Nat.add_sub_cancel] at kF
          replace kF := hide kF
          have hdec : decide (((r : Nat) : Int) ≥ ((r + 1 : Nat) : Int)) = false := by simp; omega
          clear hc e0 e1 e2 e3 hzr hml x0
          go_wp2_with fail
          refine (kF.out _ (hi4.out.more (fun _ h => h.1)) (hj4.out.more (fun _ h => h.1))).mono ?_
          rintro e w21 ⟨A5, c5, D5, d5, rfl, ⟨hc5, hd5⟩, hr5, hr6, -, hb⟩
          have hBT := hB4.out.below hb lB4
          have cT := hBT.cell 0
          have zT := hBT.frozen 0
          simp only [List.getElem?_toArray, List.getElem?_cons_zero] at cT
          have lT := hBT.lt
          have hzB := hb.size
          have hQ5 := hide (hr5.intsN (by rw [List.length_drop, hz.out]; omega) rfl)
          have hQ6 := hide (hr6.intsN (by rw [allTo_len, hm.out]; omega) rfl)
          have hlow2 := hide (hlow.out.trans (hb.mono (by omega)))
          replace hBT := hide hBT
          have hm4 : boxLen wr wM.heap.size = r + 1 := boxLen_of cB4
          replace hm4 := hide hm4
          clear hb cB4 zB4 hr5 hr6
          go_wp2_with fail
          go_roundw
          case rel =>
            refine ⟨r, k + 1, by omega, ⟨⟨A5, c5, (hBT.out.set_ 0 _).alloc _, hc5, ?_⟩, ⟨D5, d5, rfl, ?_⟩, (hlow2.out.setCell (p := ⟨wM.heap.size, 0, none⟩) (Nat.le_refl _) _).alloc (by simp; omega) _, by simp; omega⟩⟩
            · exact ((hQ5.out.set (p := ⟨wM.heap.size, 0, none⟩) _ (fun h => by have h1 : wr.heap.size ≤ wM.heap.size := h.1; omega)).below (below1 _ _) (fun b h => by have h1 := h.2; simpa using h1)).more (fun b h => by have h1 := h.2; have h2 := h.1; exact ⟨by simp; omega, by omega⟩)
            · exact ((hQ6.out.set (p := ⟨wM.heap.size, 0, none⟩) _ (fun h => by have h1 : wr.heap.size ≤ wM.heap.size := h.1; omega)).below (below1 _ _) (fun b h => by have h1 := h.2; simpa using h1)).more (fun b h => by have h1 := h.2; have h2 := h.1; exact ⟨by simp; omega, by omega⟩)
          case measure =>
            rw [hm4.out, boxLen_of (((hBT.out.set_ 0 _).alloc _).cell 0)]
            omega

-- LIFT (gen_law.py)
theorem laidOut_fnBufs : laidOutB Try.prog = true := by kernel_rfl
theorem own_fnBufs : ownKnob Try.prog.godebug = none := by kernel_rfl

set_option maxRecDepth 100000 in
theorem fnBufs_lifted (os : Os) (started : os.Started) (H : Type) (enc : TypeId × Value → H) :
    ReturnsInHanded {} Try.checked os 5 .any (Rows.fnBufsSpec.pre6 enc Try.prog Try.f5 [] false) (Rows.fnBufsSpec.post enc Try.prog Try.f5 false true false false) := by
  refine returnsInHanded_of_change (C := Try.checked) own_fnBufs started (by kernel_rfl) Try.func5
    (ChangeSpec.witness6 (enc := enc) (C := Try.checked) (os := os) false ⟨#[], #[.slice none 0 0], []⟩ 8 (by kernel_rfl) (by kernel_rfl) (by kernel_rfl) (by kernel_rfl)) ?_
  intro W base args ds gs before hval hW _ _
  have hW' := hW
  obtain ⟨p, q, hA0, hV, rfl, hfz, hnd⟩ := hW
  have hA : DataW.TrodAll enc Try.prog W 0 (fun _ => true) true Try.f5.params.toList args.toList ds p := hA0
  rw [Try.params5] at hA hval
  obtain ⟨v0, d0, rfl, rfl, h0⟩ := trodAll_one hA
  obtain ⟨A, n, c, rfl, hn, ha⟩ := open_code (hval 0 _ v0 rfl rfl) h0
  refine (fnBufs_walk A n c W hn ha).mono fun e W' ⟨he, hb⟩ => ⟨_, he, ?_⟩
  refine law_post laidOut_fnBufs (fun t ht => ?_) rfl (by kernel_rfl) Try.underlying4 (fun ds hds => ?_) hW' hb
  · rw [Try.params5] at ht
    simp at ht
    subst ht
    exact ⟨by kernel_rfl, of_decide_eq_true (by kernel_rfl)⟩
  · rw [Try.params5] at hds
    match ds, hds with
    | [_], _ => exact ⟨rfl, rfl, rfl⟩

theorem fnBufs_holds : Rows.FnBufsSaid :=
  OpenClaim.holds_of_wide 5 Try.f5 rfl rfl rfl rfl rfl rfl rfl ⟨rfl, rfl, rfl, rfl, rfl⟩ rfl rfl rfl rfl rfl (by kernel_rfl) Try.func5 (by kernel_rfl)
    (of_decide_eq_true (by kernel_rfl)) (by unfold Func.isWrapper; first | (rw [if_pos (by decide +kernel)]; kernel_rfl) | (rw [if_neg (by decide +kernel)]; exact ⟨rfl, rfl⟩))
    (fun os started H enc _ => fnBufs_lifted os started H enc)
#print axioms fnBufs_holds
end Go.Proofs.Ytmfjdmhcpgljbaa
