/- laws' helpers on a history, to the number: markPostS and heldPostS. · laws' helpers on a row of histories, to the number: markHistS and heldHistS. -/
import Derived.Test.YtfkaacfeikmabaaMg9
import Derived.Test.YtfkaacfeikmabaaMg10
namespace Go.Proofs.Ytfkaacfeikmabaa
open Go.RowKit

/-- A post with the numbers k, k + 1 and so on. -/
def mkPost (k : Int) (d : PostD) : PostD := ⟨k, k + 1, (k + 1 + 1) % 3 == 0, marks (k + 1 + 1 + 1).toNat d.view.length⟩
def postK (k : Int) (l : List PostD) (j : Nat) : Int := k + 3 * j + sumTo (viewLens l) j
def mkPosts (k : Int) (l : List PostD) : List PostD := (List.range l.length).map (fun j => mkPost (postK k l j) (getp l j))
def midPosts (k : Int) (l : List PostD) (J : Nat) : List PostD := (List.range l.length).map (fun m => if m < J then mkPost (postK k l m) (getp l m) else getp l m)
theorem midPosts_len (k : Int) (l : List PostD) (J : Nat) : (midPosts k l J).length = l.length := by simp [midPosts]
theorem midPosts_get (k : Int) (l : List PostD) (J m : Nat) (hm : m < l.length) : getp (midPosts k l J) m = if m < J then mkPost (postK k l m) (getp l m) else getp l m := by
  unfold midPosts
  conv => lhs; unfold getp
  rw [List.getD_eq_getElem?_getD, List.getElem?_map, List.getElem?_range hm]
  rfl
theorem midPosts_zero (k : Int) (l : List PostD) : midPosts k l 0 = l := by
  unfold midPosts
  apply List.ext_getElem
  · simp
  · intro i h1 h2
    simp [getp, List.getD_eq_getElem?_getD, List.getElem?_eq_getElem h2]
theorem midPosts_all (k : Int) (l : List PostD) : midPosts k l l.length = mkPosts k l := by
  unfold mkPosts midPosts
  exact List.map_congr_left (fun m hm => by rw [if_pos (by simpa using hm)])
theorem mkPosts_len (k : Int) (l : List PostD) : (mkPosts k l).length = l.length := by simp [mkPosts]
theorem mkPosts_get (k : Int) (l : List PostD) (m : Nat) (hm : m < l.length) : getp (mkPosts k l) m = mkPost (postK k l m) (getp l m) := by
  rw [← midPosts_all, midPosts_get k l _ m hm, if_pos hm]
theorem postK_succ (k : Int) (l : List PostD) (j : Nat) (hj : j < l.length) : postK k l (j + 1) = postK k l j + 1 + 1 + 1 + (getp l j).view.length := by
  unfold postK
  have h := sumTo_succ (viewLens l) j (by rw [viewLens_len]; exact hj)
  rw [viewLens_get] at h
  rw [h]
  omega
theorem postK_all (k : Int) (l : List PostD) : postK k l l.length = k + 3 * l.length + (viewLens l).sum := by
  unfold postK
  have h := sumTo_all (viewLens l)
  rw [viewLens_len] at h
  rw [h]
theorem postK_zero (k : Int) (l : List PostD) : postK k l 0 = k := by unfold postK; simp [sumTo_zero]
theorem postK_ge (k : Int) (l : List PostD) (j : Nat) : k ≤ postK k l j := by unfold postK; omega
theorem postK_le (k : Int) (l : List PostD) (j : Nat) (hj : j ≤ l.length) : postK k l j ≤ k + 3 * l.length + (viewLens l).sum := by
  unfold postK
  have h := sumTo_le (viewLens l) j
  omega
theorem mkPost_view (k : Int) (d : PostD) : (mkPost k d).view.length = d.view.length := marks_len _ _

set_option maxRecDepth 100000 in
set_option maxHeartbeats 3200000 in
theorem markPostS_to {w : World} {lo hi q c : Nat} {qs : Nat → Nat} {l : List PostD} {k : Int} (hn : postSize l ≤ 1048576) (h0 : 0 ≤ k) (h1 : k + 3 * postSize l ≤ 4194304) (h : PostsOwn w lo hi q qs l) :
    Calls Try.prog 153 #[.slice (some ⟨q, 0, none⟩) l.length c, .int .i64 k] w fun e w' => e = .returned (.int .i64 (k + 3 * l.length + (viewLens l).sum)) ∧ PostsOwn w' lo hi q qs (mkPosts k l) ∧ Inn lo hi w w' := by
  have Hup := hide h.up
  have Hrng := hide h.rng
  have hn2 : l.length ≤ 1048576 := by unfold postSize at hn; omega
  have Hk1 := hide (postK_succ k l)
  have Hk2 := hide (postK_le k l)
  have Hk3 := hide (postK_ge k l)
  have Hp := hide (show postSize l = l.length + (viewLens l).sum from rfl)
  have Hv := hide (view_le l)
  have H := hide h
  clear h
  go_enter Try.func153, Try.ntmps153
  go_wp2_with fail
  go_loopw [1, 5] (fun q1 i wr => ∃ (j : Nat), j ≤ l.length ∧ i = .int .i64 j ∧ q1 = .int .i64 (postK k l j) ∧ Hid (PostsOwn wr lo hi q qs (midPosts k l j)) ∧ Inn lo hi w wr) (fun _ i _ => l.length - (intOf i).toNat)
  case atStart => exact ⟨0, Nat.zero_le _, rfl, by rw [postK_zero], hide (by rw [midPosts_zero]; exact H.out), Inn.refl _ _ _⟩
  case round =>
    obtain ⟨j, hj, rfl, rfl, hps, hin⟩ := hrel
    by_cases hlt : j < l.length
    · have hjl : j < (midPosts k l j).length := by rw [midPosts_len]; exact hlt
      obtain ⟨cs, hblk, hsz, hcs⟩ := hps.out.row
      rw [midPosts_len] at hsz
      obtain ⟨cv, ⟨_, _, _, hv3⟩, _⟩ := hcs j hjl
      have hrow := (hps.out.views j hjl).1
      rw [midPosts_get k l j j hlt, if_neg (Nat.lt_irrefl _)] at hv3 hrow
      have hk2 := Hk2.out (j + 1) (by omega)
      have hk1 := Hk1.out j hlt
      have hk3 := Hk3.out j
      have hv := Hv.out j hlt
      have hpp := Hp.out
      have hb1 : postK k l j + 3 ≤ 4194304 := by omega
      have hb2 : (getp l j).view.length ≤ 1048576 := by omega
      have hlt' : (j : Int) < (l.length : Int) := by omega
      have hz00 : 0 ≤ postK k l j := by omega
      obtain ⟨v0, hv0⟩ : ∃ v, cs[j * 4]? = some v := ⟨_, Array.getElem?_eq_getElem (by omega)⟩
      obtain ⟨v1, hv1⟩ : ∃ v, cs[j * 4 + 1]? = some v := ⟨_, Array.getElem?_eq_getElem (by omega)⟩
      obtain ⟨v2, hv2⟩ : ∃ v, cs[j * 4 + 2]? = some v := ⟨_, Array.getElem?_eq_getElem (by omega)⟩
      have g0 := (hblk.cell _).trans hv0
      have g1 := (hblk.cell _).trans hv1
      have g2 := (hblk.cell _).trans hv2
      have g3 := (hblk.cell _).trans hv3
      have z0 := hblk.frozen (j * 4)
      have z1 := hblk.frozen (j * 4 + 1)
      have z2 := hblk.frozen (j * 4 + 2)
      have HN := hide (rowB_ne hrow hblk)
      have HB := hide hblk
      have HR := hide hrow
      have HI := hide hin
      have HV3 := hide hv3
      have HCS := hide hcs
      have HSZ := hide hsz
      have hk1' := hide hk1
      obtain ⟨Z, hZ⟩ : ∃ Z, Z = postK k l j := ⟨_, rfl⟩
      rw [← hZ] at hb1 hz00 hk1' ⊢
      replace hk1' := hide hk1'.out
      replace hZ := hide hZ
      clear hv0 hv1 hv2 hv3 hblk hrow hin hcs hsz hk1 hk2 hk3 hpp hv
      go_wp2_with fail
      have hrow2 : RowB (((wr.setCell ⟨q, j * 4, none⟩ (Value.int .i64 Z)).setCell ⟨q, j * 4 + 1, none⟩ (Value.int .i64 (Z + 1))).setCell ⟨q, j * 4 + 2, none⟩ (Value.bool ((Z + 1 + 1) % 3 == 0))) (qs j) (getp l j).view := by
        obtain ⟨ds, d1, d2⟩ := HR.out
        refine ⟨ds, ?_, d2⟩
        iterate 3 (refine Blk.far ?_ (by show qs j ≠ q; exact HN.out) _)
        exact d1
      refine (markIntS_len rfl hb2 (by omega) (by omega) hrow2).mono ?_
      rintro e w5 ⟨rfl, hr5, ho5⟩
      go_wp2_with fail
      go_roundw
      case rel =>
        have hrow3 : Blk (((wr.setCell ⟨q, j * 4, none⟩ (Value.int .i64 Z)).setCell ⟨q, j * 4 + 1, none⟩ (Value.int .i64 (Z + 1))).setCell ⟨q, j * 4 + 2, none⟩ (Value.bool ((Z + 1 + 1) % 3 == 0))) q 86 _ := ((HB.out.set_ _ _).set_ _ _).set_ _ _
        refine ⟨j + 1, by omega, by go_num, by rw [hk1'.out], hide ⟨by rw [midPosts_len]; omega, ⟨_, hrow3.only ho5 (fun e => HN.out e.symm), by rw [midPosts_len]; have := HSZ.out; simpa using this, fun m hm => ?_⟩, fun m hm => ?_, fun i m him hm => Hup.out i m him (by rwa [midPosts_len] at hm), ⟨Hrng.out.1, fun m hm => Hrng.out.2 m (by rwa [midPosts_len] at hm)⟩⟩, ?_⟩
        · rw [midPosts_len] at hm
          rw [midPosts_get k l (j + 1) m hm]
          obtain ⟨c4, ⟨h1, h2, h3, h4⟩, h5⟩ := HCS.out m (by rw [midPosts_len]; exact hm)
          rw [midPosts_get k l j m hm] at h1 h2 h3 h4 h5
          refine ⟨c4, ?_⟩
          by_cases e : m = j
          · subst e
            rw [if_neg (Nat.lt_irrefl _)] at h4 h5
            rw [if_pos (Nat.lt_succ_self m), mkPost_view]
            simp only [Array.getElem?_setIfInBounds]
            refine ⟨⟨?_, ?_, ?_, ?_⟩, h5⟩
            · rw [if_neg (by omega), if_neg (by omega), if_pos trivial, if_pos (by have := HSZ.out; omega), ← hZ.out]; rfl
            · rw [if_neg (by omega), if_pos trivial, if_pos (by have := HSZ.out; simp; omega), ← hZ.out]; rfl
            · rw [if_pos trivial, if_pos (by have := HSZ.out; simp; omega), ← hZ.out]; rfl
            · rw [if_neg (by omega), if_neg (by omega), if_neg (by omega)]; exact h4
          · have e2 : ∀ x : Nat, x < 4 → j * 4 ≠ m * 4 + x ∧ j * 4 + 1 ≠ m * 4 + x ∧ j * 4 + 2 ≠ m * 4 + x := fun x hx => by omega
            have f0 := e2 0 (by omega)
            rw [Nat.add_zero] at f0
            have f1 := e2 1 (by omega)
            have f2 := e2 2 (by omega)
            have f3 := e2 3 (by omega)
            have e4 : (if m < j + 1 then mkPost (postK k l m) (getp l m) else getp l m) = (if m < j then mkPost (postK k l m) (getp l m) else getp l m) := by
              by_cases e3 : m < j
              · rw [if_pos e3, if_pos (by omega)]
              · rw [if_neg e3, if_neg (by omega)]
            rw [e4]
            simp only [Array.getElem?_setIfInBounds]
            rw [if_neg f0.2.2, if_neg f0.2.1, if_neg f0.1, if_neg f1.2.2, if_neg f1.2.1, if_neg f1.1, if_neg f2.2.2, if_neg f2.2.1, if_neg f2.1, if_neg f3.2.2, if_neg f3.2.1, if_neg f3.1]
            exact ⟨⟨h1, h2, h3, h4⟩, h5⟩
        · rw [midPosts_len] at hm
          rw [midPosts_get k l (j + 1) m hm]
          have hvm := hps.out.views m (by rw [midPosts_len]; exact hm)
          rw [midPosts_get k l j m hm] at hvm
          by_cases e : m = j
          · subst e
            rw [if_pos (by omega)]
            rw [hZ.out] at hr5
            exact ⟨hr5, by rw [mkPost_view]; omega⟩
          · have hne2 : qs m ≠ qs j := fun e2 => by
              rcases Nat.lt_or_gt_of_ne e with h | h
              · have := Hup.out m j h hlt; omega
              · have := Hup.out j m h hm; omega
            have hgo : ∀ zs, RowB wr (qs m) zs → RowB w5 (qs m) zs := fun zs hy => by
              have hne : qs m ≠ q := rowB_ne hy HB.out
              obtain ⟨ds, d1, d2⟩ := hy
              refine RowB.only ⟨ds, ?_, d2⟩ ho5 hne2
              iterate 3 (refine Blk.far ?_ (by show qs m ≠ q; exact hne) _)
              exact d1
            by_cases e3 : m < j
            · rw [if_pos e3] at hvm
              rw [if_pos (by omega)]
              exact ⟨hgo _ hvm.1, hvm.2⟩
            · rw [if_neg e3] at hvm
              rw [if_neg (by omega)]
              exact ⟨hgo _ hvm.1, hvm.2⟩
        · refine HI.out.trans (Inn.trans (Inn.of_only (g := q) ?_ Hrng.out.1) (Inn.of_only ho5 (Hrng.out.2 j hlt)))
          exact (((Only.refl q wr).setCell (p := ⟨q, j * 4, none⟩) (.inl rfl) _).setCell (p := ⟨q, j * 4 + 1, none⟩) (.inl rfl) _).setCell (p := ⟨q, j * 4 + 2, none⟩) (.inl rfl) _
      case measure => simp [intOf]; omega
    · obtain rfl : j = l.length := by omega
      have hpa := hide (postK_all k l)
      go_wp2_with fail
      go_ret
      exact ⟨by rw [← hpa.out]; rfl, by have h := hps.out; rwa [midPosts_all] at h, hin⟩

theorem heldIntS_row {w : World} {q n c : Nat} {k : Int} (hn : n ≤ 1048576) (h0 : 0 ≤ k) (h1 : k ≤ 4194304) (h : RowB w q (marks k.toNat n)) :
    Calls Try.prog 74 #[.slice (some ⟨q, 0, none⟩) n c, .int .i64 k] w fun e w' => e = .returned (.int .i64 (k + n)) ∧ w = w' := by
  obtain ⟨j, rfl⟩ : ∃ j : Nat, k = (j : Int) := ⟨k.toNat, by omega⟩
  refine (heldIntS_any (some ⟨q, 0, none⟩) n c j (fun b => b = q) w hn (by omega) (fun b e => by subst e; exact h.lt) (h.ints (by rw [marks_len]; omega))).mono ?_
  rintro e w' ⟨rfl, rfl⟩
  exact ⟨by simp, rfl⟩

set_option maxRecDepth 100000 in
set_option maxHeartbeats 3200000 in
theorem heldPostS_to {w : World} {lo hi q c : Nat} {qs : Nat → Nat} {l : List PostD} {k : Int} (hn : postSize l ≤ 1048576) (h0 : 0 ≤ k) (h1 : k + 3 * postSize l ≤ 4194304) (h : PostsOwn w lo hi q qs (mkPosts k l)) :
    Calls Try.prog 155 #[.slice (some ⟨q, 0, none⟩) l.length c, .int .i64 k] w fun e w' => e = .returned (.int .i64 (k + 3 * l.length + (viewLens l).sum)) ∧ w = w' := by
  have hn2 : l.length ≤ 1048576 := by unfold postSize at hn; omega
  have Hk1 := hide (postK_succ k l)
  have Hk2 := hide (postK_le k l)
  have Hk3 := hide (postK_ge k l)
  have Hp := hide (show postSize l = l.length + (viewLens l).sum from rfl)
  have Hv := hide (view_le l)
  have H := hide h
  clear h
  go_enter Try.func155, Try.ntmps155
  go_wp2_with fail
  go_loop [1, 5] (fun q1 i => ∃ (j : Nat), j ≤ l.length ∧ i = .int .i64 j ∧ q1 = .int .i64 (postK k l j)) (fun _ i => l.length - (intOf i).toNat)
  case atStart => exact ⟨0, Nat.zero_le _, rfl, by rw [postK_zero]⟩
  case round =>
    obtain ⟨j, hj, rfl, rfl⟩ := hrel
    by_cases hlt : j < l.length
    · have hjl : j < (mkPosts k l).length := by rw [mkPosts_len]; exact hlt
      obtain ⟨cs, hblk, hsz, hcs⟩ := H.out.row
      obtain ⟨cv, ⟨hv0, hv1, hv2, hv3⟩, _⟩ := hcs j hjl
      have hrow := (H.out.views j hjl).1
      rw [mkPosts_get k l j hlt] at hv0 hv1 hv2 hv3 hrow
      rw [mkPost_view] at hv3
      have e0 : (mkPost (postK k l j) (getp l j)).id = postK k l j := rfl
      have e1 : (mkPost (postK k l j) (getp l j)).val = postK k l j + 1 := rfl
      have e2 : (mkPost (postK k l j) (getp l j)).glue = ((postK k l j + 1 + 1) % 3 == 0) := rfl
      have e3 : (mkPost (postK k l j) (getp l j)).view = marks (postK k l j + 1 + 1 + 1).toNat (getp l j).view.length := rfl
      rw [e0] at hv0
      rw [e1] at hv1
      rw [e2] at hv2
      rw [e3] at hrow
      have hk2 := Hk2.out (j + 1) (by omega)
      have hk1 := Hk1.out j hlt
      have hk3 := Hk3.out j
      have hv := Hv.out j hlt
      have hpp := Hp.out
      have hb1 : postK k l j + 3 ≤ 4194304 := by omega
      have hb2 : (getp l j).view.length ≤ 1048576 := by omega
      have hlt' : (j : Int) < (l.length : Int) := by omega
      have hz00 : 0 ≤ postK k l j := by omega
      have g0 := (hblk.cell _).trans hv0
      have g1 := (hblk.cell _).trans hv1
      have g2 := (hblk.cell _).trans hv2
      have g3 := (hblk.cell _).trans hv3
      have HR := hide hrow
      have hk1' := hide hk1
      have hge : (0 : Int) ≤ postK k l j + 1 + 1 + 1 + (getp l j).view.length := by omega
      generalize postK k l j = Z at *
      clear hv0 hv1 hv2 hv3 hblk hrow hcs hsz hk1 hk2 hk3 hpp hv e0 e1 e2 e3 hjl
      cases hG : ((Z + 1 + 1) % 3 == 0)
      all_goals
        rw [hG] at g2
        go_wp2_with fail
        refine (heldIntS_row hb2 (by omega) (by omega) HR.out).mono ?_
        rintro e w5 ⟨rfl, rfl⟩
        go_wp2_with fail
        go_round
        case rel => exact ⟨j + 1, by omega, by go_num, by rw [hk1'.out]⟩
        case measure => simp [intOf]; omega
    · obtain rfl : j = l.length := by omega
      have hpa := hide (postK_all k l)
      go_wp2_with fail
      go_ret
      exact ⟨by rw [← hpa.out]; rfl, rfl⟩
end Go.Proofs.Ytfkaacfeikmabaa

namespace Go.Proofs.Ytfkaacfeikmabaa
open Go.RowKit

/-- How many marks a history takes. -/
def histN (l : List PostD) : Nat := 3 * l.length + (viewLens l).sum
def hlens (hs : List (List PostD)) : List Nat := hs.map histN
theorem hlens_len (hs : List (List PostD)) : (hlens hs).length = hs.length := by simp [hlens]
theorem hlens_get (hs : List (List PostD)) (k : Nat) : (hlens hs).getD k 0 = histN (geth hs k) := by
  unfold hlens geth
  rw [List.getD_eq_getElem?_getD, List.getD_eq_getElem?_getD, List.getElem?_map]
  cases hs[k]? <;> rfl
theorem histN_le (l : List PostD) : histN l ≤ 3 * postSize l := by unfold histN postSize; omega
theorem hlens_le (hs : List (List PostD)) : (hlens hs).sum ≤ 3 * histSize hs := by
  unfold hlens histSize postLens
  induction hs with
  | nil => simp
  | cons l hs ih =>
    have := histN_le l
    simp only [List.map_cons, List.sum_cons, List.length_cons] at ih ⊢
    omega
def mkHist (k : Int) (hs : List (List PostD)) (j : Nat) : List PostD := mkPosts (k + sumTo (hlens hs) j) (geth hs j)
def mkHists (k : Int) (hs : List (List PostD)) : List (List PostD) := (List.range hs.length).map (mkHist k hs)
def midHists (k : Int) (hs : List (List PostD)) (J : Nat) : List (List PostD) := (List.range hs.length).map (fun m => if m < J then mkHist k hs m else geth hs m)
theorem midHists_len (k : Int) (hs : List (List PostD)) (J : Nat) : (midHists k hs J).length = hs.length := by simp [midHists]
theorem midHists_get (k : Int) (hs : List (List PostD)) (J m : Nat) (hm : m < hs.length) : geth (midHists k hs J) m = if m < J then mkHist k hs m else geth hs m := by
  unfold midHists
  conv => lhs; unfold geth
  rw [List.getD_eq_getElem?_getD, List.getElem?_map, List.getElem?_range hm]
  rfl
theorem midHists_zero (k : Int) (hs : List (List PostD)) : midHists k hs 0 = hs := by
  unfold midHists
  apply List.ext_getElem
  · simp
  · intro i h1 h2
    simp [geth, List.getD_eq_getElem?_getD, List.getElem?_eq_getElem h2]
theorem midHists_all (k : Int) (hs : List (List PostD)) : midHists k hs hs.length = mkHists k hs := by
  unfold mkHists midHists
  exact List.map_congr_left (fun m hm => by rw [if_pos (by simpa using hm)])
theorem mkHists_len (k : Int) (hs : List (List PostD)) : (mkHists k hs).length = hs.length := by simp [mkHists]
theorem mkHists_get (k : Int) (hs : List (List PostD)) (m : Nat) (hm : m < hs.length) : geth (mkHists k hs) m = mkHist k hs m := by
  rw [← midHists_all, midHists_get k hs _ m hm, if_pos hm]
theorem midHist_length (k : Int) (hs : List (List PostD)) (J m : Nat) : (if m < J then mkHist k hs m else geth hs m).length = (geth hs m).length := by
  split
  · exact mkPosts_len _ _
  · rfl

set_option maxRecDepth 100000 in
set_option maxHeartbeats 1600000 in
theorem markHistS_to {w : World} {lo hi q c : Nat} {hs : List (List PostD)} {los his pq : Nat → Nat} {qs : Nat → Nat → Nat} {k : Int} (hn : histSize hs ≤ 1048576) (h0 : 0 ≤ k) (h1 : k + 3 * histSize hs ≤ 4194304) (h : HistsOwn w lo hi q hs los his pq qs) :
    Calls Try.prog 89 #[.slice (some ⟨q, 0, none⟩) hs.length c, .int .i64 k] w fun e w' => e = .returned (.int .i64 (k + (hlens hs).sum)) ∧ HistsOwn w' lo hi q (mkHists k hs) los his pq qs ∧ Inn lo hi w w' := by
  have H := hide h
  have hn2 : hs.length ≤ 1048576 := by unfold histSize at hn; omega
  have Hsucc := hide (fun k (hk : k < hs.length) => by have h := sumTo_succ (hlens hs) k (by rw [hlens_len]; exact hk); rw [hlens_get] at h; exact h)
  have Hle := hide (fun k => sumTo_le (hlens hs) k)
  have Hall := hide (by have h := sumTo_all (hlens hs); rw [hlens_len] at h; exact h)
  have Hhl := hide (hlens_le hs)
  clear h
  go_enter Try.func89, Try.ntmps89
  go_wp2_with fail
  go_loopw [1, 5] (fun q1 i wr => ∃ (j : Nat), j ≤ hs.length ∧ i = .int .i64 j ∧ q1 = .int .i64 (k + sumTo (hlens hs) j) ∧ Hid (HistsOwn wr lo hi q (midHists k hs j) los his pq qs) ∧ Inn lo hi w wr) (fun _ i _ => hs.length - (intOf i).toNat)
  case atStart => exact ⟨0, Nat.zero_le _, rfl, by simp [sumTo_zero], hide (by rw [midHists_zero]; exact H.out), Inn.refl _ _ _⟩
  case round =>
    obtain ⟨j, hj, rfl, rfl, hps, hin⟩ := hrel
    by_cases hlt : j < hs.length
    · have hjl : j < (midHists k hs j).length := by rw [midHists_len]; exact hlt
      obtain ⟨cs, hblk, hsz, hcs⟩ := hps.out.row
      have hc0 := hcs j hjl
      have hp0 := hps.out.posts j hjl
      rw [midHists_get k hs j j hlt, if_neg (Nat.lt_irrefl _)] at hc0 hp0
      have hle := Hle.out (j + 1)
      have hsc := Hsucc.out j hlt
      have hpl := posts_le hs j hlt
      have hnl := histN_le (geth hs j)
      have hhl := Hhl.out
      have hlt' : (j : Int) < (hs.length : Int) := by omega
      have hz00 : 0 ≤ k + (sumTo (hlens hs) j : Int) := by omega
      have g0 := (hblk.cell _).trans hc0
      have HB := hide hblk
      have HCS := hide hcs
      have HI := hide hin
      have hsc' := hide hsc
      have hb2 : postSize (geth hs j) ≤ 1048576 := by omega
      have HP0 := hide hp0
      have HR := hide (H.out.rng.2 j hlt)
      have HQ := hide H.out.rng.1
      have hpz : k + (sumTo (hlens hs) j : Int) + 3 * postSize (geth hs j) ≤ 4194304 := by
        have h3 : sumTo (hlens hs) j + 3 * postSize (geth hs j) ≤ 3 * histSize hs := by
          have h4 : ∀ (l : List (List PostD)) (m : Nat), m < l.length → sumTo (hlens l) m + 3 * postSize (geth l m) ≤ 3 * histSize l := fun l => by
            induction l with
            | nil => intro m hm; simp at hm
            | cons a l ih =>
              intro m hm
              have ha := histN_le a
              cases m with
              | zero => simp only [sumTo, hlens, geth, histSize, postLens, List.map_cons, List.take_zero, List.sum_nil, List.sum_cons, List.length_cons, List.getD_cons_zero]; omega
              | succ m =>
                have h5 := ih m (by simpa using hm)
                simp only [sumTo, hlens, geth, histSize, postLens, List.map_cons, List.take_succ_cons, List.sum_cons, List.length_cons, List.getD_cons_succ] at h5 ⊢
                omega
          exact h4 hs j hlt
        omega
      clear hblk hcs hin hsc hle hc0 hp0 hhl
      go_wp2_with fail
      refine (markPostS_to hb2 hz00 hpz HP0.out).mono ?_
      rintro e w5 ⟨rfl, hr5, hi5⟩
      go_wp2_with fail
      go_roundw
      case rel =>
        have hr5' := HR.out
        have hq5' := HQ.out
        refine ⟨j + 1, by omega, by go_num, by rw [hsc'.out]; unfold histN; congr 1; omega, hide ⟨by rw [midHists_len]; omega, ⟨cs, (hi5.block q HB.out.lt (by omega)).trans HB.out, by rw [midHists_len] at hsz ⊢; exact hsz, fun m hm => ?_⟩, fun m hm => ?_, fun i m him hm => H.out.up i m him (by rwa [midHists_len] at hm), ⟨hq5', fun m hm => H.out.rng.2 m (by rwa [midHists_len] at hm)⟩⟩, HI.out.trans (hi5.wide (by omega) (by omega))⟩
        · rw [midHists_len] at hm
          have h2 := HCS.out m (by rw [midHists_len]; exact hm)
          rw [midHists_get k hs j m hm, midHist_length] at h2
          rw [midHists_get k hs (j + 1) m hm, midHist_length]
          exact h2
        · rw [midHists_len] at hm
          have h2 := hps.out.posts m (by rw [midHists_len]; exact hm)
          rw [midHists_get k hs j m hm] at h2
          rw [midHists_get k hs (j + 1) m hm]
          by_cases e : m = j
          · subst e
            rw [if_pos (Nat.lt_succ_self m)]
            exact hr5
          · have hgo : ∀ l, PostsOwn wr (los m) (his m) (pq m) (qs m) l → PostsOwn w5 (los m) (his m) (pq m) (qs m) l := fun l hl => hl.keep (fun b hb1 hb2 hbl => hi5.block b hbl (fun hh => by
              rcases Nat.lt_or_gt_of_ne e with h | h
              · have := H.out.up m j h hlt; omega
              · have := H.out.up j m h hm; omega))
            by_cases e3 : m < j
            · rw [if_pos e3] at h2
              rw [if_pos (by omega)]
              exact hgo _ h2
            · rw [if_neg e3] at h2
              rw [if_neg (by omega)]
              exact hgo _ h2
      case measure => simp [intOf]; omega
    · obtain rfl : j = hs.length := by omega
      go_wp2_with fail
      go_ret
      exact ⟨by rw [Hall.out]; rfl, by have h := hps.out; rwa [midHists_all] at h, hin⟩

set_option maxRecDepth 100000 in
set_option maxHeartbeats 1600000 in
theorem heldHistS_to {w : World} {lo hi q c : Nat} {hs : List (List PostD)} {los his pq : Nat → Nat} {qs : Nat → Nat → Nat} {k : Int} (hn : histSize hs ≤ 1048576) (h0 : 0 ≤ k) (h1 : k + 3 * histSize hs ≤ 4194304) (h : HistsOwn w lo hi q (mkHists k hs) los his pq qs) :
    Calls Try.prog 92 #[.slice (some ⟨q, 0, none⟩) hs.length c, .int .i64 k] w fun e w' => e = .returned (.int .i64 (k + (hlens hs).sum)) ∧ w = w' := by
  have H := hide h
  have hn2 : hs.length ≤ 1048576 := by unfold histSize at hn; omega
  have Hsucc := hide (fun k (hk : k < hs.length) => by have h := sumTo_succ (hlens hs) k (by rw [hlens_len]; exact hk); rw [hlens_get] at h; exact h)
  have Hle := hide (fun k => sumTo_le (hlens hs) k)
  have Hall := hide (by have h := sumTo_all (hlens hs); rw [hlens_len] at h; exact h)
  have Hhl := hide (hlens_le hs)
  clear h
  go_enter Try.func92, Try.ntmps92
  go_wp2_with fail
  go_loop [1, 5] (fun q1 i => ∃ (j : Nat), j ≤ hs.length ∧ i = .int .i64 j ∧ q1 = .int .i64 (k + sumTo (hlens hs) j)) (fun _ i => hs.length - (intOf i).toNat)
  case atStart => exact ⟨0, Nat.zero_le _, rfl, by simp [sumTo_zero]⟩
  case round =>
    obtain ⟨j, hj, rfl, rfl⟩ := hrel
    by_cases hlt : j < hs.length
    · have hjl : j < (mkHists k hs).length := by rw [mkHists_len]; exact hlt
      obtain ⟨cs, hblk, hsz, hcs⟩ := H.out.row
      have hc0 := hcs j hjl
      have hp0 := H.out.posts j hjl
      rw [mkHists_get k hs j hlt] at hc0 hp0
      unfold mkHist at hc0 hp0
      rw [mkPosts_len] at hc0
      have hle := Hle.out (j + 1)
      have hsc := Hsucc.out j hlt
      have hpl := posts_le hs j hlt
      have hnl := histN_le (geth hs j)
      have hhl := Hhl.out
      have hlt' : (j : Int) < (hs.length : Int) := by omega
      have hz00 : 0 ≤ k + (sumTo (hlens hs) j : Int) := by omega
      have g0 := (hblk.cell _).trans hc0
      have hb2 : postSize (geth hs j) ≤ 1048576 := by omega
      have HP0 := hide hp0
      have hsc' := hide hsc
      have hge : (0 : Int) ≤ k + (sumTo (hlens hs) j : Int) + 3 * (geth hs j).length + (viewLens (geth hs j)).sum := by omega
      have hpz : k + (sumTo (hlens hs) j : Int) + 3 * postSize (geth hs j) ≤ 4194304 := by
        have h3 : sumTo (hlens hs) j + 3 * postSize (geth hs j) ≤ 3 * histSize hs := by
          have h4 : ∀ (l : List (List PostD)) (m : Nat), m < l.length → sumTo (hlens l) m + 3 * postSize (geth l m) ≤ 3 * histSize l := fun l => by
            induction l with
            | nil => intro m hm; simp at hm
            | cons a l ih =>
              intro m hm
              have ha := histN_le a
              cases m with
              | zero => simp only [sumTo, hlens, geth, histSize, postLens, List.map_cons, List.take_zero, List.sum_nil, List.sum_cons, List.length_cons, List.getD_cons_zero]; omega
              | succ m =>
                have h5 := ih m (by simpa using hm)
                simp only [sumTo, hlens, geth, histSize, postLens, List.map_cons, List.take_succ_cons, List.sum_cons, List.length_cons, List.getD_cons_succ] at h5 ⊢
                omega
          exact h4 hs j hlt
        omega
      clear hblk hcs hsc hle hc0 hp0 hhl
      go_wp2_with fail
      refine (heldPostS_to hb2 hz00 hpz HP0.out).mono ?_
      rintro e w5 ⟨rfl, rfl⟩
      go_wp2_with fail
      go_round
      case rel => exact ⟨j + 1, by omega, by go_num, by rw [hsc'.out]; unfold histN; congr 1; omega⟩
      case measure => simp [intOf]; omega
    · obtain rfl : j = hs.length := by omega
      go_wp2_with fail
      go_ret
      exact ⟨by rw [Hall.out]; rfl, rfl⟩
end Go.Proofs.Ytfkaacfeikmabaa
