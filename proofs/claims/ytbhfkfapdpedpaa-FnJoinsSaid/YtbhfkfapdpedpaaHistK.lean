/- laws' helpers on a row of histories, to the number: markHistS and heldHistS. -/
import Derived.Test.YtbhfkfapdpedpaaHistS
import Derived.Test.YtbhfkfapdpedpaaHistH
namespace Go.Proofs.Ytbhfkfapdpedpaa
open Go.RowKit

/-- How many marks a history takes. -/
def histN (l : List PostD) : Nat := 3 * l.length + (viewLens l).sum
def hlens (hs : List (List PostD)) : List Nat := hs.map histN
theorem hlens_len (hs : List (List PostD)) : (hlens hs).length = hs.length := by simp [hlens]
theorem hlens_get (hs : List (List PostD)) (k : Nat) : (hlens hs).getD k 0 = histN (geth hs k) := by
  unfold hlens geth
  rw [List.getD_eq_getElem?_getD, List.getD_eq_getElem?_getD, List.getElem?_map]
  cases hs[k]? <;> rfl
theorem histN_le (l : List PostD) : histN l ≤ 3 * postSize l := by unfold histN postSize; omega
theorem hlens_le (hs : List (List PostD)) : (hlens hs).sum ≤ 3 * histSize hs := by
  unfold hlens histSize postLens
  induction hs with
  | nil => simp
  | cons l hs ih =>
    have := histN_le l
    simp only [List.map_cons, List.sum_cons, List.length_cons] at ih ⊢
    omega
def mkHist (k : Int) (hs : List (List PostD)) (j : Nat) : List PostD := mkPosts (k + sumTo (hlens hs) j) (geth hs j)
def mkHists (k : Int) (hs : List (List PostD)) : List (List PostD) := (List.range hs.length).map (mkHist k hs)
def midHists (k : Int) (hs : List (List PostD)) (J : Nat) : List (List PostD) := (List.range hs.length).map (fun m => if m < J then mkHist k hs m else geth hs m)
theorem midHists_len (k : Int) (hs : List (List PostD)) (J : Nat) : (midHists k hs J).length = hs.length := by simp [midHists]
theorem midHists_get (k : Int) (hs : List (List PostD)) (J m : Nat) (hm : m < hs.length) : geth (midHists k hs J) m = if m < J then mkHist k hs m else geth hs m := by
  unfold midHists
  conv => lhs; unfold geth
  rw [List.getD_eq_getElem?_getD, List.getElem?_map, List.getElem?_range hm]
  rfl
theorem midHists_zero (k : Int) (hs : List (List PostD)) : midHists k hs 0 = hs := by
  unfold midHists
  apply List.ext_getElem
  · simp
  · intro i h1 h2
    simp [geth, List.getD_eq_getElem?_getD, List.getElem?_eq_getElem h2]
theorem midHists_all (k : Int) (hs : List (List PostD)) : midHists k hs hs.length = mkHists k hs := by
  unfold mkHists midHists
  exact List.map_congr_left (fun m hm => by rw [if_pos (by simpa using hm)])
theorem mkHists_len (k : Int) (hs : List (List PostD)) : (mkHists k hs).length = hs.length := by simp [mkHists]
theorem mkHists_get (k : Int) (hs : List (List PostD)) (m : Nat) (hm : m < hs.length) : geth (mkHists k hs) m = mkHist k hs m := by
  rw [← midHists_all, midHists_get k hs _ m hm, if_pos hm]
theorem midHist_length (k : Int) (hs : List (List PostD)) (J m : Nat) : (if m < J then mkHist k hs m else geth hs m).length = (geth hs m).length := by
  split
  · exact mkPosts_len _ _
  · rfl

set_option maxRecDepth 100000 in
set_option maxHeartbeats 1600000 in
theorem markHistS_to {w : World} {lo hi q c : Nat} {hs : List (List PostD)} {los his pq : Nat → Nat} {qs : Nat → Nat → Nat} {k : Int} (hn : histSize hs ≤ 1048576) (h0 : 0 ≤ k) (h1 : k + 3 * histSize hs ≤ 4194304) (h : HistsOwn w lo hi q hs los his pq qs) :
    Calls Try.prog 71 #[.slice (some ⟨q, 0, none⟩) hs.length c, .int .i64 k] w fun e w' => e = .returned (.int .i64 (k + (hlens hs).sum)) ∧ HistsOwn w' lo hi q (mkHists k hs) los his pq qs ∧ Inn lo hi w w' := by
  have H := hide h
  have hn2 : hs.length ≤ 1048576 := by unfold histSize at hn; omega
  have Hsucc := hide (fun k (hk : k < hs.length) => by have h := sumTo_succ (hlens hs) k (by rw [hlens_len]; exact hk); rw [hlens_get] at h; exact h)
  have Hle := hide (fun k => sumTo_le (hlens hs) k)
  have Hall := hide (by have h := sumTo_all (hlens hs); rw [hlens_len] at h; exact h)
  have Hhl := hide (hlens_le hs)
  clear h
  go_enter Try.func71, Try.ntmps71
  go_wp2_with fail
  go_loopw [1, 5] (fun q1 i wr => ∃ (j : Nat), j ≤ hs.length ∧ i = .int .i64 j ∧ q1 = .int .i64 (k + sumTo (hlens hs) j) ∧ Hid (HistsOwn wr lo hi q (midHists k hs j) los his pq qs) ∧ Inn lo hi w wr) (fun _ i _ => hs.length - (intOf i).toNat)
  case atStart => exact ⟨0, Nat.zero_le _, rfl, by simp [sumTo_zero], hide (by rw [midHists_zero]; exact H.out), Inn.refl _ _ _⟩
  case round =>
    obtain ⟨j, hj, rfl, rfl, hps, hin⟩ := hrel
    by_cases hlt : j < hs.length
    · have hjl : j < (midHists k hs j).length := by rw [midHists_len]; exact hlt
      obtain ⟨cs, hblk, hsz, hcs⟩ := hps.out.row
      have hc0 := hcs j hjl
      have hp0 := hps.out.posts j hjl
      rw [midHists_get k hs j j hlt, if_neg (Nat.lt_irrefl _)] at hc0 hp0
      have hle := Hle.out (j + 1)
      have hsc := Hsucc.out j hlt
      have hpl := posts_le hs j hlt
      have hnl := histN_le (geth hs j)
      have hhl := Hhl.out
      have hlt' : (j : Int) < (hs.length : Int) := by omega
      have hz00 : 0 ≤ k + (sumTo (hlens hs) j : Int) := by omega
      have g0 := (hblk.cell _).trans hc0
      have HB := hide hblk
      have HCS := hide hcs
      have HI := hide hin
      have hsc' := hide hsc
      have hb2 : postSize (geth hs j) ≤ 1048576 := by omega
      have HP0 := hide hp0
      have HR := hide (H.out.rng.2 j hlt)
      have HQ := hide H.out.rng.1
      have hpz : k + (sumTo (hlens hs) j : Int) + 3 * postSize (geth hs j) ≤ 4194304 := by
        have h3 : sumTo (hlens hs) j + 3 * postSize (geth hs j) ≤ 3 * histSize hs := by
          have h4 : ∀ (l : List (List PostD)) (m : Nat), m < l.length → sumTo (hlens l) m + 3 * postSize (geth l m) ≤ 3 * histSize l := fun l => by
            induction l with
            | nil => intro m hm; simp at hm
            | cons a l ih =>
              intro m hm
              have ha := histN_le a
              cases m with
              | zero => simp only [sumTo, hlens, geth, histSize, postLens, List.map_cons, List.take_zero, List.sum_nil, List.sum_cons, List.length_cons, List.getD_cons_zero]; omega
              | succ m =>
                have h5 := ih m (by simpa using hm)
                simp only [sumTo, hlens, geth, histSize, postLens, List.map_cons, List.take_succ_cons, List.sum_cons, List.length_cons, List.getD_cons_succ] at h5 ⊢
                omega
          exact h4 hs j hlt
        omega
      clear hblk hcs hin hsc hle hc0 hp0 hhl
      go_wp2_with fail
      refine (markPostS_to hb2 hz00 hpz HP0.out).mono ?_
      rintro e w5 ⟨rfl, hr5, hi5⟩
      go_wp2_with fail
      go_roundw
      case rel =>
        have hr5' := HR.out
        have hq5' := HQ.out
        refine ⟨j + 1, by omega, by go_num, by rw [hsc'.out]; unfold histN; congr 1; omega, hide ⟨by rw [midHists_len]; omega, ⟨cs, (hi5.block q HB.out.lt (by omega)).trans HB.out, by rw [midHists_len] at hsz ⊢; exact hsz, fun m hm => ?_⟩, fun m hm => ?_, fun i m him hm => H.out.up i m him (by rwa [midHists_len] at hm), ⟨hq5', fun m hm => H.out.rng.2 m (by rwa [midHists_len] at hm)⟩⟩, HI.out.trans (hi5.wide (by omega) (by omega))⟩
        · rw [midHists_len] at hm
          have h2 := HCS.out m (by rw [midHists_len]; exact hm)
          rw [midHists_get k hs j m hm, midHist_length] at h2
          rw [midHists_get k hs (j + 1) m hm, midHist_length]
          exact h2
        · rw [midHists_len] at hm
          have h2 := hps.out.posts m (by rw [midHists_len]; exact hm)
          rw [midHists_get k hs j m hm] at h2
          rw [midHists_get k hs (j + 1) m hm]
          by_cases e : m = j
          · subst e
            rw [if_pos (Nat.lt_succ_self m)]
            exact hr5
          · have hgo : ∀ l, PostsOwn wr (los m) (his m) (pq m) (qs m) l → PostsOwn w5 (los m) (his m) (pq m) (qs m) l := fun l hl => hl.keep (fun b hb1 hb2 hbl => hi5.block b hbl (fun hh => by
              rcases Nat.lt_or_gt_of_ne e with h | h
              · have := H.out.up m j h hlt; omega
              · have := H.out.up j m h hm; omega))
            by_cases e3 : m < j
            · rw [if_pos e3] at h2
              rw [if_pos (by omega)]
              exact hgo _ h2
            · rw [if_neg e3] at h2
              rw [if_neg (by omega)]
              exact hgo _ h2
      case measure => simp [intOf]; omega
    · obtain rfl : j = hs.length := by omega
      go_wp2_with fail
      go_ret
      exact ⟨by rw [Hall.out]; rfl, by have h := hps.out; rwa [midHists_all] at h, hin⟩

set_option maxRecDepth 100000 in
set_option maxHeartbeats 1600000 in
theorem heldHistS_to {w : World} {lo hi q c : Nat} {hs : List (List PostD)} {los his pq : Nat → Nat} {qs : Nat → Nat → Nat} {k : Int} (hn : histSize hs ≤ 1048576) (h0 : 0 ≤ k) (h1 : k + 3 * histSize hs ≤ 4194304) (h : HistsOwn w lo hi q (mkHists k hs) los his pq qs) :
    Calls Try.prog 123 #[.slice (some ⟨q, 0, none⟩) hs.length c, .int .i64 k] w fun e w' => e = .returned (.int .i64 (k + (hlens hs).sum)) ∧ w = w' := by
  have H := hide h
  have hn2 : hs.length ≤ 1048576 := by unfold histSize at hn; omega
  have Hsucc := hide (fun k (hk : k < hs.length) => by have h := sumTo_succ (hlens hs) k (by rw [hlens_len]; exact hk); rw [hlens_get] at h; exact h)
  have Hle := hide (fun k => sumTo_le (hlens hs) k)
  have Hall := hide (by have h := sumTo_all (hlens hs); rw [hlens_len] at h; exact h)
  have Hhl := hide (hlens_le hs)
  clear h
  go_enter Try.func123, Try.ntmps123
  go_wp2_with fail
  go_loop [1, 5] (fun q1 i => ∃ (j : Nat), j ≤ hs.length ∧ i = .int .i64 j ∧ q1 = .int .i64 (k + sumTo (hlens hs) j)) (fun _ i => hs.length - (intOf i).toNat)
  case atStart => exact ⟨0, Nat.zero_le _, rfl, by simp [sumTo_zero]⟩
  case round =>
    obtain ⟨j, hj, rfl, rfl⟩ := hrel
    by_cases hlt : j < hs.length
    · have hjl : j < (mkHists k hs).length := by rw [mkHists_len]; exact hlt
      obtain ⟨cs, hblk, hsz, hcs⟩ := H.out.row
      have hc0 := hcs j hjl
      have hp0 := H.out.posts j hjl
      rw [mkHists_get k hs j hlt] at hc0 hp0
      unfold mkHist at hc0 hp0
      rw [mkPosts_len] at hc0
      have hle := Hle.out (j + 1)
      have hsc := Hsucc.out j hlt
      have hpl := posts_le hs j hlt
      have hnl := histN_le (geth hs j)
      have hhl := Hhl.out
      have hlt' : (j : Int) < (hs.length : Int) := by omega
      have hz00 : 0 ≤ k + (sumTo (hlens hs) j : Int) := by omega
      have g0 := (hblk.cell _).trans hc0
      have hb2 : postSize (geth hs j) ≤ 1048576 := by omega
      have HP0 := hide hp0
      have hsc' := hide hsc
      have hge : (0 : Int) ≤ k + (sumTo (hlens hs) j : Int) + 3 * (geth hs j).length + (viewLens (geth hs j)).sum := by omega
      have hpz : k + (sumTo (hlens hs) j : Int) + 3 * postSize (geth hs j) ≤ 4194304 := by
        have h3 : sumTo (hlens hs) j + 3 * postSize (geth hs j) ≤ 3 * histSize hs := by
          have h4 : ∀ (l : List (List PostD)) (m : Nat), m < l.length → sumTo (hlens l) m + 3 * postSize (geth l m) ≤ 3 * histSize l := fun l => by
            induction l with
            | nil => intro m hm; simp at hm
            | cons a l ih =>
              intro m hm
              have ha := histN_le a
              cases m with
              | zero => simp only [sumTo, hlens, geth, histSize, postLens, List.map_cons, List.take_zero, List.sum_nil, List.sum_cons, List.length_cons, List.getD_cons_zero]; omega
              | succ m =>
                have h5 := ih m (by simpa using hm)
                simp only [sumTo, hlens, geth, histSize, postLens, List.map_cons, List.take_succ_cons, List.sum_cons, List.length_cons, List.getD_cons_succ] at h5 ⊢
                omega
          exact h4 hs j hlt
        omega
      clear hblk hcs hsc hle hc0 hp0 hhl
      go_wp2_with fail
      refine (heldPostS_to hb2 hz00 hpz HP0.out).mono ?_
      rintro e w5 ⟨rfl, rfl⟩
      go_wp2_with fail
      go_round
      case rel => exact ⟨j + 1, by omega, by go_num, by rw [hsc'.out]; unfold histN; congr 1; omega⟩
      case measure => simp [intOf]; omega
    · obtain rfl : j = hs.length := by omega
      go_wp2_with fail
      go_ret
      exact ⟨by rw [Hall.out]; rfl, rfl⟩
end Go.Proofs.Ytbhfkfapdpedpaa
