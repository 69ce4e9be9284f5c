/- laws' helpers on rows of files and of buffers: eqFileS, markFileS, heldFileS, eqBufS, markBufS, heldBufS. -/
import Derived.Test.YtfkaacfeikmabaaMg3
import Derived.Test.YtfkaacfeikmabaaMg4
import Derived.Test.YtfkaacfeikmabaaMg7
import Derived.StillTailTactics
namespace Go.Proofs.Ytfkaacfeikmabaa
open Go.RowKit

theorem eqFileI {w : World} {lo hi lo' hi' n c c' : Nat} {A A' : Option Addr} {zs : List Int} (hz : zs.length = n) (hn : n ≤ 1048577) (h : RvI 3 w lo hi (.slice A n c) n zs) (k : RvI 3 w lo' hi' (.slice A' n c') n zs) :
    Calls Try.prog 45 #[.agg #[.slice A n c], .agg #[.slice A' n c']] w fun e w' => e = .returned (.bool true) ∧ Below w.heap.size w w' := by
  subst hz
  exact eqFile_any A A' zs c c' _ w (fun _ h => h) (h.src (by omega) rfl) (k.src (by omega) rfl)
theorem markWaitSI {w : World} {lo hi n c : Nat} {A : Option Addr} {zs : List Int} {k : Int} (hz : zs.length = n * 2) (hn : n ≤ 1048576) (h0 : 0 ≤ k) (h1 : k ≤ 4194304) (h : RvI 197 w lo hi (.slice A n c) n zs) :
    Calls Try.prog 152 #[.slice A n c, .int .i64 k] w fun e w' => e = .returned (.int .i64 (markZ k (n * 2))) ∧ RvI 197 w' lo hi (.slice A n c) n (marks k.toNat (n * 2)) ∧ w.grownBy w' (Value.slice A n c).ownBlock := by
  obtain ⟨j, rfl⟩ : ∃ j : Nat, k = (j : Int) := ⟨k.toNat, by omega⟩
  rcases h with ⟨hr, hh⟩
  rcases hr with ⟨e, rfl, rfl⟩ | ⟨q, c', e, hr, hq⟩
  · cases e
    refine (markWaitS_none 0 j w).mono ?_
    rintro e w' ⟨rfl, rfl⟩
    exact ⟨by simp [markZ], ⟨.inl ⟨rfl, rfl, by simp [marks]⟩, hh⟩, World.grownBy.refl w _⟩
  · cases e
    refine (markWaitS_any q zs n c j w hz hn (by omega) hr).mono ?_
    rintro e w' ⟨rfl, hr', ho⟩
    exact ⟨by simp [markZ], ⟨.inr ⟨q, c, rfl, hr', hq⟩, hh⟩, grown_only ho⟩
theorem heldWaitSI {w : World} {lo hi n c : Nat} {A : Option Addr} {k : Int} (hn : n ≤ 1048576) (h0 : 0 ≤ k) (h1 : k ≤ 4194304) (h : RvI 197 w lo hi (.slice A n c) n (marks k.toNat (n * 2))) :
    Calls Try.prog 154 #[.slice A n c, .int .i64 k] w fun e w' => e = .returned (.int .i64 (markZ k (n * 2))) ∧ Below w.heap.size w w' := by
  obtain ⟨j, rfl⟩ : ∃ j : Nat, k = (j : Int) := ⟨k.toNat, by omega⟩
  refine (heldWaitS_any A n c j _ w hn (by omega) (h.src (by rw [marks_len]; omega) rfl)).mono ?_
  rintro e w' ⟨rfl, rfl⟩
  exact ⟨by simp [markZ], Below.refl _ _⟩

set_option maxRecDepth 100000 in
set_option maxHeartbeats 1600000 in
theorem eqFileSI {w : World} {lo hi lo' hi' c c' : Nat} {A A' : Option Addr} {rs rs' : List RowD} (hl : rs.length ≤ 1048576) (hs : SameRows rs rs') (hz : ∀ k, k < rs.length → (getr rs k).zs.length = (getr rs k).n ∧ (getr rs k).n ≤ 1048576) (h : RowsI 69 3 w lo hi A rs) (h' : RowsI 69 3 w lo' hi' A' rs') :
    Calls Try.prog 84 #[.slice A rs.length c, .slice A' rs.length c'] w fun e w' => e = .returned (.bool true) ∧ Below w.heap.size w w' := by
  have H := hide h
  have H' := hide h'
  have HS := hide hs
  have HZ := hide hz
  clear h h' hs hz
  go_enter Try.func84, Try.ntmps84
  go_wp2
  go_loopw [5] (fun i wr => ∃ (k : Nat), k ≤ rs.length ∧ i = .int .i64 k ∧ Below w.heap.size w wr) (fun i _ => rs.length - (intOf i).toNat)
  case atStart => exact ⟨0, Nat.zero_le _, rfl, Below.refl _ _⟩
  case round =>
    obtain ⟨k, hk, rfl, hb⟩ := hrel
    by_cases hlt : k < rs.length
    · obtain ⟨q, rfl, hq⟩ := (H.out.next hb).at_ hlt
      obtain ⟨q', rfl, hq'⟩ := (H'.out.next hb).at_ (by rw [← HS.out.1]; exact hlt)
      obtain ⟨cs, c1, _, c2⟩ := hq.row
      obtain ⟨cs', d1, _, d2⟩ := hq'.row
      have g0 := (c1.cell _).trans (c2 k hlt)
      have g1 := (d1.cell _).trans (d2 k (by rw [← HS.out.1]; exact hlt))
      have hx : ((k : Int) < (rs.length : Int)) := by omega
      have r1 := hq.each k hlt
      have r2 := hq'.each k (by rw [← HS.out.1]; exact hlt)
      obtain ⟨e1, e2⟩ := HS.out.2 k hlt
      obtain ⟨z1, z2⟩ := HZ.out k hlt
      unfold RowD.at_ at r1 r2
      rw [← e1, ← e2] at r2
      rw [← e1] at g1
      generalize (getr rs k).n = n1 at *
      have R1 := hide r1
      have R2 := hide r2
      have Z1 := hide z1
      clear r1 r2 c1 c2 d1 d2 hq hq' e1 e2 z1
      go_wp2_with fail
      go_still_tail 8, (by kernel_rfl)
      have hbd := hb.drew
      replace R1 := hide (show RvI 3 wr.drew _ _ _ _ _ from R1.out)
      replace R2 := hide (show RvI 3 wr.drew _ _ _ _ _ from R2.out)
      change wpList _ _ _ _ _ wr.drew
      clear g0 g1
      generalize wr.drew = w2 at *
      go_wp2_with (go_at_call 45; refine (eqFileI Z1.out (by omega) R1.out R2.out).mono ?_; rintro e w3 ⟨rfl, hb3⟩)
      go_roundw
      case rel => exact ⟨k + 1, by omega, by go_num, below_then hbd hb3⟩
      case measure => simp [intOf]; omega
    · obtain rfl : k = rs.length := by omega
      go_wp2
      go_ret
      exact ⟨rfl, hb⟩

set_option maxRecDepth 100000 in
set_option maxHeartbeats 1600000 in
theorem markFileSI {w : World} {lo hi c : Nat} {A : Option Addr} {rs : List RowD} {k : Int} (h0 : 0 ≤ k) (h1 : k + (rlens rs).sum ≤ 4194304) (hl : rs.length ≤ 1048576) (hz : ∀ k, k < rs.length → (getr rs k).zs.length = (getr rs k).n ∧ (getr rs k).n ≤ 1048576) (h : RowsI 69 3 w lo hi A rs) :
    Calls Try.prog 87 #[.slice A rs.length c, .int .i64 k] w fun e w' => e = .returned (.int .i64 (k + (rlens rs).sum)) ∧ RowsI 69 3 w' lo hi A (mkRows k rs) ∧ Inn lo hi w w' := by
  have HZ := hide hz
  have Hsucc := hide (fun k (hk : k < rs.length) => by have h := sumTo_succ (rlens rs) k (by rw [rlens_len]; exact hk); rw [rlens_get] at h; exact h)
  have Hle := hide (fun k => sumTo_le (rlens rs) k)
  have Hall := hide (by have h := sumTo_all (rlens rs); rw [rlens_len] at h; exact h)
  have Hup := hide (fun i j hij hj => by obtain ⟨q, _, hq⟩ := h.at_ (k := j) hj; exact hq.up i j hij hj)
  have H := hide h
  clear hz h
  go_enter Try.func87, Try.ntmps87
  go_wp2_with fail
  go_loopw [1, 5] (fun q1 i wr => ∃ (j : Nat), j ≤ rs.length ∧ i = .int .i64 j ∧ q1 = .int .i64 (k + sumTo (rlens rs) j) ∧ Hid (RowsI 69 3 wr lo hi A (midRows k rs j)) ∧ Inn lo hi w wr) (fun _ i _ => rs.length - (intOf i).toNat)
  case atStart =>
    exact ⟨0, Nat.zero_le _, rfl, by simp [sumTo_zero], hide (by rw [midRows_zero]; exact H.out), Inn.refl _ _ _⟩
  case round =>
    obtain ⟨j, hj, rfl, rfl, hR, hin⟩ := hrel
    have hgr := hide (fun J m (hm : m < rs.length) => midRows_get k rs J m hm)
    by_cases hlt : j < rs.length
    · obtain ⟨q, rfl, hq⟩ := hR.out.at_ (k := j) (by rw [midRows_len]; exact hlt)
      obtain ⟨cs, c1, c0, c2⟩ := hq.row
      have g0 := (c1.cell _).trans (c2 j (by rw [midRows_len]; exact hlt))
      have r1 := hq.each j (by rw [midRows_len]; exact hlt)
      unfold RowD.at_ at r1
      rw [hgr.out j j hlt, if_neg (Nat.lt_irrefl _)] at g0 r1
      obtain ⟨z1, z2⟩ := HZ.out j hlt
      have hle := Hle.out (j + 1)
      have hsc := Hsucc.out j hlt
      have hlt' : (j : Int) < (rs.length : Int) := by omega
      have hk0 : 0 ≤ k + (sumTo (rlens rs) j : Int) := by omega
      have hk1 : k + (sumTo (rlens rs) j : Int) ≤ 4194304 := by omega
      have HQ := hide hq
      have HI := hide hin
      have R1 := hide r1
      have HC := hide (And.intro c1 (And.intro c0 c2))
      have Z1 := hide z1
      have hsc' := hide hsc
      clear hq hin r1 c1 c0 c2 hsc hle z1
      go_wp2_with fail
      refine (markIntSI Z1.out z2 hk0 hk1 R1.out).mono ?_
      rintro e w5 ⟨rfl, hr5, hg5⟩
      go_wp2_with fail
      go_roundw
      case rel =>
        refine ⟨j + 1, by omega, by go_num, by unfold markZ; rw [hsc'.out, ← Z1.out]; congr 1; omega, hide (.inr ⟨q, rfl, ⟨⟨cs, HC.out.1.grownI hg5 R1.out (by decide), by rw [midRows_len]; have h := HC.out.2.1; rwa [midRows_len] at h, fun m hm => ?_⟩, fun m hm => ?_, fun i m him hm => ?_, ?_⟩⟩), HI.out.trans ⟨hg5.os, hg5.tape, hg5.output, hg5.size, fun b hb hn => hg5.block b hb (fun e => hn ?_)⟩⟩
        · have hm' : m < rs.length := by rwa [midRows_len] at hm
          have h2 := HC.out.2.2 m (by rw [midRows_len]; exact hm')
          rw [hgr.out j m hm'] at h2
          rw [hgr.out (j + 1) m hm', h2]
          by_cases e : m < j
          · rw [if_pos e, if_pos (by omega)]
          · by_cases e2 : m = j
            · subst e2; rw [if_neg (by omega), if_pos (by omega)]; rfl
            · rw [if_neg e, if_neg (by omega)]
        · have hm' : m < rs.length := by rwa [midRows_len] at hm
          have h2 := HQ.out.each m (by rw [midRows_len]; exact hm')
          rw [hgr.out j m hm'] at h2
          rw [hgr.out (j + 1) m hm']
          by_cases e2 : m = j
          · subst e2
            rw [if_pos (by omega)]
            unfold RowD.at_ mkRow
            simp only []
            rw [Z1.out]
            exact hr5
          · by_cases e : m < j
            · rw [if_pos e] at h2
              rw [if_pos (by omega)]
              exact RvI.grown h2 hg5 R1.out (.inl (Hup.out m j e hlt))
            · rw [if_neg e] at h2
              rw [if_neg (by omega)]
              exact RvI.grown h2 hg5 R1.out (.inr (Hup.out j m (by omega) hm'))
        · have hm' : m < rs.length := by rwa [midRows_len] at hm
          have h2 := HQ.out.up i m him (by rw [midRows_len]; exact hm')
          rw [hgr.out j i (by omega), hgr.out j m hm'] at h2
          rw [hgr.out (j + 1) i (by omega), hgr.out (j + 1) m hm']
          have e1 : ∀ (p : Prop) [Decidable p] x, (if p then mkRow k rs x else getr rs x).hi = (getr rs x).hi := fun p _ x => by split <;> rfl
          have e2 : ∀ (p : Prop) [Decidable p] x, (if p then mkRow k rs x else getr rs x).lo = (getr rs x).lo := fun p _ x => by split <;> rfl
          rw [e1, e2] at h2 ⊢
          exact h2
        · refine ⟨HQ.out.rng.1, fun m hm => ?_⟩
          have hm' : m < rs.length := by rwa [midRows_len] at hm
          have h2 := HQ.out.rng.2 m (by rw [midRows_len]; exact hm')
          rw [hgr.out j m hm'] at h2
          rw [hgr.out (j + 1) m hm']
          have e1 : ∀ (p : Prop) [Decidable p] x, (if p then mkRow k rs x else getr rs x).hi = (getr rs x).hi := fun p _ x => by split <;> rfl
          have e2 : ∀ (p : Prop) [Decidable p] x, (if p then mkRow k rs x else getr rs x).lo = (getr rs x).lo := fun p _ x => by split <;> rfl
          rw [e1, e2] at h2 ⊢
          exact h2
        · have h2 := HQ.out.rng.2 j (by rw [midRows_len]; exact hlt)
          rw [hgr.out j j hlt, if_neg (Nat.lt_irrefl _)] at h2
          have h3 := R1.out.2 b e.symm
          have h4 := (R1.out.1.own_lt e.symm).1
          omega
      case measure => simp [intOf]; omega
    · obtain rfl : j = rs.length := by omega
      go_wp2_with fail
      go_ret
      exact ⟨by rw [Hall.out]; rfl, by have h := hR.out; rwa [midRows_all] at h, hin⟩

set_option maxRecDepth 100000 in
set_option maxHeartbeats 1600000 in
theorem heldFileSI {w : World} {lo hi c : Nat} {A : Option Addr} {rs : List RowD} {k : Int} (h0 : 0 ≤ k) (h1 : k + (rlens rs).sum ≤ 4194304) (hl : rs.length ≤ 1048576) (hz : ∀ k, k < rs.length → (getr rs k).zs.length = (getr rs k).n ∧ (getr rs k).n ≤ 1048576) (h : RowsI 69 3 w lo hi A (mkRows k rs)) :
    Calls Try.prog 90 #[.slice A rs.length c, .int .i64 k] w fun e w' => e = .returned (.int .i64 (k + (rlens rs).sum)) ∧ Below w.heap.size w w' := by
  have HZ := hide hz
  have Hsucc := hide (fun k (hk : k < rs.length) => by have h := sumTo_succ (rlens rs) k (by rw [rlens_len]; exact hk); rw [rlens_get] at h; exact h)
  have Hle := hide (fun k => sumTo_le (rlens rs) k)
  have Hall := hide (by have h := sumTo_all (rlens rs); rw [rlens_len] at h; exact h)
  have H := hide h
  clear hz h
  go_enter Try.func90, Try.ntmps90
  go_wp2_with fail
  go_loopw [1, 5] (fun q1 i wr => ∃ (j : Nat), j ≤ rs.length ∧ i = .int .i64 j ∧ q1 = .int .i64 (k + sumTo (rlens rs) j) ∧ Below w.heap.size w wr) (fun _ i _ => rs.length - (intOf i).toNat)
  case atStart => exact ⟨0, Nat.zero_le _, rfl, by simp [sumTo_zero], Below.refl _ _⟩
  case round =>
    obtain ⟨j, hj, rfl, rfl, hb⟩ := hrel
    by_cases hlt : j < rs.length
    · obtain ⟨q, rfl, hq⟩ := (H.out.next hb).at_ (k := j) (by rw [mkRows_len]; exact hlt)
      obtain ⟨cs, c1, _, c2⟩ := hq.row
      have g0 := (c1.cell _).trans (c2 j (by rw [mkRows_len]; exact hlt))
      have r1 := hq.each j (by rw [mkRows_len]; exact hlt)
      unfold RowD.at_ at r1
      rw [mkRows_get k rs j hlt] at g0 r1
      have e1 : (mkRow k rs j).A = (getr rs j).A := rfl
      have e2 : (mkRow k rs j).n = (getr rs j).n := rfl
      have e3 : (mkRow k rs j).c = (getr rs j).c := rfl
      have e4 : (mkRow k rs j).zs = marks (k + sumTo (rlens rs) j).toNat (getr rs j).zs.length := rfl
      rw [e1, e2, e3] at g0 r1
      obtain ⟨z1, z2⟩ := HZ.out j hlt
      rw [e4, z1] at r1
      have hle := Hle.out (j + 1)
      have hsc := Hsucc.out j hlt
      have hlt' : (j : Int) < (rs.length : Int) := by omega
      have hk0 : 0 ≤ k + (sumTo (rlens rs) j : Int) := by omega
      have hk1 : k + (sumTo (rlens rs) j : Int) ≤ 4194304 := by omega
      have hge : ¬ markZ (k + (sumTo (rlens rs) j : Int)) ((getr rs j).n) < 0 := markZ_nonneg hk0
      have R1 := hide r1
      have Z1 := hide z1
      have hsc' := hide hsc
      clear hq r1 c1 c2 hsc hle z1 e1 e2 e3 e4
      go_wp2_with fail
      refine (heldIntSI z2 hk0 hk1 R1.out).mono ?_
      rintro e w5 ⟨rfl, hb5⟩
      go_wp2_with fail
      go_roundw
      case rel => exact ⟨j + 1, by omega, by go_num, by unfold markZ; rw [hsc'.out, ← Z1.out]; congr 1; omega, below_then hb hb5⟩
      case measure => simp [intOf]; omega
    · obtain rfl : j = rs.length := by omega
      go_wp2_with fail
      go_ret
      exact ⟨by rw [Hall.out]; rfl, hb⟩

set_option maxRecDepth 100000 in
set_option maxHeartbeats 1600000 in
theorem eqBufSI {w : World} {lo hi lo' hi' c c' : Nat} {A A' : Option Addr} {rs rs' : List RowD} (hl : rs.length ≤ 1048576) (hs : SameRows rs rs') (hz : ∀ k, k < rs.length → (getr rs k).zs.length = (getr rs k).n * 2 ∧ (getr rs k).n ≤ 1048576) (h : RowsI 182 197 w lo hi A rs) (h' : RowsI 182 197 w lo' hi' A' rs') :
    Calls Try.prog 85 #[.slice A rs.length c, .slice A' rs.length c'] w fun e w' => e = .returned (.bool true) ∧ Below w.heap.size w w' := by
  have H := hide h
  have H' := hide h'
  have HS := hide hs
  have HZ := hide hz
  clear h h' hs hz
  go_enter Try.func85, Try.ntmps85
  go_wp2
  go_loopw [5] (fun i wr => ∃ (k : Nat), k ≤ rs.length ∧ i = .int .i64 k ∧ Below w.heap.size w wr) (fun i _ => rs.length - (intOf i).toNat)
  case atStart => exact ⟨0, Nat.zero_le _, rfl, Below.refl _ _⟩
  case round =>
    obtain ⟨k, hk, rfl, hb⟩ := hrel
    by_cases hlt : k < rs.length
    · obtain ⟨q, rfl, hq⟩ := (H.out.next hb).at_ hlt
      obtain ⟨q', rfl, hq'⟩ := (H'.out.next hb).at_ (by rw [← HS.out.1]; exact hlt)
      obtain ⟨cs, c1, _, c2⟩ := hq.row
      obtain ⟨cs', d1, _, d2⟩ := hq'.row
      have g0 := (c1.cell _).trans (c2 k hlt)
      have g1 := (d1.cell _).trans (d2 k (by rw [← HS.out.1]; exact hlt))
      have hx : ((k : Int) < (rs.length : Int)) := by omega
      have r1 := hq.each k hlt
      have r2 := hq'.each k (by rw [← HS.out.1]; exact hlt)
      obtain ⟨e1, e2⟩ := HS.out.2 k hlt
      obtain ⟨z1, z2⟩ := HZ.out k hlt
      unfold RowD.at_ at r1 r2
      rw [← e1, ← e2] at r2
      rw [← e1] at g1
      generalize (getr rs k).n = n1 at *
      have R1 := hide r1
      have R2 := hide r2
      have Z1 := hide z1
      clear r1 r2 c1 c2 d1 d2 hq hq' e1 e2 z1
      go_wp2_with fail
      go_still_tail 8, (by kernel_rfl)
      have hbd := hb.drew
      replace R1 := hide (show RvI 197 wr.drew _ _ _ _ _ from R1.out)
      replace R2 := hide (show RvI 197 wr.drew _ _ _ _ _ from R2.out)
      change wpList _ _ _ _ _ wr.drew
      clear g0 g1
      generalize wr.drew = w2 at *
      go_wp2_with (go_at_call 150; refine (eqBufI Z1.out (by omega) R1.out R2.out).mono ?_; rintro e w3 ⟨rfl, hb3⟩)
      go_roundw
      case rel => exact ⟨k + 1, by omega, by go_num, below_then hbd hb3⟩
      case measure => simp [intOf]; omega
    · obtain rfl : k = rs.length := by omega
      go_wp2
      go_ret
      exact ⟨rfl, hb⟩

set_option maxRecDepth 100000 in
set_option maxHeartbeats 1600000 in
theorem markBufSI {w : World} {lo hi c : Nat} {A : Option Addr} {rs : List RowD} {k : Int} (h0 : 0 ≤ k) (h1 : k + (rlens rs).sum ≤ 4194304) (hl : rs.length ≤ 1048576) (hz : ∀ k, k < rs.length → (getr rs k).zs.length = (getr rs k).n * 2 ∧ (getr rs k).n ≤ 1048576) (h : RowsI 182 197 w lo hi A rs) :
    Calls Try.prog 88 #[.slice A rs.length c, .int .i64 k] w fun e w' => e = .returned (.int .i64 (k + (rlens rs).sum)) ∧ RowsI 182 197 w' lo hi A (mkRows k rs) ∧ Inn lo hi w w' := by
  have HZ := hide hz
  have Hsucc := hide (fun k (hk : k < rs.length) => by have h := sumTo_succ (rlens rs) k (by rw [rlens_len]; exact hk); rw [rlens_get] at h; exact h)
  have Hle := hide (fun k => sumTo_le (rlens rs) k)
  have Hall := hide (by have h := sumTo_all (rlens rs); rw [rlens_len] at h; exact h)
  have Hup := hide (fun i j hij hj => by obtain ⟨q, _, hq⟩ := h.at_ (k := j) hj; exact hq.up i j hij hj)
  have H := hide h
  clear hz h
  go_enter Try.func88, Try.ntmps88
  go_wp2_with fail
  go_loopw [1, 5] (fun q1 i wr => ∃ (j : Nat), j ≤ rs.length ∧ i = .int .i64 j ∧ q1 = .int .i64 (k + sumTo (rlens rs) j) ∧ Hid (RowsI 182 197 wr lo hi A (midRows k rs j)) ∧ Inn lo hi w wr) (fun _ i _ => rs.length - (intOf i).toNat)
  case atStart =>
    exact ⟨0, Nat.zero_le _, rfl, by simp [sumTo_zero], hide (by rw [midRows_zero]; exact H.out), Inn.refl _ _ _⟩
  case round =>
    obtain ⟨j, hj, rfl, rfl, hR, hin⟩ := hrel
    have hgr := hide (fun J m (hm : m < rs.length) => midRows_get k rs J m hm)
    by_cases hlt : j < rs.length
    · obtain ⟨q, rfl, hq⟩ := hR.out.at_ (k := j) (by rw [midRows_len]; exact hlt)
      obtain ⟨cs, c1, c0, c2⟩ := hq.row
      have g0 := (c1.cell _).trans (c2 j (by rw [midRows_len]; exact hlt))
      have r1 := hq.each j (by rw [midRows_len]; exact hlt)
      unfold RowD.at_ at r1
      rw [hgr.out j j hlt, if_neg (Nat.lt_irrefl _)] at g0 r1
      obtain ⟨z1, z2⟩ := HZ.out j hlt
      have hle := Hle.out (j + 1)
      have hsc := Hsucc.out j hlt
      have hlt' : (j : Int) < (rs.length : Int) := by omega
      have hk0 : 0 ≤ k + (sumTo (rlens rs) j : Int) := by omega
      have hk1 : k + (sumTo (rlens rs) j : Int) ≤ 4194304 := by omega
      have HQ := hide hq
      have HI := hide hin
      have R1 := hide r1
      have HC := hide (And.intro c1 (And.intro c0 c2))
      have Z1 := hide z1
      have hsc' := hide hsc
      clear hq hin r1 c1 c0 c2 hsc hle z1
      go_wp2_with fail
      refine (markWaitSI Z1.out z2 hk0 hk1 R1.out).mono ?_
      rintro e w5 ⟨rfl, hr5, hg5⟩
      go_wp2_with fail
      go_roundw
      case rel =>
        refine ⟨j + 1, by omega, by go_num, by unfold markZ; rw [hsc'.out, ← Z1.out]; congr 1; omega, hide (.inr ⟨q, rfl, ⟨⟨cs, HC.out.1.grownI hg5 R1.out (by decide), by rw [midRows_len]; have h := HC.out.2.1; rwa [midRows_len] at h, fun m hm => ?_⟩, fun m hm => ?_, fun i m him hm => ?_, ?_⟩⟩), HI.out.trans ⟨hg5.os, hg5.tape, hg5.output, hg5.size, fun b hb hn => hg5.block b hb (fun e => hn ?_)⟩⟩
        · have hm' : m < rs.length := by rwa [midRows_len] at hm
          have h2 := HC.out.2.2 m (by rw [midRows_len]; exact hm')
          rw [hgr.out j m hm'] at h2
          rw [hgr.out (j + 1) m hm', h2]
          by_cases e : m < j
          · rw [if_pos e, if_pos (by omega)]
          · by_cases e2 : m = j
            · subst e2; rw [if_neg (by omega), if_pos (by omega)]; rfl
            · rw [if_neg e, if_neg (by omega)]
        · have hm' : m < rs.length := by rwa [midRows_len] at hm
          have h2 := HQ.out.each m (by rw [midRows_len]; exact hm')
          rw [hgr.out j m hm'] at h2
          rw [hgr.out (j + 1) m hm']
          by_cases e2 : m = j
          · subst e2
            rw [if_pos (by omega)]
            unfold RowD.at_ mkRow
            simp only []
            rw [Z1.out]
            exact hr5
          · by_cases e : m < j
            · rw [if_pos e] at h2
              rw [if_pos (by omega)]
              exact RvI.grown h2 hg5 R1.out (.inl (Hup.out m j e hlt))
            · rw [if_neg e] at h2
              rw [if_neg (by omega)]
              exact RvI.grown h2 hg5 R1.out (.inr (Hup.out j m (by omega) hm'))
        · have hm' : m < rs.length := by rwa [midRows_len] at hm
          have h2 := HQ.out.up i m him (by rw [midRows_len]; exact hm')
          rw [hgr.out j i (by omega), hgr.out j m hm'] at h2
          rw [hgr.out (j + 1) i (by omega), hgr.out (j + 1) m hm']
          have e1 : ∀ (p : Prop) [Decidable p] x, (if p then mkRow k rs x else getr rs x).hi = (getr rs x).hi := fun p _ x => by split <;> rfl
          have e2 : ∀ (p : Prop) [Decidable p] x, (if p then mkRow k rs x else getr rs x).lo = (getr rs x).lo := fun p _ x => by split <;> rfl
          rw [e1, e2] at h2 ⊢
          exact h2
        · refine ⟨HQ.out.rng.1, fun m hm => ?_⟩
          have hm' : m < rs.length := by rwa [midRows_len] at hm
          have h2 := HQ.out.rng.2 m (by rw [midRows_len]; exact hm')
          rw [hgr.out j m hm'] at h2
          rw [hgr.out (j + 1) m hm']
          have e1 : ∀ (p : Prop) [Decidable p] x, (if p then mkRow k rs x else getr rs x).hi = (getr rs x).hi := fun p _ x => by split <;> rfl
          have e2 : ∀ (p : Prop) [Decidable p] x, (if p then mkRow k rs x else getr rs x).lo = (getr rs x).lo := fun p _ x => by split <;> rfl
          rw [e1, e2] at h2 ⊢
          exact h2
        · have h2 := HQ.out.rng.2 j (by rw [midRows_len]; exact hlt)
          rw [hgr.out j j hlt, if_neg (Nat.lt_irrefl _)] at h2
          have h3 := R1.out.2 b e.symm
          have h4 := (R1.out.1.own_lt e.symm).1
          omega
      case measure => simp [intOf]; omega
    · obtain rfl : j = rs.length := by omega
      go_wp2_with fail
      go_ret
      exact ⟨by rw [Hall.out]; rfl, by have h := hR.out; rwa [midRows_all] at h, hin⟩

set_option maxRecDepth 100000 in
set_option maxHeartbeats 1600000 in
theorem heldBufSI {w : World} {lo hi c : Nat} {A : Option Addr} {rs : List RowD} {k : Int} (h0 : 0 ≤ k) (h1 : k + (rlens rs).sum ≤ 4194304) (hl : rs.length ≤ 1048576) (hz : ∀ k, k < rs.length → (getr rs k).zs.length = (getr rs k).n * 2 ∧ (getr rs k).n ≤ 1048576) (h : RowsI 182 197 w lo hi A (mkRows k rs)) :
    Calls Try.prog 91 #[.slice A rs.length c, .int .i64 k] w fun e w' => e = .returned (.int .i64 (k + (rlens rs).sum)) ∧ Below w.heap.size w w' := by
  have HZ := hide hz
  have Hsucc := hide (fun k (hk : k < rs.length) => by have h := sumTo_succ (rlens rs) k (by rw [rlens_len]; exact hk); rw [rlens_get] at h; exact h)
  have Hle := hide (fun k => sumTo_le (rlens rs) k)
  have Hall := hide (by have h := sumTo_all (rlens rs); rw [rlens_len] at h; exact h)
  have H := hide h
  clear hz h
  go_enter Try.func91, Try.ntmps91
  go_wp2_with fail
  go_loopw [1, 5] (fun q1 i wr => ∃ (j : Nat), j ≤ rs.length ∧ i = .int .i64 j ∧ q1 = .int .i64 (k + sumTo (rlens rs) j) ∧ Below w.heap.size w wr) (fun _ i _ => rs.length - (intOf i).toNat)
  case atStart => exact ⟨0, Nat.zero_le _, rfl, by simp [sumTo_zero], Below.refl _ _⟩
  case round =>
    obtain ⟨j, hj, rfl, rfl, hb⟩ := hrel
    by_cases hlt : j < rs.length
    · obtain ⟨q, rfl, hq⟩ := (H.out.next hb).at_ (k := j) (by rw [mkRows_len]; exact hlt)
      obtain ⟨cs, c1, _, c2⟩ := hq.row
      have g0 := (c1.cell _).trans (c2 j (by rw [mkRows_len]; exact hlt))
      have r1 := hq.each j (by rw [mkRows_len]; exact hlt)
      unfold RowD.at_ at r1
      rw [mkRows_get k rs j hlt] at g0 r1
      have e1 : (mkRow k rs j).A = (getr rs j).A := rfl
      have e2 : (mkRow k rs j).n = (getr rs j).n := rfl
      have e3 : (mkRow k rs j).c = (getr rs j).c := rfl
      have e4 : (mkRow k rs j).zs = marks (k + sumTo (rlens rs) j).toNat (getr rs j).zs.length := rfl
      rw [e1, e2, e3] at g0 r1
      obtain ⟨z1, z2⟩ := HZ.out j hlt
      rw [e4, z1] at r1
      have hle := Hle.out (j + 1)
      have hsc := Hsucc.out j hlt
      have hlt' : (j : Int) < (rs.length : Int) := by omega
      have hk0 : 0 ≤ k + (sumTo (rlens rs) j : Int) := by omega
      have hk1 : k + (sumTo (rlens rs) j : Int) ≤ 4194304 := by omega
      have hge : ¬ markZ (k + (sumTo (rlens rs) j : Int)) ((getr rs j).n * 2) < 0 := markZ_nonneg hk0
      have R1 := hide r1
      have Z1 := hide z1
      have hsc' := hide hsc
      clear hq r1 c1 c2 hsc hle z1 e1 e2 e3 e4
      go_wp2_with fail
      refine (heldWaitSI z2 hk0 hk1 R1.out).mono ?_
      rintro e w5 ⟨rfl, hb5⟩
      go_wp2_with fail
      go_roundw
      case rel => exact ⟨j + 1, by omega, by go_num, by unfold markZ; rw [hsc'.out, ← Z1.out]; congr 1; omega, below_then hb hb5⟩
      case measure => simp [intOf]; omega
    · obtain rfl : j = rs.length := by omega
      go_wp2_with fail
      go_ret
      exact ⟨by rw [Hall.out]; rfl, hb⟩
end Go.Proofs.Ytfkaacfeikmabaa
