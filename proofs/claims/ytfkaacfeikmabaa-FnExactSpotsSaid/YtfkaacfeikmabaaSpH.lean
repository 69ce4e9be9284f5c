/- laws' helpers on a row of spots: eqSpotS, markSpotS, heldSpotS. A row of n spots is read as its 2 n numbers. -/
import Derived.Test.YtfkaacfeikmabaaMarks
import Derived.Test.YtfkaacfeikmabaaRvT
import Derived.Test.YtfkaacfeikmabaaExD
namespace Go.Proofs.Ytfkaacfeikmabaa
open Go.RowKit

theorem Try.infoSpot : (Try.prog.info? 105).map (fun i => (i.zero, i.size, i.bytes)) = some (some (.agg #[.int .i64 0, .int .i64 0]), 2, 16) := by kernel_rfl

set_option maxHeartbeats 800000 in
theorem eqSpot_any (x v : Int) (w : World) :
    Calls Try.prog 71 #[.agg #[.int .i64 x, .int .i64 v], .agg #[.int .i64 x, .int .i64 v]] w fun e w' => e = .returned (.bool true) ∧ Below w.heap.size w w' := by
  go_enter Try.func71, Try.ntmps71
  go_wp2
  go_ret
  exact ⟨rfl, below2 _ _ _⟩

set_option maxRecDepth 100000 in
set_option maxHeartbeats 800000 in
theorem eqSpotS_any (A A' : Option Addr) (zs : List Int) (n c c' : Nat) (S : Nat → Prop) (w : World) (hz : zs.length = n * 2) (hS : ∀ b, S b → b < w.heap.size) (ha : IntsAt w S A zs) (ha' : IntsAt w S A' zs) :
    Calls Try.prog 20 #[.slice A n c, .slice A' n c'] w fun e w' => e = .returned (.bool true) ∧ Below w.heap.size w w' := by
  have hn := ha.1
  go_enter Try.func20, Try.ntmps20
  go_wp2
  go_loopw [5] (fun i wr => ∃ (k : Nat), k ≤ n ∧ i = .int .i64 k ∧ Below w.heap.size w wr) (fun i _ => n - (intOf i).toNat)
  case atStart => exact ⟨0, Nat.zero_le _, rfl, Below.refl _ _⟩
  case round =>
    obtain ⟨k, hk, rfl, hb⟩ := hrel
    by_cases hlt : k < n
    · obtain ⟨b, off, rfl, hbB, c0, c1⟩ := (ha.below hb hS).two hz hlt
      obtain ⟨b', off', rfl, hbB', g0, g1⟩ := (ha'.below hb hS).two hz hlt
      have hx : ((k : Int) < (n : Int)) := by omega
      go_wp2_with fail
      go_still_tail 8, (by kernel_rfl)
      have hbd := hb.drew
      change wpList _ _ _ _ _ wr.drew
      generalize wr.drew = w2 at *
      go_wp2_with (go_at_call 71; refine (eqSpot_any (geti zs (k * 2)) (geti zs (k * 2 + 1)) _).mono ?_; rintro e w3 ⟨rfl, hb3⟩)
      go_roundw
      case rel => exact ⟨k + 1, by omega, by go_num, below_then hbd hb3⟩
      case measure => simp [intOf]; omega
    · obtain rfl : k = n := by omega
      go_wp2
      go_ret
      exact ⟨rfl, hb⟩

set_option maxHeartbeats 1600000 in
theorem markSpotS_any (q : Nat) (zs : List Int) (n c k : Nat) (w : World) (hz : zs.length = n * 2) (hn : n ≤ 1048576) (hk : k ≤ 4194304) (h : RowT 105 w q zs) :
    Calls Try.prog 22 #[.slice (some ⟨q, 0, none⟩) n c, .int .i64 k] w fun e w' => e = .returned (.int .i64 ((k + n * 2 : Nat) : Int)) ∧ RowT 105 w' q (marks k (n * 2)) ∧ Only q w w' := by
  go_enter Try.func22, Try.ntmps22
  go_wp2_with fail
  go_loopw [1, 5] (fun l i wr => ∃ (j : Nat) (cs : Array Value), j ≤ n ∧ i = .int .i64 j ∧ l = .int .i64 ((k + j * 2 : Nat) : Int) ∧ Blk wr q 105 cs ∧ Hid (n * 2 ≤ cs.size) ∧ Hid (∀ m, m < j * 2 → cs[m]? = some (.int .i64 ((k + m : Nat) : Int))) ∧ Only q w wr) (fun _ i _ => n - (intOf i).toNat)
  case atStart =>
    obtain ⟨cs, h1, h2, _⟩ := h
    exact ⟨0, cs, Nat.zero_le _, rfl, rfl, h1, hide (by omega), hide (fun m hm => by omega), Only.refl _ _⟩
  case round =>
    obtain ⟨j, cs, hj, rfl, rfl, hblk, hsz, hcs, ho⟩ := hrel
    by_cases hlt : j < n
    · have hsz' := hsz.out
      obtain ⟨v0, hv0⟩ : ∃ v, cs[j * 2]? = some v := ⟨_, Array.getElem?_eq_getElem (by omega)⟩
      obtain ⟨v1, hv1⟩ : ∃ v, cs[j * 2 + 1]? = some v := ⟨_, Array.getElem?_eq_getElem (by omega)⟩
      have d0 := (hblk.cell _).trans hv0
      have d1 := (hblk.cell _).trans hv1
      have z0 := hblk.frozen (j * 2)
      have z1 := hblk.frozen (j * 2 + 1)
      have HB := hide hblk
      have hlt' : (j : Int) < (n : Int) := by omega
      obtain ⟨K, hK⟩ : ∃ K : Int, K = ((k + j * 2 : Nat) : Int) := ⟨_, rfl⟩
      have hw1 : wrap64 (K + 1) = K + 1 := by unfold wrap64; omega
      have hw2 : wrap64 (K + 1 + 1) = K + 1 + 1 := by unfold wrap64; omega
      rw [← hK]
      replace hK := hide hK
      clear hv0 hv1 hblk hsz'
      go_wp2_with fail
      go_roundw
      case rel =>
        refine ⟨j + 1, (cs.setIfInBounds (j * 2) (.int .i64 K)).setIfInBounds (j * 2 + 1) (.int .i64 (K + 1)), by omega, by go_num, by rw [hK.out]; congr 1; unfold wrap64; omega, (HB.out.set_ _ _).set_ _ _, hide (by have := hsz.out; simpa using this), hide (fun m hm => ?_), (ho.setCell (.inl rfl) _).setCell (.inl rfl) _⟩
        rw [Array.getElem?_setIfInBounds]
        by_cases e : j * 2 + 1 = m
        · subst e; rw [if_pos rfl, if_pos (by have := hsz.out; simp; omega), hK.out]; congr 2
        · rw [if_neg e, Array.getElem?_setIfInBounds]
          by_cases e : j * 2 = m
          · subst e; rw [if_pos rfl, if_pos (by have := hsz.out; omega), hK.out]
          · rw [if_neg e]; exact hcs.out m (by omega)
      case measure => simp [intOf]; omega
    · obtain rfl : j = n := by omega
      go_wp2_with fail
      go_ret
      exact ⟨rfl, ⟨cs, hblk, by rw [marks_len]; exact hsz.out, fun m hm => by rw [marks_len] at hm; rw [marks_get _ _ _ hm]; exact hcs.out m hm⟩, ho⟩

set_option maxHeartbeats 1600000 in
theorem heldSpotS_any (A : Option Addr) (n c k : Nat) (S : Nat → Prop) (w : World) (hn : n ≤ 1048576) (hk : k ≤ 4194304) (h : IntsAt w S A (marks k (n * 2))) :
    Calls Try.prog 26 #[.slice A n c, .int .i64 k] w fun e w' => e = .returned (.int .i64 ((k + n * 2 : Nat) : Int)) ∧ w = w' := by
  go_enter Try.func26, Try.ntmps26
  go_wp2_with fail
  go_loop [1, 5] (fun l i => ∃ (j : Nat), j ≤ n ∧ i = .int .i64 j ∧ l = .int .i64 ((k + j * 2 : Nat) : Int)) (fun _ i => n - (intOf i).toNat)
  case atStart => exact ⟨0, Nat.zero_le _, rfl, rfl⟩
  case round =>
    obtain ⟨j, hj, rfl, rfl⟩ := hrel
    by_cases hlt : j < n
    · obtain ⟨b, off, rfl, _, c0, c1⟩ := h.two (marks_len _ _) hlt
      rw [marks_get _ _ _ (by omega)] at c0 c1
      have hlt' : (j : Int) < (n : Int) := by omega
      rw [show ((k + (j * 2 + 1) : Nat) : Int) = ((k + j * 2 : Nat) : Int) + 1 by omega] at c1
      obtain ⟨K, hK⟩ : ∃ K : Int, K = ((k + j * 2 : Nat) : Int) := ⟨_, rfl⟩
      have hw1 : wrap64 (K + 1) = K + 1 := by unfold wrap64; omega
      have hw2 : wrap64 (K + 1 + 1) = K + 1 + 1 := by unfold wrap64; omega
      rw [← hK] at c0 c1 ⊢
      replace hK := hide hK
      go_wp2_with fail
      go_round
      case rel => exact ⟨j + 1, by omega, by go_num, by rw [hK.out]; congr 1; unfold wrap64; omega⟩
      case measure => simp [intOf]; omega
    · obtain rfl : j = n := by omega
      go_wp2_with fail
      go_ret
      exact ⟨rfl, rfl⟩

set_option maxHeartbeats 800000 in
theorem markSpotS_none (c : Nat) (k : Int) (w : World) : Calls Try.prog 22 #[.slice none 0 c, .int .i64 k] w fun e w' => e = .returned (.int .i64 k) ∧ w = w' := by
  go_enter Try.func22, Try.ntmps22
  go_wp2_with fail
  go_loop [1, 5] (fun l i => i = .int .i64 0 ∧ l = .int .i64 k) (fun _ _ => 0)
  case atStart => exact ⟨rfl, rfl⟩
  case round =>
    obtain ⟨rfl, rfl⟩ := hrel
    go_wp2_with fail
    go_ret
    exact ⟨rfl, rfl⟩

theorem eqSpotI {w : World} {lo hi lo' hi' n c c' : Nat} {A A' : Option Addr} {zs : List Int} (hz : zs.length = n * 2) (hn : n ≤ 1048577) (h : RvI 105 w lo hi (.slice A n c) n zs) (k : RvI 105 w lo' hi' (.slice A' n c') n zs) :
    Calls Try.prog 20 #[.slice A n c, .slice A' n c'] w fun e w' => e = .returned (.bool true) ∧ Below w.heap.size w w' :=
  eqSpotS_any A A' zs n c c' _ w hz (fun _ h => h) (h.src (by omega) rfl) (k.src (by omega) rfl)
theorem markSpotI {w : World} {lo hi n c : Nat} {A : Option Addr} {zs : List Int} {k : Int} (hz : zs.length = n * 2) (hn : n ≤ 1048576) (h0 : 0 ≤ k) (h1 : k ≤ 4194304) (h : RvI 105 w lo hi (.slice A n c) n zs) :
    Calls Try.prog 22 #[.slice A n c, .int .i64 k] w fun e w' => e = .returned (.int .i64 (markZ k (n * 2))) ∧ RvI 105 w' lo hi (.slice A n c) n (marks k.toNat (n * 2)) ∧ w.grownBy w' (Value.slice A n c).ownBlock := by
  obtain ⟨j, rfl⟩ : ∃ j : Nat, k = (j : Int) := ⟨k.toNat, by omega⟩
  rcases h with ⟨hr, hh⟩
  rcases hr with ⟨e, rfl, rfl⟩ | ⟨q, c', e, hr, hq⟩
  · cases e
    refine (markSpotS_none 0 j w).mono ?_
    rintro e w1 ⟨rfl, rfl⟩
    exact ⟨by simp [markZ], ⟨.inl ⟨rfl, rfl, by simp [marks]⟩, hh⟩, grown_below (Below.refl _ _)⟩
  · cases e
    refine (markSpotS_any q zs n c j _ hz hn (by omega) hr).mono ?_
    rintro e w1 ⟨rfl, hr', ho⟩
    exact ⟨by simp [markZ], ⟨.inr ⟨q, c, rfl, hr', hq⟩, hh⟩, grown_only ho⟩
theorem heldSpotI {w : World} {lo hi n c : Nat} {A : Option Addr} {k : Int} (hn : n ≤ 1048576) (h0 : 0 ≤ k) (h1 : k ≤ 4194304) (h : RvI 105 w lo hi (.slice A n c) n (marks k.toNat (n * 2))) :
    Calls Try.prog 26 #[.slice A n c, .int .i64 k] w fun e w' => e = .returned (.int .i64 (markZ k (n * 2))) ∧ w = w' := by
  obtain ⟨j, rfl⟩ : ∃ j : Nat, k = (j : Int) := ⟨k.toNat, by omega⟩
  refine (heldSpotS_any A n c j _ w hn (by omega) (h.src (by rw [marks_len]; omega) rfl)).mono ?_
  rintro e w1 ⟨rfl, rfl⟩
  exact ⟨by simp [markZ], rfl⟩
end Go.Proofs.Ytfkaacfeikmabaa
