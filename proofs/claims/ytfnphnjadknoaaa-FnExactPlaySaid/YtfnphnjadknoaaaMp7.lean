/- laws' helpers on rows of flags; marks in labelled rows. -/
import Derived.Test.YtfnphnjadknoaaaMp0
import Derived.Test.YtfnphnjadknoaaaMp1
import Derived.Test.YtfnphnjadknoaaaMp2
import Derived.Test.YtfnphnjadknoaaaMp4
import Derived.Test.YtfnphnjadknoaaaMp5
namespace Go.Proofs.Ytfnphnjadknoaaa
open Go.RowKit

set_option maxHeartbeats 1600000 in
theorem markIntS_any (q : Nat) (zs : List Int) (c k : Nat) (w : World) (hn : zs.length ≤ 1048576) (hk : k ≤ 4194304) (h : RowB w q zs) :
    Calls Try.prog 83 #[.slice (some ⟨q, 0, none⟩) zs.length c, .int .i64 k] w fun e w' => e = .returned (.int .i64 ((k + zs.length : Nat) : Int)) ∧ RowB w' q (marks k zs.length) ∧ Only q w w' := by
  go_enter Try.func83, Try.ntmps83
  go_wp2_with fail
  go_loopw [1, 5] (fun l i wr => ∃ (j : Nat) (cs : Array Value), j ≤ zs.length ∧ i = .int .i64 j ∧ l = .int .i64 ((k + j : Nat) : Int) ∧ Blk wr q 3 cs ∧ Hid (zs.length ≤ cs.size) ∧ Hid (∀ m, m < j → cs[m]? = some (.int .i64 ((k + m : Nat) : Int))) ∧ Only q w wr) (fun _ i _ => zs.length - (intOf i).toNat)
  case atStart =>
    obtain ⟨cs, h1, h2, _⟩ := h
    exact ⟨0, cs, Nat.zero_le _, rfl, rfl, h1, hide h2, hide (fun m hm => by omega), Only.refl _ _⟩
  case round =>
    obtain ⟨j, cs, hj, rfl, rfl, hblk, hsz, hcs, ho⟩ := hrel
    by_cases hlt : j < zs.length
    · obtain ⟨v0, hv0⟩ : ∃ v0, cs[j]? = some v0 := ⟨cs[j]'(by have := hsz.out; omega), Array.getElem?_eq_getElem _⟩
      have hdst := (hblk.cell j).trans hv0
      have hfz := hblk.frozen j
      have HB := hide hblk
      have hlt' : (j : Int) < (zs.length : Int) := by omega
      clear hv0 hblk
      go_wp2_with fail
      go_roundw
      case rel =>
        refine ⟨j + 1, cs.setIfInBounds j (.int .i64 ((k + j : Nat) : Int)), by omega, by go_num, by go_num, HB.out.set_ j _, hide (by rw [Array.size_setIfInBounds]; exact hsz.out), hide (fun m hm => ?_), ho.setCell (.inl rfl) _⟩
        rw [Array.getElem?_setIfInBounds]
        by_cases e : j = m
        · subst e; rw [if_pos rfl, if_pos (by have := hsz.out; omega)]
        · rw [if_neg e]; exact hcs.out m (by omega)
      case measure => simp [intOf]; omega
    · obtain rfl : j = zs.length := by omega
      go_wp2_with fail
      go_ret
      exact ⟨rfl, ⟨cs, hblk, by rw [marks_len]; exact hsz.out, fun m hm => by rw [marks_len] at hm; rw [marks_get _ _ _ hm]; exact hcs.out m hm⟩, ho⟩

set_option maxHeartbeats 1600000 in
theorem heldIntS_any (A : Option Addr) (n c k : Nat) (S : Nat → Prop) (w : World) (hn : n ≤ 1048576) (hk : k ≤ 4194304) (_hS : ∀ b, S b → b < w.heap.size) (h : IntsAt w S A (marks k n)) :
    Calls Try.prog 89 #[.slice A n c, .int .i64 k] w fun e w' => e = .returned (.int .i64 ((k + n : Nat) : Int)) ∧ w = w' := by
  go_enter Try.func89, Try.ntmps89
  go_wp2_with fail
  go_loop [1, 5] (fun l i => ∃ (j : Nat), j ≤ n ∧ i = .int .i64 j ∧ l = .int .i64 ((k + j : Nat) : Int)) (fun _ i => n - (intOf i).toNat)
  case atStart => exact ⟨0, Nat.zero_le _, rfl, rfl⟩
  case round =>
    obtain ⟨j, hj, rfl, rfl⟩ := hrel
    by_cases hlt : j < n
    · obtain ⟨b, off, rfl, _, hc⟩ := h.2 (by rw [marks_len]; omega)
      have hcell := hc j (by rw [marks_len]; exact hlt)
      rw [marks_get _ _ _ hlt] at hcell
      have hlt' : (j : Int) < (n : Int) := by omega
      clear hc
      go_wp2_with fail
      go_round
      case rel => exact ⟨j + 1, by omega, by go_num, by go_num⟩
      case measure => simp [intOf]; omega
    · obtain rfl : j = n := by omega
      go_wp2_with fail
      go_ret
      exact ⟨rfl, rfl⟩

set_option maxHeartbeats 800000 in
theorem markIntS_none (c : Nat) (k : Int) (w : World) : Calls Try.prog 83 #[.slice none 0 c, .int .i64 k] w fun e w' => e = .returned (.int .i64 k) ∧ w = w' := by
  go_enter Try.func83, Try.ntmps83
  go_wp2_with fail
  go_loop [1, 5] (fun l i => i = .int .i64 0 ∧ l = .int .i64 k) (fun _ _ => 0)
  case atStart => exact ⟨rfl, rfl⟩
  case round =>
    obtain ⟨rfl, rfl⟩ := hrel
    go_wp2_with fail
    go_ret
    exact ⟨rfl, rfl⟩
theorem markIntSI {w : World} {lo hi n c : Nat} {A : Option Addr} {zs : List Int} {k : Int} (hz : zs.length = n) (hn : n ≤ 1048576) (h0 : 0 ≤ k) (h1 : k ≤ 4194304) (h : RvI 3 w lo hi (.slice A n c) n zs) :
    Calls Try.prog 83 #[.slice A n c, .int .i64 k] w fun e w' => e = .returned (.int .i64 (markZ k n)) ∧ RvI 3 w' lo hi (.slice A n c) n (marks k.toNat n) ∧ w.grownBy w' (Value.slice A n c).ownBlock := by
  obtain ⟨j, rfl⟩ : ∃ j : Nat, k = (j : Int) := ⟨k.toNat, by omega⟩
  rcases h with ⟨hr, hh⟩
  rcases hr with ⟨e, rfl, rfl⟩ | ⟨q, c', e, hr, hq⟩
  · cases e
    refine (markIntS_none 0 j w).mono ?_
    rintro e w' ⟨rfl, rfl⟩
    exact ⟨by simp [markZ], ⟨.inl ⟨rfl, rfl, by simp [marks]⟩, hh⟩, World.grownBy.refl w _⟩
  · cases e
    subst hz
    refine (markIntS_any q zs c j w hn (by omega) hr).mono ?_
    rintro e w' ⟨rfl, hr', ho⟩
    exact ⟨by simp [markZ], ⟨.inr ⟨q, c, rfl, hr', hq⟩, hh⟩, grown_only ho⟩

theorem heldIntSI {w : World} {lo hi n c : Nat} {A : Option Addr} {k : Int} (hn : n ≤ 1048576) (h0 : 0 ≤ k) (h1 : k ≤ 4194304) (h : RvI 3 w lo hi (.slice A n c) n (marks k.toNat n)) :
    Calls Try.prog 89 #[.slice A n c, .int .i64 k] w fun e w' => e = .returned (.int .i64 (markZ k n)) ∧ Below w.heap.size w w' := by
  obtain ⟨j, rfl⟩ : ∃ j : Nat, k = (j : Int) := ⟨k.toNat, by omega⟩
  refine (heldIntS_any A n c j _ w hn (by omega) (fun _ h => h) (h.src (by rw [marks_len]; omega) rfl)).mono ?_
  rintro e w' ⟨rfl, rfl⟩
  exact ⟨by simp [markZ], Below.refl _ _⟩
end Go.Proofs.Ytfnphnjadknoaaa

namespace Go.Proofs.Ytfnphnjadknoaaa
open Go.RowKit

def BlsAt (w : World) (S : Nat → Prop) (A : Option Addr) (bs : List Bool) : Prop :=
  bs.length ≤ 9223372036854775807 ∧ (0 < bs.length → ∃ b off, A = some ⟨b, off, none⟩ ∧ S b ∧ ∀ k, k < bs.length → w.cell? ⟨b, off + k, none⟩ = some (.bool (getb bs k)))
section
variable {w w' : World} {S S' : Nat → Prop} {B : Nat} {A : Option Addr} {bs : List Bool}
theorem BlsAt.keep (h : BlsAt w S A bs) (hk : ∀ b o, S b → w'.cell? ⟨b, o, none⟩ = w.cell? ⟨b, o, none⟩) (hS : ∀ b, S b → S' b) : BlsAt w' S' A bs :=
  ⟨h.1, fun hn => by
    obtain ⟨b, off, e, hb, hc⟩ := h.2 hn
    exact ⟨b, off, e, hS b hb, fun k hk' => (hk b _ hb).trans (hc k hk')⟩⟩
theorem BlsAt.below (h : BlsAt w S A bs) (hb : Below B w w') (hS : ∀ b, S b → b < B) : BlsAt w' S A bs := h.keep (below_keep hb hS) (fun _ h => h)
theorem BlsAt.more (h : BlsAt w S A bs) (hS : ∀ b, S b → S' b) : BlsAt w S' A bs := h.keep (fun _ _ _ => rfl) hS
theorem BlsAt.at_ (h : BlsAt w S A bs) {k : Nat} (hk : k < bs.length) : ∃ b off, A = some ⟨b, off, none⟩ ∧ S b ∧ w.cell? ⟨b, off + k, none⟩ = some (.bool (getb bs k)) := by
  obtain ⟨b, off, e, hb, hc⟩ := h.2 (by omega)
  exact ⟨b, off, e, hb, hc k hk⟩
end
def gB (bs : List Bool) : Nat → Value := fun k => .bool (getb bs k)
theorem Sl.blsO {t : TypeId} {w : World} {f : Nat → Nat} {l B : Nat} {v : Value} {bs : List Bool} (h : Sl t 1 w f l B v bs.length (gB bs)) {A : Option Addr} {m c : Nat} (hv : v = .slice A m c) : BlsAt w (fun b => B ≤ b ∧ b < w.heap.size) A bs := by
  refine ⟨h.le, fun hp => ?_⟩
  obtain ⟨q, off, c', e, h3, h4, h5, h6⟩ := h.at_ (k := 0) (by omega)
  rw [hv] at e
  cases e
  exact ⟨q, off, rfl, ⟨h4, h5⟩, fun k hk => (h6 k (by omega)).1⟩

theorem Try.infoBoolB : (Try.prog.info? 4).map (fun i => (i.zero, i.size, i.bytes)) = some (some (.bool false), 1, 1) := by kernel_rfl
theorem make_flags (n : Nat) (hn : n ≤ 1048576) (W : World) : (Instr.makeSlice 25 (.int .i64 (n : Int)) (.int .i64 (n : Int))).run Try.prog W = .ok (.slice (some ⟨W.heap.size, 0, none⟩) n n) (W.alloc (.cells (zrow #[.bool false] n) 4)) :=
  run_make_row' (P := Try.prog) 25 4 (.bool false) 1 Try.underlying25 Try.infoBoolB rfl .i64 .i64 n (by omega) (by omega) W
theorem zrow_getB (z : Value) (n m : Nat) (h : m < n) : (zrow #[z] n)[m]? = some z := by
  simp [zrow, madeCells, h, Nat.mod_one]

set_option maxHeartbeats 400000 in
theorem szBoolS_any (A : Option Addr) (n c : Nat) (left : Int) (w : World) (h0 : 0 ≤ left) (h1 : left ≤ 1048576) (hn : n ≤ 9223372036854775807) :
    Calls Try.prog 91 #[.slice A n c, .int .i64 left] w fun e w' => e = .returned (.int .i64 (szR left n)) ∧ w = w' := by
  by_cases h : left < n
  · have HF := hide (show szR left n = -1 by unfold szR; rw [if_pos h])
    go_enter Try.func91, Try.ntmps91
    go_wp2
    go_ret
    exact ⟨ret_int HF.out.symm, rfl⟩
  · have HF := hide (show szR left n = left - n by unfold szR; rw [if_neg h])
    go_enter Try.func91, Try.ntmps91
    go_wp2
    go_ret
    exact ⟨ret_int HF.out.symm, rfl⟩

set_option maxHeartbeats 800000 in
theorem eqBoolS_any (A A' : Option Addr) (zs : List Bool) (c c' : Nat) (S : Nat → Prop) (w : World) (hS : ∀ b, S b → b < w.heap.size) (ha : BlsAt w S A zs) (ha' : BlsAt w S A' zs) :
    Calls Try.prog 81 #[.slice A zs.length c, .slice A' zs.length c'] w fun e w' => e = .returned (.bool true) ∧ Below w.heap.size w w' := by
  have hn := ha.1
  go_enter Try.func81, Try.ntmps81
  go_wp2
  go_loopw [5] (fun i wr => ∃ (k : Nat), k ≤ zs.length ∧ i = .int .i64 k ∧ Below w.heap.size w wr) (fun i _ => zs.length - (intOf i).toNat)
  case atStart => exact ⟨0, Nat.zero_le _, rfl, Below.refl _ _⟩
  case round =>
    obtain ⟨k, hk, rfl, hb⟩ := hrel
    by_cases hlt : k < zs.length
    · obtain ⟨b, off, rfl, hbB, hc⟩ := (ha.below hb hS).2 (by omega)
      obtain ⟨b', off', rfl, hbB', hc'⟩ := (ha'.below hb hS).2 (by omega)
      have hcell := hc k hlt
      have hcell' := hc' k hlt
      have hx : ((k : Int) < (zs.length : Int)) := by omega
      clear hc hc'
      go_wp2
      go_quiet (fail)
      go_wp2
      go_roundw
      case rel => exact ⟨k + 1, by omega, by go_num, below_drewN hb _⟩
      case measure => simp [intOf]; omega
    · obtain rfl : k = zs.length := by omega
      go_wp2
      go_ret
      exact ⟨rfl, hb⟩

set_option maxRecDepth 100000 in
set_option maxHeartbeats 800000 in
theorem toBoolS_row (A : Option Addr) (zs : List Bool) (c : Nat) (S : Nat → Prop) (w : World) (hn : zs.length ≤ 1048576) (hS : ∀ b, S b → b < w.heap.size) (ha : BlsAt w S A zs) :
    Calls Try.prog 94 #[.slice A zs.length c] w fun e w' => e = .returned (.slice (some ⟨w.heap.size, 0, none⟩) zs.length zs.length) ∧ (∃ cs, Blk w' w.heap.size 4 cs ∧ cs.size = zs.length ∧ ∀ j, j < zs.length → cs[j]? = some (gB zs j)) ∧ Below w.heap.size w w' := by
  have hmk := make_flags zs.length hn
  go_enter Try.func94, Try.ntmps94
  go_wp2
  clear hmk
  go_loopw [4] (fun i wr => ∃ (k : Nat) (cs : Array Value), k ≤ zs.length ∧ i = .int .i64 k ∧ Blk wr w.heap.size 4 cs ∧ Hid (cs.size = zs.length) ∧ Hid (∀ j, j < k → cs[j]? = some (gB zs j)) ∧ Below w.heap.size w wr) (fun i _ => zs.length - (intOf i).toNat)
  case atStart => exact ⟨0, _, Nat.zero_le _, rfl, Blk.new _ _ _, hide (zrow_size1 _ _), hide (fun j hj => by omega), below1 _ _⟩
  case round =>
    obtain ⟨k, cs, hk, rfl, hblk, hsz, hcs, hb⟩ := hrel
    by_cases hlt : k < zs.length
    · obtain ⟨b, off, rfl, hbB, hc⟩ := (ha.below hb hS).2 (by omega)
      have hcell := hc k hlt
      obtain ⟨v0, hv0⟩ : ∃ v0, cs[k]? = some v0 := ⟨cs[k]'(by have := hsz.out; omega), Array.getElem?_eq_getElem _⟩
      have hdst := (hblk.cell k).trans hv0
      have hfz := hblk.frozen k
      have HB := hide hblk
      clear hv0 hblk hc
      go_wp2
      go_roundw
      case rel =>
        refine ⟨k + 1, cs.setIfInBounds k (.bool (getb zs k)), by omega, by go_num, HB.out.set_ k _, hide (by rw [Array.size_setIfInBounds]; exact hsz.out), hide (fun j hj => ?_), hb.setCell (Nat.le_refl _) _⟩
        rw [Array.getElem?_setIfInBounds]
        by_cases e : k = j
        · subst e; rw [if_pos rfl, if_pos (by have := hsz.out; omega)]; rfl
        · rw [if_neg e]; exact hcs.out j (by omega)
      case measure => simp [intOf]; omega
    · obtain rfl : k = zs.length := by omega
      go_wp2
      go_ret
      exact ⟨rfl, ⟨cs, hblk, hsz.out, hcs.out⟩, hb⟩

set_option maxHeartbeats 1600000 in
theorem markIntS_sl {f : Nat → Nat} {l B n : Nat} {v : Value} {g : Nat → Value} (k : Nat) (w : World) (hn : n ≤ 1048576) (hk : k ≤ 4194304) (h : Sl 3 1 w f l B v n g) :
    Calls Try.prog 83 #[v, .int .i64 k] w fun e w' => e = .returned (.int .i64 ((k + n : Nat) : Int)) ∧ Sl 3 1 w' f l B v n (fun j => .int .i64 ((k + j : Nat) : Int)) ∧ Lab f l B w w' := by
  obtain ⟨A, c, hv⟩ := h.form
  rw [hv] at h ⊢
  go_enter Try.func83, Try.ntmps83
  go_wp2_with fail
  go_loopw [1, 5] (fun q i wr => ∃ (j : Nat), j ≤ n ∧ i = .int .i64 j ∧ q = .int .i64 ((k + j : Nat) : Int) ∧ Hid (Sl 3 1 wr f l B (.slice A n c) n (fun m => if m < j then .int .i64 ((k + m : Nat) : Int) else g m)) ∧ Hid (Lab f l B w wr)) (fun _ i _ => n - (intOf i).toNat)
  case atStart => exact ⟨0, Nat.zero_le _, rfl, rfl, hide (h.congr (fun m _ => by simp)), hide (Lab.refl _ _ _ _)⟩
  case round =>
    obtain ⟨j, hj, rfl, rfl, hS, hL⟩ := hrel
    by_cases hlt : j < n
    · obtain ⟨q, off, c', e, h3, h4, h5, h6⟩ := hS.out.at_ (k := j) (by omega)
      cases e
      obtain ⟨g0, z0⟩ := h6 j (by omega)
      have hN := hide (show Sl 3 1 (wr.setCell ⟨q, off + j, none⟩ (.int .i64 ((k + j : Nat) : Int))) f l B (.slice (some ⟨q, off, none⟩) n c) n (fun m => if m < j + 1 then .int .i64 ((k + m : Nat) : Int) else g m) from
        (hS.out.set_ rfl (by omega) _).congr (fun m _ => by
          show (if m < j + 1 then Value.int .i64 ((k + m : Nat) : Int) else g m) = if m = j then .int .i64 ((k + j : Nat) : Int) else if m < j then .int .i64 ((k + m : Nat) : Int) else g m
          by_cases e : m = j
          · rw [if_pos e, if_pos (by omega), e]
          · by_cases e2 : m < j
            · rw [if_neg e, if_pos e2, if_pos (by omega)]
            · rw [if_neg e, if_neg e2, if_neg (by omega)]))
      have hNL := hide (hL.out.trans (Lab.set_ (p := ⟨q, off + j, none⟩) ⟨h3, h4⟩ (.int .i64 ((k + j : Nat) : Int))))
      have hlt' : (j : Int) < (n : Int) := by omega
      clear hS hL h6
      go_wp2_with fail
      go_roundw
      case rel => exact ⟨j + 1, by omega, by go_num, by go_num, hN, hNL⟩
      case measure => simp [intOf]; omega
    · obtain rfl : j = n := by omega
      have hR := hide (hS.out.congr (g' := fun m => .int .i64 ((k + m : Nat) : Int)) (fun m hm => by rw [if_pos (by omega)]))
      go_wp2_with fail
      go_ret
      exact ⟨rfl, hR.out, hL.out⟩
def mkB (m : Nat) : Bool := decide (m % 3 = 0)
theorem mkB_eq (m : Nat) : (decide ((m : Int) % 3 = 0)) = mkB m := by
  unfold mkB
  by_cases h : m % 3 = 0
  · rw [decide_eq_true h, decide_eq_true (by omega)]
  · rw [decide_eq_false h, decide_eq_false (by omega)]
set_option maxHeartbeats 1600000 in
theorem markBoolS_sl {f : Nat → Nat} {l B n : Nat} {v : Value} {g : Nat → Value} (k : Nat) (w : World) (hn : n ≤ 1048576) (hk : k ≤ 4194304) (h : Sl 4 1 w f l B v n g) :
    Calls Try.prog 85 #[v, .int .i64 k] w fun e w' => e = .returned (.int .i64 ((k + n : Nat) : Int)) ∧ Sl 4 1 w' f l B v n (fun j => .bool (mkB (k + j))) ∧ Lab f l B w w' := by
  obtain ⟨A, c, hv⟩ := h.form
  rw [hv] at h ⊢
  go_enter Try.func85, Try.ntmps85
  go_wp2_with fail
  go_loopw [1, 5] (fun q i wr => ∃ (j : Nat), j ≤ n ∧ i = .int .i64 j ∧ q = .int .i64 ((k + j : Nat) : Int) ∧ Hid (Sl 4 1 wr f l B (.slice A n c) n (fun m => if m < j then .bool (mkB (k + m)) else g m)) ∧ Hid (Lab f l B w wr)) (fun _ i _ => n - (intOf i).toNat)
  case atStart => exact ⟨0, Nat.zero_le _, rfl, rfl, hide (h.congr (fun m _ => by simp)), hide (Lab.refl _ _ _ _)⟩
  case round =>
    obtain ⟨j, hj, rfl, rfl, hS, hL⟩ := hrel
    by_cases hlt : j < n
    · obtain ⟨q, off, c', e, h3, h4, h5, h6⟩ := hS.out.at_ (k := j) (by omega)
      cases e
      obtain ⟨g0, z0⟩ := h6 j (by omega)
      have hlt' : (j : Int) < (n : Int) := by omega
      have hfl : (((k : Int) + (j : Int)) % 3 == 0) = mkB (k + j) := by
        rw [← mkB_eq]
        exact (Bool.beq_eq_decide_eq _ _).trans (by rw [Int.natCast_add])
      have hN := hide (show Sl 4 1 (wr.setCell ⟨q, off + j, none⟩ (.bool (mkB (k + j)))) f l B (.slice (some ⟨q, off, none⟩) n c) n (fun m => if m < j + 1 then .bool (mkB (k + m)) else g m) from
        (hS.out.set_ rfl (by omega) _).congr (fun m _ => by
          show (if m < j + 1 then Value.bool (mkB (k + m)) else g m) = if m = j then .bool (mkB (k + j)) else if m < j then .bool (mkB (k + m)) else g m
          by_cases e : m = j
          · rw [if_pos e, if_pos (by omega), e]
          · by_cases e2 : m < j
            · rw [if_neg e, if_pos e2, if_pos (by omega)]
            · rw [if_neg e, if_neg e2, if_neg (by omega)]))
      have hNL := hide (hL.out.trans (Lab.set_ (p := ⟨q, off + j, none⟩) ⟨h3, h4⟩ (.bool (mkB (k + j)))))
      clear hS hL h6
      go_wp2_with fail
      go_roundw
      case rel => exact ⟨j + 1, by omega, by go_num, by go_num, hN, hNL⟩
      case measure => simp [intOf]; omega
    · obtain rfl : j = n := by omega
      have hR := hide (hS.out.congr (g' := fun m => .bool (mkB (k + m))) (fun m hm => by rw [if_pos (by omega)]))
      go_wp2_with fail
      go_ret
      exact ⟨rfl, hR.out, hL.out⟩
set_option maxHeartbeats 1600000 in
theorem heldBoolS_any (A : Option Addr) (n c k : Nat) (S : Nat → Prop) (w : World) (hn : n ≤ 1048576) (hk : k ≤ 4194304) (h : 0 < n → ∃ b off, A = some ⟨b, off, none⟩ ∧ S b ∧ ∀ j, j < n → w.cell? ⟨b, off + j, none⟩ = some (.bool (mkB (k + j)))) :
    Calls Try.prog 88 #[.slice A n c, .int .i64 k] w fun e w' => e = .returned (.int .i64 ((k + n : Nat) : Int)) ∧ w = w' := by
  go_enter Try.func88, Try.ntmps88
  go_wp2_with fail
  go_loop [1, 5] (fun l i => ∃ (j : Nat), j ≤ n ∧ i = .int .i64 j ∧ l = .int .i64 ((k + j : Nat) : Int)) (fun _ i => n - (intOf i).toNat)
  case atStart => exact ⟨0, Nat.zero_le _, rfl, rfl⟩
  case round =>
    obtain ⟨j, hj, rfl, rfl⟩ := hrel
    by_cases hlt : j < n
    · obtain ⟨b, off, rfl, _, hc⟩ := h (by omega)
      have hcell := hc j hlt
      have hfl : (((k : Int) + (j : Int)) % 3 == 0) = mkB (k + j) := by
        rw [← mkB_eq]
        exact (Bool.beq_eq_decide_eq _ _).trans (by rw [Int.natCast_add])
      have hne : (mkB (k + j) != mkB (k + j)) = false := by simp
      have hlt' : (j : Int) < (n : Int) := by omega
      clear hc
      go_wp2_with fail
      go_round
      case rel => exact ⟨j + 1, by omega, by go_num, by go_num⟩
      case measure => simp [intOf]; omega
    · obtain rfl : j = n := by omega
      go_wp2_with fail
      go_ret
      exact ⟨rfl, rfl⟩
end Go.Proofs.Ytfnphnjadknoaaa
