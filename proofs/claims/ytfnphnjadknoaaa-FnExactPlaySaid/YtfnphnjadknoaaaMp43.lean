/- What a change between two block numbers keeps: of no function of the program. -/
import Derived.Test.YtfnphnjadknoaaaMp0
import Derived.Test.YtfnphnjadknoaaaMp1
import Derived.Test.YtfnphnjadknoaaaMp4
import Derived.Test.YtfnphnjadknoaaaMp7
import Derived.StillTailTactics
namespace Go.Proofs.Ytfnphnjadknoaaa
open Go.RowKit

theorem Try.infoPick : (Try.prog.info? 48).map (fun i => (i.zero, i.size, i.bytes)) = some (some (.agg #[.int .i64 0, .int .i64 0]), 2, 16) := by kernel_rfl

set_option maxHeartbeats 800000 in
theorem eqPick_any (x v : Int) (w : World) :
    Calls Try.prog 97 #[.agg #[.int .i64 x, .int .i64 v], .agg #[.int .i64 x, .int .i64 v]] w fun e w' => e = .returned (.bool true) ∧ Below w.heap.size w w' := by
  go_enter Try.func97, Try.ntmps97
  go_wp2
  go_ret
  exact ⟨rfl, below2 _ _ _⟩

set_option maxRecDepth 100000 in
set_option maxHeartbeats 800000 in
theorem eqPickS_any (A A' : Option Addr) (zs : List Int) (n c c' : Nat) (S : Nat → Prop) (w : World) (hz : zs.length = n * 2) (hS : ∀ b, S b → b < w.heap.size) (ha : IntsAt w S A zs) (ha' : IntsAt w S A' zs) :
    Calls Try.prog 49 #[.slice A n c, .slice A' n c'] w fun e w' => e = .returned (.bool true) ∧ Below w.heap.size w w' := by
  have hn := ha.1
  go_enter Try.func49, Try.ntmps49
  go_wp2
  go_loopw [5] (fun i wr => ∃ (k : Nat), k ≤ n ∧ i = .int .i64 k ∧ Below w.heap.size w wr) (fun i _ => n - (intOf i).toNat)
  case atStart => exact ⟨0, Nat.zero_le _, rfl, Below.refl _ _⟩
  case round =>
    obtain ⟨k, hk, rfl, hb⟩ := hrel
    by_cases hlt : k < n
    · obtain ⟨b, off, rfl, hbB, c0, c1⟩ := (ha.below hb hS).two hz hlt
      obtain ⟨b', off', rfl, hbB', g0, g1⟩ := (ha'.below hb hS).two hz hlt
      have hx : ((k : Int) < (n : Int)) := by omega
      go_wp2_with fail
      go_still_tail 8, (by kernel_rfl)
      have hbd := hb.drew
      change wpList _ _ _ _ _ wr.drew
      generalize wr.drew = w2 at *
      go_wp2_with (go_at_call 97; refine (eqPick_any (geti zs (k * 2)) (geti zs (k * 2 + 1)) _).mono ?_; rintro e w3 ⟨rfl, hb3⟩)
      go_roundw
      case rel => exact ⟨k + 1, by omega, by go_num, below_then hbd hb3⟩
      case measure => simp [intOf]; omega
    · obtain rfl : k = n := by omega
      go_wp2
      go_ret
      exact ⟨rfl, hb⟩

set_option maxHeartbeats 1600000 in
theorem markPickS_any (q : Nat) (zs : List Int) (n c k : Nat) (w : World) (hz : zs.length = n * 2) (hn : n ≤ 1048576) (hk : k ≤ 16777216) (h : RowT 48 w q zs) :
    Calls Try.prog 50 #[.slice (some ⟨q, 0, none⟩) n c, .int .i64 k] w fun e w' => e = .returned (.int .i64 ((k + n * 2 : Nat) : Int)) ∧ RowT 48 w' q (marks k (n * 2)) ∧ Only q w w' := by
  go_enter Try.func50, Try.ntmps50
  go_wp2_with fail
  go_loopw [1, 5] (fun l i wr => ∃ (j : Nat) (cs : Array Value), j ≤ n ∧ i = .int .i64 j ∧ l = .int .i64 ((k + j * 2 : Nat) : Int) ∧ Blk wr q 48 cs ∧ Hid (n * 2 ≤ cs.size) ∧ Hid (∀ m, m < j * 2 → cs[m]? = some (.int .i64 ((k + m : Nat) : Int))) ∧ Only q w wr) (fun _ i _ => n - (intOf i).toNat)
  case atStart =>
    obtain ⟨cs, h1, h2, _⟩ := h
    exact ⟨0, cs, Nat.zero_le _, rfl, rfl, h1, hide (by omega), hide (fun m hm => by omega), Only.refl _ _⟩
  case round =>
    obtain ⟨j, cs, hj, rfl, rfl, hblk, hsz, hcs, ho⟩ := hrel
    by_cases hlt : j < n
    · have hsz' := hsz.out
      obtain ⟨v0, hv0⟩ : ∃ v, cs[j * 2]? = some v := ⟨_, Array.getElem?_eq_getElem (by omega)⟩
      obtain ⟨v1, hv1⟩ : ∃ v, cs[j * 2 + 1]? = some v := ⟨_, Array.getElem?_eq_getElem (by omega)⟩
      have d0 := (hblk.cell _).trans hv0
      have d1 := (hblk.cell _).trans hv1
      have z0 := hblk.frozen (j * 2)
      have z1 := hblk.frozen (j * 2 + 1)
      have HB := hide hblk
      have hlt' : (j : Int) < (n : Int) := by omega
      obtain ⟨K, hK⟩ : ∃ K : Int, K = ((k + j * 2 : Nat) : Int) := ⟨_, rfl⟩
      have hw1 : wrap64 (K + 1) = K + 1 := by unfold wrap64; omega
      have hw2 : wrap64 (K + 1 + 1) = K + 1 + 1 := by unfold wrap64; omega
      rw [← hK]
      replace hK := hide hK
      clear hv0 hv1 hblk hsz'
      go_wp2_with fail
      go_roundw
      case rel =>
        refine ⟨j + 1, (cs.setIfInBounds (j * 2) (.int .i64 K)).setIfInBounds (j * 2 + 1) (.int .i64 (K + 1)), by omega, by go_num, by rw [hK.out]; congr 1; unfold wrap64; omega, (HB.out.set_ _ _).set_ _ _, hide (by have := hsz.out; simpa using this), hide (fun m hm => ?_), (ho.setCell (.inl rfl) _).setCell (.inl rfl) _⟩
        rw [Array.getElem?_setIfInBounds]
        by_cases e : j * 2 + 1 = m
        · subst e; rw [if_pos rfl, if_pos (by have := hsz.out; simp; omega), hK.out]; congr 2
        · rw [if_neg e, Array.getElem?_setIfInBounds]
          by_cases e : j * 2 = m
          · subst e; rw [if_pos rfl, if_pos (by have := hsz.out; omega), hK.out]
          · rw [if_neg e]; exact hcs.out m (by omega)
      case measure => simp [intOf]; omega
    · obtain rfl : j = n := by omega
      go_wp2_with fail
      go_ret
      exact ⟨rfl, ⟨cs, hblk, by rw [marks_len]; exact hsz.out, fun m hm => by rw [marks_len] at hm; rw [marks_get _ _ _ hm]; exact hcs.out m hm⟩, ho⟩

set_option maxHeartbeats 800000 in
theorem markPickS_none (c : Nat) (k : Int) (w : World) : Calls Try.prog 50 #[.slice none 0 c, .int .i64 k] w fun e w' => e = .returned (.int .i64 k) ∧ w = w' := by
  go_enter Try.func50, Try.ntmps50
  go_wp2_with fail
  go_loop [1, 5] (fun l i => i = .int .i64 0 ∧ l = .int .i64 k) (fun _ _ => 0)
  case atStart => exact ⟨rfl, rfl⟩
  case round =>
    obtain ⟨rfl, rfl⟩ := hrel
    go_wp2_with fail
    go_ret
    exact ⟨rfl, rfl⟩

theorem eqPickI {w : World} {lo hi lo' hi' n c c' : Nat} {A A' : Option Addr} {zs : List Int} (hz : zs.length = n * 2) (hn : n ≤ 1048577) (h : RvI 48 w lo hi (.slice A n c) n zs) (k : RvI 48 w lo' hi' (.slice A' n c') n zs) :
    Calls Try.prog 49 #[.slice A n c, .slice A' n c'] w fun e w' => e = .returned (.bool true) ∧ Below w.heap.size w w' :=
  eqPickS_any A A' zs n c c' _ w hz (fun _ h => h) (h.src (by omega) rfl) (k.src (by omega) rfl)
theorem markPickI {w : World} {lo hi n c : Nat} {A : Option Addr} {zs : List Int} {k : Int} (hz : zs.length = n * 2) (hn : n ≤ 1048576) (h0 : 0 ≤ k) (h1 : k ≤ 16777216) (h : RvI 48 w lo hi (.slice A n c) n zs) :
    Calls Try.prog 50 #[.slice A n c, .int .i64 k] w fun e w' => e = .returned (.int .i64 (markZ k (n * 2))) ∧ RvI 48 w' lo hi (.slice A n c) n (marks k.toNat (n * 2)) ∧ w.grownBy w' (Value.slice A n c).ownBlock := by
  obtain ⟨j, rfl⟩ : ∃ j : Nat, k = (j : Int) := ⟨k.toNat, by omega⟩
  rcases h with ⟨hr, hh⟩
  rcases hr with ⟨e, rfl, rfl⟩ | ⟨q, c', e, hr, hq⟩
  · cases e
    refine (markPickS_none 0 j w).mono ?_
    rintro e w1 ⟨rfl, rfl⟩
    exact ⟨by simp [markZ], ⟨.inl ⟨rfl, rfl, by simp [marks]⟩, hh⟩, grown_below (Below.refl _ _)⟩
  · cases e
    refine (markPickS_any q zs n c j _ hz hn (by omega) hr).mono ?_
    rintro e w1 ⟨rfl, hr', ho⟩
    exact ⟨by simp [markZ], ⟨.inr ⟨q, c, rfl, hr', hq⟩, hh⟩, grown_only ho⟩
end Go.Proofs.Ytfnphnjadknoaaa

namespace Go.Proofs.Ytfnphnjadknoaaa
open Go.RowKit

theorem szPickS_any (A : Option Addr) (n c : Nat) (left : Int) (w : World) (hn : n ≤ 9223372036854775807) (hl : 0 ≤ left ∧ left ≤ 1048576) :
    Calls Try.prog 46 #[.slice A n c, .int .i64 left] w fun e w' => e = .returned (.int .i64 (szR left n)) ∧ w = w' := by
  have hw : wrap64 (left - n) = left - n := by unfold wrap64; omega
  by_cases hlt : left - n < 0
  · go_enter Try.func46, Try.ntmps46
    go_wp2_with fail
    go_ret
    exact ⟨by unfold szR; rw [if_pos (by omega)]; rfl, rfl⟩
  · go_enter Try.func46, Try.ntmps46
    go_wp2_with fail
    go_ret
    exact ⟨by unfold szR; rw [if_neg (by omega)]; rfl, rfl⟩

theorem make_picks (n : Nat) (hn : n ≤ 1048576) (W : World) : (Instr.makeSlice 43 (.int .i64 (n : Int)) (.int .i64 (n : Int))).run Try.prog W = .ok (.slice (some ⟨W.heap.size, 0, none⟩) n n) (W.alloc (.cells (zrow #[.int .i64 0, .int .i64 0] (n * 2)) 48)) := by
  obtain ⟨i0, hi, hz0, hz1, hz2⟩ := info_parts Try.infoPick
  have hr := run_make (P := Try.prog) W 43 48 i0 _ Try.underlying43 hi hz0 .i64 .i64 n n (by omega) (Int.le_refl _) (by rw [hz2]; omega) (by omega)
  simp only [Int.toNat_natCast, hz1] at hr
  exact hr

set_option maxHeartbeats 800000 in
theorem toPick_any (x v : Int) (w : World) :
    Calls Try.prog 96 #[.agg #[.int .i64 x, .int .i64 v]] w fun e w' => e = .returned (.agg #[.int .i64 x, .int .i64 v]) ∧ Below w.heap.size w w' := by
  go_enter Try.func96, Try.ntmps96
  go_wp2
  refine bodyPost_ret (v := .agg #[.int .i64 x, .int .i64 v]) (by simp [results, Try.results96, go_sem]) rfl ⟨rfl, ?_⟩
  exact ((below1 _ _).alloc (by simp) _).alloc (by simp; omega) _

set_option maxHeartbeats 800000 in
theorem toPickS_row (A : Option Addr) (zs : List Int) (n c : Nat) (S : Nat → Prop) (w : World) (hz : zs.length = n * 2) (hn : n ≤ 1048576) (hS : ∀ b, S b → b < w.heap.size) (ha : IntsAt w S A zs) :
    Calls Try.prog 48 #[.slice A n c] w fun e w' => e = .returned (.slice (some ⟨w.heap.size, 0, none⟩) n n) ∧ RowT 48 w' w.heap.size zs ∧ Below w.heap.size w w' := by
  have hmk := make_picks n hn
  go_enter Try.func48, Try.ntmps48
  go_wp2
  clear hmk
  go_loopw [4] (fun i wr => ∃ (k : Nat) (cs : Array Value), k ≤ n ∧ i = .int .i64 k ∧ Blk wr w.heap.size 48 cs ∧ Hid (cs.size = n * 2) ∧ Hid (∀ j, j < k * 2 → cs[j]? = some (.int .i64 (geti zs j))) ∧ Below w.heap.size w wr) (fun i _ => n - (intOf i).toNat)
  case atStart => exact ⟨0, _, Nat.zero_le _, rfl, Blk.new _ _ _, hide (zrow_size _ _), hide (fun j hj => by omega), below1 _ _⟩
  case round =>
    obtain ⟨k, cs, hk, rfl, hblk, hsz, hcs, hb⟩ := hrel
    by_cases hlt : k < n
    · obtain ⟨b, off, rfl, hbB, c0, c1⟩ := (ha.below hb hS).two hz hlt
      have hlt2 := hblk.lt
      have HB := hide hblk
      clear hblk
      go_wp2_with fail
      refine (toPick_any _ _ _).mono ?_; rintro e w1 ⟨rfl, hb1⟩
      have hblk1 := HB.out.below hb1 hlt2
      have hsz' := hsz.out
      obtain ⟨v0, hv0⟩ : ∃ v, cs[k * 2]? = some v := ⟨_, Array.getElem?_eq_getElem (by omega)⟩
      obtain ⟨v1, hv1⟩ : ∃ v, cs[k * 2 + 1]? = some v := ⟨_, Array.getElem?_eq_getElem (by omega)⟩
      have g0 := (hblk1.cell _).trans hv0
      have g1 := (hblk1.cell _).trans hv1
      have z0 := hblk1.frozen (k * 2)
      have z1 := hblk1.frozen (k * 2 + 1)
      have HB1 := hide hblk1
      clear hv0 hv1 hblk1 hsz'
      go_wp2_with fail
      go_roundw
      case rel =>
        have hs := hsz.out
        refine ⟨k + 1, (cs.setIfInBounds (k * 2) (.int .i64 (geti zs (k * 2)))).setIfInBounds (k * 2 + 1) (.int .i64 (geti zs (k * 2 + 1))), by omega, by go_num, (HB1.out.set_ _ _).set_ _ _, hide (by simpa using hs), hide (fun j hj => ?_), ((below_then hb hb1).setCell (Nat.le_refl _) _).setCell (Nat.le_refl _) _⟩
        rw [Array.getElem?_setIfInBounds]
        by_cases e : k * 2 + 1 = j
        · subst e; rw [if_pos rfl, if_pos (by simp; omega)]
        · rw [if_neg e, Array.getElem?_setIfInBounds]
          by_cases e : k * 2 = j
          · subst e; rw [if_pos rfl, if_pos (by omega)]
          · rw [if_neg e]; exact hcs.out j (by omega)
      case measure => simp [intOf]; omega
    · obtain rfl : k = n := by omega
      go_wp2
      go_ret
      exact ⟨rfl, ⟨cs, hblk, by rw [hsz.out, hz]; exact Nat.le_refl _, fun j hj => hcs.out j (by omega)⟩, hb⟩

theorem toPickI {w : World} {A : Option Addr} {n c : Nat} {zs : List Int} {S : Nat → Prop} (hz : zs.length = n * 2) (hn : n ≤ 1048576) (hS : ∀ b, S b → b < w.heap.size) (ha : IntsAt w S A zs) :
    Calls Try.prog 48 #[.slice A n c] w fun e w' => ∃ q, e = .returned (.slice (some ⟨q, 0, none⟩) n n) ∧ RvI 48 w' w.heap.size w'.heap.size (.slice (some ⟨q, 0, none⟩) n n) n zs ∧ Below w.heap.size w w' := by
  refine (toPickS_row A zs n c S w hz hn hS ha).mono ?_
  rintro e w' ⟨rfl, hr, hb⟩
  exact ⟨_, rfl, .of (.inr ⟨_, _, rfl, hr, Nat.le_refl _⟩), hb⟩
end Go.Proofs.Ytfnphnjadknoaaa

namespace Go.Proofs.Ytfnphnjadknoaaa
open Go.RowKit

theorem inn_grown {a b : Nat} {r : Option Nat} {w w' : World} (h : w.grownBy w' r) (hr : ∀ x, r = some x → a ≤ x ∧ x < b) : Inn a b w w' :=
  ⟨h.os, h.tape, h.output, h.size, fun k hk hn => h.block k hk (fun e => hn (hr k e.symm))⟩
theorem RvI.inn {t : TypeId} {w w' : World} {lo hi a b n : Nat} {v : Value} {zs : List Int} (h : RvI t w a b v n zs) (hi' : Inn lo hi w w') (ha : b ≤ lo ∨ hi ≤ a) : RvI t w' a b v n zs :=
  ⟨h.1.keep (fun k hk e => hi'.block k hk (fun e' => by
    have h1 := h.2 k e
    have h2 := (h.1.own_lt e).1
    omega)), h.2⟩
theorem blk_inn {lo hi q : Nat} {t : TypeId} {cs : Array Value} {w w' : World} (h : Blk w q t cs) (hi' : Inn lo hi w w') (hq : q < lo ∨ hi ≤ q) : Blk w' q t cs :=
  (hi'.block q h.lt (fun e => by omega)).trans h
end Go.Proofs.Ytfnphnjadknoaaa
