/- laws' helpers on a row of Conds: szCondS, toCondS, eqCondS. A row of n Conds is read as its 3 n numbers. -/
import Derived.Test.YtbeaijmilpefmaaExI
namespace Go.Proofs.Ytbeaijmilpefmaa
open Go.RowKit

/-- Three numbers that follow each other. -/
theorem IntsAt.three {w : World} {S : Nat → Prop} {A : Option Addr} {zs : List Int} {n k : Nat} (h : IntsAt w S A zs) (hz : zs.length = n * 3) (hk : k < n) : ∃ b off, A = some ⟨b, off, none⟩ ∧ S b ∧ w.cell? ⟨b, off + k * 3, none⟩ = some (.int .i64 (geti zs (k * 3))) ∧ w.cell? ⟨b, off + k * 3 + 1, none⟩ = some (.int .i64 (geti zs (k * 3 + 1))) ∧ w.cell? ⟨b, off + k * 3 + 2, none⟩ = some (.int .i64 (geti zs (k * 3 + 2))) := by
  obtain ⟨b, off, e, hb, hc⟩ := h.2 (by omega)
  exact ⟨b, off, e, hb, hc _ (by omega), by have := hc (k * 3 + 1) (by omega); rwa [← Nat.add_assoc] at this, by have := hc (k * 3 + 2) (by omega); rwa [← Nat.add_assoc] at this⟩

set_option maxHeartbeats 800000 in
theorem szCondS_any (A : Option Addr) (n c : Nat) (left : Int) (w : World) (h0 : 0 ≤ left) (h1 : left ≤ 1048576) (hn : n ≤ 9223372036854775807) :
    Calls Try.prog 13 #[.slice A n c, .int .i64 left] w fun e w' => e = .returned (.int .i64 (szR left n)) ∧ w = w' := by
  have hw : wrap64 (left - n) = left - n := by unfold wrap64; omega
  by_cases hlt : left - n < 0
  · have HF := hide (show szR left n = -1 by unfold szR; rw [if_pos (by omega)])
    go_enter Try.func13, Try.ntmps13
    go_wp2_with fail
    go_ret
    exact ⟨ret_int HF.out.symm, rfl⟩
  · have HF := hide (show szR left n = left - n by unfold szR; rw [if_neg (by omega)])
    go_enter Try.func13, Try.ntmps13
    go_wp2_with fail
    go_ret
    exact ⟨ret_int HF.out.symm, rfl⟩

theorem Try.infoCond : (Try.prog.info? 98).map (fun i => (i.zero, i.size, i.bytes)) = some (some (.agg #[.int .i64 0, .int .i64 0, .int .i64 0]), 3, 24) := by kernel_rfl
theorem make_conds (n : Nat) (hn : n ≤ 1048576) (W : World) : (Instr.makeSlice 31 (.int .i64 (n : Int)) (.int .i64 (n : Int))).run Try.prog W = .ok (.slice (some ⟨W.heap.size, 0, none⟩) n n) (W.alloc (.cells (zrow #[.int .i64 0, .int .i64 0, .int .i64 0] (n * 3)) 98)) := by
  obtain ⟨i0, hi, hz0, hz1, hz2⟩ := info_parts Try.infoCond
  have hr := run_make (P := Try.prog) W 31 98 i0 _ Try.underlying31 hi hz0 .i64 .i64 n n (by omega) (Int.le_refl _) (by rw [hz2]; omega) (by omega)
  simp only [Int.toNat_natCast, hz1] at hr
  exact hr

set_option maxHeartbeats 800000 in
theorem toCond_any (x v u : Int) (w : World) :
    Calls Try.prog 57 #[.agg #[.int .i64 x, .int .i64 v, .int .i64 u]] w fun e w' => e = .returned (.agg #[.int .i64 x, .int .i64 v, .int .i64 u]) ∧ Below w.heap.size w w' := by
  go_enter Try.func57, Try.ntmps57
  go_wp2
  refine bodyPost_ret (v := .agg #[.int .i64 x, .int .i64 v, .int .i64 u]) (by simp [results, Try.results57, go_sem]) rfl ⟨rfl, ?_⟩
  exact ((below1 _ _).alloc (by simp) _).alloc (by simp; omega) _

set_option maxHeartbeats 1600000 in
theorem toCondS_row (A : Option Addr) (zs : List Int) (n c : Nat) (S : Nat → Prop) (w : World) (hz : zs.length = n * 3) (hn : n ≤ 1048576) (hS : ∀ b, S b → b < w.heap.size) (ha : IntsAt w S A zs) :
    Calls Try.prog 16 #[.slice A n c] w fun e w' => e = .returned (.slice (some ⟨w.heap.size, 0, none⟩) n n) ∧ RowT 98 w' w.heap.size zs ∧ Below w.heap.size w w' := by
  have hmk := make_conds n hn
  go_enter Try.func16, Try.ntmps16
  go_wp2
  clear hmk
  go_loopw [4] (fun i wr => ∃ (k : Nat) (cs : Array Value), k ≤ n ∧ i = .int .i64 k ∧ Blk wr w.heap.size 98 cs ∧ Hid (cs.size = n * 3) ∧ Hid (∀ j, j < k * 3 → cs[j]? = some (.int .i64 (geti zs j))) ∧ Below w.heap.size w wr) (fun i _ => n - (intOf i).toNat)
  case atStart => exact ⟨0, _, Nat.zero_le _, rfl, Blk.new _ _ _, hide (zrow_size _ _), hide (fun j hj => by omega), below1 _ _⟩
  case round =>
    obtain ⟨k, cs, hk, rfl, hblk, hsz, hcs, hb⟩ := hrel
    by_cases hlt : k < n
    · obtain ⟨b, off, rfl, hbB, c0, c1, c2⟩ := (ha.below hb hS).three hz hlt
      have hlt2 := hblk.lt
      have HB := hide hblk
      clear hblk
      go_wp2_with fail
      refine (toCond_any _ _ _ _).mono ?_; rintro e w1 ⟨rfl, hb1⟩
      have hblk1 := HB.out.below hb1 hlt2
      have hsz' := hsz.out
      obtain ⟨v0, hv0⟩ : ∃ v, cs[k * 3]? = some v := ⟨_, Array.getElem?_eq_getElem (by omega)⟩
      obtain ⟨v1, hv1⟩ : ∃ v, cs[k * 3 + 1]? = some v := ⟨_, Array.getElem?_eq_getElem (by omega)⟩
      obtain ⟨v2, hv2⟩ : ∃ v, cs[k * 3 + 2]? = some v := ⟨_, Array.getElem?_eq_getElem (by omega)⟩
      have g0 := (hblk1.cell _).trans hv0
      have g1 := (hblk1.cell _).trans hv1
      have g2 := (hblk1.cell _).trans hv2
      have z0 := hblk1.frozen (k * 3)
      have z1 := hblk1.frozen (k * 3 + 1)
      have z2 := hblk1.frozen (k * 3 + 2)
      have HB1 := hide hblk1
      clear hv0 hv1 hv2 hblk1 hsz'
      go_wp2_with fail
      go_roundw
      case rel =>
        have hs := hsz.out
        refine ⟨k + 1, ((cs.setIfInBounds (k * 3) (.int .i64 (geti zs (k * 3)))).setIfInBounds (k * 3 + 1) (.int .i64 (geti zs (k * 3 + 1)))).setIfInBounds (k * 3 + 2) (.int .i64 (geti zs (k * 3 + 2))), by omega, by go_num, ((HB1.out.set_ _ _).set_ _ _).set_ _ _, hide (by simpa using hs), hide (fun j hj => ?_), (((below_then hb hb1).setCell (Nat.le_refl _) _).setCell (Nat.le_refl _) _).setCell (Nat.le_refl _) _⟩
        rw [Array.getElem?_setIfInBounds]
        by_cases e : k * 3 + 2 = j
        · subst e; rw [if_pos rfl, if_pos (by simp; omega)]
        · rw [if_neg e, Array.getElem?_setIfInBounds]
          by_cases e : k * 3 + 1 = j
          · subst e; rw [if_pos rfl, if_pos (by simp; omega)]
          · rw [if_neg e, Array.getElem?_setIfInBounds]
            by_cases e : k * 3 = j
            · subst e; rw [if_pos rfl, if_pos (by omega)]
            · rw [if_neg e]; exact hcs.out j (by omega)
      case measure => simp [intOf]; omega
    · obtain rfl : k = n := by omega
      go_wp2
      go_ret
      exact ⟨rfl, ⟨cs, hblk, by rw [hsz.out, hz]; exact Nat.le_refl _, fun j hj => hcs.out j (by omega)⟩, hb⟩

set_option maxHeartbeats 800000 in
theorem eqCond_any (x v u : Int) (w : World) :
    Calls Try.prog 60 #[.agg #[.int .i64 x, .int .i64 v, .int .i64 u], .agg #[.int .i64 x, .int .i64 v, .int .i64 u]] w fun e w' => e = .returned (.bool true) ∧ Below w.heap.size w w' := by
  go_enter Try.func60, Try.ntmps60
  go_wp2
  go_ret
  exact ⟨rfl, below2 _ _ _⟩

set_option maxRecDepth 100000 in
set_option maxHeartbeats 800000 in
theorem eqCondS_any (A A' : Option Addr) (zs : List Int) (n c c' : Nat) (S : Nat → Prop) (w : World) (hz : zs.length = n * 3) (hS : ∀ b, S b → b < w.heap.size) (ha : IntsAt w S A zs) (ha' : IntsAt w S A' zs) :
    Calls Try.prog 19 #[.slice A n c, .slice A' n c'] w fun e w' => e = .returned (.bool true) ∧ Below w.heap.size w w' := by
  have hn := ha.1
  go_enter Try.func19, Try.ntmps19
  go_wp2
  go_loopw [5] (fun i wr => ∃ (k : Nat), k ≤ n ∧ i = .int .i64 k ∧ Below w.heap.size w wr) (fun i _ => n - (intOf i).toNat)
  case atStart => exact ⟨0, Nat.zero_le _, rfl, Below.refl _ _⟩
  case round =>
    obtain ⟨k, hk, rfl, hb⟩ := hrel
    by_cases hlt : k < n
    · obtain ⟨b, off, rfl, hbB, c0, c1, c2⟩ := (ha.below hb hS).three hz hlt
      obtain ⟨b', off', rfl, hbB', g0, g1, g2⟩ := (ha'.below hb hS).three hz hlt
      have hx : ((k : Int) < (n : Int)) := by omega
      go_wp2_with fail
      go_still_tail 8, (by kernel_rfl)
      have hbd := hb.drew
      change wpList _ _ _ _ _ wr.drew
      generalize wr.drew = w2 at *
      go_wp2_with (go_at_call 60; refine (eqCond_any (geti zs (k * 3)) (geti zs (k * 3 + 1)) (geti zs (k * 3 + 2)) _).mono ?_; rintro e w3 ⟨rfl, hb3⟩)
      go_roundw
      case rel => exact ⟨k + 1, by omega, by go_num, below_then hbd hb3⟩
      case measure => simp [intOf]; omega
    · obtain rfl : k = n := by omega
      go_wp2
      go_ret
      exact ⟨rfl, hb⟩

theorem toCondSI {A : Option Addr} {zs : List Int} {m c : Nat} {S : Nat → Prop} {w : World} (hz : zs.length = m * 3) (hm : m ≤ 1048576) (hS : ∀ b, S b → b < w.heap.size) (ha : IntsAt w S A zs) :
    Calls Try.prog 16 #[.slice A m c] w fun e w' => ∃ q, e = .returned (.slice (some ⟨q, 0, none⟩) m m) ∧ RvI 98 w' w.heap.size w'.heap.size (.slice (some ⟨q, 0, none⟩) m m) m zs ∧ Below w.heap.size w w' := by
  refine (toCondS_row A zs m c S w hz hm hS ha).mono ?_
  rintro e w' ⟨rfl, hr, hb⟩
  exact ⟨_, rfl, RvI.of (.inr ⟨_, _, rfl, hr, Nat.le_refl _⟩), hb⟩
theorem eqCondSI {w : World} {lo hi lo' hi' n c c' : Nat} {A A' : Option Addr} {zs : List Int} (hz : zs.length = n * 3) (hn : n ≤ 1048577) (h : RvI 98 w lo hi (.slice A n c) n zs) (k : RvI 98 w lo' hi' (.slice A' n c') n zs) :
    Calls Try.prog 19 #[.slice A n c, .slice A' n c'] w fun e w' => e = .returned (.bool true) ∧ Below w.heap.size w w' :=
  eqCondS_any A A' zs n c c' _ w hz (fun _ h => h) (h.src (by omega) rfl) (k.src (by omega) rfl)
end Go.Proofs.Ytbeaijmilpefmaa
