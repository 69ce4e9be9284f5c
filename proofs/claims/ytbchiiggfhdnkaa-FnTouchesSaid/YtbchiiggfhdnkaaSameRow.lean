/- impl.sameRow: are two rows the same? -/
import Derived.Test.YtbchiiggfhdnkaaPieceW
namespace Go.Proofs.Ytbchiiggfhdnkaa
open Go.RowKit

theorem equal24 (xs ys : Array Value) (f g : Nat → Int) (hx : ∀ i, i < 24 → xs[i]? = some (.int .i64 (f i))) (hy : ∀ i, i < 24 → ys[i]? = some (.int .i64 (g i))) (w : World) :
    (Op.equalIn 10000 158 (.agg xs) (.agg ys)).run Try.prog w = .ok (allB (fun i => f i == g i) 24) w := by
  obtain ⟨i, hi⟩ := infoI
  rw [run_equalIn_array w 9999 xs ys Try.underlying158 hi, cellsOfI]
  rw [eqItems_ints Try.underlying3 9998 xs ys f g w (List.range 24) (fun j hj => hx j (by simpa using hj)) (fun j hj => hy j (by simpa using hj))]
  rfl

def sameI (zs ys : List Int) : Bool := decide (zs.length = ys.length) && allB (fun j => geti zs j == geti ys j) zs.length
theorem sameI_piece (zs ys : List Int) (f : Nat) (hl : zs.length = ys.length) (hb : allB (fun i => pieceI zs f i == pieceI ys f i) 24 = false) : sameI zs ys = false := by
  unfold allB at hb
  rw [List.all_eq_false] at hb
  obtain ⟨i, hi, hne⟩ := hb
  have hi' : i < 24 := by simpa using hi
  unfold sameI
  by_cases h : f + i < zs.length
  · rw [allB_no h (by unfold pieceI at hne; rw [if_pos h, if_pos (by omega)] at hne; simpa using hne)]
    simp
  · unfold pieceI at hne
    rw [if_neg h, if_neg (by omega)] at hne
    simp at hne
theorem sameI_next (zs ys : List Int) (f : Nat) (hl : zs.length = ys.length) (hj : ∀ j, j < f → j < zs.length → (geti zs j == geti ys j) = true) (hb : allB (fun i => pieceI zs f i == pieceI ys f i) 24 = true) : ∀ j, j < f + 24 → j < zs.length → (geti zs j == geti ys j) = true := by
  intro j h1 h2
  by_cases h : j < f
  · exact hj j h h2
  · obtain ⟨q, rfl⟩ : ∃ q, j = f + q := ⟨j - f, by omega⟩
    have := allB_at hb (show q < 24 by omega)
    unfold pieceI at this
    rwa [if_pos h2, if_pos (by omega)] at this

set_option maxRecDepth 100000 in
set_option maxHeartbeats 1600000 in
theorem sameRowI_any (A A' : Option Addr) (zs ys : List Int) (c c' : Nat) (S : Nat → Prop) (w : World) (hlen : zs.length ≤ 1048576) (hlen' : ys.length ≤ 1048576) (hc : zs.length ≤ c) (hc' : ys.length ≤ c') (hS : ∀ b, S b → b < w.heap.size) (ha : IntsAt w S A zs) (ha' : IntsAt w S A' ys) :
    Calls Try.prog 73 #[.slice A zs.length c, .slice A' ys.length c'] w fun e w' => e = .returned (.bool (sameI zs ys)) ∧ Below w.heap.size w w' := by
  by_cases hl : zs.length = ys.length
  · have HL := hide hl
    rw [← hl]
    clear hl
    go_enter Try.func73, Try.ntmps73
    go_wp2
    go_loopw [5] (fun i wr => ∃ (f : Nat), f ≤ zs.length + 24 ∧ i = .int .i64 f ∧ Hid (∀ j, j < f → j < zs.length → (geti zs j == geti ys j) = true) ∧ Below w.heap.size w wr) (fun i _ => zs.length - (intOf i).toNat)
    case atStart => exact ⟨0, Nat.zero_le _, rfl, hide (fun j hj => by omega), Below.refl _ _⟩
    case round =>
      obtain ⟨f, hf, rfl, hj, hb⟩ := hrel
      by_cases hlt : f < zs.length
      · have HA := hide (ha.below hb hS)
        have HA' := hide (ha'.below hb hS)
        have k1 := hide (fun w hS ha => pieceI_any A zs c f S w hc hlen hlt hS ha)
        have k2 := hide (fun w hS ha => pieceI_any A' ys c' f S w hc' hlen' (by have := HL.out; omega) hS ha)
        rw [← HL.out] at k2
        go_wp2_with fail
        refine (k1.out wr (fun b h => Nat.lt_of_lt_of_le (hS b h) hb.size) HA.out).mono ?_
        rintro e w1 ⟨R1, rfl, G1, hb1⟩
        have hB1 := below_then hb hb1
        go_wp2_with fail
        refine (k2.out w1 (fun b h => Nat.lt_of_lt_of_le (hS b h) hB1.size) (HA'.out.below hb1 (fun b h => Nat.lt_of_lt_of_le (hS b h) hb.size))).mono ?_
        rintro e w2 ⟨R2, rfl, G2, hb2⟩
        have hB2 := below_then hB1 hb2
        have hneq := fun w => equal24 R1 R2 (pieceI zs f) (pieceI ys f) G1.out.2 G2.out.2 w
        cases hr : allB (fun i => pieceI zs f i == pieceI ys f i) 24
        · have HF := hide (sameI_piece zs ys f HL.out hr)
          rw [hr] at hneq
          clear hr
          go_wp2_with fail
          go_ret
          exact ⟨ret_bool HF.out.symm, hB2⟩
        · have HN := hide (sameI_next zs ys f HL.out hj.out hr)
          rw [hr] at hneq
          clear hr
          go_wp2_with fail
          go_roundw
          case rel => exact ⟨f + 24, by omega, by go_num, HN, hB2⟩
          case measure => simp [intOf]; omega
      · have HF := hide (show sameI zs ys = true by unfold sameI; rw [decide_eq_true HL.out, allB_yes (fun j hjl => hj.out j (by omega) hjl)]; rfl)
        have hlt' : ¬ ((f : Int) < (zs.length : Int)) := by omega
        go_wp2
        go_ret
        exact ⟨ret_bool HF.out.symm, hb⟩
  · have HF := hide (show sameI zs ys = false by unfold sameI; rw [decide_eq_false hl]; rfl)
    have hl' : ((zs.length : Int) != (ys.length : Int)) = true := by simp; omega
    have hl2 : ((zs.length : Int) == (ys.length : Int)) = false := by simp; omega
    clear hl
    go_enter Try.func73, Try.ntmps73
    go_wp2
    go_ret
    exact ⟨ret_bool HF.out.symm, Below.refl _ _⟩

def sameD (zs ys : List InsD) : Bool := decide (zs.length = ys.length) && allB (fun j => insEq (getd zs j) (getd ys j)) zs.length
theorem sameD_piece (zs ys : List InsD) (f : Nat) (hl : zs.length = ys.length) (hb : allB (fun i => insEq (pieceD zs f i) (pieceD ys f i)) 24 = false) : sameD zs ys = false := by
  unfold allB at hb
  rw [List.all_eq_false] at hb
  obtain ⟨i, hi, hne⟩ := hb
  have hi' : i < 24 := by simpa using hi
  unfold sameD
  by_cases h : f + i < zs.length
  · rw [allB_no h (by unfold pieceD at hne; rw [if_pos h, if_pos (by omega)] at hne; simpa using hne)]
    simp
  · unfold pieceD at hne
    rw [if_neg h, if_neg (by omega)] at hne
    simp [insEq] at hne
theorem sameD_next (zs ys : List InsD) (f : Nat) (hl : zs.length = ys.length) (hj : ∀ j, j < f → j < zs.length → (insEq (getd zs j) (getd ys j)) = true) (hb : allB (fun i => insEq (pieceD zs f i) (pieceD ys f i)) 24 = true) : ∀ j, j < f + 24 → j < zs.length → (insEq (getd zs j) (getd ys j)) = true := by
  intro j h1 h2
  by_cases h : j < f
  · exact hj j h h2
  · obtain ⟨q, rfl⟩ : ∃ q, j = f + q := ⟨j - f, by omega⟩
    have := allB_at hb (show q < 24 by omega)
    unfold pieceD at this
    rwa [if_pos h2, if_pos (by omega)] at this

set_option maxRecDepth 100000 in
set_option maxHeartbeats 1600000 in
theorem sameRowD_any (A A' : Option Addr) (zs ys : List InsD) (c c' : Nat) (S : Nat → Prop) (w : World) (hlen : zs.length ≤ 1048576) (hlen' : ys.length ≤ 1048576) (hc : zs.length ≤ c) (hc' : ys.length ≤ c') (hS : ∀ b, S b → b < w.heap.size) (ha : InssAt w S A zs) (ha' : InssAt w S A' ys) :
    Calls Try.prog 74 #[.slice A zs.length c, .slice A' ys.length c'] w fun e w' => e = .returned (.bool (sameD zs ys)) ∧ Below w.heap.size w w' := by
  by_cases hl : zs.length = ys.length
  · have HL := hide hl
    rw [← hl]
    clear hl
    go_enter Try.func74, Try.ntmps74
    go_wp2
    go_loopw [5] (fun i wr => ∃ (f : Nat), f ≤ zs.length + 24 ∧ i = .int .i64 f ∧ Hid (∀ j, j < f → j < zs.length → (insEq (getd zs j) (getd ys j)) = true) ∧ Below w.heap.size w wr) (fun i _ => zs.length - (intOf i).toNat)
    case atStart => exact ⟨0, Nat.zero_le _, rfl, hide (fun j hj => by omega), Below.refl _ _⟩
    case round =>
      obtain ⟨f, hf, rfl, hj, hb⟩ := hrel
      by_cases hlt : f < zs.length
      · have HA := hide (ha.below hb hS)
        have HA' := hide (ha'.below hb hS)
        have k1 := hide (fun w hS ha => pieceD_any A zs c f S w hc hlen hlt hS ha)
        have k2 := hide (fun w hS ha => pieceD_any A' ys c' f S w hc' hlen' (by have := HL.out; omega) hS ha)
        rw [← HL.out] at k2
        go_wp2_with fail
        refine (k1.out wr (fun b h => Nat.lt_of_lt_of_le (hS b h) hb.size) HA.out).mono ?_
        rintro e w1 ⟨R1, rfl, G1, hb1⟩
        have hB1 := below_then hb hb1
        go_wp2_with fail
        refine (k2.out w1 (fun b h => Nat.lt_of_lt_of_le (hS b h) hB1.size) (HA'.out.below hb1 (fun b h => Nat.lt_of_lt_of_le (hS b h) hb.size))).mono ?_
        rintro e w2 ⟨R2, rfl, G2, hb2⟩
        have hB2 := below_then hB1 hb2
        have hneq := fun w => equal24D R1 R2 (pieceD zs f) (pieceD ys f) G1.out.1 G2.out.1 G1.out.2 G2.out.2 w
        cases hr : allB (fun i => insEq (pieceD zs f i) (pieceD ys f i)) 24
        · have HF := hide (sameD_piece zs ys f HL.out hr)
          rw [hr] at hneq
          clear hr
          go_wp2_with fail
          go_ret
          exact ⟨ret_bool HF.out.symm, hB2⟩
        · have HN := hide (sameD_next zs ys f HL.out hj.out hr)
          rw [hr] at hneq
          clear hr
          go_wp2_with fail
          go_roundw
          case rel => exact ⟨f + 24, by omega, by go_num, HN, hB2⟩
          case measure => simp [intOf]; omega
      · have HF := hide (show sameD zs ys = true by unfold sameD; rw [decide_eq_true HL.out, allB_yes (fun j hjl => hj.out j (by omega) hjl)]; rfl)
        have hlt' : ¬ ((f : Int) < (zs.length : Int)) := by omega
        go_wp2
        go_ret
        exact ⟨ret_bool HF.out.symm, hb⟩
  · have HF := hide (show sameD zs ys = false by unfold sameD; rw [decide_eq_false hl]; rfl)
    have hl' : ((zs.length : Int) != (ys.length : Int)) = true := by simp; omega
    have hl2 : ((zs.length : Int) == (ys.length : Int)) = false := by simp; omega
    clear hl
    go_enter Try.func74, Try.ntmps74
    go_wp2
    go_ret
    exact ⟨ret_bool HF.out.symm, Below.refl _ _⟩
end Go.Proofs.Ytbchiiggfhdnkaa
