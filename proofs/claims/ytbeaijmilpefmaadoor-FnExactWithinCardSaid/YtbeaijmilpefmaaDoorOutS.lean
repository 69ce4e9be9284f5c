/- laws' helpers on a row of outcomes: szOutcomeS, toOutcomeS, eqOutcomeS. -/
import Derived.Test.YtbeaijmilpefmaaDoorRowsA
import Derived.Test.YtbeaijmilpefmaaDoorOutI
import Derived.StillTailTactics
namespace Go.Proofs.YtbeaijmilpefmaaDoor
open Go.RowKit
set_option maxHeartbeats 800000 in
theorem szOutcome_at (A : Option Addr) (n c : Nat) (left : Int) (w : World) (h0 : 0 ≤ left) (h1 : left ≤ 1048576) (hn : n ≤ 9223372036854775807) :
    Calls Tryd.prog 9 #[.agg #[.slice A n c], .int .i64 left] w fun e w' => e = .returned (.int .i64 (szR left n)) ∧ Below w.heap.size w w' := by
  have ks := fun w => szIntS_any A n c left w (by omega) (by omega) hn
  have hr : szR left n = -1 ∨ 0 ≤ szR left n := by unfold szR; split <;> omega
  generalize szR left n = s at *
  replace ks := hide ks
  rcases hr with rfl | hr
  · go_enter Tryd.func9, Tryd.ntmps9
    go_wp2_with fail
    refine (ks.out _).mono ?_
    rintro e w1 ⟨rfl, rfl⟩
    go_wp2_with fail
    go_ret
    exact ⟨rfl, below1 _ _⟩
  · go_enter Tryd.func9, Tryd.ntmps9
    go_wp2_with fail
    refine (ks.out _).mono ?_
    rintro e w1 ⟨rfl, rfl⟩
    go_wp2_with fail
    go_ret
    exact ⟨rfl, below1 _ _⟩

set_option maxHeartbeats 800000 in
theorem szOutcomeS_any (A : Option Addr) (ls : List Nat) (c : Nat) (S : Nat → Prop) (left : Int) (w : World) (h0 : 0 ≤ left) (h1 : left ≤ 1048576) (hS : ∀ b, S b → b < w.heap.size) (ha : HeadsAt w S A ls) :
    Calls Tryd.prog 4 #[.slice A ls.length c, .int .i64 left] w fun e w' => e = .returned (.int .i64 (szR left (headSize ls))) ∧ Below w.heap.size w w' := by
  have hn := ha.1
  have Hle := hide (fun k => sumTo_le ls k)
  have Hsucc := hide (fun k (hk : k < ls.length) => sumTo_succ ls k hk)
  have Hall := hide (sumTo_all ls)
  have Hz := hide (sumTo_zero ls)
  have Hp := hide (show headSize ls = ls.length + ls.sum from rfl)
  by_cases h : left < ls.length
  · have HF := hide (szR_neg (left := left) (n := headSize ls) (by have := Hp.out; omega))
    go_enter Tryd.func4, Tryd.ntmps4
    go_wp2
    go_ret
    exact ⟨ret_int HF.out.symm, Below.refl _ _⟩
  · go_enter Tryd.func4, Tryd.ntmps4
    go_wp2
    go_loopw [1, 5] (fun q i wr => ∃ k : Nat, k ≤ ls.length ∧ (sumTo ls k : Int) ≤ left - ls.length ∧ i = .int .i64 k ∧ q = .int .i64 (left - ls.length - sumTo ls k) ∧ Below w.heap.size w wr) (fun _ i _ => ls.length - (intOf i).toNat)
    case atStart => exact ⟨0, Nat.zero_le _, by rw [Hz.out]; omega, rfl, by rw [Hz.out]; simp, Below.refl _ _⟩
    case round =>
      obtain ⟨k, hk, hl, rfl, rfl, hb⟩ := hrel
      by_cases hlt : k < ls.length
      · obtain ⟨b, off, rfl, hbB, hc⟩ := (ha.below hb hS).2 (by omega)
        obtain ⟨A', c', hcell, hcap⟩ := hc k hlt
        have hss := Hsucc.out k hlt
        change _ = _ + getl ls k at hss
        by_cases hx : left - ls.length - sumTo ls k < getl ls k
        · have HF := hide (szR_neg (left := left) (n := headSize ls) (by have := Hle.out (k + 1); have := Hp.out; omega))
          have kc := fun wX => szOutcome_at A' (getl ls k) c' (left - ls.length - sumTo ls k) wX (by omega) (by omega) hcap
          simp only [szR_neg hx] at kc
          have KC := hide kc
          clear kc hx hss
          go_wp2_with (go_at_call 9; refine (KC.out _).mono ?_; rintro e w1 ⟨rfl, hb1⟩)
          go_ret
          exact ⟨ret_int HF.out.symm, below_then hb hb1⟩
        · have kc := fun wX => szOutcome_at A' (getl ls k) c' (left - ls.length - sumTo ls k) wX (by omega) (by omega) hcap
          simp only [szR_pos hx] at kc
          have KC := hide kc
          have HX : 0 ≤ left - ls.length - sumTo ls k - getl ls k := by omega
          have HS := hide hss
          clear kc hx hss
          go_wp2_with (go_at_call 9; refine (KC.out _).mono ?_; rintro e w1 ⟨rfl, hb1⟩)
          go_roundw
          case rel => exact ⟨k + 1, by omega, by rw [HS.out]; omega, by go_num, by rw [HS.out]; go_num, below_then hb hb1⟩
          case measure => simp [intOf]; omega
      · obtain rfl : k = ls.length := by omega
        have HF := hide (show szR left (headSize ls) = left - ls.length - sumTo ls ls.length by rw [szR_pos (by have := Hall.out; have := Hp.out; omega)]; have := Hall.out; have := Hp.out; omega)
        go_wp2
        go_ret
        exact ⟨ret_int HF.out.symm, hb⟩

theorem Tryd.infoOutcomeT : (Tryd.prog.info? 33).map (fun i => (i.zero, i.size, i.bytes)) = some (some (.agg #[.slice none 0 0]), 1, 24) := by kernel_rfl
theorem make_rowsOutcome (n : Nat) (hn : n ≤ 1048576) (W : World) : (Instr.makeSlice 25 (.int .i64 (n : Int)) (.int .i64 (n : Int))).run Tryd.prog W = .ok (.slice (some ⟨W.heap.size, 0, none⟩) n n) (W.alloc (.cells (zrow #[.slice none 0 0] n) 33)) := by
  obtain ⟨i0, hi, hz0, hz1, hz2⟩ := info_parts Tryd.infoOutcomeT
  have hr := run_make (P := Tryd.prog) W 25 33 i0 _ Tryd.underlying25 hi hz0 .i64 .i64 n n (by omega) (Int.le_refl _) (by rw [hz2]; omega) (by omega)
  simp only [Int.toNat_natCast, hz1, Nat.mul_one] at hr
  exact hr

set_option maxRecDepth 100000 in
set_option maxHeartbeats 1600000 in
theorem toOutcomeS_own (A : Option Addr) (src : List RowD) (c : Nat) (S : Nat → Prop) (w : World) (hz : ∀ k, k < src.length → (getr src k).zs.length = (getr src k).n  ∧ (getr src k).n ≤ 1048576) (hS : ∀ b, S b → b < w.heap.size) (ha : RowsAt w S A src) :
    Calls Tryd.prog 6 #[.slice A src.length c] w fun e w' => ∃ q rs, e = .returned (.slice (some ⟨q, 0, none⟩) src.length src.length) ∧ (RowsOwn 33 3 w' w.heap.size w'.heap.size q rs ∧ SameRows src rs) ∧ Below w.heap.size w w' := by
  have hn2 : src.length ≤ 1048576 := ha.1
  have hmk := make_rowsOutcome src.length hn2
  have HZ := hide hz
  clear hz
  go_enter Tryd.func6, Tryd.ntmps6
  go_wp2
  clear hmk
  go_loopw [4] (fun i wr => ∃ (k : Nat) (cs : Array Value) (f : Nat → RowD), k ≤ src.length ∧ i = .int .i64 k ∧ Blk wr w.heap.size 33 cs ∧ Hid (cs.size = src.length) ∧ RowCells 3 wr (w.heap.size + 1) cs src f k ∧ Below w.heap.size w wr) (fun i _ => src.length - (intOf i).toNat)
  case atStart => exact ⟨0, _, fun _ => row0, Nat.zero_le _, rfl, Blk.new _ _ _, hide (zrow_size _ _), ⟨fun j hj => by omega, fun j hj => by omega, fun j hj => by omega, fun i j _ hj => by omega, fun j hj => by omega⟩, below1 _ _⟩
  case round =>
    obtain ⟨k, cs, f, hk, rfl, hblk, hsz, hcs, hb⟩ := hrel
    by_cases hlt : k < src.length
    · obtain ⟨b, off, rfl, hbB, hc⟩ := (ha.below hb hS).2 (by omega)
      obtain ⟨A', c', hcell, hin⟩ := hc k hlt
      have hlt2 := hblk.lt
      obtain ⟨z1, z2⟩ := HZ.out k hlt
      have HB := hide hblk
      have Z1 := hide z1
      clear hblk hc z1
      go_wp2_with fail
      refine (toOutI (c := c') Z1.out z2 (fun b h => Nat.lt_of_lt_of_le (hS b h) hb.size) hin).mono ?_
      rintro e w1 ⟨qk, rfl, hl, hb1⟩
      have hblk1 := HB.out.below hb1 hlt2
      obtain ⟨v0, hv0⟩ : ∃ v, cs[k]? = some v := ⟨_, Array.getElem?_eq_getElem (by have := hsz.out; omega)⟩
      have g0 := (hblk1.cell _).trans hv0
      have z0 := hblk1.frozen k
      have HB1 := hide hblk1
      have HL := hide hl
      clear hv0 hblk1 hl
      go_wp2_with fail
      go_roundw
      case rel =>
        have hs1 := hb1.size
        have hsb := hb.size
        refine ⟨k + 1, cs.setIfInBounds k (.slice (some ⟨qk, 0, none⟩) (getr src k).n (getr src k).n), fun j => if j = k then ⟨wr.heap.size, w1.heap.size, some ⟨qk, 0, none⟩, (getr src k).n, (getr src k).n, (getr src k).zs⟩ else f j, by omega, by go_num, HB1.out.set_ _ _, hide (by rw [Array.size_setIfInBounds]; exact hsz.out), ⟨fun j hj => ?_, fun j hj => ?_, fun j hj => ?_, fun i j hij hj => ?_, fun j hj => ?_⟩, (below_then hb hb1).setCell (Nat.le_refl _) _⟩
        · by_cases e : j = k
          · subst e
            simp only [if_true]
            rw [Array.getElem?_setIfInBounds, if_pos rfl, if_pos (by have := hsz.out; omega)]
          · simp only [if_neg e]
            rw [Array.getElem?_setIfInBounds, if_neg (fun e2 => e e2.symm)]
            exact hcs.cells j (by omega)
        · by_cases e : j = k
          · subst e
            simp only [if_true]
            exact HL.out.keep (fun b h1 h2 _ => Below.heap_setCell _ _ _ _ (by show b ≠ w.heap.size; omega))
          · simp only [if_neg e]
            have hr := hcs.rng j (by omega)
            exact ((hcs.rows j (by omega)).keep (fun b h1 h2 hl => hb1.block b hl)).keep (fun b h1 h2 _ => Below.heap_setCell _ _ _ _ (by show b ≠ w.heap.size; omega))
        · by_cases e : j = k
          · subst e; simp
          · simp only [if_neg e]
            exact hcs.same j (by omega)
        · by_cases e : j = k
          · have hi : i ≠ k := by omega
            simp only [if_pos e, if_neg hi]
            exact (hcs.rng i (by omega)).2
          · have hi : i ≠ k := by omega
            simp only [if_neg e, if_neg hi]
            exact hcs.up i j hij (by omega)
        · by_cases e : j = k
          · simp only [if_pos e]
            exact ⟨by omega, by simp [World.setCell]⟩
          · simp only [if_neg e]
            have hr := hcs.rng j (by omega)
            exact ⟨hr.1, by simp [World.setCell]; omega⟩
      case measure => simp [intOf]; omega
    · obtain rfl : k = src.length := by omega
      go_wp2
      go_ret
      exact ⟨w.heap.size, (List.range src.length).map f, rfl, RowCells.own hcs hblk hsz.out (Nat.le_refl _), hb⟩

set_option maxRecDepth 100000 in
set_option maxHeartbeats 1600000 in
theorem eqOutcomeSI {w : World} {lo hi lo' hi' c c' : Nat} {A A' : Option Addr} {rs rs' : List RowD} (hl : rs.length ≤ 1048576) (hs : SameRows rs rs') (hz : ∀ k, k < rs.length → (getr rs k).zs.length = (getr rs k).n ∧ (getr rs k).n ≤ 1048576) (h : RowsI 33 3 w lo hi A rs) (h' : RowsI 33 3 w lo' hi' A' rs') :
    Calls Tryd.prog 8 #[.slice A rs.length c, .slice A' rs.length c'] w fun e w' => e = .returned (.bool true) ∧ Below w.heap.size w w' := by
  have H := hide h
  have H' := hide h'
  have HS := hide hs
  have HZ := hide hz
  clear h h' hs hz
  go_enter Tryd.func8, Tryd.ntmps8
  go_wp2
  go_loopw [5] (fun i wr => ∃ (k : Nat), k ≤ rs.length ∧ i = .int .i64 k ∧ Below w.heap.size w wr) (fun i _ => rs.length - (intOf i).toNat)
  case atStart => exact ⟨0, Nat.zero_le _, rfl, Below.refl _ _⟩
  case round =>
    obtain ⟨k, hk, rfl, hb⟩ := hrel
    by_cases hlt : k < rs.length
    · obtain ⟨q, rfl, hq⟩ := (H.out.next hb).at_ hlt
      obtain ⟨q', rfl, hq'⟩ := (H'.out.next hb).at_ (by rw [← HS.out.1]; exact hlt)
      obtain ⟨cs, c1, _, c2⟩ := hq.row
      obtain ⟨cs', d1, _, d2⟩ := hq'.row
      have g0 := (c1.cell _).trans (c2 k hlt)
      have g1 := (d1.cell _).trans (d2 k (by rw [← HS.out.1]; exact hlt))
      have hx : ((k : Int) < (rs.length : Int)) := by omega
      have r1 := hq.each k hlt
      have r2 := hq'.each k (by rw [← HS.out.1]; exact hlt)
      obtain ⟨e1, e2⟩ := HS.out.2 k hlt
      obtain ⟨z1, z2⟩ := HZ.out k hlt
      unfold RowD.at_ at r1 r2
      rw [← e1, ← e2] at r2
      rw [← e1] at g1
      generalize (getr rs k).n = n1 at *
      have R1 := hide r1
      have R2 := hide r2
      have Z1 := hide z1
      clear r1 r2 c1 c2 d1 d2 hq hq' e1 e2 z1
      go_wp2_with fail
      go_still_tail 8, (by kernel_rfl)
      have hbd := hb.drew
      replace R1 := hide (show RvI 3 wr.drew _ _ _ _ _ from R1.out)
      replace R2 := hide (show RvI 3 wr.drew _ _ _ _ _ from R2.out)
      change wpList _ _ _ _ _ wr.drew
      clear g0 g1
      generalize wr.drew = w2 at *
      go_wp2_with (go_at_call 13; refine (eqOutI Z1.out (by omega) R1.out R2.out).mono ?_; rintro e w3 ⟨rfl, hb3⟩)
      go_roundw
      case rel => exact ⟨k + 1, by omega, by go_num, below_then hbd hb3⟩
      case measure => simp [intOf]; omega
    · obtain rfl : k = rs.length := by omega
      go_wp2
      go_ret
      exact ⟨rfl, hb⟩

end Go.Proofs.YtbeaijmilpefmaaDoor
