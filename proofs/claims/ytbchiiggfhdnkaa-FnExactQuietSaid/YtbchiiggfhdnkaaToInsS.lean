/- toInsS, toThread, toThreadS, toProg: copies in new memory. -/
import Derived.Test.YtbchiiggfhdnkaaTo
import Derived.Test.YtbchiiggfhdnkaaToIns
namespace Go.Proofs.Ytbchiiggfhdnkaa
open Go.RowKit

theorem Try.infoIns : (Try.prog.info? 24).map (fun i => (i.zero, i.size, i.bytes)) = some (some (.agg #[.int .i64 0, .int .i64 0, .int .i64 0, .int .i64 0, .int .i64 0, .int .i64 0]), 6, 48) := by kernel_rfl
theorem make_inss (n : Nat) (hn : n ≤ 1048576) (W : World) : (Instr.makeSlice 98 (.int .i64 (n : Int)) (.int .i64 (n : Int))).run Try.prog W = .ok (.slice (some ⟨W.heap.size, 0, none⟩) n n) (W.alloc (.cells (zrow #[.int .i64 0, .int .i64 0, .int .i64 0, .int .i64 0, .int .i64 0, .int .i64 0] (n * 6)) 24)) := by
  obtain ⟨i0, hi, hz0, hz1, hz2⟩ := info_parts Try.infoIns
  have hr := run_make (P := Try.prog) W 98 24 i0 _ Try.underlying98 hi hz0 .i64 .i64 n n (by omega) (Int.le_refl _) (by rw [hz2]; omega) (by omega)
  simp only [Int.toNat_natCast, hz1] at hr
  exact hr

set_option maxHeartbeats 800000 in
theorem toInsS_any (A : Option Addr) (l : List InsD) (c : Nat) (S : Nat → Prop) (w : World) (hn : l.length ≤ 1048576) (hS : ∀ b, S b → b < w.heap.size) (ha : InssAt w S A l) :
    Calls Try.prog 166 #[.slice A l.length c] w fun e w' => ∃ A' c', e = .returned (.slice A' l.length c') ∧ l.length ≤ c' ∧ InssAt w' (New w.heap.size w'.heap.size) A' l ∧ Below w.heap.size w w' := by
  have hmk := make_inss l.length hn
  go_enter Try.func166, Try.ntmps166
  go_wp2
  clear hmk
  go_loopw [4] (fun i wr => ∃ (k : Nat) (cs : Array Value), k ≤ l.length ∧ i = .int .i64 k ∧ Blk wr w.heap.size 24 cs ∧ Hid (cs.size = l.length * 6) ∧ Hid (∀ j, j < k → InsCells cs (j * 6) (getd l j)) ∧ Below w.heap.size w wr) (fun i _ => l.length - (intOf i).toNat)
  case atStart => exact ⟨0, _, Nat.zero_le _, rfl, Blk.new _ _ _, hide (zrow_size _ _), hide (fun j hj => by omega), below1 _ _⟩
  case round =>
    obtain ⟨k, cs, hk, rfl, hblk, hsz, hcs, hb⟩ := hrel
    by_cases hlt : k < l.length
    · obtain ⟨b, off, rfl, hbB, hc⟩ := (ha.below hb hS).2 (by omega)
      obtain ⟨c0, c1, c2, c3, c4, c5⟩ := hc k hlt
      have hlt2 := hblk.lt
      have HB := hide hblk
      clear hblk hc
      go_wp2_with fail
      refine (toIns_any _ _ _ _ _ _ _).mono ?_; rintro e w1 ⟨rfl, hb1⟩
      have hblk1 := HB.out.below hb1 hlt2
      have hsz' := hsz.out
      obtain ⟨v0, hv0⟩ : ∃ v, cs[k * 6]? = some v := ⟨_, Array.getElem?_eq_getElem (by omega)⟩
      obtain ⟨v1, hv1⟩ : ∃ v, cs[k * 6 + 1]? = some v := ⟨_, Array.getElem?_eq_getElem (by omega)⟩
      obtain ⟨v2, hv2⟩ : ∃ v, cs[k * 6 + 2]? = some v := ⟨_, Array.getElem?_eq_getElem (by omega)⟩
      obtain ⟨v3, hv3⟩ : ∃ v, cs[k * 6 + 3]? = some v := ⟨_, Array.getElem?_eq_getElem (by omega)⟩
      obtain ⟨v4, hv4⟩ : ∃ v, cs[k * 6 + 4]? = some v := ⟨_, Array.getElem?_eq_getElem (by omega)⟩
      obtain ⟨v5, hv5⟩ : ∃ v, cs[k * 6 + 5]? = some v := ⟨_, Array.getElem?_eq_getElem (by omega)⟩
      have g0 := (hblk1.cell _).trans hv0
      have g1 := (hblk1.cell _).trans hv1
      have g2 := (hblk1.cell _).trans hv2
      have g3 := (hblk1.cell _).trans hv3
      have g4 := (hblk1.cell _).trans hv4
      have g5 := (hblk1.cell _).trans hv5
      have z0 := hblk1.frozen (k * 6)
      have z1 := hblk1.frozen (k * 6 + 1)
      have z2 := hblk1.frozen (k * 6 + 2)
      have z3 := hblk1.frozen (k * 6 + 3)
      have z4 := hblk1.frozen (k * 6 + 4)
      have z5 := hblk1.frozen (k * 6 + 5)
      have HB1 := hide hblk1
      clear hv0 hv1 hv2 hv3 hv4 hv5 hblk1 hsz'
      go_wp2_with fail
      go_roundw
      case rel =>
        have hs := hsz.out
        refine ⟨k + 1, set6 cs (k * 6) (getd l k), by omega, by go_num, HB1.out.put6 _ _, hide (by rw [set6_size]; exact hs), hide (fun j hj => ?_), below_put6 (below_then hb hb1) (Nat.le_refl _) _ _⟩
        by_cases e : k = j
        · subst e; exact InsCells.at_ _ _ _ (by omega)
        · exact (hcs.out j (by omega)).far (by omega)
      case measure => simp [intOf]; omega
    · obtain rfl : k = l.length := by omega
      go_wp2
      go_ret
      refine ⟨_, _, rfl, Nat.le_refl _, ⟨ha.1, fun hn => ⟨w.heap.size, 0, rfl, ⟨Nat.le_refl _, hblk.lt⟩, fun j hj => ?_⟩⟩, hb⟩
      rw [Nat.zero_add]
      exact hblk.insIn (hcs.out j hj)

set_option maxHeartbeats 800000 in
theorem toThread_any (A : Option Addr) (l : List InsD) (c : Nat) (S : Nat → Prop) (w : World) (hn : l.length ≤ 1048576) (hS : ∀ b, S b → b < w.heap.size) (ha : InssAt w S A l) :
    Calls Try.prog 148 #[.agg #[.slice A l.length c]] w fun e w' => ∃ A' c', e = .returned (.agg #[.slice A' l.length c']) ∧ l.length ≤ c' ∧ InssAt w' (New w.heap.size w'.heap.size) A' l ∧ Below w.heap.size w w' := by
  go_enter Try.func148, Try.ntmps148
  go_wp2_with fail
  have hb3 := ((below1 w (Obj.cells #[Value.slice A l.length c] 180)).alloc (by simp) (Obj.cells #[Value.slice none 0 0] 100)).alloc (by simp; omega) (Obj.cells #[Value.slice none 0 0] 100)
  refine (toInsS_any A l c S _ hn (fun b h => Nat.lt_of_lt_of_le (hS b h) hb3.size) (ha.below hb3 hS)).mono ?_
  rintro e w1 ⟨A', c', rfl, hcap, hl, hb1⟩
  obtain ⟨hcl1, hfz1⟩ := bcell hb1
  have hz1 := hb1.size
  simp at hz1
  go_wp2_with fail
  refine bodyPost_ret (v := .agg #[.slice A' l.length c']) (by simp [results, Try.results148, go_sem, hcl1]; done) rfl ⟨A', c', rfl, hcap, ?_, ?_⟩
  · refine ((hl.set _ (fun h => ?_)).set _ (fun h => ?_)).more (fun b h => ?_)
    · have := h.1; simp at this; omega
    · have := h.1; simp at this; omega
    · have h1 := h.1; have h2 := h.2; simp at h1; exact ⟨by omega, by simpa [World.setCell] using h2⟩
  · exact ((below_then hb3 hb1).setCell (by simp; omega) _).setCell (by simp) _
end Go.Proofs.Ytbchiiggfhdnkaa
