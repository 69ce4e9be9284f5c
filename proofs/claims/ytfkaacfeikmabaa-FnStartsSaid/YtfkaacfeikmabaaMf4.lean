/- l1thread: a thread drawn. -/
import Derived.Test.YtfkaacfeikmabaaMf0
import Derived.Test.YtfkaacfeikmabaaMf2
import Derived.Test.YtfkaacfeikmabaaMf3
import Derived.Test.YtfkaacfeikmabaaRows
import Derived.Deep.OwnRows
import Derived.Deep.AppendLies
import Derived.Deep.RegionLaw
import Derived.Deep.DrawnRows
import Derived.Deep.DeepCutAuto
namespace Go.Proofs.Ytfkaacfeikmabaa
open Go.RowKit

set_option maxHeartbeats 800000 in
theorem toIntS_any (A : Option Addr) (zs : List Int) (c : Nat) (S : Nat → Prop) (w : World) (hn : zs.length ≤ 1048576) (hS : ∀ b, S b → b < w.heap.size) (ha : IntsAt w S A zs) :
    Calls Try.prog 62 #[.slice A zs.length c] w fun e w' => ∃ A' c', e = .returned (.slice A' zs.length c') ∧ zs.length ≤ c' ∧ IntsAt w' (New w.heap.size w'.heap.size) A' zs ∧ Below w.heap.size w w' := by
  have hmk := make_ints zs.length hn
  go_enter Try.func62, Try.ntmps62
  go_wp2
  clear hmk
  go_loopw [4] (fun i wr => ∃ (k : Nat) (cs : Array Value), k ≤ zs.length ∧ i = .int .i64 k ∧ Blk wr w.heap.size 3 cs ∧ Hid (cs.size = zs.length) ∧ Hid (∀ j, j < k → cs[j]? = some (.int .i64 (geti zs j))) ∧ Below w.heap.size w wr) (fun i _ => zs.length - (intOf i).toNat)
  case atStart => exact ⟨0, _, Nat.zero_le _, rfl, Blk.new _ _ _, hide (zrow_size1 _ _), hide (fun j hj => by omega), below1 _ _⟩
  case round =>
    obtain ⟨k, cs, hk, rfl, hblk, hsz, hcs, hb⟩ := hrel
    by_cases hlt : k < zs.length
    · obtain ⟨b, off, rfl, hbB, hc⟩ := (ha.below hb hS).2 (by omega)
      have hcell := hc k hlt
      obtain ⟨v0, hv0⟩ : ∃ v0, cs[k]? = some v0 := ⟨cs[k]'(by have := hsz.out; omega), Array.getElem?_eq_getElem _⟩
      have hdst := (hblk.cell k).trans hv0
      have hfz := hblk.frozen k
      have HB := hide hblk
      clear hv0 hblk hc
      go_wp2
      go_roundw
      case rel =>
        refine ⟨k + 1, cs.setIfInBounds k (.int .i64 (geti zs k)), by omega, by go_num, HB.out.set_ k _, hide (by rw [Array.size_setIfInBounds]; exact hsz.out), hide (fun j hj => ?_), hb.setCell (Nat.le_refl _) _⟩
        rw [Array.getElem?_setIfInBounds]
        by_cases e : k = j
        · subst e; rw [if_pos rfl, if_pos (by have := hsz.out; omega)]
        · rw [if_neg e]; exact hcs.out j (by omega)
      case measure => simp [intOf]; omega
    · obtain rfl : k = zs.length := by omega
      go_wp2
      go_ret
      refine ⟨_, _, rfl, Nat.le_refl _, ⟨ha.1, fun hn => ⟨w.heap.size, 0, rfl, ⟨Nat.le_refl _, hblk.lt⟩, fun j hj => ?_⟩⟩, hb⟩
      rw [Nat.zero_add, hblk.cell]
      exact hcs.out j hj
end Go.Proofs.Ytfkaacfeikmabaa

namespace Go.Proofs.Ytfkaacfeikmabaa
open Go.RowKit

set_option maxHeartbeats 800000 in
theorem toIns_any (o r a b x n : Int) (w : World) :
    Calls Try.prog 42 #[.agg #[.int .i64 o, .int .i64 r, .int .i64 a, .int .i64 b, .int .i64 x, .int .i64 n]] w fun e w' => e = .returned (.agg #[.int .i64 o, .int .i64 r, .int .i64 a, .int .i64 b, .int .i64 x, .int .i64 n]) ∧ Below w.heap.size w w' := by
  go_enter Try.func42, Try.ntmps42
  go_wp2
  refine bodyPost_ret (v := .agg #[.int .i64 o, .int .i64 r, .int .i64 a, .int .i64 b, .int .i64 x, .int .i64 n]) (by simp [results, Try.results42, go_sem]) rfl ⟨rfl, ?_⟩
  exact ((below1 _ _).alloc (by simp) _).alloc (by simp; omega) _

end Go.Proofs.Ytfkaacfeikmabaa

namespace Go.Proofs.Ytfkaacfeikmabaa
open Go.RowKit

theorem Try.infoIns : (Try.prog.info? 72).map (fun i => (i.zero, i.size, i.bytes)) = some (some (.agg #[.int .i64 0, .int .i64 0, .int .i64 0, .int .i64 0, .int .i64 0, .int .i64 0]), 6, 48) := by kernel_rfl
theorem make_inss (n : Nat) (hn : n ≤ 1048576) (W : World) : (Instr.makeSlice 97 (.int .i64 (n : Int)) (.int .i64 (n : Int))).run Try.prog W = .ok (.slice (some ⟨W.heap.size, 0, none⟩) n n) (W.alloc (.cells (zrow #[.int .i64 0, .int .i64 0, .int .i64 0, .int .i64 0, .int .i64 0, .int .i64 0] (n * 6)) 72)) := by
  obtain ⟨i0, hi, hz0, hz1, hz2⟩ := info_parts Try.infoIns
  have hr := run_make (P := Try.prog) W 97 72 i0 _ Try.underlying97 hi hz0 .i64 .i64 n n (by omega) (Int.le_refl _) (by rw [hz2]; omega) (by omega)
  simp only [Int.toNat_natCast, hz1] at hr
  exact hr

set_option maxHeartbeats 800000 in
theorem toInsS_any (A : Option Addr) (l : List InsD) (c : Nat) (S : Nat → Prop) (w : World) (hn : l.length ≤ 1048576) (hS : ∀ b, S b → b < w.heap.size) (ha : InssAt w S A l) :
    Calls Try.prog 181 #[.slice A l.length c] w fun e w' => ∃ A' c', e = .returned (.slice A' l.length c') ∧ l.length ≤ c' ∧ InssAt w' (New w.heap.size w'.heap.size) A' l ∧ Below w.heap.size w w' := by
  have hmk := make_inss l.length hn
  go_enter Try.func181, Try.ntmps181
  go_wp2
  clear hmk
  go_loopw [4] (fun i wr => ∃ (k : Nat) (cs : Array Value), k ≤ l.length ∧ i = .int .i64 k ∧ Blk wr w.heap.size 72 cs ∧ Hid (cs.size = l.length * 6) ∧ Hid (∀ j, j < k → InsCells cs (j * 6) (getd l j)) ∧ Below w.heap.size w wr) (fun i _ => l.length - (intOf i).toNat)
  case atStart => exact ⟨0, _, Nat.zero_le _, rfl, Blk.new _ _ _, hide (zrow_size _ _), hide (fun j hj => by omega), below1 _ _⟩
  case round =>
    obtain ⟨k, cs, hk, rfl, hblk, hsz, hcs, hb⟩ := hrel
    by_cases hlt : k < l.length
    · obtain ⟨b, off, rfl, hbB, hc⟩ := (ha.below hb hS).2 (by omega)
      obtain ⟨c0, c1, c2, c3, c4, c5⟩ := hc k hlt
      have hlt2 := hblk.lt
      have HB := hide hblk
      clear hblk hc
      go_wp2_with fail
      refine (toIns_any _ _ _ _ _ _ _).mono ?_; rintro e w1 ⟨rfl, hb1⟩
      have hblk1 := HB.out.below hb1 hlt2
      have hsz' := hsz.out
      obtain ⟨v0, hv0⟩ : ∃ v, cs[k * 6]? = some v := ⟨_, Array.getElem?_eq_getElem (by omega)⟩
      obtain ⟨v1, hv1⟩ : ∃ v, cs[k * 6 + 1]? = some v := ⟨_, Array.getElem?_eq_getElem (by omega)⟩
      obtain ⟨v2, hv2⟩ : ∃ v, cs[k * 6 + 2]? = some v := ⟨_, Array.getElem?_eq_getElem (by omega)⟩
      obtain ⟨v3, hv3⟩ : ∃ v, cs[k * 6 + 3]? = some v := ⟨_, Array.getElem?_eq_getElem (by omega)⟩
      obtain ⟨v4, hv4⟩ : ∃ v, cs[k * 6 + 4]? = some v := ⟨_, Array.getElem?_eq_getElem (by omega)⟩
      obtain ⟨v5, hv5⟩ : ∃ v, cs[k * 6 + 5]? = some v := ⟨_, Array.getElem?_eq_getElem (by omega)⟩
      have g0 := (hblk1.cell _).trans hv0
      have g1 := (hblk1.cell _).trans hv1
      have g2 := (hblk1.cell _).trans hv2
      have g3 := (hblk1.cell _).trans hv3
      have g4 := (hblk1.cell _).trans hv4
      have g5 := (hblk1.cell _).trans hv5
      have z0 := hblk1.frozen (k * 6)
      have z1 := hblk1.frozen (k * 6 + 1)
      have z2 := hblk1.frozen (k * 6 + 2)
      have z3 := hblk1.frozen (k * 6 + 3)
      have z4 := hblk1.frozen (k * 6 + 4)
      have z5 := hblk1.frozen (k * 6 + 5)
      have HB1 := hide hblk1
      clear hv0 hv1 hv2 hv3 hv4 hv5 hblk1 hsz'
      go_wp2_with fail
      go_roundw
      case rel =>
        have hs := hsz.out
        refine ⟨k + 1, set6 cs (k * 6) (getd l k), by omega, by go_num, HB1.out.put6 _ _, hide (by rw [set6_size]; exact hs), hide (fun j hj => ?_), below_put6 (below_then hb hb1) (Nat.le_refl _) _ _⟩
        by_cases e : k = j
        · subst e; exact InsCells.at_ _ _ _ (by omega)
        · exact (hcs.out j (by omega)).far (by omega)
      case measure => simp [intOf]; omega
    · obtain rfl : k = l.length := by omega
      go_wp2
      go_ret
      refine ⟨_, _, rfl, Nat.le_refl _, ⟨ha.1, fun hn => ⟨w.heap.size, 0, rfl, ⟨Nat.le_refl _, hblk.lt⟩, fun j hj => ?_⟩⟩, hb⟩
      rw [Nat.zero_add]
      exact hblk.insIn (hcs.out j hj)

set_option maxHeartbeats 800000 in
theorem toThread_any (A : Option Addr) (l : List InsD) (c : Nat) (S : Nat → Prop) (w : World) (hn : l.length ≤ 1048576) (hS : ∀ b, S b → b < w.heap.size) (ha : InssAt w S A l) :
    Calls Try.prog 138 #[.agg #[.slice A l.length c]] w fun e w' => ∃ A' c', e = .returned (.agg #[.slice A' l.length c']) ∧ l.length ≤ c' ∧ InssAt w' (New w.heap.size w'.heap.size) A' l ∧ Below w.heap.size w w' := by
  go_enter Try.func138, Try.ntmps138
  go_wp2_with fail
  have hb3 := ((below1 w (Obj.cells #[Value.slice A l.length c] 168)).alloc (by simp) (Obj.cells #[Value.slice none 0 0] 99)).alloc (by simp; omega) (Obj.cells #[Value.slice none 0 0] 99)
  refine (toInsS_any A l c S _ hn (fun b h => Nat.lt_of_lt_of_le (hS b h) hb3.size) (ha.below hb3 hS)).mono ?_
  rintro e w1 ⟨A', c', rfl, hcap, hl, hb1⟩
  obtain ⟨hcl1, hfz1⟩ := bcell hb1
  have hz1 := hb1.size
  simp at hz1
  go_wp2_with fail
  refine bodyPost_ret (v := .agg #[.slice A' l.length c']) (by simp [results, Try.results138, go_sem, hcl1]; done) rfl ⟨A', c', rfl, hcap, ?_, ?_⟩
  · refine ((hl.set _ (fun h => ?_)).set _ (fun h => ?_)).more (fun b h => ?_)
    · have := h.1; simp at this; omega
    · have := h.1; simp at this; omega
    · have h1 := h.1; have h2 := h.2; simp at h1; exact ⟨by omega, by simpa [World.setCell] using h2⟩
  · exact ((below_then hb3 hb1).setCell (by simp; omega) _).setCell (by simp) _
end Go.Proofs.Ytfkaacfeikmabaa

namespace Go.Proofs.Ytfkaacfeikmabaa
open Go.RowKit

theorem gett_le (ts : List (List InsD)) (k : Nat) (h : k < ts.length) : (gett ts k).length ≤ tsSize ts := by
  have h1 := insTo_succ ts k h
  have h2 := insTo_le ts (k + 1)
  omega

def ThreadCells (w : World) (S : Nat → Prop) (cs : Array Value) (ts : List (List InsD)) (k : Nat) : Prop :=
  ∀ j, j < k → ∃ A c, cs[j]? = some (.slice A (gett ts j).length c) ∧ (gett ts j).length ≤ c ∧ InssAt w S A (gett ts j)

theorem Try.infoThread : (Try.prog.info? 99).map (fun i => (i.zero, i.size, i.bytes)) = some (some (.agg #[.slice none 0 0]), 1, 24) := by kernel_rfl
theorem make_threads (n : Nat) (hn : n ≤ 1048576) (W : World) : (Instr.makeSlice 29 (.int .i64 (n : Int)) (.int .i64 (n : Int))).run Try.prog W = .ok (.slice (some ⟨W.heap.size, 0, none⟩) n n) (W.alloc (.cells (zrow #[.slice none 0 0] n) 99)) := by
  obtain ⟨i0, hi, hz0, hz1, hz2⟩ := info_parts Try.infoThread
  have hr := run_make (P := Try.prog) W 29 99 i0 _ Try.underlying29 hi hz0 .i64 .i64 n n (by omega) (Int.le_refl _) (by rw [hz2]; omega) (by omega)
  simp only [Int.toNat_natCast, hz1, Nat.mul_one] at hr
  exact hr

set_option maxHeartbeats 800000 in
theorem toThreadS_any (A : Option Addr) (ts : List (List InsD)) (c : Nat) (S : Nat → Prop) (w : World) (hn : tsSize ts ≤ 1048576) (hS : ∀ b, S b → b < w.heap.size) (ha : ThreadsAt w S A ts) :
    Calls Try.prog 63 #[.slice A ts.length c] w fun e w' => ∃ A' c', e = .returned (.slice A' ts.length c') ∧ ts.length ≤ c' ∧ ThreadsAt w' (New w.heap.size w'.heap.size) A' ts ∧ Below w.heap.size w w' := by
  have hn2 : ts.length ≤ 1048576 := by have := insTo_le ts 0; omega
  have hmk := make_threads ts.length hn2
  go_enter Try.func63, Try.ntmps63
  go_wp2
  clear hmk
  go_loopw [4] (fun i wr => ∃ (k : Nat) (cs : Array Value), k ≤ ts.length ∧ i = .int .i64 k ∧ Blk wr w.heap.size 99 cs ∧ Hid (cs.size = ts.length) ∧ ThreadCells wr (New (w.heap.size + 1) wr.heap.size) cs ts k ∧ Below w.heap.size w wr) (fun i _ => ts.length - (intOf i).toNat)
  case atStart => exact ⟨0, _, Nat.zero_le _, rfl, Blk.new _ _ _, hide (zrow_size _ _), fun j hj => by omega, below1 _ _⟩
  case round =>
    obtain ⟨k, cs, hk, rfl, hblk, hsz, hcs, hb⟩ := hrel
    by_cases hlt : k < ts.length
    · obtain ⟨b, off, rfl, hbB, hc⟩ := (ha.below hb hS).2 (by omega)
      obtain ⟨A', c', hcell, hcap, hin⟩ := hc k hlt
      have hlt2 := hblk.lt
      have hgl := gett_le ts k hlt
      have HB := hide hblk
      clear hblk hc
      go_wp2_with fail
      refine (toThread_any A' (gett ts k) c' S wr (by omega) (fun b h => Nat.lt_of_lt_of_le (hS b h) hb.size) hin).mono ?_
      rintro e w1 ⟨A2, c2, rfl, hcap2, hl, hb1⟩
      have hblk1 := HB.out.below hb1 hlt2
      obtain ⟨v0, hv0⟩ : ∃ v, cs[k]? = some v := ⟨_, Array.getElem?_eq_getElem (by have := hsz.out; omega)⟩
      have g0 := (hblk1.cell _).trans hv0
      have z0 := hblk1.frozen k
      have HB1 := hide hblk1
      clear hv0 hblk1
      go_wp2_with fail
      go_roundw
      case rel =>
        have hs1 := hb1.size
        refine ⟨k + 1, cs.setIfInBounds k (.slice A2 (gett ts k).length c2), by omega, by go_num, HB1.out.set_ _ _, hide (by rw [Array.size_setIfInBounds]; exact hsz.out), fun j hj => ?_, (below_then hb hb1).setCell (Nat.le_refl _) _⟩
        by_cases e : k = j
        · subst e
          refine ⟨A2, c2, by rw [Array.getElem?_setIfInBounds, if_pos rfl, if_pos (by have := hsz.out; omega)], hcap2, ?_⟩
          exact (hl.set _ (fun h => by have := h.1; simp at this; omega)).more (fun b h => ⟨by have := h.1; omega, by have := h.2; simpa [World.setCell] using this⟩)
        · obtain ⟨A3, c3, h1, h3, h2⟩ := hcs j (by omega)
          refine ⟨A3, c3, by rw [Array.getElem?_setIfInBounds, if_neg e]; exact h1, h3, ?_⟩
          exact ((h2.below hb1 (fun b h => h.2)).set _ (fun h => by have := h.1; simp at this; omega)).more (fun b h => ⟨h.1, by have := h.2; simp [World.setCell]; omega⟩)
      case measure => simp [intOf]; omega
    · obtain rfl : k = ts.length := by omega
      go_wp2
      go_ret
      refine ⟨_, _, rfl, Nat.le_refl _, ⟨ha.1, fun hn => ⟨w.heap.size, 0, rfl, ⟨Nat.le_refl _, hblk.lt⟩, fun j hj => ?_⟩⟩, hb⟩
      rw [Nat.zero_add, hblk.cell]
      obtain ⟨A3, c3, h1, h3, h2⟩ := hcs j hj
      exact ⟨A3, c3, h1, h3, h2.more (fun b h => ⟨by have := h.1; omega, h.2⟩)⟩

set_option maxHeartbeats 800000 in
theorem toProg_any (v : Value) (p : ProgD) (S : Nat → Prop) (w : World) (hn : progSize p ≤ 1048576) (hS : ∀ b, S b → b < w.heap.size) (hp : ProgAt w S v p) :
    Calls Try.prog 16 #[v] w fun e w' => ∃ v', e = .returned v' ∧ ProgAt w' (New w.heap.size w'.heap.size) v' p ∧ Below w.heap.size w w' := by
  obtain ⟨A, c, A', c', rfl, hcc, hi, ht⟩ := hp
  have hn1 : p.init.length ≤ 1048576 := by unfold progSize at hn; omega
  have hn2 : tsSize p.ts ≤ 1048576 := by unfold progSize at hn; omega
  clear hn
  go_enter Try.func16, Try.ntmps16
  go_wp2_with fail
  have hb3 := ((below1 w (Obj.cells #[Value.slice A p.init.length c, Value.slice A' p.ts.length c'] 25)).alloc (by simp) (Obj.cells #[Value.slice none 0 0, Value.slice none 0 0] 31)).alloc (by simp; omega) (Obj.cells #[Value.slice none 0 0, Value.slice none 0 0] 31)
  refine (toIntS_any A p.init c S _ hn1 (fun b h => Nat.lt_of_lt_of_le (hS b h) hb3.size) (hi.below hb3 hS)).mono ?_
  rintro e w1 ⟨A1, c1, rfl, hcap1, hl1, hb1⟩
  have kA := (Blk.new ((w.alloc (Obj.cells #[Value.slice A p.init.length c, Value.slice A' p.ts.length c'] 25)).alloc (Obj.cells #[Value.slice none 0 0, Value.slice none 0 0] 31)) 31 #[Value.slice none 0 0, Value.slice none 0 0]).below hb1 (by simp)
  have kB := ((Blk.new (w.alloc (Obj.cells #[Value.slice A p.init.length c, Value.slice A' p.ts.length c'] 25)) 31 #[Value.slice none 0 0, Value.slice none 0 0]).alloc _).below hb1 (by simp)
  have kC := (((Blk.new w 25 #[Value.slice A p.init.length c, Value.slice A' p.ts.length c']).alloc _).alloc _).below hb1 (by simp; omega)
  simp only [World.size_alloc] at kA kB kC
  have hz1 := hb1.size
  simp at hz1
  have a0 := kA.cell 0
  have a1 := kA.frozen 0
  have a2 := kC.cell 1
  have KA := hide kA
  have KB := hide kB
  clear kA kB kC
  go_wp2_with fail
  clear a0 a1 a2
  have hbA := (below_then hb3 hb1).setCell (p := ⟨w.heap.size + 1 + 1, 0, none⟩) (by simp; omega) (.slice A1 p.init.length c1)
  refine (toThreadS_any A' p.ts c' S _ hn2 (fun b h => Nat.lt_of_lt_of_le (hS b h) hbA.size) (ht.below hbA hS)).mono ?_
  rintro e w2 ⟨A2, c2, rfl, hcap2, hl2, hb2⟩
  have hz3 : (w1.setCell ⟨w.heap.size + 1 + 1, 0, none⟩ (.slice A1 p.init.length c1)).heap.size = w1.heap.size := by simp [World.setCell]
  have hz2 := hb2.size
  rw [hz3] at hz2
  have kA := (KA.out.set_ 0 (.slice A1 p.init.length c1)).below hb2 (by rw [hz3]; omega)
  have kB := (KB.out.far (p := ⟨w.heap.size + 1 + 1, 0, none⟩) (by simp) (.slice A1 p.init.length c1)).below hb2 (by rw [hz3]; omega)
  have a0 := kA.cell 0
  have a1 := kA.cell 1
  have a2 := kA.frozen 1
  have b0 := kB.cell 0
  have b1 := kB.cell 1
  have b2 := kB.frozen 0
  have b3 := kB.frozen 1
  simp only [List.setIfInBounds_toArray, List.set_cons_zero, List.getElem?_toArray, List.getElem?_cons_zero, List.getElem?_cons_succ] at a0 a1 b0 b1
  have KA2 := hide kA
  have KB2 := hide kB
  clear kA kB KA KB hz3
  go_wp2_with fail
  have hl1' : IntsAt w1 (New (w.heap.size + 3) w1.heap.size) A1 p.init := hl1.more (fun b h => ⟨by have := h.1; simp at this; omega, h.2⟩)
  have hl2' : ThreadsAt w2 (New (w.heap.size + 3) w2.heap.size) A2 p.ts := hl2.more (fun b h => ⟨by have := h.1; simp [World.setCell] at this; omega, h.2⟩)
  have hl3 : IntsAt w2 (New (w.heap.size + 3) w1.heap.size) A1 p.init := (hl1'.set (p := ⟨w.heap.size + 1 + 1, 0, none⟩) _ (fun h => by have := h.1; simp at this; omega)).below hb2 (fun b h => by have := h.2; simp [World.setCell]; omega)
  refine bodyPost_ret (v := .agg #[.slice A1 p.init.length c1, .slice A2 p.ts.length c2]) (by simp [results, Try.results16, go_sem, b0, b1]; done) rfl ⟨_, rfl, ⟨A1, c1, A2, c2, rfl, ⟨hcap1, hcap2⟩, ?_, ?_⟩, ?_⟩
  · refine (((hl3.set _ (fun h => ?_)).set _ (fun h => ?_)).set _ (fun h => ?_)).more (fun b h => ⟨by have := h.1; omega, by have := h.2; simp [World.setCell]; omega⟩)
    all_goals (have := h.1; simp at this; try omega)
  · refine (((hl2'.set _ (fun h => ?_)).set _ (fun h => ?_)).set _ (fun h => ?_)).more (fun b h => ⟨by have := h.1; omega, by have := h.2; simp [World.setCell]; omega⟩)
    all_goals (have := h.1; simp at this; try omega)
  · exact (((below_then hbA hb2).setCell (by simp; omega) _).setCell (by simp) _).setCell (by simp) _
end Go.Proofs.Ytfkaacfeikmabaa

namespace Go.Proofs.Ytfkaacfeikmabaa
open Go.RowKit

attribute [local go_sem ↓] Go.wp_at_zero Go.wp_at_succ

theorem small_in {x : Int} (h : 0 ≤ x ∧ x ≤ 1000) : IntKind.i64.wrap x = x := by rw [IntKind.wrap_i64]; omega

def insVals (d : InsD) : List Value := [.int .i64 d.o, .int .i64 d.r, .int .i64 d.a, .int .i64 d.b, .int .i64 d.x, .int .i64 d.n]
def flat (l : List InsD) : List Value := l.flatMap insVals

theorem own_keep {w w' : World} {base : Nat} {e : TypeId} {size : Nat} {v : Value} {n : Nat} {xs : List Value} (h : w.ownsRow base e size v n xs)
    (hk : ∀ b, base ≤ b → b < w.heap.size → w'.heap[b]? = w.heap[b]?) : w'.ownsRow base e size v n xs := by
  refine ⟨h.1, h.2.imp id ?_⟩
  rintro ⟨g, cap, cur, hv, hb, hg, rest⟩
  refine ⟨g, cap, cur, hv, hb, ?_, rest⟩
  rw [hk g hb, hg]
  rcases Nat.lt_or_ge g w.heap.size with hlt | hge
  · exact hlt
  · rw [Array.getElem?_eq_none hge] at hg; cases hg

theorem own_base {w : World} {B B' : Nat} {e : TypeId} {size : Nat} {v : Value} {n : Nat} {xs : List Value} (h : w.ownsRow B e size v n xs) (hB : B' ≤ B) : w.ownsRow B' e size v n xs :=
  ⟨h.1, h.2.imp id (fun ⟨q, cap, cur, h1, h2, h3⟩ => ⟨q, cap, cur, h1, Nat.le_trans hB h2, h3⟩)⟩

structure ThrAt (g : Nat) (w0 : World) (T : Nat) (l : List InsD) (v : Value) (w : World) : Prop where
  cur : Cur w g
  only : Only g w0 w
  blk : Blk w T 99 #[v]
  own : w.ownsRow (T + 1) 72 6 v l.length (flat l)
  lo : w0.heap.size + 1 = T
  out : ∃ u, Blk w w0.heap.size 99 #[u]

section
variable {g T : Nat} {w0 w w' : World} {l : List InsD} {v : Value}
theorem ThrAt.cell (h : ThrAt g w0 T l v w) : w.cell? ⟨T, 0, none⟩ = some v := h.blk.cell 0
theorem ThrAt.frozen (h : ThrAt g w0 T l v w) : w.frozen? ⟨T, 0, none⟩ = false := h.blk.frozen 0
theorem ThrAt.call (h : ThrAt g w0 T l v w) (hg : g < w0.heap.size) (hc : Cur w' g) (ho : Only g w w') : ThrAt g w0 T l v w' :=
  ⟨hc, h.only.trans ho, h.blk.only ho (by have := h.lo; omega), own_keep h.own (fun b hb hlt => ho.block b hlt (by have := h.lo; omega)), h.lo, h.out.imp fun _ k => k.only ho (by omega)⟩
theorem ThrAt.drew (h : ThrAt g w0 T l v w) : ThrAt g w0 T l v w.drew := ⟨h.cur, h.only.drew, h.blk, h.own, h.lo, h.out⟩
theorem ThrAt.alloc (h : ThrAt g w0 T l v w) (o : Obj) : ThrAt g w0 T l v (w.alloc o) :=
  ⟨h.cur.alloc o, h.only.alloc o, h.blk.alloc o, own_keep h.own (fun b _ hlt => Below.heap_alloc w o b hlt), h.lo, h.out.imp fun _ k => k.alloc o⟩

theorem ThrAt.far (h : ThrAt g w0 T l v w) {b : Nat} (hb : b ≤ T) : some b ≠ v.ownBlock := by
  rcases h.own.2 with ⟨rfl, _⟩ | ⟨q, cap, cur, rfl, hq, _⟩
  · simp [Value.ownBlock]
  · simp only [Value.ownBlock, ne_eq, Option.some.injEq]; omega
theorem ThrAt.grow (h : ThrAt g w0 T l v w) (hw : g < w0.heap.size) {w1 : World} {v' : Value} {d : InsD} {xs : List Value} (hxs : xs = flat l ++ insVals d) (ho : w1.ownsRow (T + 1) 72 6 v' (l.length + 1) xs) (hgr : w.grownBy w1 v.ownBlock) :
    (w1.cell? ⟨T, 0, none⟩ = some v ∧ w1.frozen? ⟨T, 0, none⟩ = false) ∧ ThrAt g w0 T (l ++ [d]) v' (w1.setCell ⟨T, 0, none⟩ v') := by
  have hT := h.blk.lt
  have hlo := h.lo
  have hB : Blk w1 T 99 #[v] := (hgr.block T hT (h.far (Nat.le_refl _))).trans h.blk
  have hbel : Below (g + 1) w w1 := ⟨hgr.os, hgr.tape, hgr.output, hgr.size, fun k hk => hgr.block k (by omega) (h.far (by omega))⟩
  have hlen : (l ++ [d]).length = l.length + 1 := by simp
  have hfl : flat (l ++ [d]) = flat l ++ insVals d := by simp [flat]
  refine ⟨⟨hB.cell 0, hB.frozen 0⟩, ⟨(h.cur.below hbel).setCell (by show g < T; omega) _, ?_, hB.set_ 0 v', ?_, h.lo, h.out.imp fun _ k => Blk.far ((hgr.block w0.heap.size (Blk.lt k) (h.far (by omega))).trans k) (by show w0.heap.size ≠ T; omega) _⟩⟩
  · refine Only.setCell ?_ (.inr (by show w0.heap.size ≤ T; omega)) _
    have hz := h.only.size
    exact ⟨hgr.os.trans h.only.os, hgr.tape.trans h.only.tape, hgr.output.trans h.only.output, Nat.le_trans h.only.size hgr.size, fun k hk hk2 => (hgr.block k (by omega) (h.far (by omega))).trans (h.only.block k hk hk2)⟩
  · rw [hlen, hfl, ← hxs]
    exact own_keep ho (fun b hb _ => Below.heap_setCell w1 ⟨T, 0, none⟩ v' b (by show b ≠ T; omega))
end

theorem flat_get (l : List InsD) (k j : Nat) (hk : k < l.length) (hj : j < 6) : (flat l)[k * 6 + j]? = (insVals (getd l k))[j]? := by
  induction l generalizing k with
  | nil => simp at hk
  | cons d l ih =>
    have e : flat (d :: l) = insVals d ++ flat l := by simp [flat]
    rw [e]
    cases k with
    | zero =>
      rw [List.getElem?_append_left (by simp [insVals]; omega)]
      simp [getd]
    | succ k =>
      rw [List.getElem?_append_right (by simp [insVals]; omega)]
      have h2 := ih k (by simpa using hk)
      have e2 : (k + 1) * 6 + j - (insVals d).length = k * 6 + j := by simp [insVals]; omega
      rw [e2, h2]
      simp [getd]

theorem own_inss {B : Nat} {w : World} {l : List InsD} {v : Value} (h : w.ownsRow B 72 6 v l.length (flat l)) : ∃ A c, v = .slice A l.length c ∧ l.length ≤ c ∧ InssAt w (fun b => some b = v.ownBlock ∧ B ≤ b ∧ b < w.heap.size) A l := by
  rcases h.2 with ⟨hv, hn⟩ | ⟨q, cap, cur, hv, hq, hh, hcap, hmax, hcs, ht⟩
  · refine ⟨none, 0, by rw [hn]; exact hv, by omega, by omega, fun hl => by omega⟩
  · have hmx : maxLen = 9223372036854775807 := rfl
    have hlt : q < w.heap.size := by
      rcases Nat.lt_or_ge q w.heap.size with hlt | hge
      · exact hlt
      · rw [Array.getElem?_eq_none hge] at hh; cases hh
    refine ⟨_, _, hv, hcap, by omega, fun _ => ⟨q, 0, rfl, ⟨by rw [hv]; rfl, hq, hlt⟩, fun k hk => ?_⟩⟩
    have hc : ∀ j, j < 6 → w.cell? ⟨q, 0 + k * 6 + j, none⟩ = (insVals (getd l k))[j]? := fun j hj => by
      rw [cell_of_row w q _ cur _ (0, 0) hh, ← flat_get l k j hk hj, ← ht, List.getElem?_take, if_pos (by omega), Array.getElem?_toList, Nat.zero_add]
    exact ⟨by have := hc 0 (by omega); simpa [insVals] using this, hc 1 (by omega), hc 2 (by omega), hc 3 (by omega), hc 4 (by omega), hc 5 (by omega)⟩

theorem l1ins_thr {g T : Nat} {w0 w : World} {l : List InsD} {v : Value} (i cells n : Int) (hi : 0 ≤ i ∧ i < n) (hn : n ≤ 30) (hcl : 1 ≤ cells ∧ cells ≤ 6) (hg : g < w0.heap.size) (h : ThrAt g w0 T l v w) :
    Calls Try.prog 207 #[.pointer (some ⟨g, 0, none⟩), .int .i64 i, .int .i64 cells, .int .i64 n] w fun e w' => ∃ d : InsD, e = .returned (.agg #[.int .i64 d.o, .int .i64 d.r, .int .i64 d.a, .int .i64 d.b, .int .i64 d.x, .int .i64 d.n]) ∧ Small d ∧ ThrAt g w0 T l v w' ∧ w'.cell? ⟨T, 0, none⟩ = some v ∧ w'.frozen? ⟨T, 0, none⟩ = false := by
  refine (l1ins_any g i cells n w hi hn hcl h.cur).mono ?_
  rintro e w' ⟨d, rfl, hd, hc, ho⟩
  have k := h.call hg hc ho
  exact ⟨d, rfl, hd, k, k.cell, k.frozen⟩

theorem l1Below_thr {g T : Nat} {w0 w : World} {l : List InsD} {v : Value} (n : Int) (hn : 1 ≤ n) (hn2 : n ≤ 100) (hg : g < w0.heap.size) (h : ThrAt g w0 T l v w) :
    Calls Try.prog 126 #[.pointer (some ⟨g, 0, none⟩), .int .i64 n] w fun e w' => ∃ x : Int, e = .returned (.int .i64 x) ∧ (0 ≤ x ∧ x < n) ∧ ThrAt g w0 T l v w' ∧ w'.cell? ⟨T, 0, none⟩ = some v ∧ w'.frozen? ⟨T, 0, none⟩ = false := by
  refine (l1Below_any g n w (by omega) (by omega) h.cur).mono ?_
  rintro e w' ⟨x, rfl, hx, hc, ho⟩
  have k := h.call hg hc ho
  exact ⟨x, rfl, belowP hx (by omega), k, k.cell, k.frozen⟩

set_option maxRecDepth 100000 in
set_option maxHeartbeats 1600000 in
theorem l1thread_any (g : Nat) (cells most : Int) (w : World) (hm : 1 ≤ most ∧ most ≤ 29) (hcl : 1 ≤ cells ∧ cells ≤ 6) (hc : Cur w g) :
    Calls Try.prog 196 #[.pointer (some ⟨g, 0, none⟩), .int .i64 cells, .int .i64 most] w fun e w' => ∃ (v : Value) (l : List InsD), e = .returned (.agg #[v]) ∧ (1 ≤ l.length ∧ (l.length : Int) ≤ most + 1) ∧ w'.ownsRow w.heap.size 72 6 v l.length (flat l) ∧ (∀ d ∈ l, Small d) ∧ Cur w' g ∧ Only g w w' := by
  obtain ⟨hm0, hm1⟩ := hm
  obtain ⟨hcl0, hcl1⟩ := hcl
  have hg := hc.lt
  obtain ⟨i0, hi0, hz0, hz1, hz2⟩ := info_parts Try.infoIns
  have hi0 := hide hi0
  have ht : ThrAt g w (w.heap.size + 1) [] (.slice none 0 0) ((w.alloc (Obj.cells #[Value.slice none 0 0] 99)).alloc (Obj.cells #[Value.slice none 0 0] 99)) :=
    ⟨(hc.alloc _).alloc _, ((Only.refl g w).alloc _).alloc _, by have := Blk.new (w.alloc (Obj.cells #[Value.slice none 0 0] 99)) 99 #[Value.slice none 0 0]; simpa using this, ⟨rfl, .inl ⟨rfl, rfl⟩⟩, rfl, ⟨_, (Blk.new w 99 #[Value.slice none 0 0]).alloc _⟩⟩
  have HC := hide hc
  clear hc
  go_enter Try.func196, Try.ntmps196
  go_wp2_with fail
  refine (l1Below_thr most hm0 (by omega) (by omega) ht).mono ?_
  rintro e w1 ⟨x, rfl, hx, ht1, hT, hF⟩
  clear ht
  obtain ⟨hx0, hx1⟩ := hx
  have hs1 := ht1.blk.lt
  have ht1 := ht1.drew
  go_wp2_with fail
  go_cut [] (fun wx => ∃ d v, Small d ∧ ThrAt g w (w.heap.size + 1) [d] v wx)
  case first =>
    go_region_law (first
      | (go_simp; refine (l1Below_thr (T := w.heap.size + 1) (w0 := w) (l := []) (v := .slice none 0 0) 2 (by omega) (by omega) (by omega) (by assumption)).mono ?_; rintro e w2 ⟨x, rfl, ⟨hx0, hx1⟩, ht2, hT, hF⟩; have hsz2 := ht2.blk.lt; have hw3 : IntKind.i64.wrap (3 + x) = 3 + x := small_in (by omega); have hw1 : IntKind.i64.wrap (1 + x) = 1 + x := small_in (by omega); go_simp)
      | (refine step_append_lies _ (by rfl) _ _ _ (by rfl) (w.heap.size + 2) 72 i0 _ 6 48 Try.underlying97 hi0.out hz0 hz1 hz2 rfl (by omega) (.slice none 0 0) 0 [] (by rfl) ((by assumption : ThrAt g w (w.heap.size + 1) [] (.slice none 0 0) _).alloc _).own _ 1 1 _ (by rfl) ?hl (World.news_of_block (heap_alloc_new _ _)) ?h1 (by omega) (by decide) (by decide) ?hb _ (by rfl) ?_
         case hl => rfl
         case h1 => simp [Value.oneCell']
         case hb => simp; omega
         intro gg cap w4 hown hgrow hat hlt
         obtain ⟨⟨hT4, hF4⟩, ht4⟩ := ThrAt.grow (g := g) (T := w.heap.size + 1) (w0 := w) (l := []) (v := .slice none 0 0) (d := ⟨1, _, 0, 0, 0, _⟩) ((by assumption : ThrAt g w (w.heap.size + 1) [] (.slice none 0 0) _).alloc _) hg rfl hown hgrow))
    all_goals
      (first | go_meet | (go_wp2_with fail; go_meet))
      exact ⟨_, _, by simp only [Small]; omega, ht4⟩
  case rest =>
    obtain ⟨d0, v0, hd0, ht0⟩ := hcut
    clear ht1 hT hF
    go_wp2_with fail
    go_loopw [10] (fun i wr => ∃ (l : List InsD) (v : Value), i = .int .i64 l.length ∧ ThrAt g w (w.heap.size + 1) l v wr ∧ Hid (∀ d ∈ l, Small d) ∧ 1 ≤ l.length ∧ (l.length : Int) ≤ 1 + x + 1) (fun i _ => (1 + x + 1).toNat - (intOf i).toNat)
    case atStart => exact ⟨[d0], v0, rfl, ht0, hide (by simpa using hd0), by simp, by simp; omega⟩
    case round =>
      obtain ⟨l, v, rfl, ht2, hsm, hl1, hl2⟩ := hrel
      have hs2 := ht2.blk.lt
      have hT2 := ht2.cell
      have hF2 := ht2.frozen
      by_cases hlt : (l.length : Int) < 1 + x + 1
      · have ht3 := ht2.drew
        go_wp2_with fail
        go_region_law (first
          | (go_simp; refine (l1ins_thr (T := w.heap.size + 1) (w0 := w) (l := l) (v := v) _ _ _ ⟨by omega, hlt⟩ (by omega) ⟨hcl0, hcl1⟩ (by omega) (by assumption)).mono ?_; rintro e w2 ⟨d, rfl, hd, ht4, hT4, hF4⟩; have hsz2 := ht4.blk.lt; go_simp)
          | (refine step_append_lies _ (by rfl) _ _ _ (by rfl) (w.heap.size + 2) 72 i0 _ 6 48 Try.underlying97 hi0.out hz0 hz1 hz2 rfl (by omega) v l.length (flat l) (by rfl) ((by assumption : ThrAt g w (w.heap.size + 1) l v _).alloc _).own _ 1 1 _ (by rfl) ?hl (World.news_of_block (heap_alloc_new _ _)) ?h1 (by omega) ?h63 ?hby ?hb _ (by rfl) ?_
             case hl => rfl
             case h1 => simp [Value.oneCell']
             case h63 => (have : maxLen = 9223372036854775807 := rfl); omega
             case hby => omega
             case hb => simp; omega
             intro gg cap w4 hown hgrow hat hlt
             obtain ⟨⟨hT5, hF5⟩, ht5⟩ := ThrAt.grow (g := g) (T := w.heap.size + 1) (w0 := w) (l := l) (v := v) (d := d) ((by assumption : ThrAt g w (w.heap.size + 1) l v _).alloc _) hg rfl hown hgrow))
        all_goals
          go_wp2_with fail
          go_roundw
          case rel => exact ⟨l ++ [d], _, by simp, ht5, hide (fun y hy => by
            rcases List.mem_append.1 hy with h | h
            · exact hsm.out y h
            · rw [List.mem_singleton.1 h]; exact hd), by simp, by simp; omega⟩
          case measure => simp [intOf]; omega
      · obtain ⟨A, c, rfl, -, -⟩ := own_inss ht2.own
        have hr := hide ht2.only
        have hcu := hide ht2.cur
        obtain ⟨u, ho⟩ := ht2.out
        have e0 : wr.cell? ⟨w.heap.size, 0, none⟩ = some u := ho.cell 0
        have z0 := ho.frozen 0
        have hown := hide ht2.own
        clear ht2 ho
        go_wp2_with fail
        refine bodyPost_ret (v := .agg #[.slice A l.length c]) (by simp [results, Try.results196, go_sem, e0]; done) rfl ⟨_, rfl, l, ⟨hl1, by omega⟩, ?_, hsm.out, ?_, ?_⟩
        · refine own_base (own_keep hown.out (fun b hb _ => Below.heap_setCell wr ⟨w.heap.size, 0, none⟩ _ b (by show b ≠ w.heap.size; omega))) (by omega)
        · exact hcu.out.setCell (by show g < w.heap.size; omega) _
        · exact hr.out.setCell (.inr (Nat.le_refl _)) _
end Go.Proofs.Ytfkaacfeikmabaa
