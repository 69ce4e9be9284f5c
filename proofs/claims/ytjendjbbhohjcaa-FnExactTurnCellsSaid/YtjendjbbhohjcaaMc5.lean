/- laws.toProg: the copy, its blocks told by their types. -/
import Derived.Test.YtjendjbbhohjcaaMc0
import Derived.Test.YtjendjbbhohjcaaMc3
import Derived.Test.YtjendjbbhohjcaaMc4
import Derived.Test.YtjendjbbhohjcaaRows
import Derived.Deep.OwnRows
namespace Go.Proofs.Ytjendjbbhohjcaa
open Go.RowKit

set_option maxHeartbeats 800000 in
theorem toIntS_any (A : Option Addr) (zs : List Int) (c : Nat) (S : Nat → Prop) (w : World) (hn : zs.length ≤ 1048576) (hS : ∀ b, S b → b < w.heap.size) (ha : IntsAt w S A zs) :
    Calls Try.prog 42 #[.slice A zs.length c] w fun e w' => ∃ A' c', e = .returned (.slice A' zs.length c') ∧ zs.length ≤ c' ∧ IntsAt w' (New w.heap.size w'.heap.size) A' zs ∧ Below w.heap.size w w' := by
  have hmk := make_ints zs.length hn
  go_enter Try.func42, Try.ntmps42
  go_wp2
  clear hmk
  go_loopw [4] (fun i wr => ∃ (k : Nat) (cs : Array Value), k ≤ zs.length ∧ i = .int .i64 k ∧ Blk wr w.heap.size 3 cs ∧ Hid (cs.size = zs.length) ∧ Hid (∀ j, j < k → cs[j]? = some (.int .i64 (geti zs j))) ∧ Below w.heap.size w wr) (fun i _ => zs.length - (intOf i).toNat)
  case atStart => exact ⟨0, _, Nat.zero_le _, rfl, Blk.new _ _ _, hide (zrow_size1 _ _), hide (fun j hj => by omega), below1 _ _⟩
  case round =>
    obtain ⟨k, cs, hk, rfl, hblk, hsz, hcs, hb⟩ := hrel
    by_cases hlt : k < zs.length
    · obtain ⟨b, off, rfl, hbB, hc⟩ := (ha.below hb hS).2 (by omega)
      have hcell := hc k hlt
      obtain ⟨v0, hv0⟩ : ∃ v0, cs[k]? = some v0 := ⟨cs[k]'(by have := hsz.out; omega), Array.getElem?_eq_getElem _⟩
      have hdst := (hblk.cell k).trans hv0
      have hfz := hblk.frozen k
      have HB := hide hblk
      clear hv0 hblk hc
      go_wp2
      go_roundw
      case rel =>
        refine ⟨k + 1, cs.setIfInBounds k (.int .i64 (geti zs k)), by omega, by go_num, HB.out.set_ k _, hide (by rw [Array.size_setIfInBounds]; exact hsz.out), hide (fun j hj => ?_), hb.setCell (Nat.le_refl _) _⟩
        rw [Array.getElem?_setIfInBounds]
        by_cases e : k = j
        · subst e; rw [if_pos rfl, if_pos (by have := hsz.out; omega)]
        · rw [if_neg e]; exact hcs.out j (by omega)
      case measure => simp [intOf]; omega
    · obtain rfl : k = zs.length := by omega
      go_wp2
      go_ret
      refine ⟨_, _, rfl, Nat.le_refl _, ⟨ha.1, fun hn => ⟨w.heap.size, 0, rfl, ⟨Nat.le_refl _, hblk.lt⟩, fun j hj => ?_⟩⟩, hb⟩
      rw [Nat.zero_add, hblk.cell]
      exact hcs.out j hj
end Go.Proofs.Ytjendjbbhohjcaa

namespace Go.Proofs.Ytjendjbbhohjcaa
open Go.RowKit

set_option maxHeartbeats 800000 in
theorem toIns_any (o r a b x n : Int) (w : World) :
    Calls Try.prog 138 #[.agg #[.int .i64 o, .int .i64 r, .int .i64 a, .int .i64 b, .int .i64 x, .int .i64 n]] w fun e w' => e = .returned (.agg #[.int .i64 o, .int .i64 r, .int .i64 a, .int .i64 b, .int .i64 x, .int .i64 n]) ∧ Below w.heap.size w w' := by
  go_enter Try.func138, Try.ntmps138
  go_wp2
  refine bodyPost_ret (v := .agg #[.int .i64 o, .int .i64 r, .int .i64 a, .int .i64 b, .int .i64 x, .int .i64 n]) (by simp [results, Try.results138, go_sem]) rfl ⟨rfl, ?_⟩
  exact ((below1 _ _).alloc (by simp) _).alloc (by simp; omega) _

end Go.Proofs.Ytjendjbbhohjcaa

namespace Go.Proofs.Ytjendjbbhohjcaa
open Go.RowKit

theorem make_inss (n : Nat) (hn : n ≤ 1048576) (W : World) : (Instr.makeSlice 43 (.int .i64 (n : Int)) (.int .i64 (n : Int))).run Try.prog W = .ok (.slice (some ⟨W.heap.size, 0, none⟩) n n) (W.alloc (.cells (zrow #[.int .i64 0, .int .i64 0, .int .i64 0, .int .i64 0, .int .i64 0, .int .i64 0] (n * 6)) 89)) := by
  obtain ⟨i0, hi, hz0, hz1, hz2⟩ := info_parts Try.infoIns
  have hr := run_make (P := Try.prog) W 43 89 i0 _ Try.underlying43 hi hz0 .i64 .i64 n n (by omega) (Int.le_refl _) (by rw [hz2]; omega) (by omega)
  simp only [Int.toNat_natCast, hz1] at hr
  exact hr

set_option maxHeartbeats 800000 in
theorem toInsS_any (A : Option Addr) (l : List InsD) (c : Nat) (S : Nat → Prop) (w : World) (hn : l.length ≤ 1048576) (hS : ∀ b, S b → b < w.heap.size) (ha : InssAt w S A l) :
    Calls Try.prog 122 #[.slice A l.length c] w fun e w' => ∃ A' c', e = .returned (.slice A' l.length c') ∧ l.length ≤ c' ∧ InssAt w' (New w.heap.size w'.heap.size) A' l ∧ Below w.heap.size w w' := by
  have hmk := make_inss l.length hn
  go_enter Try.func122, Try.ntmps122
  go_wp2
  clear hmk
  go_loopw [4] (fun i wr => ∃ (k : Nat) (cs : Array Value), k ≤ l.length ∧ i = .int .i64 k ∧ Blk wr w.heap.size 89 cs ∧ Hid (cs.size = l.length * 6) ∧ Hid (∀ j, j < k → InsCells cs (j * 6) (getd l j)) ∧ Below w.heap.size w wr) (fun i _ => l.length - (intOf i).toNat)
  case atStart => exact ⟨0, _, Nat.zero_le _, rfl, Blk.new _ _ _, hide (zrow_size _ _), hide (fun j hj => by omega), below1 _ _⟩
  case round =>
    obtain ⟨k, cs, hk, rfl, hblk, hsz, hcs, hb⟩ := hrel
    by_cases hlt : k < l.length
    · obtain ⟨b, off, rfl, hbB, hc⟩ := (ha.below hb hS).2 (by omega)
      obtain ⟨c0, c1, c2, c3, c4, c5⟩ := hc k hlt
      have hlt2 := hblk.lt
      have HB := hide hblk
      clear hblk hc
      go_wp2_with fail
      refine (toIns_any _ _ _ _ _ _ _).mono ?_; rintro e w1 ⟨rfl, hb1⟩
      have hblk1 := HB.out.below hb1 hlt2
      have hsz' := hsz.out
      obtain ⟨v0, hv0⟩ : ∃ v, cs[k * 6]? = some v := ⟨_, Array.getElem?_eq_getElem (by omega)⟩
      obtain ⟨v1, hv1⟩ : ∃ v, cs[k * 6 + 1]? = some v := ⟨_, Array.getElem?_eq_getElem (by omega)⟩
      obtain ⟨v2, hv2⟩ : ∃ v, cs[k * 6 + 2]? = some v := ⟨_, Array.getElem?_eq_getElem (by omega)⟩
      obtain ⟨v3, hv3⟩ : ∃ v, cs[k * 6 + 3]? = some v := ⟨_, Array.getElem?_eq_getElem (by omega)⟩
      obtain ⟨v4, hv4⟩ : ∃ v, cs[k * 6 + 4]? = some v := ⟨_, Array.getElem?_eq_getElem (by omega)⟩
      obtain ⟨v5, hv5⟩ : ∃ v, cs[k * 6 + 5]? = some v := ⟨_, Array.getElem?_eq_getElem (by omega)⟩
      have g0 := (hblk1.cell _).trans hv0
      have g1 := (hblk1.cell _).trans hv1
      have g2 := (hblk1.cell _).trans hv2
      have g3 := (hblk1.cell _).trans hv3
      have g4 := (hblk1.cell _).trans hv4
      have g5 := (hblk1.cell _).trans hv5
      have z0 := hblk1.frozen (k * 6)
      have z1 := hblk1.frozen (k * 6 + 1)
      have z2 := hblk1.frozen (k * 6 + 2)
      have z3 := hblk1.frozen (k * 6 + 3)
      have z4 := hblk1.frozen (k * 6 + 4)
      have z5 := hblk1.frozen (k * 6 + 5)
      have HB1 := hide hblk1
      clear hv0 hv1 hv2 hv3 hv4 hv5 hblk1 hsz'
      go_wp2_with fail
      go_roundw
      case rel =>
        have hs := hsz.out
        refine ⟨k + 1, set6 cs (k * 6) (getd l k), by omega, by go_num, HB1.out.put6 _ _, hide (by rw [set6_size]; exact hs), hide (fun j hj => ?_), below_put6 (below_then hb hb1) (Nat.le_refl _) _ _⟩
        by_cases e : k = j
        · subst e; exact InsCells.at_ _ _ _ (by omega)
        · exact (hcs.out j (by omega)).far (by omega)
      case measure => simp [intOf]; omega
    · obtain rfl : k = l.length := by omega
      go_wp2
      go_ret
      refine ⟨_, _, rfl, Nat.le_refl _, ⟨ha.1, fun hn => ⟨w.heap.size, 0, rfl, ⟨Nat.le_refl _, hblk.lt⟩, fun j hj => ?_⟩⟩, hb⟩
      rw [Nat.zero_add]
      exact hblk.insIn (hcs.out j hj)

set_option maxHeartbeats 800000 in
theorem toThread_any (A : Option Addr) (l : List InsD) (c : Nat) (S : Nat → Prop) (w : World) (hn : l.length ≤ 1048576) (hS : ∀ b, S b → b < w.heap.size) (ha : InssAt w S A l) :
    Calls Try.prog 106 #[.agg #[.slice A l.length c]] w fun e w' => ∃ A' c', e = .returned (.agg #[.slice A' l.length c']) ∧ l.length ≤ c' ∧ InssAt w' (New w.heap.size w'.heap.size) A' l ∧ Below w.heap.size w w' := by
  go_enter Try.func106, Try.ntmps106
  go_wp2_with fail
  have hb3 := ((below1 w (Obj.cells #[Value.slice A l.length c] 128)).alloc (by simp) (Obj.cells #[Value.slice none 0 0] 45)).alloc (by simp; omega) (Obj.cells #[Value.slice none 0 0] 45)
  refine (toInsS_any A l c S _ hn (fun b h => Nat.lt_of_lt_of_le (hS b h) hb3.size) (ha.below hb3 hS)).mono ?_
  rintro e w1 ⟨A', c', rfl, hcap, hl, hb1⟩
  obtain ⟨hcl1, hfz1⟩ := bcell hb1
  have hz1 := hb1.size
  simp at hz1
  go_wp2_with fail
  refine bodyPost_ret (v := .agg #[.slice A' l.length c']) (by simp [results, Try.results106, go_sem, hcl1]; done) rfl ⟨A', c', rfl, hcap, ?_, ?_⟩
  · refine ((hl.set _ (fun h => ?_)).set _ (fun h => ?_)).more (fun b h => ?_)
    · have := h.1; simp at this; omega
    · have := h.1; simp at this; omega
    · have h1 := h.1; have h2 := h.2; simp at h1; exact ⟨by omega, by simpa [World.setCell] using h2⟩
  · exact ((below_then hb3 hb1).setCell (by simp; omega) _).setCell (by simp) _
end Go.Proofs.Ytjendjbbhohjcaa

namespace Go.Proofs.Ytjendjbbhohjcaa
open Go.RowKit

theorem gett_le (ts : List (List InsD)) (k : Nat) (h : k < ts.length) : (gett ts k).length ≤ tsSize ts := by
  have h1 := insTo_succ ts k h
  have h2 := insTo_le ts (k + 1)
  omega

def ThreadCells (w : World) (S : Nat → Prop) (cs : Array Value) (ts : List (List InsD)) (k : Nat) : Prop :=
  ∀ j, j < k → ∃ A c, cs[j]? = some (.slice A (gett ts j).length c) ∧ (gett ts j).length ≤ c ∧ InssAt w S A (gett ts j)

theorem Try.infoThread : (Try.prog.info? 45).map (fun i => (i.zero, i.size, i.bytes)) = some (some (.agg #[.slice none 0 0]), 1, 24) := by kernel_rfl
theorem make_threads (n : Nat) (hn : n ≤ 1048576) (W : World) : (Instr.makeSlice 35 (.int .i64 (n : Int)) (.int .i64 (n : Int))).run Try.prog W = .ok (.slice (some ⟨W.heap.size, 0, none⟩) n n) (W.alloc (.cells (zrow #[.slice none 0 0] n) 45)) := by
  obtain ⟨i0, hi, hz0, hz1, hz2⟩ := info_parts Try.infoThread
  have hr := run_make (P := Try.prog) W 35 45 i0 _ Try.underlying35 hi hz0 .i64 .i64 n n (by omega) (Int.le_refl _) (by rw [hz2]; omega) (by omega)
  simp only [Int.toNat_natCast, hz1, Nat.mul_one] at hr
  exact hr

set_option maxHeartbeats 800000 in
theorem toThreadS_any (A : Option Addr) (ts : List (List InsD)) (c : Nat) (S : Nat → Prop) (w : World) (hn : tsSize ts ≤ 1048576) (hS : ∀ b, S b → b < w.heap.size) (ha : ThreadsAt w S A ts) :
    Calls Try.prog 82 #[.slice A ts.length c] w fun e w' => ∃ A' c', e = .returned (.slice A' ts.length c') ∧ ts.length ≤ c' ∧ ThreadsAt w' (New w.heap.size w'.heap.size) A' ts ∧ Below w.heap.size w w' := by
  have hn2 : ts.length ≤ 1048576 := by have := insTo_le ts 0; omega
  have hmk := make_threads ts.length hn2
  go_enter Try.func82, Try.ntmps82
  go_wp2
  clear hmk
  go_loopw [4] (fun i wr => ∃ (k : Nat) (cs : Array Value), k ≤ ts.length ∧ i = .int .i64 k ∧ Blk wr w.heap.size 45 cs ∧ Hid (cs.size = ts.length) ∧ ThreadCells wr (New (w.heap.size + 1) wr.heap.size) cs ts k ∧ Below w.heap.size w wr) (fun i _ => ts.length - (intOf i).toNat)
  case atStart => exact ⟨0, _, Nat.zero_le _, rfl, Blk.new _ _ _, hide (zrow_size _ _), fun j hj => by omega, below1 _ _⟩
  case round =>
    obtain ⟨k, cs, hk, rfl, hblk, hsz, hcs, hb⟩ := hrel
    by_cases hlt : k < ts.length
    · obtain ⟨b, off, rfl, hbB, hc⟩ := (ha.below hb hS).2 (by omega)
      obtain ⟨A', c', hcell, hcap, hin⟩ := hc k hlt
      have hlt2 := hblk.lt
      have hgl := gett_le ts k hlt
      have HB := hide hblk
      clear hblk hc
      go_wp2_with fail
      refine (toThread_any A' (gett ts k) c' S wr (by omega) (fun b h => Nat.lt_of_lt_of_le (hS b h) hb.size) hin).mono ?_
      rintro e w1 ⟨A2, c2, rfl, hcap2, hl, hb1⟩
      have hblk1 := HB.out.below hb1 hlt2
      obtain ⟨v0, hv0⟩ : ∃ v, cs[k]? = some v := ⟨_, Array.getElem?_eq_getElem (by have := hsz.out; omega)⟩
      have g0 := (hblk1.cell _).trans hv0
      have z0 := hblk1.frozen k
      have HB1 := hide hblk1
      clear hv0 hblk1
      go_wp2_with fail
      go_roundw
      case rel =>
        have hs1 := hb1.size
        refine ⟨k + 1, cs.setIfInBounds k (.slice A2 (gett ts k).length c2), by omega, by go_num, HB1.out.set_ _ _, hide (by rw [Array.size_setIfInBounds]; exact hsz.out), fun j hj => ?_, (below_then hb hb1).setCell (Nat.le_refl _) _⟩
        by_cases e : k = j
        · subst e
          refine ⟨A2, c2, by rw [Array.getElem?_setIfInBounds, if_pos rfl, if_pos (by have := hsz.out; omega)], hcap2, ?_⟩
          exact (hl.set _ (fun h => by have := h.1; simp at this; omega)).more (fun b h => ⟨by have := h.1; omega, by have := h.2; simpa [World.setCell] using this⟩)
        · obtain ⟨A3, c3, h1, h3, h2⟩ := hcs j (by omega)
          refine ⟨A3, c3, by rw [Array.getElem?_setIfInBounds, if_neg e]; exact h1, h3, ?_⟩
          exact ((h2.below hb1 (fun b h => h.2)).set _ (fun h => by have := h.1; simp at this; omega)).more (fun b h => ⟨h.1, by have := h.2; simp [World.setCell]; omega⟩)
      case measure => simp [intOf]; omega
    · obtain rfl : k = ts.length := by omega
      go_wp2
      go_ret
      refine ⟨_, _, rfl, Nat.le_refl _, ⟨ha.1, fun hn => ⟨w.heap.size, 0, rfl, ⟨Nat.le_refl _, hblk.lt⟩, fun j hj => ?_⟩⟩, hb⟩
      rw [Nat.zero_add, hblk.cell]
      obtain ⟨A3, c3, h1, h3, h2⟩ := hcs j hj
      exact ⟨A3, c3, h1, h3, h2.more (fun b h => ⟨by have := h.1; omega, h.2⟩)⟩

set_option maxHeartbeats 800000 in
theorem toProg_any (v : Value) (p : ProgD) (S : Nat → Prop) (w : World) (hn : progSize p ≤ 1048576) (hS : ∀ b, S b → b < w.heap.size) (hp : ProgAt w S v p) :
    Calls Try.prog 41 #[v] w fun e w' => ∃ v', e = .returned v' ∧ ProgAt w' (New w.heap.size w'.heap.size) v' p ∧ Below w.heap.size w w' := by
  obtain ⟨A, c, A', c', rfl, hcc, hi, ht⟩ := hp
  have hn1 : p.init.length ≤ 1048576 := by unfold progSize at hn; omega
  have hn2 : tsSize p.ts ≤ 1048576 := by unfold progSize at hn; omega
  clear hn
  go_enter Try.func41, Try.ntmps41
  go_wp2_with fail
  have hb3 := ((below1 w (Obj.cells #[Value.slice A p.init.length c, Value.slice A' p.ts.length c'] 58)).alloc (by simp) (Obj.cells #[Value.slice none 0 0, Value.slice none 0 0] 37)).alloc (by simp; omega) (Obj.cells #[Value.slice none 0 0, Value.slice none 0 0] 37)
  refine (toIntS_any A p.init c S _ hn1 (fun b h => Nat.lt_of_lt_of_le (hS b h) hb3.size) (hi.below hb3 hS)).mono ?_
  rintro e w1 ⟨A1, c1, rfl, hcap1, hl1, hb1⟩
  have kA := (Blk.new ((w.alloc (Obj.cells #[Value.slice A p.init.length c, Value.slice A' p.ts.length c'] 58)).alloc (Obj.cells #[Value.slice none 0 0, Value.slice none 0 0] 37)) 37 #[Value.slice none 0 0, Value.slice none 0 0]).below hb1 (by simp)
  have kB := ((Blk.new (w.alloc (Obj.cells #[Value.slice A p.init.length c, Value.slice A' p.ts.length c'] 58)) 37 #[Value.slice none 0 0, Value.slice none 0 0]).alloc _).below hb1 (by simp)
  have kC := (((Blk.new w 58 #[Value.slice A p.init.length c, Value.slice A' p.ts.length c']).alloc _).alloc _).below hb1 (by simp; omega)
  simp only [World.size_alloc] at kA kB kC
  have hz1 := hb1.size
  simp at hz1
  have a0 := kA.cell 0
  have a1 := kA.frozen 0
  have a2 := kC.cell 1
  have KA := hide kA
  have KB := hide kB
  clear kA kB kC
  go_wp2_with fail
  clear a0 a1 a2
  have hbA := (below_then hb3 hb1).setCell (p := ⟨w.heap.size + 1 + 1, 0, none⟩) (by simp; omega) (.slice A1 p.init.length c1)
  refine (toThreadS_any A' p.ts c' S _ hn2 (fun b h => Nat.lt_of_lt_of_le (hS b h) hbA.size) (ht.below hbA hS)).mono ?_
  rintro e w2 ⟨A2, c2, rfl, hcap2, hl2, hb2⟩
  have hz3 : (w1.setCell ⟨w.heap.size + 1 + 1, 0, none⟩ (.slice A1 p.init.length c1)).heap.size = w1.heap.size := by simp [World.setCell]
  have hz2 := hb2.size
  rw [hz3] at hz2
  have kA := (KA.out.set_ 0 (.slice A1 p.init.length c1)).below hb2 (by rw [hz3]; omega)
  have kB := (KB.out.far (p := ⟨w.heap.size + 1 + 1, 0, none⟩) (by simp) (.slice A1 p.init.length c1)).below hb2 (by rw [hz3]; omega)
  have a0 := kA.cell 0
  have a1 := kA.cell 1
  have a2 := kA.frozen 1
  have b0 := kB.cell 0
  have b1 := kB.cell 1
  have b2 := kB.frozen 0
  have b3 := kB.frozen 1
  simp only [List.setIfInBounds_toArray, List.set_cons_zero, List.getElem?_toArray, List.getElem?_cons_zero, List.getElem?_cons_succ] at a0 a1 b0 b1
  have KA2 := hide kA
  have KB2 := hide kB
  clear kA kB KA KB hz3
  go_wp2_with fail
  have hl1' : IntsAt w1 (New (w.heap.size + 3) w1.heap.size) A1 p.init := hl1.more (fun b h => ⟨by have := h.1; simp at this; omega, h.2⟩)
  have hl2' : ThreadsAt w2 (New (w.heap.size + 3) w2.heap.size) A2 p.ts := hl2.more (fun b h => ⟨by have := h.1; simp [World.setCell] at this; omega, h.2⟩)
  have hl3 : IntsAt w2 (New (w.heap.size + 3) w1.heap.size) A1 p.init := (hl1'.set (p := ⟨w.heap.size + 1 + 1, 0, none⟩) _ (fun h => by have := h.1; simp at this; omega)).below hb2 (fun b h => by have := h.2; simp [World.setCell]; omega)
  refine bodyPost_ret (v := .agg #[.slice A1 p.init.length c1, .slice A2 p.ts.length c2]) (by simp [results, Try.results41, go_sem, b0, b1]; done) rfl ⟨_, rfl, ⟨A1, c1, A2, c2, rfl, ⟨hcap1, hcap2⟩, ?_, ?_⟩, ?_⟩
  · refine (((hl3.set _ (fun h => ?_)).set _ (fun h => ?_)).set _ (fun h => ?_)).more (fun b h => ⟨by have := h.1; omega, by have := h.2; simp [World.setCell]; omega⟩)
    all_goals (have := h.1; simp at this; try omega)
  · refine (((hl2'.set _ (fun h => ?_)).set _ (fun h => ?_)).set _ (fun h => ?_)).more (fun b h => ⟨by have := h.1; omega, by have := h.2; simp [World.setCell]; omega⟩)
    all_goals (have := h.1; simp at this; try omega)
  · exact (((below_then hbA hb2).setCell (by simp; omega) _).setCell (by simp) _).setCell (by simp) _
end Go.Proofs.Ytjendjbbhohjcaa

namespace Go.Proofs.Ytjendjbbhohjcaa
open Go.RowKit
set_option maxHeartbeats 800000 in
theorem toIntS_row (A : Option Addr) (zs : List Int) (c : Nat) (S : Nat → Prop) (w : World) (hn : zs.length ≤ 1048576) (hS : ∀ b, S b → b < w.heap.size) (ha : IntsAt w S A zs) :
    Calls Try.prog 42 #[.slice A zs.length c] w fun e w' => e = .returned (.slice (some ⟨w.heap.size, 0, none⟩) zs.length zs.length) ∧ RowB w' w.heap.size zs ∧ Below w.heap.size w w' := by
  have hmk := make_ints zs.length hn
  go_enter Try.func42, Try.ntmps42
  go_wp2
  clear hmk
  go_loopw [4] (fun i wr => ∃ (k : Nat) (cs : Array Value), k ≤ zs.length ∧ i = .int .i64 k ∧ Blk wr w.heap.size 3 cs ∧ Hid (cs.size = zs.length) ∧ Hid (∀ j, j < k → cs[j]? = some (.int .i64 (geti zs j))) ∧ Below w.heap.size w wr) (fun i _ => zs.length - (intOf i).toNat)
  case atStart => exact ⟨0, _, Nat.zero_le _, rfl, Blk.new _ _ _, hide (zrow_size1 _ _), hide (fun j hj => by omega), below1 _ _⟩
  case round =>
    obtain ⟨k, cs, hk, rfl, hblk, hsz, hcs, hb⟩ := hrel
    by_cases hlt : k < zs.length
    · obtain ⟨b, off, rfl, hbB, hc⟩ := (ha.below hb hS).2 (by omega)
      have hcell := hc k hlt
      obtain ⟨v0, hv0⟩ : ∃ v0, cs[k]? = some v0 := ⟨cs[k]'(by have := hsz.out; omega), Array.getElem?_eq_getElem _⟩
      have hdst := (hblk.cell k).trans hv0
      have hfz := hblk.frozen k
      have HB := hide hblk
      clear hv0 hblk hc
      go_wp2
      go_roundw
      case rel =>
        refine ⟨k + 1, cs.setIfInBounds k (.int .i64 (geti zs k)), by omega, by go_num, HB.out.set_ k _, hide (by rw [Array.size_setIfInBounds]; exact hsz.out), hide (fun j hj => ?_), hb.setCell (Nat.le_refl _) _⟩
        rw [Array.getElem?_setIfInBounds]
        by_cases e : k = j
        · subst e; rw [if_pos rfl, if_pos (by have := hsz.out; omega)]
        · rw [if_neg e]; exact hcs.out j (by omega)
      case measure => simp [intOf]; omega
    · obtain rfl : k = zs.length := by omega
      go_wp2
      go_ret
      exact ⟨rfl, ⟨cs, hblk, Nat.le_of_eq hsz.out.symm, hcs.out⟩, hb⟩

theorem toIntSI {A : Option Addr} {zs : List Int} {m c : Nat} {S : Nat → Prop} {w : World} (hz : zs.length = m) (hm : m ≤ 1048576) (hS : ∀ b, S b → b < w.heap.size) (ha : IntsAt w S A zs) :
    Calls Try.prog 42 #[.slice A m c] w fun e w' => ∃ q, e = .returned (.slice (some ⟨q, 0, none⟩) m m) ∧ RvI 3 w' w.heap.size w'.heap.size (.slice (some ⟨q, 0, none⟩) m m) m zs ∧ Below w.heap.size w w' := by
  subst hz
  refine (toIntS_row A zs c S w hm hS ha).mono ?_
  rintro e w' ⟨rfl, hr, hb⟩
  exact ⟨_, rfl, RvI.of (.inr ⟨_, _, rfl, hr, Nat.le_refl _⟩), hb⟩
end Go.Proofs.Ytjendjbbhohjcaa

namespace Go.Proofs.Ytjendjbbhohjcaa
open Go.RowKit

def InsRow (w : World) (q : Nat) (l : List InsD) : Prop := ∃ cs, Blk w q 89 cs ∧ l.length * 6 ≤ cs.size ∧ ∀ j, j < l.length → InsCells cs (j * 6) (getd l j)
theorem InsRow.lt {w : World} {q : Nat} {l : List InsD} (h : InsRow w q l) : q < w.heap.size := by obtain ⟨_, h, _⟩ := h; exact h.lt
theorem InsRow.below {w w' : World} {q : Nat} {l : List InsD} (h : InsRow w q l) (hb : Below w.heap.size w w') : InsRow w' q l := by
  obtain ⟨cs, h1, h2⟩ := h
  exact ⟨cs, h1.below hb h1.lt, h2⟩
theorem InsRow.far {w : World} {q : Nat} {l : List InsD} (h : InsRow w q l) {p : Addr} (hp : q ≠ p.block) (u : Value) : InsRow (w.setCell p u) q l := by
  obtain ⟨cs, h1, h2⟩ := h
  exact ⟨cs, h1.far hp u, h2⟩
def ThreadRows (w : World) (lo : Nat) (cs : Array Value) (ts : List (List InsD)) (k : Nat) : Prop :=
  ∀ j, j < k → ∃ q, cs[j]? = some (.slice (some ⟨q, 0, none⟩) (gett ts j).length (gett ts j).length) ∧ lo ≤ q ∧ InsRow w q (gett ts j)
def ThreadsOwn (w : World) (q lo : Nat) (ts : List (List InsD)) : Prop := ∃ cs, Blk w q 45 cs ∧ ts.length ≤ cs.size ∧ ThreadRows w lo cs ts ts.length

set_option maxHeartbeats 800000 in
theorem toInsS_row (A : Option Addr) (l : List InsD) (c : Nat) (S : Nat → Prop) (w : World) (hn : l.length ≤ 1048576) (hS : ∀ b, S b → b < w.heap.size) (ha : InssAt w S A l) :
    Calls Try.prog 122 #[.slice A l.length c] w fun e w' => e = .returned (.slice (some ⟨w.heap.size, 0, none⟩) l.length l.length) ∧ InsRow w' w.heap.size l ∧ Below w.heap.size w w' := by
  have hmk := make_inss l.length hn
  go_enter Try.func122, Try.ntmps122
  go_wp2
  clear hmk
  go_loopw [4] (fun i wr => ∃ (k : Nat) (cs : Array Value), k ≤ l.length ∧ i = .int .i64 k ∧ Blk wr w.heap.size 89 cs ∧ Hid (cs.size = l.length * 6) ∧ Hid (∀ j, j < k → InsCells cs (j * 6) (getd l j)) ∧ Below w.heap.size w wr) (fun i _ => l.length - (intOf i).toNat)
  case atStart => exact ⟨0, _, Nat.zero_le _, rfl, Blk.new _ _ _, hide (zrow_size _ _), hide (fun j hj => by omega), below1 _ _⟩
  case round =>
    obtain ⟨k, cs, hk, rfl, hblk, hsz, hcs, hb⟩ := hrel
    by_cases hlt : k < l.length
    · obtain ⟨b, off, rfl, hbB, hc⟩ := (ha.below hb hS).2 (by omega)
      obtain ⟨c0, c1, c2, c3, c4, c5⟩ := hc k hlt
      have hlt2 := hblk.lt
      have HB := hide hblk
      clear hblk hc
      go_wp2_with fail
      refine (toIns_any _ _ _ _ _ _ _).mono ?_; rintro e w1 ⟨rfl, hb1⟩
      have hblk1 := HB.out.below hb1 hlt2
      have hsz' := hsz.out
      obtain ⟨v0, hv0⟩ : ∃ v, cs[k * 6]? = some v := ⟨_, Array.getElem?_eq_getElem (by omega)⟩
      obtain ⟨v1, hv1⟩ : ∃ v, cs[k * 6 + 1]? = some v := ⟨_, Array.getElem?_eq_getElem (by omega)⟩
      obtain ⟨v2, hv2⟩ : ∃ v, cs[k * 6 + 2]? = some v := ⟨_, Array.getElem?_eq_getElem (by omega)⟩
      obtain ⟨v3, hv3⟩ : ∃ v, cs[k * 6 + 3]? = some v := ⟨_, Array.getElem?_eq_getElem (by omega)⟩
      obtain ⟨v4, hv4⟩ : ∃ v, cs[k * 6 + 4]? = some v := ⟨_, Array.getElem?_eq_getElem (by omega)⟩
      obtain ⟨v5, hv5⟩ : ∃ v, cs[k * 6 + 5]? = some v := ⟨_, Array.getElem?_eq_getElem (by omega)⟩
      have g0 := (hblk1.cell _).trans hv0
      have g1 := (hblk1.cell _).trans hv1
      have g2 := (hblk1.cell _).trans hv2
      have g3 := (hblk1.cell _).trans hv3
      have g4 := (hblk1.cell _).trans hv4
      have g5 := (hblk1.cell _).trans hv5
      have z0 := hblk1.frozen (k * 6)
      have z1 := hblk1.frozen (k * 6 + 1)
      have z2 := hblk1.frozen (k * 6 + 2)
      have z3 := hblk1.frozen (k * 6 + 3)
      have z4 := hblk1.frozen (k * 6 + 4)
      have z5 := hblk1.frozen (k * 6 + 5)
      have HB1 := hide hblk1
      clear hv0 hv1 hv2 hv3 hv4 hv5 hblk1 hsz'
      go_wp2_with fail
      go_roundw
      case rel =>
        have hs := hsz.out
        refine ⟨k + 1, set6 cs (k * 6) (getd l k), by omega, by go_num, HB1.out.put6 _ _, hide (by rw [set6_size]; exact hs), hide (fun j hj => ?_), below_put6 (below_then hb hb1) (Nat.le_refl _) _ _⟩
        by_cases e : k = j
        · subst e; exact InsCells.at_ _ _ _ (by omega)
        · exact (hcs.out j (by omega)).far (by omega)
      case measure => simp [intOf]; omega
    · obtain rfl : k = l.length := by omega
      go_wp2
      go_ret
      exact ⟨rfl, ⟨cs, hblk, Nat.le_of_eq hsz.out.symm, hcs.out⟩, hb⟩

set_option maxHeartbeats 800000 in
theorem toThread_row (A : Option Addr) (l : List InsD) (c : Nat) (S : Nat → Prop) (w : World) (hn : l.length ≤ 1048576) (hS : ∀ b, S b → b < w.heap.size) (ha : InssAt w S A l) :
    Calls Try.prog 106 #[.agg #[.slice A l.length c]] w fun e w' => ∃ q, e = .returned (.agg #[.slice (some ⟨q, 0, none⟩) l.length l.length]) ∧ w.heap.size ≤ q ∧ InsRow w' q l ∧ Below w.heap.size w w' := by
  go_enter Try.func106, Try.ntmps106
  go_wp2_with fail
  have hb3 := ((below1 w (Obj.cells #[Value.slice A l.length c] 128)).alloc (by simp) (Obj.cells #[Value.slice none 0 0] 45)).alloc (by simp; omega) (Obj.cells #[Value.slice none 0 0] 45)
  refine (toInsS_row A l c S _ hn (fun b h => Nat.lt_of_lt_of_le (hS b h) hb3.size) (ha.below hb3 hS)).mono ?_
  rintro e w1 ⟨rfl, hrow, hb1⟩
  obtain ⟨hcl1, hfz1⟩ := bcell hb1
  have hz1 := hb1.size
  simp at hz1
  simp only [World.size_alloc] at hrow
  replace hrow := hide hrow
  go_wp2_with fail
  refine bodyPost_ret (v := .agg #[.slice (some ⟨w.heap.size + 1 + 1 + 1, 0, none⟩) l.length l.length]) (by simp [results, Try.results106, go_sem, hcl1]; done) rfl ⟨_, rfl, by omega, ?_, ?_⟩
  · obtain ⟨cs, h1, h2⟩ := hrow.out
    exact ⟨cs, (h1.far (by show w.heap.size + 1 + 1 + 1 ≠ w.heap.size + 1 + 1; omega) _).far (by show w.heap.size + 1 + 1 + 1 ≠ w.heap.size + 1; omega) _, h2⟩
  · exact ((below_then hb3 hb1).setCell (by simp; omega) _).setCell (by simp) _

set_option maxHeartbeats 800000 in
theorem toThreadS_own (A : Option Addr) (ts : List (List InsD)) (c : Nat) (S : Nat → Prop) (w : World) (hn : tsSize ts ≤ 1048576) (hS : ∀ b, S b → b < w.heap.size) (ha : ThreadsAt w S A ts) :
    Calls Try.prog 82 #[.slice A ts.length c] w fun e w' => e = .returned (.slice (some ⟨w.heap.size, 0, none⟩) ts.length ts.length) ∧ ThreadsOwn w' w.heap.size (w.heap.size + 1) ts ∧ Below w.heap.size w w' := by
  have hn2 : ts.length ≤ 1048576 := by have := insTo_le ts 0; omega
  have hmk := make_threads ts.length hn2
  go_enter Try.func82, Try.ntmps82
  go_wp2
  clear hmk
  go_loopw [4] (fun i wr => ∃ (k : Nat) (cs : Array Value), k ≤ ts.length ∧ i = .int .i64 k ∧ Blk wr w.heap.size 45 cs ∧ Hid (cs.size = ts.length) ∧ ThreadRows wr (w.heap.size + 1) cs ts k ∧ Below w.heap.size w wr) (fun i _ => ts.length - (intOf i).toNat)
  case atStart => exact ⟨0, _, Nat.zero_le _, rfl, Blk.new _ _ _, hide (zrow_size _ _), fun j hj => by omega, below1 _ _⟩
  case round =>
    obtain ⟨k, cs, hk, rfl, hblk, hsz, hcs, hb⟩ := hrel
    by_cases hlt : k < ts.length
    · obtain ⟨b, off, rfl, hbB, hc⟩ := (ha.below hb hS).2 (by omega)
      obtain ⟨A', c', hcell, hcap, hin⟩ := hc k hlt
      have hlt2 := hblk.lt
      have hgl := gett_le ts k hlt
      have HB := hide hblk
      clear hblk hc
      go_wp2_with fail
      refine (toThread_row A' (gett ts k) c' S wr (by omega) (fun b h => Nat.lt_of_lt_of_le (hS b h) hb.size) hin).mono ?_
      rintro e w1 ⟨q2, rfl, hq2, hl, hb1⟩
      have hblk1 := HB.out.below hb1 hlt2
      obtain ⟨v0, hv0⟩ : ∃ v, cs[k]? = some v := ⟨_, Array.getElem?_eq_getElem (by have := hsz.out; omega)⟩
      have g0 := (hblk1.cell _).trans hv0
      have z0 := hblk1.frozen k
      have HB1 := hide hblk1
      clear hv0 hblk1
      go_wp2_with fail
      go_roundw
      case rel =>
        have hs1 := hb1.size
        refine ⟨k + 1, cs.setIfInBounds k (.slice (some ⟨q2, 0, none⟩) (gett ts k).length (gett ts k).length), by omega, by go_num, HB1.out.set_ _ _, hide (by rw [Array.size_setIfInBounds]; exact hsz.out), fun j hj => ?_, (below_then hb hb1).setCell (Nat.le_refl _) _⟩
        by_cases e : k = j
        · subst e
          exact ⟨q2, by rw [Array.getElem?_setIfInBounds, if_pos rfl, if_pos (by have := hsz.out; omega)], by have := hb.size; omega, hl.far (by show q2 ≠ w.heap.size; omega) _⟩
        · obtain ⟨q3, h1, h3, h2⟩ := hcs j (by omega)
          exact ⟨q3, by rw [Array.getElem?_setIfInBounds, if_neg e]; exact h1, h3, (h2.below hb1).far (by show q3 ≠ w.heap.size; omega) _⟩
      case measure => simp [intOf]; omega
    · obtain rfl : k = ts.length := by omega
      go_wp2
      go_ret
      exact ⟨rfl, ⟨cs, hblk, by rw [hsz.out]; exact Nat.le_refl _, hcs⟩, hb⟩
theorem ThreadsOwn.far {w : World} {q lo : Nat} {ts : List (List InsD)} (h : ThreadsOwn w q lo ts) {p : Addr} (hp : p.block < q) (u : Value) (hl : q < lo := by omega) : ThreadsOwn (w.setCell p u) q lo ts := by
  obtain ⟨cs, h1, h2, h3⟩ := h
  refine ⟨cs, h1.far (by omega) u, h2, fun j hj => ?_⟩
  obtain ⟨q3, k1, k2, k3⟩ := h3 j hj
  exact ⟨q3, k1, k2, k3.far (by omega) u⟩
set_option maxHeartbeats 1600000 in
theorem toProg_own (A A' : Option Addr) (p : ProgD) (c c' : Nat) (S : Nat → Prop) (w : World) (hn : progSize p ≤ 1048576) (hS : ∀ b, S b → b < w.heap.size) (hi : IntsAt w S A p.init) (ht : ThreadsAt w S A' p.ts) :
    Calls Try.prog 41 #[.agg #[.slice A p.init.length c, .slice A' p.ts.length c']] w fun e w' => ∃ q0 qt, e = .returned (.agg #[.slice (some ⟨q0, 0, none⟩) p.init.length p.init.length, .slice (some ⟨qt, 0, none⟩) p.ts.length p.ts.length]) ∧ RowB w' q0 p.init ∧ w.heap.size ≤ q0 ∧ q0 < qt ∧ ThreadsOwn w' qt (qt + 1) p.ts ∧ Below w.heap.size w w' := by
  have hn1 : p.init.length ≤ 1048576 := by unfold progSize at hn; omega
  have hn2 : tsSize p.ts ≤ 1048576 := by unfold progSize at hn; omega
  clear hn
  go_enter Try.func41, Try.ntmps41
  go_wp2_with fail
  have hb3 := ((below1 w (Obj.cells #[Value.slice A p.init.length c, Value.slice A' p.ts.length c'] 58)).alloc (by simp) (Obj.cells #[Value.slice none 0 0, Value.slice none 0 0] 37)).alloc (by simp; omega) (Obj.cells #[Value.slice none 0 0, Value.slice none 0 0] 37)
  refine (toIntS_row A p.init c S _ hn1 (fun b h => Nat.lt_of_lt_of_le (hS b h) hb3.size) (hi.below hb3 hS)).mono ?_
  rintro e w1 ⟨rfl, hl1, hb1⟩
  simp only [World.size_alloc] at hl1
  have hl1lt := hl1.lt
  replace hl1 := hide hl1
  simp only [World.size_alloc]
  have kA := (Blk.new ((w.alloc (Obj.cells #[Value.slice A p.init.length c, Value.slice A' p.ts.length c'] 58)).alloc (Obj.cells #[Value.slice none 0 0, Value.slice none 0 0] 37)) 37 #[Value.slice none 0 0, Value.slice none 0 0]).below hb1 (by simp)
  have kB := ((Blk.new (w.alloc (Obj.cells #[Value.slice A p.init.length c, Value.slice A' p.ts.length c'] 58)) 37 #[Value.slice none 0 0, Value.slice none 0 0]).alloc _).below hb1 (by simp)
  have kC := (((Blk.new w 58 #[Value.slice A p.init.length c, Value.slice A' p.ts.length c']).alloc _).alloc _).below hb1 (by simp; omega)
  simp only [World.size_alloc] at kA kB kC
  have hz1 := hb1.size
  simp at hz1
  have a0 := kA.cell 0
  have a1 := kA.frozen 0
  have a2 := kC.cell 1
  have KA := hide kA
  have KB := hide kB
  clear kA kB kC
  go_wp2_with fail
  clear a0 a1 a2
  have hbA := (below_then hb3 hb1).setCell (p := ⟨w.heap.size + 1 + 1, 0, none⟩) (by simp; omega) (.slice (some ⟨w.heap.size + 1 + 1 + 1, 0, none⟩) p.init.length p.init.length)
  refine (toThreadS_own A' p.ts c' S _ hn2 (fun b h => Nat.lt_of_lt_of_le (hS b h) hbA.size) (ht.below hbA hS)).mono ?_
  rintro e w2 ⟨rfl, hl2, hb2⟩
  have hz3 : (w1.setCell ⟨w.heap.size + 1 + 1, 0, none⟩ (.slice (some ⟨w.heap.size + 1 + 1 + 1, 0, none⟩) p.init.length p.init.length)).heap.size = w1.heap.size := by simp [World.setCell]
  have hz2 := hb2.size
  rw [hz3] at hz2 hl2
  replace hl2 := hide hl2
  rw [hz3]
  have kA := (KA.out.set_ 0 (.slice (some ⟨w.heap.size + 1 + 1 + 1, 0, none⟩) p.init.length p.init.length)).below hb2 (by rw [hz3]; omega)
  have kB := (KB.out.far (p := ⟨w.heap.size + 1 + 1, 0, none⟩) (by simp) (.slice (some ⟨w.heap.size + 1 + 1 + 1, 0, none⟩) p.init.length p.init.length)).below hb2 (by rw [hz3]; omega)
  have a0 := kA.cell 0
  have a1 := kA.cell 1
  have a2 := kA.frozen 1
  have b0 := kB.cell 0
  have b1 := kB.cell 1
  have b2 := kB.frozen 0
  have b3 := kB.frozen 1
  simp only [List.setIfInBounds_toArray, List.set_cons_zero, List.getElem?_toArray, List.getElem?_cons_zero, List.getElem?_cons_succ] at a0 a1 b0 b1
  have KA2 := hide kA
  have KB2 := hide kB
  clear kA kB KA KB hz3
  go_wp2_with fail
  refine bodyPost_ret (v := .agg #[.slice (some ⟨w.heap.size + 1 + 1 + 1, 0, none⟩) p.init.length p.init.length, .slice (some ⟨w1.heap.size, 0, none⟩) p.ts.length p.ts.length]) (by simp [results, Try.results41, go_sem, b0, b1]; done) rfl ⟨_, _, rfl, ?_, by omega, by omega, ?_, ?_⟩
  · have h2 := (RowB.below (w' := w2) (show RowB (w1.setCell ⟨w.heap.size + 1 + 1, 0, none⟩ (.slice (some ⟨w.heap.size + 1 + 1 + 1, 0, none⟩) p.init.length p.init.length)) (w.heap.size + 1 + 1 + 1) p.init from by
      obtain ⟨cs, g1, g2⟩ := hl1.out
      exact ⟨cs, g1.far (by show w.heap.size + 1 + 1 + 1 ≠ w.heap.size + 1 + 1; omega) _, g2⟩) hb2)
    obtain ⟨cs, g1, g2⟩ := h2
    exact ⟨cs, ((g1.far (by first | (show w.heap.size + 1 + 1 + 1 ≠ w.heap.size + 1 + 1; omega) | (show w.heap.size + 1 + 1 + 1 ≠ w.heap.size + 1; omega)) _).far (by first | (show w.heap.size + 1 + 1 + 1 ≠ w.heap.size + 1 + 1; omega) | (show w.heap.size + 1 + 1 + 1 ≠ w.heap.size + 1; omega)) _).far (by first | (show w.heap.size + 1 + 1 + 1 ≠ w.heap.size + 1 + 1; omega) | (show w.heap.size + 1 + 1 + 1 ≠ w.heap.size + 1; omega)) _, g2⟩
  · refine ((hl2.out.far (p := ⟨_, _, none⟩) ?_ _).far (p := ⟨_, _, none⟩) ?_ _).far (p := ⟨_, _, none⟩) ?_ _
    all_goals first | (show w.heap.size + 1 + 1 < w1.heap.size; omega) | (show w.heap.size + 1 < w1.heap.size; omega)
  · exact (((below_then hbA hb2).setCell (by simp; omega) _).setCell (by simp) _).setCell (by simp) _
end Go.Proofs.Ytjendjbbhohjcaa
