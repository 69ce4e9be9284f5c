/- laws.toProg: the copy, its blocks told by their types. -/
import Derived.Test.YtfkaacfeikmabaaToP
import Derived.Test.YtfkaacfeikmabaaIntTo
namespace Go.Proofs.Ytfkaacfeikmabaa
open Go.RowKit

/-- A row of instructions at the head of block q. -/
def InsRow (w : World) (q : Nat) (l : List InsD) : Prop := ∃ cs, Blk w q 72 cs ∧ l.length * 6 ≤ cs.size ∧ ∀ j, j < l.length → InsCells cs (j * 6) (getd l j)
theorem InsRow.lt {w : World} {q : Nat} {l : List InsD} (h : InsRow w q l) : q < w.heap.size := by obtain ⟨_, h, _⟩ := h; exact h.lt
theorem InsRow.below {w w' : World} {q : Nat} {l : List InsD} (h : InsRow w q l) (hb : Below w.heap.size w w') : InsRow w' q l := by
  obtain ⟨cs, h1, h2⟩ := h
  exact ⟨cs, h1.below hb h1.lt, h2⟩
theorem InsRow.far {w : World} {q : Nat} {l : List InsD} (h : InsRow w q l) {p : Addr} (hp : q ≠ p.block) (u : Value) : InsRow (w.setCell p u) q l := by
  obtain ⟨cs, h1, h2⟩ := h
  exact ⟨cs, h1.far hp u, h2⟩
/-- The first k threads: each with its instructions in a block from lo on. -/
def ThreadRows (w : World) (lo : Nat) (cs : Array Value) (ts : List (List InsD)) (k : Nat) : Prop :=
  ∀ j, j < k → ∃ q, cs[j]? = some (.slice (some ⟨q, 0, none⟩) (gett ts j).length (gett ts j).length) ∧ lo ≤ q ∧ InsRow w q (gett ts j)
/-- A row of threads at the head of block q. -/
def ThreadsOwn (w : World) (q lo : Nat) (ts : List (List InsD)) : Prop := ∃ cs, Blk w q 99 cs ∧ ts.length ≤ cs.size ∧ ThreadRows w lo cs ts ts.length

set_option maxHeartbeats 800000 in
theorem toInsS_row (A : Option Addr) (l : List InsD) (c : Nat) (S : Nat → Prop) (w : World) (hn : l.length ≤ 1048576) (hS : ∀ b, S b → b < w.heap.size) (ha : InssAt w S A l) :
    Calls Try.prog 181 #[.slice A l.length c] w fun e w' => e = .returned (.slice (some ⟨w.heap.size, 0, none⟩) l.length l.length) ∧ InsRow w' w.heap.size l ∧ Below w.heap.size w w' := by
  have hmk := make_inss l.length hn
  go_enter Try.func181, Try.ntmps181
  go_wp2
  clear hmk
  go_loopw [4] (fun i wr => ∃ (k : Nat) (cs : Array Value), k ≤ l.length ∧ i = .int .i64 k ∧ Blk wr w.heap.size 72 cs ∧ Hid (cs.size = l.length * 6) ∧ Hid (∀ j, j < k → InsCells cs (j * 6) (getd l j)) ∧ Below w.heap.size w wr) (fun i _ => l.length - (intOf i).toNat)
  case atStart => exact ⟨0, _, Nat.zero_le _, rfl, Blk.new _ _ _, hide (zrow_size _ _), hide (fun j hj => by omega), below1 _ _⟩
  case round =>
    obtain ⟨k, cs, hk, rfl, hblk, hsz, hcs, hb⟩ := hrel
    by_cases hlt : k < l.length
    · obtain ⟨b, off, rfl, hbB, hc⟩ := (ha.below hb hS).2 (by omega)
      obtain ⟨c0, c1, c2, c3, c4, c5⟩ := hc k hlt
      have hlt2 := hblk.lt
      have HB := hide hblk
      clear hblk hc
      go_wp2_with fail
      refine (toIns_any _ _ _ _ _ _ _).mono ?_; rintro e w1 ⟨rfl, hb1⟩
      have hblk1 := HB.out.below hb1 hlt2
      have hsz' := hsz.out
      obtain ⟨v0, hv0⟩ : ∃ v, cs[k * 6]? = some v := ⟨_, Array.getElem?_eq_getElem (by omega)⟩
      obtain ⟨v1, hv1⟩ : ∃ v, cs[k * 6 + 1]? = some v := ⟨_, Array.getElem?_eq_getElem (by omega)⟩
      obtain ⟨v2, hv2⟩ : ∃ v, cs[k * 6 + 2]? = some v := ⟨_, Array.getElem?_eq_getElem (by omega)⟩
      obtain ⟨v3, hv3⟩ : ∃ v, cs[k * 6 + 3]? = some v := ⟨_, Array.getElem?_eq_getElem (by omega)⟩
      obtain ⟨v4, hv4⟩ : ∃ v, cs[k * 6 + 4]? = some v := ⟨_, Array.getElem?_eq_getElem (by omega)⟩
      obtain ⟨v5, hv5⟩ : ∃ v, cs[k * 6 + 5]? = some v := ⟨_, Array.getElem?_eq_getElem (by omega)⟩
      have g0 := (hblk1.cell _).trans hv0
      have g1 := (hblk1.cell _).trans hv1
      have g2 := (hblk1.cell _).trans hv2
      have g3 := (hblk1.cell _).trans hv3
      have g4 := (hblk1.cell _).trans hv4
      have g5 := (hblk1.cell _).trans hv5
      have z0 := hblk1.frozen (k * 6)
      have z1 := hblk1.frozen (k * 6 + 1)
      have z2 := hblk1.frozen (k * 6 + 2)
      have z3 := hblk1.frozen (k * 6 + 3)
      have z4 := hblk1.frozen (k * 6 + 4)
      have z5 := hblk1.frozen (k * 6 + 5)
      have HB1 := hide hblk1
      clear hv0 hv1 hv2 hv3 hv4 hv5 hblk1 hsz'
      go_wp2_with fail
      go_roundw
      case rel =>
        have hs := hsz.out
        refine ⟨k + 1, set6 cs (k * 6) (getd l k), by omega, by go_num, HB1.out.put6 _ _, hide (by rw [set6_size]; exact hs), hide (fun j hj => ?_), below_put6 (below_then hb hb1) (Nat.le_refl _) _ _⟩
        by_cases e : k = j
        · subst e; exact InsCells.at_ _ _ _ (by omega)
        · exact (hcs.out j (by omega)).far (by omega)
      case measure => simp [intOf]; omega
    · obtain rfl : k = l.length := by omega
      go_wp2
      go_ret
      exact ⟨rfl, ⟨cs, hblk, Nat.le_of_eq hsz.out.symm, hcs.out⟩, hb⟩

set_option maxHeartbeats 800000 in
theorem toThread_row (A : Option Addr) (l : List InsD) (c : Nat) (S : Nat → Prop) (w : World) (hn : l.length ≤ 1048576) (hS : ∀ b, S b → b < w.heap.size) (ha : InssAt w S A l) :
    Calls Try.prog 138 #[.agg #[.slice A l.length c]] w fun e w' => ∃ q, e = .returned (.agg #[.slice (some ⟨q, 0, none⟩) l.length l.length]) ∧ w.heap.size ≤ q ∧ InsRow w' q l ∧ Below w.heap.size w w' := by
  go_enter Try.func138, Try.ntmps138
  go_wp2_with fail
  have hb3 := ((below1 w (Obj.cells #[Value.slice A l.length c] 168)).alloc (by simp) (Obj.cells #[Value.slice none 0 0] 99)).alloc (by simp; omega) (Obj.cells #[Value.slice none 0 0] 99)
  refine (toInsS_row A l c S _ hn (fun b h => Nat.lt_of_lt_of_le (hS b h) hb3.size) (ha.below hb3 hS)).mono ?_
  rintro e w1 ⟨rfl, hrow, hb1⟩
  obtain ⟨hcl1, hfz1⟩ := bcell hb1
  have hz1 := hb1.size
  simp at hz1
  simp only [World.size_alloc] at hrow
  replace hrow := hide hrow
  go_wp2_with fail
  refine bodyPost_ret (v := .agg #[.slice (some ⟨w.heap.size + 1 + 1 + 1, 0, none⟩) l.length l.length]) (by simp [results, Try.results138, go_sem, hcl1]; done) rfl ⟨_, rfl, by omega, ?_, ?_⟩
  · obtain ⟨cs, h1, h2⟩ := hrow.out
    exact ⟨cs, (h1.far (by show w.heap.size + 1 + 1 + 1 ≠ w.heap.size + 1 + 1; omega) _).far (by show w.heap.size + 1 + 1 + 1 ≠ w.heap.size + 1; omega) _, h2⟩
  · exact ((below_then hb3 hb1).setCell (by simp; omega) _).setCell (by simp) _

set_option maxHeartbeats 800000 in
theorem toThreadS_own (A : Option Addr) (ts : List (List InsD)) (c : Nat) (S : Nat → Prop) (w : World) (hn : tsSize ts ≤ 1048576) (hS : ∀ b, S b → b < w.heap.size) (ha : ThreadsAt w S A ts) :
    Calls Try.prog 63 #[.slice A ts.length c] w fun e w' => e = .returned (.slice (some ⟨w.heap.size, 0, none⟩) ts.length ts.length) ∧ ThreadsOwn w' w.heap.size (w.heap.size + 1) ts ∧ Below w.heap.size w w' := by
  have hn2 : ts.length ≤ 1048576 := by have := insTo_le ts 0; omega
  have hmk := make_threads ts.length hn2
  go_enter Try.func63, Try.ntmps63
  go_wp2
  clear hmk
  go_loopw [4] (fun i wr => ∃ (k : Nat) (cs : Array Value), k ≤ ts.length ∧ i = .int .i64 k ∧ Blk wr w.heap.size 99 cs ∧ Hid (cs.size = ts.length) ∧ ThreadRows wr (w.heap.size + 1) cs ts k ∧ Below w.heap.size w wr) (fun i _ => ts.length - (intOf i).toNat)
  case atStart => exact ⟨0, _, Nat.zero_le _, rfl, Blk.new _ _ _, hide (zrow_size _ _), fun j hj => by omega, below1 _ _⟩
  case round =>
    obtain ⟨k, cs, hk, rfl, hblk, hsz, hcs, hb⟩ := hrel
    by_cases hlt : k < ts.length
    · obtain ⟨b, off, rfl, hbB, hc⟩ := (ha.below hb hS).2 (by omega)
      obtain ⟨A', c', hcell, hcap, hin⟩ := hc k hlt
      have hlt2 := hblk.lt
      have hgl := gett_le ts k hlt
      have HB := hide hblk
      clear hblk hc
      go_wp2_with fail
      refine (toThread_row A' (gett ts k) c' S wr (by omega) (fun b h => Nat.lt_of_lt_of_le (hS b h) hb.size) hin).mono ?_
      rintro e w1 ⟨q2, rfl, hq2, hl, hb1⟩
      have hblk1 := HB.out.below hb1 hlt2
      obtain ⟨v0, hv0⟩ : ∃ v, cs[k]? = some v := ⟨_, Array.getElem?_eq_getElem (by have := hsz.out; omega)⟩
      have g0 := (hblk1.cell _).trans hv0
      have z0 := hblk1.frozen k
      have HB1 := hide hblk1
      clear hv0 hblk1
      go_wp2_with fail
      go_roundw
      case rel =>
        have hs1 := hb1.size
        refine ⟨k + 1, cs.setIfInBounds k (.slice (some ⟨q2, 0, none⟩) (gett ts k).length (gett ts k).length), by omega, by go_num, HB1.out.set_ _ _, hide (by rw [Array.size_setIfInBounds]; exact hsz.out), fun j hj => ?_, (below_then hb hb1).setCell (Nat.le_refl _) _⟩
        by_cases e : k = j
        · subst e
          exact ⟨q2, by rw [Array.getElem?_setIfInBounds, if_pos rfl, if_pos (by have := hsz.out; omega)], by have := hb.size; omega, hl.far (by show q2 ≠ w.heap.size; omega) _⟩
        · obtain ⟨q3, h1, h3, h2⟩ := hcs j (by omega)
          exact ⟨q3, by rw [Array.getElem?_setIfInBounds, if_neg e]; exact h1, h3, (h2.below hb1).far (by show q3 ≠ w.heap.size; omega) _⟩
      case measure => simp [intOf]; omega
    · obtain rfl : k = ts.length := by omega
      go_wp2
      go_ret
      exact ⟨rfl, ⟨cs, hblk, by rw [hsz.out]; exact Nat.le_refl _, hcs⟩, hb⟩
theorem ThreadsOwn.far {w : World} {q lo : Nat} {ts : List (List InsD)} (h : ThreadsOwn w q lo ts) {p : Addr} (hp : p.block < q) (u : Value) (hl : q < lo := by omega) : ThreadsOwn (w.setCell p u) q lo ts := by
  obtain ⟨cs, h1, h2, h3⟩ := h
  refine ⟨cs, h1.far (by omega) u, h2, fun j hj => ?_⟩
  obtain ⟨q3, k1, k2, k3⟩ := h3 j hj
  exact ⟨q3, k1, k2, k3.far (by omega) u⟩
set_option maxHeartbeats 1600000 in
theorem toProg_own (A A' : Option Addr) (p : ProgD) (c c' : Nat) (S : Nat → Prop) (w : World) (hn : progSize p ≤ 1048576) (hS : ∀ b, S b → b < w.heap.size) (hi : IntsAt w S A p.init) (ht : ThreadsAt w S A' p.ts) :
    Calls Try.prog 16 #[.agg #[.slice A p.init.length c, .slice A' p.ts.length c']] w fun e w' => ∃ q0 qt, e = .returned (.agg #[.slice (some ⟨q0, 0, none⟩) p.init.length p.init.length, .slice (some ⟨qt, 0, none⟩) p.ts.length p.ts.length]) ∧ RowB w' q0 p.init ∧ w.heap.size ≤ q0 ∧ q0 < qt ∧ ThreadsOwn w' qt (qt + 1) p.ts ∧ Below w.heap.size w w' := by
  have hn1 : p.init.length ≤ 1048576 := by unfold progSize at hn; omega
  have hn2 : tsSize p.ts ≤ 1048576 := by unfold progSize at hn; omega
  clear hn
  go_enter Try.func16, Try.ntmps16
  go_wp2_with fail
  have hb3 := ((below1 w (Obj.cells #[Value.slice A p.init.length c, Value.slice A' p.ts.length c'] 25)).alloc (by simp) (Obj.cells #[Value.slice none 0 0, Value.slice none 0 0] 31)).alloc (by simp; omega) (Obj.cells #[Value.slice none 0 0, Value.slice none 0 0] 31)
  refine (toIntS_row A p.init c S _ hn1 (fun b h => Nat.lt_of_lt_of_le (hS b h) hb3.size) (hi.below hb3 hS)).mono ?_
  rintro e w1 ⟨rfl, hl1, hb1⟩
  simp only [World.size_alloc] at hl1
  have hl1lt := hl1.lt
  replace hl1 := hide hl1
  simp only [World.size_alloc]
  have kA := (Blk.new ((w.alloc (Obj.cells #[Value.slice A p.init.length c, Value.slice A' p.ts.length c'] 25)).alloc (Obj.cells #[Value.slice none 0 0, Value.slice none 0 0] 31)) 31 #[Value.slice none 0 0, Value.slice none 0 0]).below hb1 (by simp)
  have kB := ((Blk.new (w.alloc (Obj.cells #[Value.slice A p.init.length c, Value.slice A' p.ts.length c'] 25)) 31 #[Value.slice none 0 0, Value.slice none 0 0]).alloc _).below hb1 (by simp)
  have kC := (((Blk.new w 25 #[Value.slice A p.init.length c, Value.slice A' p.ts.length c']).alloc _).alloc _).below hb1 (by simp; omega)
  simp only [World.size_alloc] at kA kB kC
  have hz1 := hb1.size
  simp at hz1
  have a0 := kA.cell 0
  have a1 := kA.frozen 0
  have a2 := kC.cell 1
  have KA := hide kA
  have KB := hide kB
  clear kA kB kC
  go_wp2_with fail
  clear a0 a1 a2
  have hbA := (below_then hb3 hb1).setCell (p := ⟨w.heap.size + 1 + 1, 0, none⟩) (by simp; omega) (.slice (some ⟨w.heap.size + 1 + 1 + 1, 0, none⟩) p.init.length p.init.length)
  refine (toThreadS_own A' p.ts c' S _ hn2 (fun b h => Nat.lt_of_lt_of_le (hS b h) hbA.size) (ht.below hbA hS)).mono ?_
  rintro e w2 ⟨rfl, hl2, hb2⟩
  have hz3 : (w1.setCell ⟨w.heap.size + 1 + 1, 0, none⟩ (.slice (some ⟨w.heap.size + 1 + 1 + 1, 0, none⟩) p.init.length p.init.length)).heap.size = w1.heap.size := by simp [World.setCell]
  have hz2 := hb2.size
  rw [hz3] at hz2 hl2
  replace hl2 := hide hl2
  rw [hz3]
  have kA := (KA.out.set_ 0 (.slice (some ⟨w.heap.size + 1 + 1 + 1, 0, none⟩) p.init.length p.init.length)).below hb2 (by rw [hz3]; omega)
  have kB := (KB.out.far (p := ⟨w.heap.size + 1 + 1, 0, none⟩) (by simp) (.slice (some ⟨w.heap.size + 1 + 1 + 1, 0, none⟩) p.init.length p.init.length)).below hb2 (by rw [hz3]; omega)
  have a0 := kA.cell 0
  have a1 := kA.cell 1
  have a2 := kA.frozen 1
  have b0 := kB.cell 0
  have b1 := kB.cell 1
  have b2 := kB.frozen 0
  have b3 := kB.frozen 1
  simp only [List.setIfInBounds_toArray, List.set_cons_zero, List.getElem?_toArray, List.getElem?_cons_zero, List.getElem?_cons_succ] at a0 a1 b0 b1
  have KA2 := hide kA
  have KB2 := hide kB
  clear kA kB KA KB hz3
  go_wp2_with fail
  refine bodyPost_ret (v := .agg #[.slice (some ⟨w.heap.size + 1 + 1 + 1, 0, none⟩) p.init.length p.init.length, .slice (some ⟨w1.heap.size, 0, none⟩) p.ts.length p.ts.length]) (by simp [results, Try.results16, go_sem, b0, b1]; done) rfl ⟨_, _, rfl, ?_, by omega, by omega, ?_, ?_⟩
  · have h2 := (RowB.below (w' := w2) (show RowB (w1.setCell ⟨w.heap.size + 1 + 1, 0, none⟩ (.slice (some ⟨w.heap.size + 1 + 1 + 1, 0, none⟩) p.init.length p.init.length)) (w.heap.size + 1 + 1 + 1) p.init from by
      obtain ⟨cs, g1, g2⟩ := hl1.out
      exact ⟨cs, g1.far (by show w.heap.size + 1 + 1 + 1 ≠ w.heap.size + 1 + 1; omega) _, g2⟩) hb2)
    obtain ⟨cs, g1, g2⟩ := h2
    exact ⟨cs, ((g1.far (by first | (show w.heap.size + 1 + 1 + 1 ≠ w.heap.size + 1 + 1; omega) | (show w.heap.size + 1 + 1 + 1 ≠ w.heap.size + 1; omega)) _).far (by first | (show w.heap.size + 1 + 1 + 1 ≠ w.heap.size + 1 + 1; omega) | (show w.heap.size + 1 + 1 + 1 ≠ w.heap.size + 1; omega)) _).far (by first | (show w.heap.size + 1 + 1 + 1 ≠ w.heap.size + 1 + 1; omega) | (show w.heap.size + 1 + 1 + 1 ≠ w.heap.size + 1; omega)) _, g2⟩
  · refine ((hl2.out.far (p := ⟨_, _, none⟩) ?_ _).far (p := ⟨_, _, none⟩) ?_ _).far (p := ⟨_, _, none⟩) ?_ _
    all_goals first | (show w.heap.size + 1 + 1 < w1.heap.size; omega) | (show w.heap.size + 1 < w1.heap.size; omega)
  · exact (((below_then hbA hb2).setCell (by simp; omega) _).setCell (by simp) _).setCell (by simp) _
end Go.Proofs.Ytfkaacfeikmabaa
