/- laws.markProg on a copy: it counts on, and only the copy's blocks change. -/
import Derived.Test.YtfkaacfeikmabaaToPo
import Derived.Test.YtfkaacfeikmabaaMarks
import Derived.Test.YtfkaacfeikmabaaSum
namespace Go.Proofs.Ytfkaacfeikmabaa
open Go.RowKit

set_option maxRecDepth 100000 in
set_option maxHeartbeats 6400000 in
theorem markInsS_any (q : Nat) (cs0 : Array Value) (n c k : Nat) (w : World) (hn : n ≤ 1048576) (hk : k ≤ 16777216) (h : Blk w q 72 cs0) (hs : n * 6 ≤ cs0.size) :
    Calls Try.prog 144 #[.slice (some ⟨q, 0, none⟩) n c, .int .i64 k] w fun e w' => e = .returned (.int .i64 ((k + n * 6 : Nat) : Int)) ∧ (∃ cs', Blk w' q 72 cs' ∧ cs'.size = cs0.size) ∧ Only q w w' := by
  go_enter Try.func144, Try.ntmps144
  go_wp2_with fail
  go_loopw [1, 5] (fun l i wr => ∃ (j : Nat) (cs : Array Value), j ≤ n ∧ i = .int .i64 j ∧ l = .int .i64 ((k + j * 6 : Nat) : Int) ∧ Blk wr q 72 cs ∧ Hid (n * 6 ≤ cs.size ∧ cs.size = cs0.size) ∧ Only q w wr) (fun _ i _ => n - (intOf i).toNat)
  case atStart => exact ⟨0, cs0, Nat.zero_le _, rfl, rfl, h, hide ⟨hs, rfl⟩, Only.refl _ _⟩
  case round =>
    obtain ⟨j, cs, hj, rfl, rfl, hblk, hsz, ho⟩ := hrel
    by_cases hlt : j < n
    · have hsz' := hsz.out
      obtain ⟨v0, hv0⟩ : ∃ v, cs[j * 6]? = some v := ⟨_, Array.getElem?_eq_getElem (by omega)⟩
      obtain ⟨v1, hv1⟩ : ∃ v, cs[j * 6 + 1]? = some v := ⟨_, Array.getElem?_eq_getElem (by omega)⟩
      obtain ⟨v2, hv2⟩ : ∃ v, cs[j * 6 + 2]? = some v := ⟨_, Array.getElem?_eq_getElem (by omega)⟩
      obtain ⟨v3, hv3⟩ : ∃ v, cs[j * 6 + 3]? = some v := ⟨_, Array.getElem?_eq_getElem (by omega)⟩
      obtain ⟨v4, hv4⟩ : ∃ v, cs[j * 6 + 4]? = some v := ⟨_, Array.getElem?_eq_getElem (by omega)⟩
      obtain ⟨v5, hv5⟩ : ∃ v, cs[j * 6 + 5]? = some v := ⟨_, Array.getElem?_eq_getElem (by omega)⟩
      have d0 := (hblk.cell _).trans hv0
      have z0 := hblk.frozen (j * 6)
      have d1 := (hblk.cell _).trans hv1
      have z1 := hblk.frozen (j * 6 + 1)
      have d2 := (hblk.cell _).trans hv2
      have z2 := hblk.frozen (j * 6 + 2)
      have d3 := (hblk.cell _).trans hv3
      have z3 := hblk.frozen (j * 6 + 3)
      have d4 := (hblk.cell _).trans hv4
      have z4 := hblk.frozen (j * 6 + 4)
      have d5 := (hblk.cell _).trans hv5
      have z5 := hblk.frozen (j * 6 + 5)
      have HB := hide hblk
      have hlt' : (j : Int) < (n : Int) := by omega
      obtain ⟨K, hK⟩ : ∃ K : Int, K = ((k + j * 6 : Nat) : Int) := ⟨_, rfl⟩
      have hw0 : wrap64 (K + 1) = K + 1 := by unfold wrap64; omega
      have hw1 : wrap64 (K + 1 + 1) = K + 1 + 1 := by unfold wrap64; omega
      have hw2 : wrap64 (K + 1 + 1 + 1) = K + 1 + 1 + 1 := by unfold wrap64; omega
      have hw3 : wrap64 (K + 1 + 1 + 1 + 1) = K + 1 + 1 + 1 + 1 := by unfold wrap64; omega
      have hw4 : wrap64 (K + 1 + 1 + 1 + 1 + 1) = K + 1 + 1 + 1 + 1 + 1 := by unfold wrap64; omega
      have hw5 : wrap64 (K + 1 + 1 + 1 + 1 + 1 + 1) = K + 1 + 1 + 1 + 1 + 1 + 1 := by unfold wrap64; omega
      rw [← hK]
      replace hK := hide hK
      clear hv0 hv1 hv2 hv3 hv4 hv5 hblk hsz'
      go_wp2_with fail
      go_roundw
      case rel =>
        refine ⟨j + 1, _, by omega, by go_num, by rw [hK.out]; congr 1; unfold wrap64; omega, (((((HB.out.set_ _ _).set_ _ _).set_ _ _).set_ _ _).set_ _ _).set_ _ _, hide (by have := hsz.out; simpa using this), (((((ho.setCell (.inl rfl) _).setCell (.inl rfl) _).setCell (.inl rfl) _).setCell (.inl rfl) _).setCell (.inl rfl) _).setCell (.inl rfl) _⟩
      case measure => simp [intOf]; omega
    · obtain rfl : j = n := by omega
      go_wp2_with fail
      go_ret
      exact ⟨rfl, ⟨cs, hblk, hsz.out.2⟩, ho⟩

/-- A row of threads at the head of block q, their instructions in blocks from lo on and below hi. -/
def ThreadsIn (w : World) (q lo hi : Nat) (ts : List (List InsD)) : Prop := ∃ cs, Blk w q 99 cs ∧ ts.length ≤ cs.size ∧ ∀ j, j < ts.length → ∃ q', cs[j]? = some (.slice (some ⟨q', 0, none⟩) (gett ts j).length (gett ts j).length) ∧ lo ≤ q' ∧ q' < hi ∧ ∃ ds, Blk w q' 72 ds ∧ (gett ts j).length * 6 ≤ ds.size
theorem ThreadsOwn.in_ {w : World} {q lo : Nat} {ts : List (List InsD)} (h : ThreadsOwn w q lo ts) : ThreadsIn w q lo w.heap.size ts := by
  obtain ⟨cs, h1, h2, h3⟩ := h
  refine ⟨cs, h1, h2, fun j hj => ?_⟩
  obtain ⟨q', k1, k2, ds, k3, k4, k5⟩ := h3 j hj
  exact ⟨q', k1, k2, k3.lt, ds, k3, k4⟩
theorem ThreadsIn.next {w w' : World} {q lo hi : Nat} {ts : List (List InsD)} (h : ThreadsIn w q lo hi ts) (hb : Below w.heap.size w w') : ThreadsIn w' q lo hi ts := by
  obtain ⟨cs, h1, h2, h3⟩ := h
  refine ⟨cs, h1.below hb h1.lt, h2, fun j hj => ?_⟩
  obtain ⟨q', k1, k2, k3, ds, k4, k5⟩ := h3 j hj
  exact ⟨q', k1, k2, k3, ds, k4.below hb k4.lt, k5⟩
theorem ThreadsIn.only {w w' : World} {g q lo hi n : Nat} {ts : List (List InsD)} (h : ThreadsIn w q lo hi ts) (ho : Only g w w') (hq : q ≠ g) (hg : ∃ cs, Blk w g 72 cs ∧ cs.size = n) (hg' : ∃ cs, Blk w' g 72 cs ∧ cs.size = n) : ThreadsIn w' q lo hi ts := by
  obtain ⟨cs, h1, h2, h3⟩ := h
  refine ⟨cs, h1.only ho hq, h2, fun j hj => ?_⟩
  obtain ⟨q', k1, k2, k3, ds, k4, k5⟩ := h3 j hj
  by_cases e : q' = g
  · subst e
    obtain ⟨es, e1, e2⟩ := hg
    obtain ⟨fs, f1, f2⟩ := hg'
    have e3 : w.heap[q']? = some (.cells es 72 (0, 0)) := e1
    have e4 : w.heap[q']? = some (.cells ds 72 (0, 0)) := k4
    rw [e3] at e4
    cases e4
    exact ⟨q', k1, k2, k3, fs, f1, by omega⟩
  · exact ⟨q', k1, k2, k3, ds, k4.only ho e, k5⟩

set_option maxRecDepth 100000 in
set_option maxHeartbeats 3200000 in
theorem markThreadS_any (q lo hi : Nat) (ts : List (List InsD)) (c k : Nat) (w : World) (hn : tsSize ts ≤ 1048576) (hk : k ≤ 2097152) (hq : q < lo) (h : ThreadsIn w q lo hi ts) :
    Calls Try.prog 73 #[.slice (some ⟨q, 0, none⟩) ts.length c, .int .i64 k] w fun e w' => (∃ m : Nat, e = .returned (.int .i64 (m : Int)) ∧ m ≤ 16777216) ∧ Inn lo hi w w' := by
  have hl := insTo_le ts 0
  go_enter Try.func73, Try.ntmps73
  go_wp2_with fail
  go_loopw [1, 5] (fun l i wr => ∃ (j m : Nat), j ≤ ts.length ∧ i = .int .i64 j ∧ l = .int .i64 (m : Int) ∧ m ≤ k + insTo ts j * 6 ∧ ThreadsIn wr q lo hi ts ∧ Inn lo hi w wr) (fun _ i _ => ts.length - (intOf i).toNat)
  case atStart => exact ⟨0, k, Nat.zero_le _, rfl, rfl, by omega, h, Inn.refl _ _ _⟩
  case round =>
    obtain ⟨j, m, hj, rfl, rfl, hm, hth, hin⟩ := hrel
    by_cases hlt : j < ts.length
    · have hlt' : (j : Int) < (ts.length : Int) := by omega
      have hs1 := insTo_succ ts j hlt
      have hs2 := insTo_le ts (j + 1)
      obtain ⟨cs, h1, h2, h3⟩ := hth
      obtain ⟨q', k1, k2, k3, ds, k4, k5⟩ := h3 j hlt
      have c0 : wr.cell? ⟨q, j, none⟩ = some (.slice (some ⟨q', 0, none⟩) (gett ts j).length (gett ts j).length) := (h1.cell j).trans k1
      have hql := h1.lt
      have HT := hide (show ThreadsIn wr q lo hi ts from ⟨cs, h1, h2, h3⟩)
      have HM := hide (markInsS_any q' ds (gett ts j).length (gett ts j).length m wr (by omega) (by omega) k4 k5)
      have K4 := hide k4
      have HI := hide hin
      clear h1 h2 h3 k1 k4 k5 hin
      go_wp2_with fail
      refine HM.out.mono ?_
      rintro e w1 ⟨rfl, ⟨es, e1, e2⟩, ho⟩
      have HT1 := hide (HT.out.only ho (by omega) ⟨ds, K4.out, rfl⟩ ⟨es, e1, e2⟩)
      have HI1 := hide (HI.out.trans (Inn.of_only ho ⟨k2, k3⟩))
      clear HT HI HM ho e1
      go_wp2_with fail
      go_roundw
      case rel => exact ⟨j + 1, _, by omega, by go_num, rfl, by rw [hs1, Nat.add_mul, ← Nat.add_assoc]; exact Nat.add_le_add_right hm _, HT1.out, HI1.out⟩
      case measure => simp [intOf]; omega
    · obtain rfl : j = ts.length := by omega
      have hs2 := insTo_le ts ts.length
      go_wp2_with fail
      go_ret
      exact ⟨⟨m, rfl, by omega⟩, hin⟩

set_option maxRecDepth 100000 in
set_option maxHeartbeats 3200000 in
theorem markProg_any (q0 q lo hi : Nat) (p : ProgD) (w : World) (hn : progSize p ≤ 1048576) (hq0 : lo ≤ q0 ∧ q0 < q) (hq : q < hi) (hhi : hi ≤ w.heap.size) (h0 : RowB w q0 p.init) (h : ThreadsIn w q (q + 1) hi p.ts) :
    Calls Try.prog 21 #[.agg #[.slice (some ⟨q0, 0, none⟩) p.init.length p.init.length, .slice (some ⟨q, 0, none⟩) p.ts.length p.ts.length], .int .i64 1] w fun e w' => (∃ m : Nat, e = .returned (.int .i64 (m : Int)) ∧ m ≤ 16777216) ∧ Inn lo hi w w' := by
  have hn1 : p.init.length ≤ 1048576 := by unfold progSize at hn; omega
  have hn2 : tsSize p.ts ≤ 1048576 := by unfold progSize at hn; omega
  obtain ⟨w0, hw0⟩ : ∃ x, x = w.alloc (Obj.cells #[.slice (some ⟨q0, 0, none⟩) p.init.length p.init.length, .slice (some ⟨q, 0, none⟩) p.ts.length p.ts.length] 31) := ⟨_, rfl⟩
  have hb0 : Below w.heap.size w w0 := by rw [hw0]; exact below1 _ _
  have X0 := hide (show Blk w0 w.heap.size 31 #[.slice (some ⟨q0, 0, none⟩) p.init.length p.init.length, .slice (some ⟨q, 0, none⟩) p.ts.length p.ts.length] from by rw [hw0]; exact Blk.new _ _ _)
  have x0 : w0.cell? ⟨w.heap.size, 0, none⟩ = some (.slice (some ⟨q0, 0, none⟩) p.init.length p.init.length) := X0.out.cell 0
  have lx := X0.out.lt
  have R0 := hide (h0.below hb0)
  have T0 := hide (h.next hb0)
  have I0 := hide (show Inn lo hi w w0 from Inn.of_below hb0)
  clear hb0 h0 h
  go_enter Try.func21, Try.ntmps21
  go_wp2_with fail
  rw [← hw0]
  clear hw0
  refine (markIntS_any q0 p.init p.init.length 1 w0 hn1 (by omega) R0.out).mono ?_
  rintro e w1 ⟨rfl, hr1, ho⟩
  have X1 := hide (X0.out.only ho (by omega))
  have x1 : w1.cell? ⟨w.heap.size, 1, none⟩ = some (.slice (some ⟨q, 0, none⟩) p.ts.length p.ts.length) := X1.out.cell 1
  have lx1 := X1.out.lt
  have I1 := hide (I0.out.trans (Inn.of_only ho ⟨hq0.1, by omega⟩))
  have T1 := hide (show ThreadsIn w1 q (q + 1) hi p.ts from by
    obtain ⟨cs, h1, h2, h3⟩ := T0.out
    refine ⟨cs, h1.only ho (by omega), h2, fun j hj => ?_⟩
    obtain ⟨q', k1, k2, k3, ds, k4, k5⟩ := h3 j hj
    exact ⟨q', k1, k2, k3, ds, k4.only ho (by omega), k5⟩)
  clear x0 lx X0 R0 T0 I0 ho hr1
  go_wp2_with fail
  refine (markThreadS_any q (q + 1) hi p.ts p.ts.length (1 + p.init.length) w1 hn2 (by omega) (by omega) T1.out).mono ?_
  rintro e w2 ⟨⟨m, rfl, hm⟩, hI⟩
  have I2 := hide (I1.out.trans (hI.wide (by omega) (Nat.le_refl _)))
  go_wp2_with fail
  go_ret
  exact ⟨⟨m, rfl, hm⟩, I2.out⟩
end Go.Proofs.Ytfkaacfeikmabaa
