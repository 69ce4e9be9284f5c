/- What Start answers, told: refused, or which state. -/
import Derived.Test.YtfkaacfeikmabaaMf0
import Derived.Test.YtfkaacfeikmabaaMf19
import Derived.Test.YtfkaacfeikmabaaMf23
import Derived.Test.YtfkaacfeikmabaaMf26
namespace Go.Proofs.Ytfkaacfeikmabaa
open Go.RowKit

theorem rlens_same {rs rs' : List RowD} (h : SameRows rs rs') : rlens rs = rlens rs' := by
  have e : ∀ (l : List RowD) (i : Nat) (h : i < (rlens l).length), (rlens l)[i] = (getr l i).zs.length := fun l i h => by
    rw [← rlens_get, List.getD_eq_getElem?_getD, List.getElem?_eq_getElem h]; rfl
  refine List.ext_getElem (by rw [rlens_len, rlens_len, h.1]) fun i h1 h2 => ?_
  rw [e, e, (h.2 i (by rw [rlens_len] at h1; exact h1)).2]
theorem stB_same {s d : StD} (h : SameSt s d) : stB s = stB d := by
  unfold stB
  rw [h.pc.1, rlens_same h.F, h.mem.1, rlens_same h.bufs, h.H, rlens_same h.view, h.sc.1]
theorem rlens_rep (n : Nat) (r : RowD) : (rlens (List.replicate n r)).sum = n * r.zs.length := by
  induction n with
  | zero => simp [rlens]
  | succ n ih =>
    unfold rlens at ih ⊢
    rw [List.replicate_succ, List.map_cons, List.sum_cons, ih, Nat.add_mul]
    omega
theorem prog_small {p : ProgD} (h : progB p = true) : p.init.length ≤ 6 ∧ p.ts.length ≤ 3 := by
  unfold progB sizesB at h
  simp only [Bool.and_eq_true, decide_eq_true_eq] at h
  omega
theorem startC_small {p : ProgD} (kd : Int) (h : progB p = true) : stB (startC p kd) ≤ 1048576 := by
  obtain ⟨h1, h2⟩ := prog_small h
  have e1 : p.ts.length * (zrowD 0 6).zs.length ≤ 18 := by
    have : (zrowD 0 6).zs.length = 6 := by simp [zrowD, zerosS]
    rw [this]; omega
  have e2 : (rlens (startC p kd).bufs.rs).sum = 0 := by
    unfold startC
    by_cases hk : kd = 1
    · simp only [if_pos hk, rlens_rep, row0, List.length_nil, Nat.mul_zero]
    · simp only [if_neg hk, nilRows, rlens, List.map_nil, List.sum_nil]
  have e3 : (rlens (startC p kd).F.rs).sum ≤ 18 := by
    show (rlens (List.replicate p.ts.length (zrowD 0 6))).sum ≤ 18
    rw [rlens_rep]; exact e1
  unfold stB
  rw [e2]
  have e4 : histSize (startC p kd).H.hs = 0 := by simp [startC, nilHists, histSize, postLens]
  have e5 : (rlens (startC p kd).view.rs).sum = 0 := by simp [startC, nilRows, rlens]
  rw [e4, e5]
  have e6 : (startC p kd).pc.n = p.ts.length ∧ (startC p kd).mem.n = p.init.length ∧ (startC p kd).sc.n = 0 := ⟨rfl, rfl, rfl⟩
  omega
theorem startV_small {p : ProgD} (h : progB p = true) : stB (startV p) ≤ 1048576 := by
  obtain ⟨h1, h2⟩ := prog_small h
  have e3 : (rlens (startV p).F.rs).sum ≤ 18 := by
    show (rlens (List.replicate p.ts.length (zrowD 0 6))).sum ≤ 18
    rw [rlens_rep]
    have : (zrowD 0 6).zs.length = 6 := by simp [zrowD, zerosS]
    rw [this]; omega
  have e5 : (rlens (startV p).view.rs).sum ≤ 18 := by
    show (rlens (List.replicate p.ts.length ⟨0, 0, none, p.init.length, 0, idsL p.init.length⟩)).sum ≤ 18
    rw [rlens_rep]
    have : p.ts.length * (idsL p.init.length).length ≤ 3 * 6 := Nat.mul_le_mul h2 (by rw [idsL_len]; exact h1)
    exact this
  have e4 : histSize (startV p).H.hs ≤ 48 := by
    show histSize (histK p.init p.init.length) ≤ 48
    unfold histSize
    rw [histK_sum, histK_len]
    have : p.init.length * (1 + p.init.length) ≤ 6 * 7 := Nat.mul_le_mul h1 (by omega)
    omega
  have e2 : (rlens (startV p).bufs.rs).sum = 0 := by simp [startV, nilRows, rlens]
  unfold stB
  rw [e2]
  have e6 : (startV p).pc.n = p.ts.length ∧ (startV p).mem.n = 0 ∧ (startV p).sc.n = p.init.length := ⟨rfl, rfl, rfl⟩
  omega
end Go.Proofs.Ytfkaacfeikmabaa

namespace Go.Proofs.Ytfkaacfeikmabaa
open Go.RowKit

structure PArg (w : World) (A1 A2 : Option Addr) (c1 c2 : Nat) (p : ProgD) : Prop where
  cc : p.init.length ≤ c1 ∧ p.ts.length ≤ c2
  ini : IntsAt w (Old w.heap.size) A1 p.init
  ts : ThreadsAt w (Old w.heap.size) A2 p.ts

end Go.Proofs.Ytfkaacfeikmabaa

namespace Go.Proofs.Ytfkaacfeikmabaa
open Go.RowKit

def StAns (s0 : StD) (ok : Bool) (w : World) (e : Ending) (w' : World) : Prop :=
  ∃ d : StD, e = .returned (.tuple #[.agg d.cells, .bool ok]) ∧ StIn w' d ∧ (∀ i, i < 7 → w.heap.size ≤ (d.iv i).1) ∧ SameSt s0 d ∧ Below w.heap.size w w'
def zeroSt (b : Nat) : StD := ⟨0, nilRow b, nilRows b, nilRow b, nilRows b, nilHists b, nilRows b, nilRow b, 0⟩
theorem zeroSt_iv (b : Nat) {i : Nat} (h : i < 7) : (zeroSt b).iv i = (b, b) := by
  have h7 : i = 0 ∨ i = 1 ∨ i = 2 ∨ i = 3 ∨ i = 4 ∨ i = 5 ∨ i = 6 := by omega
  rcases h7 with rfl | rfl | rfl | rfl | rfl | rfl | rfl <;> rfl
theorem zeroSt_in {w : World} {b : Nat} (h : b ≤ w.heap.size) : StIn w (zeroSt b) :=
  ⟨nilRow_ok w b, nilRows_okF w b, nilRow_ok w b, nilRows_okB w b, nilHists_ok w b, nilRows_okF w b, nilRow_ok w b, fun i j hij hj => by
    rw [zeroSt_iv b (by omega), zeroSt_iv b hj]
    exact Or.inl (Nat.le_refl _), fun i hi => by
    rw [zeroSt_iv b hi]
    exact h⟩
theorem same_nil (b c : Nat) : SameRows (nilRows b).rs (nilRows c).rs := ⟨rfl, fun k hk => by simp [nilRows] at hk⟩
theorem zero_same (b c : Nat) : SameSt (zeroSt b) (zeroSt c) :=
  ⟨rfl, ⟨rfl, rfl⟩, same_nil b c, ⟨rfl, rfl⟩, same_nil b c, rfl, same_nil b c, ⟨rfl, rfl⟩, rfl⟩
theorem zero_ans {w w' : World} {e : Ending} (h : e = .returned (.tuple #[zState, .bool false]) ∧ Below w.heap.size w w') : StAns (zeroSt 0) false w e w' :=
  ⟨zeroSt w.heap.size, h.1, zeroSt_in h.2.size, fun i hi => by rw [zeroSt_iv _ hi]; exact Nat.le_refl _, zero_same _ _, h.2⟩

theorem start_both (p : ProgD) (kd : Int) :
    ∃ (s0 : StD) (ok : Bool), stB s0 ≤ 1048576
      ∧ (∀ A1 A2 c1 c2 w, PArg w A1 A2 c1 c2 p → Calls Try.prog 27 #[.agg #[.slice A1 p.init.length c1, .slice A2 p.ts.length c2], .int .i64 kd] w (StAns s0 ok w))
      ∧ (∀ A1 A2 c1 c2 w, PArg w A1 A2 c1 c2 p → Calls Try.prog 28 #[.agg #[.slice A1 p.init.length c1, .slice A2 p.ts.length c2], .int .i64 kd] w (StAns s0 ok w)) := by
  cases h : (progB p && kindB kd)
  case false =>
    exact ⟨zeroSt 0, false, by simp [stB, zeroSt, nilRow, nilRows, nilHists, rlens, histSize, postLens], fun A1 A2 c1 c2 w a => (sstart_no p kd A1 A2 c1 c2 _ w (Nat.le_refl _) a.cc a.ini a.ts h).mono fun _ _ h => zero_ans h, fun A1 A2 c1 c2 w a => (start_no p kd A1 A2 c1 c2 _ w (Nat.le_refl _) a.cc a.ini a.ts h).mono fun _ _ h => zero_ans h⟩
  case true =>
    have hB : progB p = true := by revert h; cases progB p <;> simp
    have hk : kindB kd = true := by revert h; cases kindB kd <;> simp
    unfold kindB at hk
    simp only [Bool.and_eq_true, decide_eq_true_eq] at hk
    have h3 : kd = 0 ∨ kd = 1 ∨ kd = 2 := by omega
    rcases h3 with rfl | rfl | rfl
    · exact ⟨startC p 0, true, startC_small 0 hB, fun A1 A2 c1 c2 w a => sstart_01 p 0 A1 A2 c1 c2 _ w (Nat.le_refl _) a.cc a.ini a.ts hB (Or.inl rfl), fun A1 A2 c1 c2 w a => start_0 p A1 A2 c1 c2 _ w (Nat.le_refl _) a.cc a.ini a.ts hB⟩
    · exact ⟨startC p 1, true, startC_small 1 hB, fun A1 A2 c1 c2 w a => sstart_01 p 1 A1 A2 c1 c2 _ w (Nat.le_refl _) a.cc a.ini a.ts hB (Or.inr rfl), fun A1 A2 c1 c2 w a => start_1 p A1 A2 c1 c2 _ w (Nat.le_refl _) a.cc a.ini a.ts hB⟩
    · exact ⟨startV p, true, startV_small hB, fun A1 A2 c1 c2 w a => sstart_2 p A1 A2 c1 c2 _ w (Nat.le_refl _) a.cc a.ini a.ts hB, fun A1 A2 c1 c2 w a => start_2 p A1 A2 c1 c2 _ w (Nat.le_refl _) a.cc a.ini a.ts hB⟩
end Go.Proofs.Ytfkaacfeikmabaa

namespace Go.Proofs.Ytfkaacfeikmabaa
open Go.RowKit

theorem geti_zerosS (n k : Nat) : geti (zerosS n) k = 0 := by
  unfold geti zerosS
  rw [List.getD_eq_getElem?_getD, List.getElem?_replicate]
  split <;> rfl
theorem com_start (ts : List (List InsD)) : comB ts (zerosS ts.length) (List.replicate ts.length (zrowD 0 6)) = true := by
  unfold comB
  rw [allB_yes (fun k hk => by
    rw [geti_zerosS, getr_rep _ _ _ hk]
    exact decide_eq_true ⟨Int.le_refl _, by omega, rfl⟩)]
  simp [zerosS]
theorem bufs_start (n m : Nat) : bufsB n m (List.replicate m row0) = true := by
  unfold bufsB
  rw [allB_yes (fun k hk => by
    rw [List.length_replicate] at hk
    rw [getr_rep _ _ _ hk]
    rfl)]
  simp
theorem startC_state {p : ProgD} {kd : Int} (h : progB p = true) (hk : kd = 0 ∨ kd = 1) : stateB p (startC p kd) = true := by
  have hc : comB p.ts (startC p kd).pc.zs (startC p kd).F.rs = true := com_start p.ts
  unfold stateB
  rw [h, hc]
  rcases hk with rfl | rfl
  · simp [restB, startC, noViewsB, nilRows, nilHists, nilRow]
  · have := bufs_start p.init.length p.ts.length
    simp [restB, startC, noViewsB, nilRows, nilHists, nilRow, this]
theorem vs_1_0 (a : Int) : viewsB 1 0 1 (histK [a] 1) (List.replicate 0 ⟨0, 0, none, 1, 0, idsL 1⟩) (idsL 1) = true := by kernel_rfl
theorem vs_1_1 (a : Int) : viewsB 1 1 1 (histK [a] 1) (List.replicate 1 ⟨0, 0, none, 1, 0, idsL 1⟩) (idsL 1) = true := by kernel_rfl
theorem vs_1_2 (a : Int) : viewsB 1 2 1 (histK [a] 1) (List.replicate 2 ⟨0, 0, none, 1, 0, idsL 1⟩) (idsL 1) = true := by kernel_rfl
theorem vs_1_3 (a : Int) : viewsB 1 3 1 (histK [a] 1) (List.replicate 3 ⟨0, 0, none, 1, 0, idsL 1⟩) (idsL 1) = true := by kernel_rfl
theorem vs_2_0 (a b : Int) : viewsB 2 0 2 (histK [a, b] 2) (List.replicate 0 ⟨0, 0, none, 2, 0, idsL 2⟩) (idsL 2) = true := by kernel_rfl
theorem vs_2_1 (a b : Int) : viewsB 2 1 2 (histK [a, b] 2) (List.replicate 1 ⟨0, 0, none, 2, 0, idsL 2⟩) (idsL 2) = true := by kernel_rfl
theorem vs_2_2 (a b : Int) : viewsB 2 2 2 (histK [a, b] 2) (List.replicate 2 ⟨0, 0, none, 2, 0, idsL 2⟩) (idsL 2) = true := by kernel_rfl
theorem vs_2_3 (a b : Int) : viewsB 2 3 2 (histK [a, b] 2) (List.replicate 3 ⟨0, 0, none, 2, 0, idsL 2⟩) (idsL 2) = true := by kernel_rfl
theorem vs_3_0 (a b c : Int) : viewsB 3 0 3 (histK [a, b, c] 3) (List.replicate 0 ⟨0, 0, none, 3, 0, idsL 3⟩) (idsL 3) = true := by kernel_rfl
theorem vs_3_1 (a b c : Int) : viewsB 3 1 3 (histK [a, b, c] 3) (List.replicate 1 ⟨0, 0, none, 3, 0, idsL 3⟩) (idsL 3) = true := by kernel_rfl
theorem vs_3_2 (a b c : Int) : viewsB 3 2 3 (histK [a, b, c] 3) (List.replicate 2 ⟨0, 0, none, 3, 0, idsL 3⟩) (idsL 3) = true := by kernel_rfl
theorem vs_3_3 (a b c : Int) : viewsB 3 3 3 (histK [a, b, c] 3) (List.replicate 3 ⟨0, 0, none, 3, 0, idsL 3⟩) (idsL 3) = true := by kernel_rfl
theorem vs_4_0 (a b c d : Int) : viewsB 4 0 4 (histK [a, b, c, d] 4) (List.replicate 0 ⟨0, 0, none, 4, 0, idsL 4⟩) (idsL 4) = true := by kernel_rfl
theorem vs_4_1 (a b c d : Int) : viewsB 4 1 4 (histK [a, b, c, d] 4) (List.replicate 1 ⟨0, 0, none, 4, 0, idsL 4⟩) (idsL 4) = true := by kernel_rfl
theorem vs_4_2 (a b c d : Int) : viewsB 4 2 4 (histK [a, b, c, d] 4) (List.replicate 2 ⟨0, 0, none, 4, 0, idsL 4⟩) (idsL 4) = true := by kernel_rfl
theorem vs_4_3 (a b c d : Int) : viewsB 4 3 4 (histK [a, b, c, d] 4) (List.replicate 3 ⟨0, 0, none, 4, 0, idsL 4⟩) (idsL 4) = true := by kernel_rfl
theorem vs_5_0 (a b c d e : Int) : viewsB 5 0 5 (histK [a, b, c, d, e] 5) (List.replicate 0 ⟨0, 0, none, 5, 0, idsL 5⟩) (idsL 5) = true := by kernel_rfl
theorem vs_5_1 (a b c d e : Int) : viewsB 5 1 5 (histK [a, b, c, d, e] 5) (List.replicate 1 ⟨0, 0, none, 5, 0, idsL 5⟩) (idsL 5) = true := by kernel_rfl
theorem vs_5_2 (a b c d e : Int) : viewsB 5 2 5 (histK [a, b, c, d, e] 5) (List.replicate 2 ⟨0, 0, none, 5, 0, idsL 5⟩) (idsL 5) = true := by kernel_rfl
theorem vs_5_3 (a b c d e : Int) : viewsB 5 3 5 (histK [a, b, c, d, e] 5) (List.replicate 3 ⟨0, 0, none, 5, 0, idsL 5⟩) (idsL 5) = true := by kernel_rfl
theorem vs_6_0 (a b c d e f : Int) : viewsB 6 0 6 (histK [a, b, c, d, e, f] 6) (List.replicate 0 ⟨0, 0, none, 6, 0, idsL 6⟩) (idsL 6) = true := by kernel_rfl
theorem vs_6_1 (a b c d e f : Int) : viewsB 6 1 6 (histK [a, b, c, d, e, f] 6) (List.replicate 1 ⟨0, 0, none, 6, 0, idsL 6⟩) (idsL 6) = true := by kernel_rfl
theorem vs_6_2 (a b c d e f : Int) : viewsB 6 2 6 (histK [a, b, c, d, e, f] 6) (List.replicate 2 ⟨0, 0, none, 6, 0, idsL 6⟩) (idsL 6) = true := by kernel_rfl
theorem vs_6_3 (a b c d e f : Int) : viewsB 6 3 6 (histK [a, b, c, d, e, f] 6) (List.replicate 3 ⟨0, 0, none, 6, 0, idsL 6⟩) (idsL 6) = true := by kernel_rfl
theorem views_start (init : List Int) (m : Nat) (h1 : 1 ≤ init.length) (h6 : init.length ≤ 6) (hm : m ≤ 3) : viewsB init.length m init.length (histK init init.length) (List.replicate m ⟨0, 0, none, init.length, 0, idsL init.length⟩) (idsL init.length) = true := by
  have hm' : m = 0 ∨ m = 1 ∨ m = 2 ∨ m = 3 := by omega
  match init, h1, h6 with
  | [], h, _ => simp at h
  | [a], _, _ =>
    rcases hm' with rfl | rfl | rfl | rfl
    · exact vs_1_0 a
    · exact vs_1_1 a
    · exact vs_1_2 a
    · exact vs_1_3 a
  | [a, b], _, _ =>
    rcases hm' with rfl | rfl | rfl | rfl
    · exact vs_2_0 a b
    · exact vs_2_1 a b
    · exact vs_2_2 a b
    · exact vs_2_3 a b
  | [a, b, c], _, _ =>
    rcases hm' with rfl | rfl | rfl | rfl
    · exact vs_3_0 a b c
    · exact vs_3_1 a b c
    · exact vs_3_2 a b c
    · exact vs_3_3 a b c
  | [a, b, c, d], _, _ =>
    rcases hm' with rfl | rfl | rfl | rfl
    · exact vs_4_0 a b c d
    · exact vs_4_1 a b c d
    · exact vs_4_2 a b c d
    · exact vs_4_3 a b c d
  | [a, b, c, d, e], _, _ =>
    rcases hm' with rfl | rfl | rfl | rfl
    · exact vs_5_0 a b c d e
    · exact vs_5_1 a b c d e
    · exact vs_5_2 a b c d e
    · exact vs_5_3 a b c d e
  | [a, b, c, d, e, f], _, _ =>
    rcases hm' with rfl | rfl | rfl | rfl
    · exact vs_6_0 a b c d e f
    · exact vs_6_1 a b c d e f
    · exact vs_6_2 a b c d e f
    · exact vs_6_3 a b c d e f
  | _ :: _ :: _ :: _ :: _ :: _ :: _ :: _, _, h =>
    simp only [List.length_cons] at h
    omega
theorem startV_state {p : ProgD} (h : progB p = true) : stateB p (startV p) = true := by
  have hc : comB p.ts (startV p).pc.zs (startV p).F.rs = true := com_start p.ts
  obtain ⟨h6, h3⟩ := prog_small h
  have h1 : 1 ≤ p.init.length := by
    unfold progB sizesB at h
    simp only [Bool.and_eq_true, decide_eq_true_eq] at h
    omega
  unfold stateB
  rw [h, hc]
  have hv := views_start p.init p.ts.length h1 h6 h3
  simp [restB, startV, nilRows, nilRow, hv]
end Go.Proofs.Ytfkaacfeikmabaa

namespace Go.Proofs.Ytfkaacfeikmabaa
open Go.RowKit

theorem PArg.next {w w' : World} {A1 A2 : Option Addr} {c1 c2 : Nat} {p : ProgD} (h : PArg w A1 A2 c1 c2 p) (hb : Below w.heap.size w w') : PArg w' A1 A2 c1 c2 p :=
  ⟨h.cc, (h.ini.below hb (fun _ k => k)).more (fun _ k => Nat.lt_of_lt_of_le k hb.size), (h.ts.below hb (fun _ k => k)).more (fun _ k => Nat.lt_of_lt_of_le k hb.size)⟩
theorem start_told (p : ProgD) (kd : Int) :
    ∃ (s0 : StD) (ok : Bool),
      (∀ A1 A2 c1 c2 w, PArg w A1 A2 c1 c2 p → Calls Try.prog 27 #[.agg #[.slice A1 p.init.length c1, .slice A2 p.ts.length c2], .int .i64 kd] w (StAns s0 ok w))
      ∧ (∀ A1 A2 c1 c2 w, PArg w A1 A2 c1 c2 p → Calls Try.prog 28 #[.agg #[.slice A1 p.init.length c1, .slice A2 p.ts.length c2], .int .i64 kd] w (StAns s0 ok w))
      ∧ ((ok = false ∧ s0 = zeroSt 0) ∨ (ok = true ∧ progB p = true ∧ (kd = 0 ∨ kd = 1) ∧ s0 = startC p kd) ∨ (ok = true ∧ progB p = true ∧ kd = 2 ∧ s0 = startV p)) := by
  cases h : (progB p && kindB kd)
  case false =>
    exact ⟨zeroSt 0, false, fun A1 A2 c1 c2 w a => (sstart_no p kd A1 A2 c1 c2 _ w (Nat.le_refl _) a.cc a.ini a.ts h).mono fun _ _ h => zero_ans h, fun A1 A2 c1 c2 w a => (start_no p kd A1 A2 c1 c2 _ w (Nat.le_refl _) a.cc a.ini a.ts h).mono fun _ _ h => zero_ans h, .inl ⟨rfl, rfl⟩⟩
  case true =>
    have hB : progB p = true := by revert h; cases progB p <;> simp
    have hk : kindB kd = true := by revert h; cases kindB kd <;> simp
    unfold kindB at hk
    simp only [Bool.and_eq_true, decide_eq_true_eq] at hk
    have h3 : kd = 0 ∨ kd = 1 ∨ kd = 2 := by omega
    rcases h3 with rfl | rfl | rfl
    · exact ⟨startC p 0, true, fun A1 A2 c1 c2 w a => sstart_01 p 0 A1 A2 c1 c2 _ w (Nat.le_refl _) a.cc a.ini a.ts hB (Or.inl rfl), fun A1 A2 c1 c2 w a => start_0 p A1 A2 c1 c2 _ w (Nat.le_refl _) a.cc a.ini a.ts hB, .inr (.inl ⟨rfl, hB, .inl rfl, rfl⟩)⟩
    · exact ⟨startC p 1, true, fun A1 A2 c1 c2 w a => sstart_01 p 1 A1 A2 c1 c2 _ w (Nat.le_refl _) a.cc a.ini a.ts hB (Or.inr rfl), fun A1 A2 c1 c2 w a => start_1 p A1 A2 c1 c2 _ w (Nat.le_refl _) a.cc a.ini a.ts hB, .inr (.inl ⟨rfl, hB, .inr rfl, rfl⟩)⟩
    · exact ⟨startV p, true, fun A1 A2 c1 c2 w a => sstart_2 p A1 A2 c1 c2 _ w (Nat.le_refl _) a.cc a.ini a.ts hB, fun A1 A2 c1 c2 w a => start_2 p A1 A2 c1 c2 _ w (Nat.le_refl _) a.cc a.ini a.ts hB, .inr (.inr ⟨rfl, hB, rfl, rfl⟩)⟩
end Go.Proofs.Ytfkaacfeikmabaa
