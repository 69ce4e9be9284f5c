/- Writing one field of one instruction in place. -/
import Derived.Test.YtjendjbbhohjcaaMc0
import Derived.Test.YtjendjbbhohjcaaMc4
import Derived.Test.YtjendjbbhohjcaaMc9
import Derived.Test.YtjendjbbhohjcaaRows
import Derived.BigQuiet
import Derived.Deep.QuietTactic
import Derived.BigRegion
namespace Go.Proofs.Ytjendjbbhohjcaa
open Go.RowKit

theorem gett_put (ts : List (List InsD)) (t k : Nat) (l : List InsD) (ht : t < ts.length) : gett (ts.set t l) k = if k = t then l else gett ts k := by
  unfold gett
  rw [List.getD_eq_getElem?_getD, List.getD_eq_getElem?_getD, List.getElem?_set]
  by_cases e : k = t
  · subst e; simp [ht]
  · rw [if_neg (fun h => e h.symm), if_neg e]
theorem vat_put (vs : List Value) (t k : Nat) (u : Value) (ht : t < vs.length) : vat (vs.set t u) k = if k = t then u else vat vs k := by
  unfold vat
  rw [List.getD_eq_getElem?_getD, List.getD_eq_getElem?_getD, List.getElem?_set]
  by_cases e : k = t
  · subst e; simp [ht]
  · rw [if_neg (fun h => e h.symm), if_neg e]
theorem rows_put {w : World} {B b c n : Nat} {vs : List Value} (h : w.ownsRow B 45 1 (.slice (some ⟨b, 0, none⟩) n c) n vs) (t : Nat) (u : Value) :
    (w.setCell ⟨b, t, none⟩ u).ownsRow B 45 1 (.slice (some ⟨b, 0, none⟩) n c) n (vs.set t u) := by
  rcases h.2 with ⟨hv, _⟩ | ⟨q', cap, cur, hv, hb, hh, hcap, hmax, hcs, ht⟩
  · cases hv
  · cases hv
    refine ⟨by rw [List.length_set]; exact h.1, .inr ⟨b, c, cur.setIfInBounds t u, rfl, hb, Blk.set_ (t := 45) (cs := cur) hh t u, hcap, hmax, by simpa using hcs, ?_⟩⟩
    rw [← ht]
    simp [List.take_set]
theorem ProgOwn.putThr {w w1 : World} {B b c cl : Nat} {A : Option Addr} {zs : List Int} {v : Value} {ts : List (List InsD)} {vs : List Value} {l : List InsD} (h : ProgOwn w B zs v ts vs (.slice (some ⟨b, 0, none⟩) ts.length c)) (hB : B ≤ w.heap.size) {t : Nat} (ht : t < ts.length)
    (hb : Below w.heap.size w w1) (ho : w1.ownsRow w.heap.size 89 6 (.slice A l.length cl) l.length (flat l)) :
    ProgOwn (w1.setCell ⟨b, t, none⟩ (.slice A l.length cl)) B zs v (ts.set t l) (vs.set t (.slice A l.length cl)) (.slice (some ⟨b, 0, none⟩) ts.length c) := by
  have hvl := h.len
  have h1 := h.keep (w1 := w1) (fun b _ hlt => hb.block b hlt)
  have hbb : (Value.slice (some ⟨b, 0, none⟩) ts.length c).ownBlock = some b := rfl
  have ho1 := own_base ho hB
  refine ⟨own_setFar h1.ints (fun e => apart_type h1.rows h1.ints (by decide) b hbb e) _, ?_, fun k hk => ?_, fun j k hjk hk => ?_⟩
  · rw [List.length_set]
    exact rows_put h1.rows t _
  · rw [List.length_set] at hk
    rw [gett_put ts t k _ ht, vat_put vs t k _ (by omega)]
    by_cases e : k = t
    · rw [if_pos e, if_pos e]
      exact own_setFar ho1 (fun e => apart_type h1.rows ho1 (by decide) b hbb e) _
    · rw [if_neg e, if_neg e]
      exact own_setFar (h1.thr k hk) (fun e => apart_type h1.rows (h1.thr k hk) (by decide) b hbb e) _
  · rw [List.length_set] at hk
    rw [vat_put vs t j _ (by omega), vat_put vs t k _ (by omega)]
    have fresh : ∀ k, k < ts.length → Apart (vat vs k) (.slice A l.length cl) := fun k hk => apart_new (h.thr k hk) ho (Nat.le_refl _)
    by_cases e1 : j = t
    · rw [if_pos e1, if_neg (show k ≠ t by omega)]
      exact (fresh k hk).symm
    · rw [if_neg e1]
      by_cases e2 : k = t
      · rw [if_pos e2]
        exact fresh j (by omega)
      · rw [if_neg e2]
        exact h.apart j k hjk hk
theorem CrAt.putThr {w0 w w1 : World} {T b c cl m : Nat} {A : Option Addr} {zs : List Int} {v : Value} {ts : List (List InsD)} {vs : List Value} {l : List InsD} (h : CrAt w0 T zs v ts vs (.slice (some ⟨b, 0, none⟩) m c) w) (hm : ts.length = m) {t : Nat} (ht : t < m)
    (hb : Below w.heap.size w w1) (ho : w1.ownsRow w.heap.size 89 6 (.slice A l.length cl) l.length (flat l)) :
    (w1.cell? ⟨b, t, none⟩ = some (vat vs t) ∧ w1.frozen? ⟨b, t, none⟩ = false) ∧ CrAt w0 T zs v (ts.set t l) (vs.set t (.slice A l.length cl)) (.slice (some ⟨b, 0, none⟩) m c) (w1.setCell ⟨b, t, none⟩ (.slice A l.length cl)) := by
  subst hm
  have h1 := h.next hb
  have hbb : (Value.slice (some ⟨b, 0, none⟩) ts.length c).ownBlock = some b := rfl
  obtain ⟨hb0, hb1, cur, hbc⟩ := own_lt h1.own.rows hbb
  have hbT : T ≠ b := fun e => blk_far h1.blk h1.own.rows (by decide) (by rw [hbb, e])
  have hlo := h.lo
  have hT := h.blk.lt
  exact ⟨⟨rows_cell h1.own.rows ht, Blk.frozen (t := 45) (cs := cur) hbc t⟩, ⟨h1.below.setCell (by show w0.heap.size ≤ b; omega) _, h1.blk.far (by show T ≠ b; exact hbT) _, h.own.putThr (by omega) ht hb ho, h.lo, h1.out.imp fun _ => Exists.imp fun _ k => Blk.far k (by show w0.heap.size ≠ b; omega) _⟩⟩

theorem CrAt.start2 {W0 w1 w2 : World} {zs : List Int} {v tv : Value} {ts : List (List InsD)} {vs : List Value} (h1 : Below W0.heap.size W0 w1) (hs : W0.heap.size < w1.heap.size) (hR : Blk w1 W0.heap.size 37 #[.slice none 0 0, .slice none 0 0]) (h2 : Below w1.heap.size w1 w2) (ho : ProgOwn w2 w1.heap.size zs v ts vs tv) :
    CrAt W0 w2.heap.size zs v ts vs tv (w2.alloc (.cells #[v, tv] 37)) := by
  have h3 := h1.trans (h2.mono h1.size)
  have h4 := h2.size
  have h5 := h1.size
  exact ⟨h3.alloc h3.size _, Blk.new _ _ _, (ho.base (by omega)).keep (fun b _ hlt => Below.heap_alloc _ _ b hlt), by omega, _, _, (hR.below h2 hR.lt).alloc _⟩

def mixTs (ts : List (List InsD)) (zs : List Int) (k : Nat) : List (List InsD) := turnTs ts zs k ++ ts.drop k
theorem mixTs_0 (ts : List (List InsD)) (zs : List Int) : mixTs ts zs 0 = ts := rfl
theorem mixTs_len (ts : List (List InsD)) (zs : List Int) (k : Nat) (h : k ≤ ts.length) : (mixTs ts zs k).length = ts.length := by simp [mixTs, turnTs_len]; omega
theorem mixTs_all (ts : List (List InsD)) (zs : List Int) : mixTs ts zs ts.length = turnTs ts zs ts.length := by simp [mixTs]
theorem mixTs_succ (ts : List (List InsD)) (zs : List Int) (k : Nat) (h : k < ts.length) : mixTs ts zs (k + 1) = (mixTs ts zs k).set k (gett ts (geti zs k).toNat) := by
  unfold mixTs
  rw [turnTs_succ, List.set_append, if_neg (by rw [turnTs_len]; omega), turnTs_len, Nat.sub_self, List.append_assoc]
  rw [List.drop_eq_getElem_cons h]
  rfl
end Go.Proofs.Ytjendjbbhohjcaa

namespace Go.Proofs.Ytjendjbbhohjcaa
open Go.RowKit

set_option maxHeartbeats 400000 in
theorem known_any (o : Int) (w : World) :
    Calls Try.prog 113 #[.int .i64 o] w fun e w' => e = .returned (.bool (knownB o)) ∧ w = w' := by
  go_enter Try.func113, Try.ntmps113
  go_wp2
  all_goals
    go_ret
    exact ⟨ret_bool (by unfold knownB; simp; omega), rfl⟩


set_option maxHeartbeats 400000 in
theorem touches_any (o : Int) (w : World) :
    Calls Try.prog 112 #[.int .i64 o] w fun e w' => e = .returned (.int .i64 (touchN o)) ∧ w = w' := by
  go_enter Try.func112, Try.ntmps112
  go_wp2
  all_goals
    go_ret
    exact ⟨ret_int (by simp only [beq_iff_eq, beq_eq_false_iff_ne, ne_eq] at *; unfold touchN; first | (subst_vars; rfl) | (repeat rw [if_neg (by omega)])), rfl⟩

set_option maxHeartbeats 800000 in
theorem uses_any (o : Int) (w : World) :
    Calls Try.prog 124 #[.int .i64 o] w fun e w' => e = .returned (.agg #[.bool (uR o), .bool (uA o), .bool (uB o), .bool (uX o), .bool (uN o)]) ∧ Below w.heap.size w w' := by
  go_enter Try.func124, Try.ntmps124
  go_wp2
  all_goals
    refine bodyPost_ret (v := .agg #[.bool (uR o), .bool (uA o), .bool (uB o), .bool (uX o), .bool (uN o)]) ?_ rfl ⟨rfl, below1 _ _⟩
    first | (obtain ⟨e1, e2, e3, e4, e5⟩ := u_other o ‹_› ‹_› ‹_› ‹_› ‹_› ‹_› ‹_› ‹_› ‹_› ‹_› ‹_› ‹_› ‹_›; simp [results, Try.results124, go_sem, e1, e2, e3, e4, e5]; done) | (simp only [beq_iff_eq] at *; subst_vars; simp [results, Try.results124, go_sem, uR, uA, uB, uX, uN])



set_option maxHeartbeats 400000 in
theorem fields_any (o r a b x n : Int) (w : World) :
    Calls Try.prog 125 #[.agg #[.int .i64 o, .int .i64 r, .int .i64 a, .int .i64 b, .int .i64 x, .int .i64 n]] w fun e w' => e = .returned (.agg #[.int .i64 r, .int .i64 a, .int .i64 b, .int .i64 x, .int .i64 n]) ∧ Below w.heap.size w w' := by
  go_enter Try.func125, Try.ntmps125
  go_wp2
  exact bodyPost_ret (v := .agg #[.int .i64 r, .int .i64 a, .int .i64 b, .int .i64 x, .int .i64 n]) (by simp [results, Try.results125, go_sem]) rfl ⟨rfl, below2 _ _ _⟩

set_option maxHeartbeats 400000 in
theorem count_any (o r a b x n : Int) (w : World) :
    Calls Try.prog 111 #[.agg #[.int .i64 o, .int .i64 r, .int .i64 a, .int .i64 b, .int .i64 x, .int .i64 n]] w fun e w' => e = .returned (.int .i64 (countN o n)) ∧ Below w.heap.size w w' := by
  go_enter Try.func111, Try.ntmps111
  go_wp2
  all_goals
    go_ret
    exact ⟨ret_int (by simp only [beq_iff_eq, beq_eq_false_iff_ne, ne_eq] at *; unfold countN; first | (subst_vars; rfl) | (repeat rw [if_neg (by omega)])), below2 _ _ _⟩

end Go.Proofs.Ytjendjbbhohjcaa

namespace Go.Proofs.Ytjendjbbhohjcaa
open Go.RowKit

theorem regB_eq (r : Int) : (regB r = true ↔ (0 ≤ r ∧ r ≤ 5)) := by unfold regB; simp
theorem regB_no {r : Int} (h : ¬ (0 ≤ r ∧ r ≤ 5)) : regB r = false := by unfold regB; simpa using h

set_option maxHeartbeats 400000 in
theorem isReg_any (r : Int) (w : World) :
    Calls Try.prog 126 #[.int .i64 r] w fun e w' => e = .returned (.bool (regB r)) ∧ w = w' := by
  go_enter Try.func126, Try.ntmps126
  go_wp2
  all_goals
    go_ret
    exact ⟨ret_bool (by unfold regB; rw [Bool.eq_iff_iff]; simp; omega), rfl⟩

set_option maxHeartbeats 800000 in
theorem regs_any (o r a b x n : Int) (w : World) :
    Calls Try.prog 115 #[.agg #[.int .i64 o, .int .i64 r, .int .i64 a, .int .i64 b, .int .i64 x, .int .i64 n]] w fun e w' => e = .returned (.bool (regsB r a b)) ∧ Below w.heap.size w w' := by
  have HF := hide (show regsB r a b = (regB r && regB a && regB b) from rfl)
  have k1 := hide (fun w => isReg_any r w)
  have k2 := hide (fun w => isReg_any a w)
  have k3 := hide (fun w => isReg_any b w)
  generalize regB r = p1 at *
  generalize regB a = p2 at *
  generalize regB b = p3 at *
  cases p1
  · go_enter Try.func115, Try.ntmps115
    go_wp2_with fail
    refine (k1.out _).mono ?_; rintro e w1 ⟨rfl, rfl⟩
    go_wp2_with fail
    go_ret
    exact ⟨ret_bool (by rw [HF.out]; rfl), below1 _ _⟩
  cases p2
  · go_enter Try.func115, Try.ntmps115
    go_wp2_with fail
    refine (k1.out _).mono ?_; rintro e w1 ⟨rfl, rfl⟩
    go_wp2_with fail
    refine (k2.out _).mono ?_; rintro e w1 ⟨rfl, rfl⟩
    go_wp2_with fail
    go_ret
    exact ⟨ret_bool (by rw [HF.out]; rfl), below1 _ _⟩
  go_enter Try.func115, Try.ntmps115
  go_wp2_with fail
  refine (k1.out _).mono ?_; rintro e w1 ⟨rfl, rfl⟩
  go_wp2_with fail
  refine (k2.out _).mono ?_; rintro e w1 ⟨rfl, rfl⟩
  go_wp2_with fail
  refine (k3.out _).mono ?_; rintro e w1 ⟨rfl, rfl⟩
  go_wp2_with fail
  go_ret
  exact ⟨ret_bool (by rw [HF.out]; rfl), below1 _ _⟩

set_option maxHeartbeats 800000 in
theorem jump_any (o r a b x n i m : Int) (w : World) :
    Calls Try.prog 117 #[.agg #[.int .i64 o, .int .i64 r, .int .i64 a, .int .i64 b, .int .i64 x, .int .i64 n], .int .i64 i, .int .i64 m] w fun e w' => e = .returned (.bool (jumpB o n i m)) ∧ Below w.heap.size w w' := by
  go_enter Try.func117, Try.ntmps117
  go_wp2
  all_goals
    go_ret
    exact ⟨ret_bool (by simp only [beq_iff_eq, beq_eq_false_iff_ne, ne_eq] at *; unfold jumpB; rw [Bool.eq_iff_iff]; simp; try omega), below2 _ _ _⟩

set_option maxHeartbeats 800000 in
theorem cells_any (o r a b x n cells : Int) (w : World) (hc1 : -9223372036854775808 ≤ cells) (hc2 : cells ≤ 9223372036854775807) :
    Calls Try.prog 116 #[.agg #[.int .i64 o, .int .i64 r, .int .i64 a, .int .i64 b, .int .i64 x, .int .i64 n], .int .i64 cells] w fun e w' => e = .returned (.bool (cellsB o x n cells)) ∧ Below w.heap.size w w' := by
  go_enter Try.func116, Try.ntmps116
  go_wp2_with (first | (go_at_call 99; refine (kind_any _ _ _ _ _ _ _).mono ?_; rintro e w1 ⟨rfl, hb1⟩; obtain ⟨hcl1, hfz1⟩ := bcell hb1; have hz1 := size_step hb1) | (go_at_call 112; refine (touches_any _ _).mono ?_; rintro e w2 ⟨rfl, rfl⟩) | (go_at_call 111; refine (count_any _ _ _ _ _ _ _).mono ?_; rintro e w3 ⟨rfl, hb3⟩; obtain ⟨hcl3, hfz3⟩ := bcell hb3))
  all_goals
    go_ret
    refine ⟨ret_bool ?_, ?_⟩
  all_goals first | exact below_step ‹_› | exact below_then (below_step ‹_›) ‹_› | skip
  all_goals
    simp only [beq_iff_eq, beq_eq_false_iff_ne, ne_eq] at *
    unfold cellsB
    rw [Bool.eq_iff_iff]
    simp
    omega

set_option maxHeartbeats 800000 in
theorem zero_any (o r a b x n : Int) (w : World) :
    Calls Try.prog 114 #[.agg #[.int .i64 o, .int .i64 r, .int .i64 a, .int .i64 b, .int .i64 x, .int .i64 n]] w fun e w' => e = .returned (.bool (zeroB o r a b x n)) ∧ Below w.heap.size w w' := by
  have i0 : ∀ w, (Instr.index 145 (.agg #[.int .i64 r, .int .i64 a, .int .i64 b, .int .i64 x, .int .i64 n]) (.int .i64 0)).run Try.prog w = .ok (.int .i64 r) w := fun _ => by kernel_rfl
  have i1 : ∀ w, (Instr.index 145 (.agg #[.int .i64 r, .int .i64 a, .int .i64 b, .int .i64 x, .int .i64 n]) (.int .i64 1)).run Try.prog w = .ok (.int .i64 a) w := fun _ => by kernel_rfl
  have i2 : ∀ w, (Instr.index 145 (.agg #[.int .i64 r, .int .i64 a, .int .i64 b, .int .i64 x, .int .i64 n]) (.int .i64 2)).run Try.prog w = .ok (.int .i64 b) w := fun _ => by kernel_rfl
  have i3 : ∀ w, (Instr.index 145 (.agg #[.int .i64 r, .int .i64 a, .int .i64 b, .int .i64 x, .int .i64 n]) (.int .i64 3)).run Try.prog w = .ok (.int .i64 x) w := fun _ => by kernel_rfl
  have i4 : ∀ w, (Instr.index 145 (.agg #[.int .i64 r, .int .i64 a, .int .i64 b, .int .i64 x, .int .i64 n]) (.int .i64 4)).run Try.prog w = .ok (.int .i64 n) w := fun _ => by kernel_rfl
  go_enter Try.func114, Try.ntmps114
  go_wp2_with (first | (go_at_call 99; refine (kind_any _ _ _ _ _ _ _).mono ?_; rintro e w1 ⟨rfl, hb1⟩; obtain ⟨hcl1, hfz1⟩ := bcell hb1; have hz1 := size_step hb1) | (go_at_call 124; refine (uses_any _ _).mono ?_; rintro e w2 ⟨rfl, hb2⟩; obtain ⟨hcl2, hfz2⟩ := bcell hb2; have hz2 : w.heap.size < w2.heap.size := Nat.lt_of_lt_of_le hz1 hb2.size) | (go_at_call 125; refine (fields_any _ _ _ _ _ _ _).mono ?_; rintro e w3 ⟨rfl, hb3⟩; obtain ⟨hcl3, hfz3⟩ := bcell hb3))
  clear hcl1 hcl2 hfz1 hfz2 hfz3 hz1 hz2
  generalize efl1 : uR o = fl1 at *
  generalize efl2 : uA o = fl2 at *
  generalize efl3 : uB o = fl3 at *
  generalize efl4 : uX o = fl4 at *
  generalize efl5 : uN o = fl5 at *
  have Hu1 := hide efl1
  have Hu2 := hide efl2
  have Hu3 := hide efl3
  have Hu4 := hide efl4
  have Hu5 := hide efl5
  clear efl1 efl2 efl3 efl4 efl5
  go_loop [11] (fun i => (i = .int .i64 0) ∨ (i = .int .i64 1 ∧ Hid ((r == 0 || fl1) = true)) ∨ (i = .int .i64 2 ∧ Hid ((r == 0 || fl1) = true) ∧ Hid ((a == 0 || fl2) = true)) ∨ (i = .int .i64 3 ∧ Hid ((r == 0 || fl1) = true) ∧ Hid ((a == 0 || fl2) = true) ∧ Hid ((b == 0 || fl3) = true)) ∨ (i = .int .i64 4 ∧ Hid ((r == 0 || fl1) = true) ∧ Hid ((a == 0 || fl2) = true) ∧ Hid ((b == 0 || fl3) = true) ∧ Hid ((x == 0 || fl4) = true)) ∨ (i = .int .i64 5 ∧ Hid ((r == 0 || fl1) = true) ∧ Hid ((a == 0 || fl2) = true) ∧ Hid ((b == 0 || fl3) = true) ∧ Hid ((x == 0 || fl4) = true) ∧ Hid ((n == 0 || fl5) = true))) (fun i => (5 - intOf i).toNat)
  case atStart => exact .inl rfl
  case round =>
    rcases hrel with rfl | ⟨rfl, g1⟩ | ⟨rfl, g1, g2⟩ | ⟨rfl, g1, g2, g3⟩ | ⟨rfl, g1, g2, g3, g4⟩ | ⟨rfl, g1, g2, g3, g4, g5⟩
    · by_cases h : r = 0
      · have e1 : (r != 0) = false := by simp [h]
        have g1 : Hid ((r == 0 || fl1) = true) := hide (by simp [h])
        clear h
        go_wp2
        go_round
        case rel => exact .inr (.inl ⟨rfl, g1⟩)
        case measure => simp [intOf]
      · have e1 : (r != 0) = true := by simp [h]
        have e2 : (r == 0) = false := by simp [h]
        clear h
        have H2 := hide e2
        clear e2
        cases fl1
        · go_wp2
          go_ret
          exact ⟨ret_bool (by unfold zeroB; rw [Hu1.out, Hu2.out, Hu3.out, Hu4.out, Hu5.out, H2.out]; simp), below_then (below_then (below_step hb1) hb2) (below_step hb3)⟩
        · go_wp2
          go_round
          case rel => exact .inr (.inl ⟨rfl, hide (by simp)⟩)
          case measure => simp [intOf]
    · by_cases h : a = 0
      · have e1 : (a != 0) = false := by simp [h]
        have g2 : Hid ((a == 0 || fl2) = true) := hide (by simp [h])
        clear h
        go_wp2
        go_round
        case rel => exact .inr (.inr (.inl ⟨rfl, g1, g2⟩))
        case measure => simp [intOf]
      · have e1 : (a != 0) = true := by simp [h]
        have e2 : (a == 0) = false := by simp [h]
        clear h
        have H2 := hide e2
        clear e2
        cases fl2
        · go_wp2
          go_ret
          exact ⟨ret_bool (by unfold zeroB; rw [Hu1.out, Hu2.out, Hu3.out, Hu4.out, Hu5.out, H2.out]; simp), below_then (below_then (below_step hb1) hb2) (below_step hb3)⟩
        · go_wp2
          go_round
          case rel => exact .inr (.inr (.inl ⟨rfl, g1, hide (by simp)⟩))
          case measure => simp [intOf]
    · by_cases h : b = 0
      · have e1 : (b != 0) = false := by simp [h]
        have g3 : Hid ((b == 0 || fl3) = true) := hide (by simp [h])
        clear h
        go_wp2
        go_round
        case rel => exact .inr (.inr (.inr (.inl ⟨rfl, g1, g2, g3⟩)))
        case measure => simp [intOf]
      · have e1 : (b != 0) = true := by simp [h]
        have e2 : (b == 0) = false := by simp [h]
        clear h
        have H2 := hide e2
        clear e2
        cases fl3
        · go_wp2
          go_ret
          exact ⟨ret_bool (by unfold zeroB; rw [Hu1.out, Hu2.out, Hu3.out, Hu4.out, Hu5.out, H2.out]; simp), below_then (below_then (below_step hb1) hb2) (below_step hb3)⟩
        · go_wp2
          go_round
          case rel => exact .inr (.inr (.inr (.inl ⟨rfl, g1, g2, hide (by simp)⟩)))
          case measure => simp [intOf]
    · by_cases h : x = 0
      · have e1 : (x != 0) = false := by simp [h]
        have g4 : Hid ((x == 0 || fl4) = true) := hide (by simp [h])
        clear h
        go_wp2
        go_round
        case rel => exact .inr (.inr (.inr (.inr (.inl ⟨rfl, g1, g2, g3, g4⟩))))
        case measure => simp [intOf]
      · have e1 : (x != 0) = true := by simp [h]
        have e2 : (x == 0) = false := by simp [h]
        clear h
        have H2 := hide e2
        clear e2
        cases fl4
        · go_wp2
          go_ret
          exact ⟨ret_bool (by unfold zeroB; rw [Hu1.out, Hu2.out, Hu3.out, Hu4.out, Hu5.out, H2.out]; simp), below_then (below_then (below_step hb1) hb2) (below_step hb3)⟩
        · go_wp2
          go_round
          case rel => exact .inr (.inr (.inr (.inr (.inl ⟨rfl, g1, g2, g3, hide (by simp)⟩))))
          case measure => simp [intOf]
    · by_cases h : n = 0
      · have e1 : (n != 0) = false := by simp [h]
        have g5 : Hid ((n == 0 || fl5) = true) := hide (by simp [h])
        clear h
        go_wp2
        go_round
        case rel => exact .inr (.inr (.inr (.inr (.inr ⟨rfl, g1, g2, g3, g4, g5⟩))))
        case measure => simp [intOf]
      · have e1 : (n != 0) = true := by simp [h]
        have e2 : (n == 0) = false := by simp [h]
        clear h
        have H2 := hide e2
        clear e2
        cases fl5
        · go_wp2
          go_ret
          exact ⟨ret_bool (by unfold zeroB; rw [Hu1.out, Hu2.out, Hu3.out, Hu4.out, Hu5.out, H2.out]; simp), below_then (below_then (below_step hb1) hb2) (below_step hb3)⟩
        · go_wp2
          go_round
          case rel => exact .inr (.inr (.inr (.inr (.inr ⟨rfl, g1, g2, g3, g4, hide (by simp)⟩))))
          case measure => simp [intOf]
    · go_wp2
      go_ret
      exact ⟨ret_bool (by unfold zeroB; rw [Hu1.out, Hu2.out, Hu3.out, Hu4.out, Hu5.out, g1.out, g2.out, g3.out, g4.out, g5.out]; rfl), below_then (below_then (below_step hb1) hb2) (below_step hb3)⟩
end Go.Proofs.Ytjendjbbhohjcaa

namespace Go.Proofs.Ytjendjbbhohjcaa
open Go.RowKit

set_option maxHeartbeats 1600000 in
theorem ins_any (o r a b x n i cells m : Int) (w : World) (hc1 : -9223372036854775808 ≤ cells) (hc2 : cells ≤ 9223372036854775807) :
    Calls Try.prog 102 #[.agg #[.int .i64 o, .int .i64 r, .int .i64 a, .int .i64 b, .int .i64 x, .int .i64 n], .int .i64 i, .int .i64 cells, .int .i64 m] w fun e w' => e = .returned (.bool (insB o r a b x n i cells m)) ∧ Below w.heap.size w w' := by
  have HF := hide (show insB o r a b x n i cells m = (knownB o && zeroB o r a b x n && regsB r a b && cellsB o x n cells && jumpB o n i m) from rfl)
  have k1 := hide (fun w => known_any o w)
  have k2 := hide (fun w => zero_any o r a b x n w)
  have k3 := hide (fun w => regs_any o r a b x n w)
  have k4 := hide (fun w => cells_any o r a b x n cells w hc1 hc2)
  have k5 := hide (fun w => jump_any o r a b x n i m w)
  clear hc1 hc2
  generalize knownB o = p1 at *
  generalize zeroB o r a b x n = p2 at *
  generalize regsB r a b = p3 at *
  generalize cellsB o x n cells = p4 at *
  generalize jumpB o n i m = p5 at *
  cases p1
  · go_enter Try.func102, Try.ntmps102
    go_wp2_with (first | (go_at_call 99; refine (kind_any _ _ _ _ _ _ _).mono ?_; rintro e w1 ⟨rfl, hb1⟩; obtain ⟨hcl1, hfz1⟩ := bcell hb1; have hz1 := size_step hb1) | (go_at_call 113; refine (k1.out _).mono ?_; rintro e w2 ⟨rfl, rfl⟩))
    go_ret
    exact ⟨ret_bool (by rw [HF.out]; rfl), below_step hb1⟩
  cases p2
  · go_enter Try.func102, Try.ntmps102
    go_wp2_with (first | (go_at_call 99; refine (kind_any _ _ _ _ _ _ _).mono ?_; rintro e w1 ⟨rfl, hb1⟩; obtain ⟨hcl1, hfz1⟩ := bcell hb1; have hz1 := size_step hb1) | (go_at_call 113; refine (k1.out _).mono ?_; rintro e w2 ⟨rfl, rfl⟩) | (go_at_call 114; refine (k2.out _).mono ?_; rintro e w2 ⟨rfl, hb2⟩; obtain ⟨hcl2, hfz2⟩ := bcell hb2; have hz2 := Nat.lt_of_lt_of_le hz1 hb2.size))
    go_ret
    exact ⟨ret_bool (by rw [HF.out]; rfl), below_then (below_step hb1) hb2⟩
  cases p3
  · go_enter Try.func102, Try.ntmps102
    go_wp2_with (first | (go_at_call 99; refine (kind_any _ _ _ _ _ _ _).mono ?_; rintro e w1 ⟨rfl, hb1⟩; obtain ⟨hcl1, hfz1⟩ := bcell hb1; have hz1 := size_step hb1) | (go_at_call 113; refine (k1.out _).mono ?_; rintro e w2 ⟨rfl, rfl⟩) | (go_at_call 114; refine (k2.out _).mono ?_; rintro e w2 ⟨rfl, hb2⟩; obtain ⟨hcl2, hfz2⟩ := bcell hb2; have hz2 := Nat.lt_of_lt_of_le hz1 hb2.size) | (go_at_call 115; refine (k3.out _).mono ?_; rintro e w3 ⟨rfl, hb3⟩; obtain ⟨hcl3, hfz3⟩ := bcell hb3; have hz3 := Nat.lt_of_lt_of_le hz2 hb3.size))
    go_ret
    exact ⟨ret_bool (by rw [HF.out]; rfl), below_then (below_then (below_step hb1) hb2) hb3⟩
  cases p4
  · go_enter Try.func102, Try.ntmps102
    go_wp2_with (first | (go_at_call 99; refine (kind_any _ _ _ _ _ _ _).mono ?_; rintro e w1 ⟨rfl, hb1⟩; obtain ⟨hcl1, hfz1⟩ := bcell hb1; have hz1 := size_step hb1) | (go_at_call 113; refine (k1.out _).mono ?_; rintro e w2 ⟨rfl, rfl⟩) | (go_at_call 114; refine (k2.out _).mono ?_; rintro e w2 ⟨rfl, hb2⟩; obtain ⟨hcl2, hfz2⟩ := bcell hb2; have hz2 := Nat.lt_of_lt_of_le hz1 hb2.size) | (go_at_call 115; refine (k3.out _).mono ?_; rintro e w3 ⟨rfl, hb3⟩; obtain ⟨hcl3, hfz3⟩ := bcell hb3; have hz3 := Nat.lt_of_lt_of_le hz2 hb3.size) | (go_at_call 116; refine (k4.out _).mono ?_; rintro e w4 ⟨rfl, hb4⟩; obtain ⟨hcl4, hfz4⟩ := bcell hb4; have hz4 := Nat.lt_of_lt_of_le hz3 hb4.size))
    go_ret
    exact ⟨ret_bool (by rw [HF.out]; rfl), below_then (below_then (below_then (below_step hb1) hb2) hb3) hb4⟩
  go_enter Try.func102, Try.ntmps102
  go_wp2_with (first | (go_at_call 99; refine (kind_any _ _ _ _ _ _ _).mono ?_; rintro e w1 ⟨rfl, hb1⟩; obtain ⟨hcl1, hfz1⟩ := bcell hb1; have hz1 := size_step hb1) | (go_at_call 113; refine (k1.out _).mono ?_; rintro e w2 ⟨rfl, rfl⟩) | (go_at_call 114; refine (k2.out _).mono ?_; rintro e w2 ⟨rfl, hb2⟩; obtain ⟨hcl2, hfz2⟩ := bcell hb2; have hz2 := Nat.lt_of_lt_of_le hz1 hb2.size) | (go_at_call 115; refine (k3.out _).mono ?_; rintro e w3 ⟨rfl, hb3⟩; obtain ⟨hcl3, hfz3⟩ := bcell hb3; have hz3 := Nat.lt_of_lt_of_le hz2 hb3.size) | (go_at_call 116; refine (k4.out _).mono ?_; rintro e w4 ⟨rfl, hb4⟩; obtain ⟨hcl4, hfz4⟩ := bcell hb4; have hz4 := Nat.lt_of_lt_of_le hz3 hb4.size) | (go_at_call 117; refine (k5.out _).mono ?_; rintro e w5 ⟨rfl, hb5⟩))
  go_ret
  exact ⟨ret_bool (by rw [HF.out]; rfl), below_then (below_then (below_then (below_then (below_step hb1) hb2) hb3) hb4) hb5⟩
end Go.Proofs.Ytjendjbbhohjcaa

namespace Go.Proofs.Ytjendjbbhohjcaa
open Go.RowKit

def insBD (d : InsD) (i cells m : Int) : Bool := insB d.o d.r d.a d.b d.x d.n i cells m
def thrB (l : List InsD) (cells : Nat) : Bool := decide (l.length ≤ 24) && allB (fun k => insBD (getd l k) k cells l.length) l.length
def sizesB (p : ProgD) : Bool := decide (1 ≤ p.init.length ∧ p.init.length ≤ 6 ∧ 1 ≤ p.ts.length ∧ p.ts.length ≤ 3)
def progB (p : ProgD) : Bool := sizesB p && allB (fun k => thrB (gett p.ts k) p.init.length) p.ts.length

theorem insBD_any (d : InsD) (i cells m : Int) (w : World) (hc1 : -9223372036854775808 ≤ cells) (hc2 : cells ≤ 9223372036854775807) :
    Calls Try.prog 102 #[.agg #[.int .i64 d.o, .int .i64 d.r, .int .i64 d.a, .int .i64 d.b, .int .i64 d.x, .int .i64 d.n], .int .i64 i, .int .i64 cells, .int .i64 m] w fun e w' => e = .returned (.bool (insBD d i cells m)) ∧ Below w.heap.size w w' :=
  ins_any d.o d.r d.a d.b d.x d.n i cells m w hc1 hc2

set_option maxHeartbeats 800000 in
theorem thrOk_any (A : Option Addr) (l : List InsD) (c cells : Nat) (S : Nat → Prop) (w : World) (hcells : cells ≤ 9223372036854775807) (hS : ∀ b, S b → b < w.heap.size) (ha : InssAt w S A l) :
    Calls Try.prog 71 #[.agg #[.slice A l.length c], .int .i64 cells] w fun e w' => e = .returned (.bool (thrB l cells)) ∧ Below w.heap.size w w' := by
  have hn := ha.1
  by_cases h24 : 24 < l.length
  · have HF := hide (show thrB l cells = false by unfold thrB; simp; omega)
    have h24' : (24 : Int) < (l.length : Int) := by omega
    go_enter Try.func71, Try.ntmps71
    go_wp2
    go_ret
    exact ⟨ret_bool HF.out.symm, below1 _ _⟩
  · have hle : (l.length : Int) ≤ 24 := by omega
    have hb0 := below1 w (Obj.cells #[Value.slice A l.length c] 45)
    go_enter Try.func71, Try.ntmps71
    go_wp2
    go_loopw [14] (fun i wr => ∃ (k : Nat), k ≤ l.length ∧ i = .int .i64 k ∧ Hid (∀ j, j < k → insBD (getd l j) j cells l.length = true) ∧ Below (w.alloc (Obj.cells #[Value.slice A l.length c] 45)).heap.size (w.alloc (Obj.cells #[Value.slice A l.length c] 45)) wr) (fun i _ => l.length - (intOf i).toNat)
    case atStart => exact ⟨0, Nat.zero_le _, rfl, hide (fun j hj => by omega), Below.refl _ _⟩
    case round =>
      obtain ⟨k, hk, rfl, hj, hb⟩ := hrel
      by_cases hlt : k < l.length
      · obtain ⟨b, off, rfl, hbB, hc⟩ := ((ha.below hb0 hS).below hb (fun b h => Nat.lt_of_lt_of_le (hS b h) hb0.size)).2 (by omega)
        obtain ⟨c0, c1, c2, c3, c4, c5⟩ := hc k hlt
        obtain ⟨hcl, hfz⟩ := bcell hb
        have hsz := size_step hb
        have kc := hide (fun w => insBD_any (getd l k) k cells l.length w (by omega) (by omega))
        clear hc
        cases hr : insBD (getd l k) k cells l.length
        · have HF := hide (show thrB l cells = false by unfold thrB; rw [allB_no hlt hr]; simp)
          rw [hr] at kc
          clear hr
          go_wp2_with (go_at_call 102; refine (kc.out _).mono ?_; rintro e w3 ⟨rfl, hb3⟩)
          go_ret
          exact ⟨ret_bool HF.out.symm, below_then (below_then hb0 hb) (below_step hb3)⟩
        · rw [hr] at kc
          have HR := hide hr
          clear hr
          go_wp2_with (go_at_call 102; refine (kc.out _).mono ?_; rintro e w3 ⟨rfl, hb3⟩)
          go_roundw
          case rel =>
            refine ⟨k + 1, by omega, by go_num, hide (fun j hjk => ?_), hb.trans ((below_step hb3).mono hb.size)⟩
            by_cases e : j = k
            · subst e; exact HR.out
            · exact hj.out j (by omega)
          case measure => simp [intOf]; omega
      · obtain rfl : k = l.length := by omega
        have HF := hide (show thrB l cells = true by unfold thrB; rw [allB_yes hj.out]; simp; omega)
        go_wp2
        go_ret
        exact ⟨ret_bool HF.out.symm, below_then hb0 hb⟩

set_option maxHeartbeats 800000 in
theorem progOk_any (v : Value) (p : ProgD) (S : Nat → Prop) (w : World) (hS : ∀ b, S b → b < w.heap.size) (hp : ProgAt w S v p) :
    Calls Try.prog 25 #[v] w fun e w' => e = .returned (.bool (progB p)) ∧ Below w.heap.size w w' := by
  obtain ⟨A, c, A', c', rfl, hcc, hi, ht⟩ := hp
  have hn := hi.1
  have hn' := ht.1
  have hb0 := below1 w (Obj.cells #[Value.slice A p.init.length c, Value.slice A' p.ts.length c'] 37)
  by_cases hs : 1 ≤ p.init.length ∧ p.init.length ≤ 6 ∧ 1 ≤ p.ts.length ∧ p.ts.length ≤ 3
  · obtain ⟨s1, s2, s3, s4⟩ := hs
    have HSz := hide (show sizesB p = true by unfold sizesB; simp; omega)
    have q1 : decide ((p.init.length : Int) < 1) = false := by simp; omega
    have q2 : decide ((6 : Int) < (p.init.length : Int)) = false := by simp; omega
    have q3 : decide ((p.ts.length : Int) < 1) = false := by simp; omega
    have q4 : decide ((3 : Int) < (p.ts.length : Int)) = false := by simp; omega
    go_enter Try.func25, Try.ntmps25
    go_wp2
    go_quiet (fail)
    go_wp2
    clear q1 q2 q3 q4
    have hbq := below_drewN hb0 nq
    generalize hW : (w.alloc (Obj.cells #[Value.slice A p.init.length c, Value.slice A' p.ts.length c'] 37)).drewN nq = W at *
    clear hW
    go_loopw [30] (fun i wr => ∃ (k : Nat), k ≤ p.ts.length ∧ i = .int .i64 k ∧ Hid (∀ j, j < k → thrB (gett p.ts j) p.init.length = true) ∧ Below w.heap.size w wr) (fun i _ => p.ts.length - (intOf i).toNat)
    case atStart => exact ⟨0, Nat.zero_le _, rfl, hide (fun j hj => by omega), hbq⟩
    case round =>
      obtain ⟨k, hk, rfl, hj, hb⟩ := hrel
      by_cases hlt : k < p.ts.length
      · obtain ⟨b, off, rfl, hbB, hc⟩ := (ht.below hb hS).2 (by omega)
        obtain ⟨A2, c2, hcell, hcap, hin⟩ := hc k hlt
        have hin1 := fun o => hin.below (below1 wr o) (fun b h => Nat.lt_of_lt_of_le (hS b h) hb.size)
        have kc := hide (fun w hS ha => thrOk_any A2 (gett p.ts k) c2 p.init.length S w hn hS ha)
        have HIN := hide hin1
        clear hc hin hin1
        cases hr : thrB (gett p.ts k) p.init.length
        · have HF := hide (show progB p = false by unfold progB; rw [allB_no hlt hr]; simp)
          rw [hr] at kc
          clear hr
          go_wp2_with (go_at_call 71; refine (kc.out _ (fun b h => Nat.lt_of_lt_of_le (Nat.lt_of_lt_of_le (hS b h) hb.size) (below1 _ _).size) (HIN.out _)).mono ?_; rintro e w3 ⟨rfl, hb3⟩)
          go_ret
          exact ⟨ret_bool HF.out.symm, below_then hb (below_step hb3)⟩
        · rw [hr] at kc
          have HR := hide hr
          clear hr
          go_wp2_with (go_at_call 71; refine (kc.out _ (fun b h => Nat.lt_of_lt_of_le (Nat.lt_of_lt_of_le (hS b h) hb.size) (below1 _ _).size) (HIN.out _)).mono ?_; rintro e w3 ⟨rfl, hb3⟩)
          go_roundw
          case rel =>
            refine ⟨k + 1, by omega, by go_num, hide (fun j hjk => ?_), below_then hb (below_step hb3)⟩
            by_cases e : j = k
            · subst e; exact HR.out
            · exact hj.out j (by omega)
          case measure => simp [intOf]; omega
      · obtain rfl : k = p.ts.length := by omega
        have HF := hide (show progB p = true by unfold progB; rw [allB_yes hj.out, HSz.out]; rfl)
        go_wp2
        go_ret
        exact ⟨ret_bool HF.out.symm, hb⟩
  · have HF := hide (show progB p = false by unfold progB sizesB; rw [decide_eq_false hs]; simp)
    by_cases h1 : p.init.length < 1
    · have q1 : decide ((p.init.length : Int) < 1) = true := by simp; omega
      clear hs
      go_enter Try.func25, Try.ntmps25
      go_wp2
      go_quiet (fail)
      go_wp2
      go_ret
      exact ⟨ret_bool HF.out.symm, below_drewN hb0 _⟩
    have q1 : decide ((p.init.length : Int) < 1) = false := by simp; omega
    by_cases h2 : 6 < p.init.length
    · have q2 : decide ((6 : Int) < (p.init.length : Int)) = true := by simp; omega
      clear hs
      go_enter Try.func25, Try.ntmps25
      go_wp2
      go_quiet (fail)
      go_wp2
      go_ret
      exact ⟨ret_bool HF.out.symm, below_drewN hb0 _⟩
    have q2 : decide ((6 : Int) < (p.init.length : Int)) = false := by simp; omega
    by_cases h3 : p.ts.length < 1
    · have q3 : decide ((p.ts.length : Int) < 1) = true := by simp; omega
      clear hs
      go_enter Try.func25, Try.ntmps25
      go_wp2
      go_quiet (fail)
      go_wp2
      go_ret
      exact ⟨ret_bool HF.out.symm, below_drewN hb0 _⟩
    have q3 : decide ((p.ts.length : Int) < 1) = false := by simp; omega
    have q4 : decide ((3 : Int) < (p.ts.length : Int)) = true := by simp; omega
    clear hs
    go_enter Try.func25, Try.ntmps25
    go_wp2
    go_quiet (fail)
    go_wp2
    go_ret
    exact ⟨ret_bool HF.out.symm, below_drewN hb0 _⟩
end Go.Proofs.Ytjendjbbhohjcaa

namespace Go.Proofs.Ytjendjbbhohjcaa
open Go.RowKit

theorem prog_thr {p : ProgD} (h : progB p = true) : p.init.length ≤ 6 ∧ p.ts.length ≤ 3 ∧ ∀ j, j < p.ts.length → (gett p.ts j).length ≤ 24 := by
  unfold progB sizesB at h
  simp only [Bool.and_eq_true, decide_eq_true_eq] at h
  obtain ⟨h1, h2⟩ := h
  refine ⟨by omega, by omega, fun j hj => ?_⟩
  have h3 := allB_at h2 hj
  unfold thrB at h3
  simp only [Bool.and_eq_true, decide_eq_true_eq] at h3
  exact h3.1
theorem prog_rows {p : ProgD} (h : progB p = true) (k : Nat) : (gett p.ts k).length ≤ 24 := by
  rcases Nat.lt_or_ge k p.ts.length with h1 | h1
  · exact (prog_thr h).2.2 k h1
  · have : gett p.ts k = [] := by simp [gett, List.getD_eq_getElem?_getD, List.getElem?_eq_none h1]
    rw [this]
    exact Nat.zero_le _
end Go.Proofs.Ytjendjbbhohjcaa

namespace Go.Proofs.Ytjendjbbhohjcaa
open Go.RowKit

def upd (d : InsD) (f : Nat) (z : Int) : InsD :=
  if f = 0 then { d with o := z } else if f = 1 then { d with r := z } else if f = 2 then { d with a := z } else if f = 3 then { d with b := z } else if f = 4 then { d with x := z } else if f = 5 then { d with n := z } else d
theorem insVals_set (d : InsD) (f : Nat) (z : Int) (hf : f < 6) : (insVals d).set f (.int .i64 z) = insVals (upd d f z) := by
  have : f = 0 ∨ f = 1 ∨ f = 2 ∨ f = 3 ∨ f = 4 ∨ f = 5 := by omega
  rcases this with rfl | rfl | rfl | rfl | rfl | rfl <;> rfl
theorem flat_set (l : List InsD) (k f : Nat) (z : Int) (hk : k < l.length) (hf : f < 6) : (flat l).set (k * 6 + f) (.int .i64 z) = flat (l.set k (upd (getd l k) f z)) := by
  induction l generalizing k with
  | nil => simp at hk
  | cons d l ih =>
    have e : ∀ (d : InsD) (l : List InsD), flat (d :: l) = insVals d ++ flat l := fun d l => by simp [flat]
    cases k with
    | zero =>
      have h1 : (d :: l).set 0 (upd (getd (d :: l) 0) f z) = upd d f z :: l := by simp [getd]
      rw [h1, e, e, List.set_append_left _ _ (by rw [insVals_len]; omega), Nat.zero_mul, Nat.zero_add, insVals_set d f z hf]
    | succ k =>
      have h1 : (d :: l).set (k + 1) (upd (getd (d :: l) (k + 1)) f z) = d :: l.set k (upd (getd l k) f z) := by simp [getd]
      rw [h1, e, e, List.set_append_right _ _ (by rw [insVals_len]; omega), insVals_len]
      have h2 : (k + 1) * 6 + f - 6 = k * 6 + f := by omega
      rw [h2, ih k (by simpa using hk)]

theorem own_set {w : World} {B q c : Nat} {l : List InsD} (h : w.ownsRow B 89 6 (.slice (some ⟨q, 0, none⟩) l.length c) l.length (flat l)) (k f : Nat) (z : Int) (hk : k < l.length) (hf : f < 6) :
    (w.setCell ⟨q, k * 6 + f, none⟩ (.int .i64 z)).ownsRow B 89 6 (.slice (some ⟨q, 0, none⟩) l.length c) (l.set k (upd (getd l k) f z)).length (flat (l.set k (upd (getd l k) f z))) := by
  rcases h.2 with ⟨hv, _⟩ | ⟨q', cap, cur, hv, hb, hh, hcap, hmax, hcs, ht⟩
  · cases hv
  · cases hv
    refine ⟨by rw [flat_len], .inr ⟨q, c, cur.setIfInBounds (k * 6 + f) (.int .i64 z), by rw [List.length_set], hb, ?_, by rw [List.length_set]; exact hcap, hmax, by simpa using hcs, ?_⟩⟩
    · exact Blk.set_ (t := 89) (cs := cur) hh (k * 6 + f) _
    · rw [List.length_set, ← flat_set l k f z hk hf, ← ht]
      simp [List.take_set]
theorem gett_set (ts : List (List InsD)) (t k : Nat) (l : List InsD) (ht : t < ts.length) : gett (ts.set t l) k = if k = t then l else gett ts k := by
  unfold gett
  rw [List.getD_eq_getElem?_getD, List.getD_eq_getElem?_getD, List.getElem?_set]
  by_cases e : k = t
  · subst e; simp [ht]
  · rw [if_neg (fun h => e h.symm), if_neg e]

theorem ProgOwn.setIns {w : World} {B : Nat} {zs : List Int} {v tv : Value} {ts : List (List InsD)} {vs : List Value} (h : ProgOwn w B zs v ts vs tv) {t k f q c : Nat} (z : Int) (ht : t < ts.length) (hv : vat vs t = .slice (some ⟨q, 0, none⟩) (gett ts t).length c) (hk : k < (gett ts t).length) (hf : f < 6) :
    ProgOwn (w.setCell ⟨q, k * 6 + f, none⟩ (.int .i64 z)) B zs v (ts.set t ((gett ts t).set k (upd (getd (gett ts t) k) f z))) vs tv := by
  have hq : (vat vs t).ownBlock = some q := by rw [hv]; rfl
  have hown := h.thr t ht
  refine ⟨own_setFar h.ints (fun e => apart_type hown h.ints (by decide) q hq e) _, ?_, fun j hj => ?_, ?_⟩
  · rw [List.length_set]
    exact own_setFar h.rows (fun e => apart_type hown h.rows (by decide) q hq e) _
  · rw [List.length_set] at hj
    rw [gett_set ts t j _ ht]
    by_cases e : j = t
    · subst e
      rw [if_pos rfl, hv]
      rw [hv] at hown
      have := own_set hown k f z hk hf
      rwa [List.length_set] at this ⊢
    · rw [if_neg e]
      refine own_setFar (h.thr j hj) (fun e2 => ?_) _
      rcases Nat.lt_or_ge j t with hlt | hge
      · exact h.apart j t hlt ht q e2 hq
      · exact h.apart t j (by omega) hj q hq e2
  · rw [List.length_set]
    exact h.apart
end Go.Proofs.Ytjendjbbhohjcaa
