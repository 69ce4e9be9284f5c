/- szIntS, szInsS, szThread, szThreadS, szProg: what is left behind a program's values. · eqIntS, eqIns, eqInsS, eqThread, eqThreadS, eqProg: true of rows that hold the same. -/
import Derived.Test.YtfkaacfeikmabaaCore
import Derived.Test.YtfkaacfeikmabaaIntSz
import Derived.Test.YtfkaacfeikmabaaIntEq
import Derived.Test.YtfkaacfeikmabaaRows
import Derived.Deep.QuietTactic
import Derived.BigQuiet
import Derived.StillTailTactics
namespace Go.Proofs.Ytfkaacfeikmabaa
open Go.RowKit

set_option maxHeartbeats 400000 in
theorem szInsS_any (A : Option Addr) (n c : Nat) (left : Int) (w : World) (h0 : 0 ≤ left) (h1 : left ≤ 1048576) (hn : n ≤ 9223372036854775807) :
    Calls Try.prog 180 #[.slice A n c, .int .i64 left] w fun e w' => e = .returned (.int .i64 (szR left n)) ∧ w = w' := by
  by_cases h : left < n
  · have HF := hide (show szR left n = -1 by unfold szR; rw [if_pos h])
    go_enter Try.func180, Try.ntmps180
    go_wp2
    go_ret
    exact ⟨ret_int HF.out.symm, rfl⟩
  · have HF := hide (show szR left n = left - n by unfold szR; rw [if_neg h])
    go_enter Try.func180, Try.ntmps180
    go_wp2
    go_ret
    exact ⟨ret_int HF.out.symm, rfl⟩

set_option maxHeartbeats 400000 in
theorem szThread_any (A : Option Addr) (n c : Nat) (left : Int) (w : World) (h0 : 0 ≤ left) (h1 : left ≤ 1048576) (hn : n ≤ 9223372036854775807) :
    Calls Try.prog 137 #[.agg #[.slice A n c], .int .i64 left] w fun e w' => e = .returned (.int .i64 (szR left n)) ∧ Below w.heap.size w w' := by
  have k1 := hide (fun w => szInsS_any A n c left w h0 h1 hn)
  have hs : szR left n < 0 ∨ 0 ≤ szR left n := by omega
  have hs2 : szR left n < 0 → szR left n = -1 := by unfold szR; split <;> omega
  have hs3 := hide hs2
  clear hs2 h0 h1 hn
  generalize szR left n = r at *
  rcases hs with hs | hs
  · go_enter Try.func137, Try.ntmps137
    go_wp2_with (go_at_call 180; refine (k1.out _).mono ?_; rintro e w1 ⟨rfl, rfl⟩)
    go_ret
    exact ⟨ret_int (hs3.out hs).symm, below1 _ _⟩
  · go_enter Try.func137, Try.ntmps137
    go_wp2_with (go_at_call 180; refine (k1.out _).mono ?_; rintro e w1 ⟨rfl, rfl⟩)
    go_ret
    exact ⟨rfl, below1 _ _⟩

set_option maxHeartbeats 800000 in
theorem szThreadS_any (A : Option Addr) (ts : List (List InsD)) (c : Nat) (S : Nat → Prop) (left : Int) (w : World) (h0 : 0 ≤ left) (h1 : left ≤ 1048576) (hS : ∀ b, S b → b < w.heap.size) (ha : ThreadsAt w S A ts) :
    Calls Try.prog 58 #[.slice A ts.length c, .int .i64 left] w fun e w' => e = .returned (.int .i64 (szR left (tsSize ts))) ∧ Below w.heap.size w w' := by
  have hn := ha.1
  have Hle := hide (insTo_le ts)
  have Hsucc := hide (insTo_succ ts)
  have Hall := hide (insTo_all ts)
  have Hz := hide (insTo_zero ts)
  by_cases h : left < ts.length
  · have HF := hide (szR_neg (left := left) (n := tsSize ts) (by have := Hle.out 0; omega))
    go_enter Try.func58, Try.ntmps58
    go_wp2
    go_ret
    exact ⟨ret_int HF.out.symm, Below.refl _ _⟩
  · go_enter Try.func58, Try.ntmps58
    go_wp2
    go_loopw [1, 5] (fun l i wr => ∃ k : Nat, k ≤ ts.length ∧ (insTo ts k : Int) ≤ left - ts.length ∧ i = .int .i64 k ∧ l = .int .i64 (left - ts.length - insTo ts k) ∧ Below w.heap.size w wr) (fun _ i _ => ts.length - (intOf i).toNat)
    case atStart => exact ⟨0, Nat.zero_le _, by rw [Hz.out]; omega, rfl, by rw [Hz.out]; simp, Below.refl _ _⟩
    case round =>
      obtain ⟨k, hk, hl, rfl, rfl, hb⟩ := hrel
      by_cases hlt : k < ts.length
      · obtain ⟨b, off, rfl, hbB, hc⟩ := (ha.below hb hS).2 (by omega)
        obtain ⟨A', c', hcell, hcap, hin⟩ := hc k hlt
        have hn' := hin.1
        have hs := Hsucc.out k hlt
        by_cases hx : left - ts.length - insTo ts k < (gett ts k).length
        · have HF := hide (szR_neg (left := left) (n := tsSize ts) (by have := Hle.out (k + 1); omega))
          have kc := fun w => szThread_any A' (gett ts k).length c' (left - ts.length - insTo ts k) w (by omega) (by omega) hn'
          simp only [szR_neg hx] at kc
          have KC := hide kc
          clear kc hx hs
          go_wp2_with (go_at_call 137; refine (KC.out _).mono ?_; rintro e w1 ⟨rfl, hb1⟩)
          go_ret
          exact ⟨ret_int HF.out.symm, below_then hb hb1⟩
        · have kc := fun w => szThread_any A' (gett ts k).length c' (left - ts.length - insTo ts k) w (by omega) (by omega) hn'
          simp only [szR_pos hx] at kc
          have KC := hide kc
          have HX : 0 ≤ left - ts.length - insTo ts k - (gett ts k).length := by omega
          have HS := hide hs
          clear kc hx hs
          go_wp2_with (go_at_call 137; refine (KC.out _).mono ?_; rintro e w1 ⟨rfl, hb1⟩)
          go_roundw
          case rel => exact ⟨k + 1, by omega, by rw [HS.out]; omega, by go_num, by rw [HS.out]; go_num, below_then hb hb1⟩
          case measure => simp [intOf]; omega
      · obtain rfl : k = ts.length := by omega
        have HF := hide (show szR left (tsSize ts) = left - ts.length - insTo ts ts.length by rw [szR_pos (by have := Hall.out; omega)]; have := Hall.out; omega)
        go_wp2
        go_ret
        exact ⟨ret_int HF.out.symm, hb⟩

set_option maxHeartbeats 800000 in
theorem szProg_any (p : ProgD) (v : Value) (S : Nat → Prop) (left : Int) (w : World) (h0 : 0 ≤ left) (h1 : left ≤ 1048576) (hS : ∀ b, S b → b < w.heap.size) (hp : ProgAt w S v p) :
    Calls Try.prog 13 #[v, .int .i64 left] w fun e w' => e = .returned (.int .i64 (szR left (progSize p))) ∧ Below w.heap.size w w' := by
  obtain ⟨A, c, A', c', rfl, hcc, hi, ht⟩ := hp
  by_cases h : left < p.init.length
  · have HF := hide (szR_neg (left := left) (n := progSize p) (by unfold progSize; omega))
    have kc := fun w => szIntS_any A p.init.length c left w h0 h1 hi.1
    simp only [szR_neg h] at kc
    have KC := hide kc
    clear kc h
    go_enter Try.func13, Try.ntmps13
    go_wp2_with (go_at_call 57; refine (KC.out _).mono ?_; rintro e w1 ⟨rfl, rfl⟩)
    go_ret
    exact ⟨ret_int HF.out.symm, below1 _ _⟩
  · have kc := fun w => szIntS_any A p.init.length c left w h0 h1 hi.1
    simp only [szR_pos h] at kc
    have KC := hide kc
    have h2 : 0 ≤ left - p.init.length := by omega
    have kd := fun (w1 : World) (h : ThreadsAt w1 S A' p.ts) (hS : ∀ b, S b → b < w1.heap.size) => szThreadS_any A' p.ts c' S (left - p.init.length) w1 h2 (by omega) hS h
    by_cases hx : left - p.init.length < tsSize p.ts
    · have HF := hide (szR_neg (left := left) (n := progSize p) (by unfold progSize; omega))
      simp only [szR_neg hx] at kd
      have KD := hide kd
      clear kc kd h hx
      go_enter Try.func13, Try.ntmps13
      go_wp2_with (first | (go_at_call 57; refine (KC.out _).mono ?_; rintro e w1 ⟨rfl, rfl⟩) | (go_at_call 58; refine (KD.out _ (ht.below (below1 _ _) hS) (fun b h => Nat.lt_of_lt_of_le (hS b h) (below1 _ _).size)).mono ?_; rintro e w1 ⟨rfl, hb1⟩))
      go_ret
      exact ⟨ret_int HF.out.symm, below_step hb1⟩
    · have HF := hide (show szR left (progSize p) = left - p.init.length - tsSize p.ts by rw [szR_pos (by unfold progSize; omega)]; unfold progSize; omega)
      simp only [szR_pos hx] at kd
      have KD := hide kd
      have h3 : 0 ≤ left - p.init.length - tsSize p.ts := by omega
      clear kc kd h hx
      go_enter Try.func13, Try.ntmps13
      go_wp2_with (first | (go_at_call 57; refine (KC.out _).mono ?_; rintro e w1 ⟨rfl, rfl⟩) | (go_at_call 58; refine (KD.out _ (ht.below (below1 _ _) hS) (fun b h => Nat.lt_of_lt_of_le (hS b h) (below1 _ _).size)).mono ?_; rintro e w1 ⟨rfl, hb1⟩))
      go_ret
      exact ⟨ret_int HF.out.symm, below_step hb1⟩
end Go.Proofs.Ytfkaacfeikmabaa

namespace Go.Proofs.Ytfkaacfeikmabaa
open Go.RowKit

set_option maxHeartbeats 800000 in
theorem eqIns_any (d : InsD) (w : World) :
    Calls Try.prog 201 #[.agg #[.int .i64 d.o, .int .i64 d.r, .int .i64 d.a, .int .i64 d.b, .int .i64 d.x, .int .i64 d.n], .agg #[.int .i64 d.o, .int .i64 d.r, .int .i64 d.a, .int .i64 d.b, .int .i64 d.x, .int .i64 d.n]] w fun e w' => e = .returned (.bool true) ∧ Below w.heap.size w w' := by
  go_enter Try.func201, Try.ntmps201
  go_wp2
  go_ret
  exact ⟨rfl, below2 _ _ _⟩

set_option maxRecDepth 100000 in
set_option maxHeartbeats 800000 in
theorem eqInsS_any (A A' : Option Addr) (l : List InsD) (c c' : Nat) (S : Nat → Prop) (w : World) (hS : ∀ b, S b → b < w.heap.size) (ha : InssAt w S A l) (ha' : InssAt w S A' l) :
    Calls Try.prog 186 #[.slice A l.length c, .slice A' l.length c'] w fun e w' => e = .returned (.bool true) ∧ Below w.heap.size w w' := by
  have hn := ha.1
  go_enter Try.func186, Try.ntmps186
  go_wp2
  go_loopw [5] (fun i wr => ∃ (k : Nat), k ≤ l.length ∧ i = .int .i64 k ∧ Below w.heap.size w wr) (fun i _ => l.length - (intOf i).toNat)
  case atStart => exact ⟨0, Nat.zero_le _, rfl, Below.refl _ _⟩
  case round =>
    obtain ⟨k, hk, rfl, hb⟩ := hrel
    by_cases hlt : k < l.length
    · obtain ⟨b, off, rfl, hbB, hc⟩ := (ha.below hb hS).2 (by omega)
      obtain ⟨b', off', rfl, hbB', hc'⟩ := (ha'.below hb hS).2 (by omega)
      obtain ⟨c0, c1, c2, c3, c4, c5⟩ := hc k hlt
      obtain ⟨g0, g1, g2, g3, g4, g5⟩ := hc' k hlt
      have hx : ((k : Int) < (l.length : Int)) := by omega
      clear hc hc'
      go_wp2_with fail
      go_still_tail 8, (by kernel_rfl)
      have hbd := hb.drew
      change wpList _ _ _ _ _ wr.drew
      generalize wr.drew = w2 at *
      go_wp2_with (go_at_call 201; refine (eqIns_any (getd l k) _).mono ?_; rintro e w3 ⟨rfl, hb3⟩)
      go_roundw
      case rel => exact ⟨k + 1, by omega, by go_num, below_then hbd hb3⟩
      case measure => simp [intOf]; omega
    · obtain rfl : k = l.length := by omega
      go_wp2
      go_ret
      exact ⟨rfl, hb⟩

set_option maxHeartbeats 800000 in
theorem eqThread_any (A A' : Option Addr) (l : List InsD) (c c' : Nat) (S : Nat → Prop) (w : World) (hS : ∀ b, S b → b < w.heap.size) (ha : InssAt w S A l) (ha' : InssAt w S A' l) :
    Calls Try.prog 143 #[.agg #[.slice A l.length c], .agg #[.slice A' l.length c']] w fun e w' => e = .returned (.bool true) ∧ Below w.heap.size w w' := by
  have hb2 := below2 w (Obj.cells #[Value.slice A l.length c] 99) (Obj.cells #[Value.slice A' l.length c'] 99)
  go_enter Try.func143, Try.ntmps143
  go_wp2_with fail
  refine (eqInsS_any A A' l c c' S _ (fun b h => Nat.lt_of_lt_of_le (hS b h) hb2.size) (ha.below hb2 hS) (ha'.below hb2 hS)).mono ?_
  rintro e w3 ⟨rfl, hb3⟩
  go_wp2_with fail
  go_ret
  exact ⟨rfl, below_then hb2 hb3⟩

set_option maxRecDepth 100000 in
set_option maxHeartbeats 800000 in
theorem eqThreadS_any (A A' : Option Addr) (ts : List (List InsD)) (c c' : Nat) (S : Nat → Prop) (w : World) (hS : ∀ b, S b → b < w.heap.size) (ha : ThreadsAt w S A ts) (ha' : ThreadsAt w S A' ts) :
    Calls Try.prog 70 #[.slice A ts.length c, .slice A' ts.length c'] w fun e w' => e = .returned (.bool true) ∧ Below w.heap.size w w' := by
  have hn := ha.1
  go_enter Try.func70, Try.ntmps70
  go_wp2
  go_loopw [5] (fun i wr => ∃ (k : Nat), k ≤ ts.length ∧ i = .int .i64 k ∧ Below w.heap.size w wr) (fun i _ => ts.length - (intOf i).toNat)
  case atStart => exact ⟨0, Nat.zero_le _, rfl, Below.refl _ _⟩
  case round =>
    obtain ⟨k, hk, rfl, hb⟩ := hrel
    by_cases hlt : k < ts.length
    · obtain ⟨b, off, rfl, hbB, hc⟩ := (ha.below hb hS).2 (by omega)
      obtain ⟨b', off', rfl, hbB', hc'⟩ := (ha'.below hb hS).2 (by omega)
      obtain ⟨A2, c2, h1, hcap, h2⟩ := hc k hlt
      obtain ⟨A3, c3, h3, hcap', h4⟩ := hc' k hlt
      have hx : ((k : Int) < (ts.length : Int)) := by omega
      clear hc hc'
      go_wp2_with fail
      go_still_tail 8, (by kernel_rfl)
      have hbd := hb.drew
      have h2d : InssAt wr.drew S A2 (gett ts k) := h2
      have h4d : InssAt wr.drew S A3 (gett ts k) := h4
      change wpList _ _ _ _ _ wr.drew
      clear h1 h2 h3 h4
      generalize wr.drew = w2 at *
      go_wp2_with (go_at_call 143; refine (eqThread_any A2 A3 (gett ts k) c2 c3 S _ (fun b h => Nat.lt_of_lt_of_le (hS b h) hbd.size) h2d h4d).mono ?_; rintro e w3 ⟨rfl, hb3⟩)
      go_roundw
      case rel => exact ⟨k + 1, by omega, by go_num, below_then hbd hb3⟩
      case measure => simp [intOf]; omega
    · obtain rfl : k = ts.length := by omega
      go_wp2
      go_ret
      exact ⟨rfl, hb⟩

set_option maxHeartbeats 800000 in
theorem eqProg_any (v v' : Value) (p : ProgD) (S : Nat → Prop) (w : World) (hS : ∀ b, S b → b < w.heap.size) (hp : ProgAt w S v p) (hp' : ProgAt w S v' p) :
    Calls Try.prog 19 #[v, v'] w fun e w' => e = .returned (.bool true) ∧ Below w.heap.size w w' := by
  obtain ⟨A, c, A', c', rfl, hcc, hi, ht⟩ := hp
  obtain ⟨A2, c2, A2', c2', rfl, hcc', hi', ht'⟩ := hp'
  have hb2 := below2 w (Obj.cells #[Value.slice A p.init.length c, Value.slice A' p.ts.length c'] 31) (Obj.cells #[Value.slice A2 p.init.length c2, Value.slice A2' p.ts.length c2'] 31)
  go_enter Try.func19, Try.ntmps19
  go_wp2_with fail
  refine (eqIntS_any A A2 p.init c c2 S _ (fun b h => Nat.lt_of_lt_of_le (hS b h) hb2.size) (hi.below hb2 hS) (hi'.below hb2 hS)).mono ?_
  rintro e w3 ⟨rfl, hb3⟩
  obtain ⟨hcl3, hfz3⟩ := bcell hb3
  go_wp2_with fail
  have hb4 := below_then hb2 hb3
  refine (eqThreadS_any A' A2' p.ts c' c2' S _ (fun b h => Nat.lt_of_lt_of_le (hS b h) hb4.size) (ht.below hb4 hS) (ht'.below hb4 hS)).mono ?_
  rintro e w5 ⟨rfl, hb5⟩
  go_wp2_with fail
  go_ret
  exact ⟨rfl, below_then hb4 hb5⟩
end Go.Proofs.Ytfkaacfeikmabaa
