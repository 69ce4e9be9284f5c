/- impl.InsOk and spec.InsOk: both return insB, for every argument. · impl.Thread.ok and impl.ProgOk: what they return, for every program in memory. · Whether all threads have ended; how many cells and threads. · kindOf of a state of KdBuf; whether nothing waits; whether it has no views. · commonOk of what is right; bufsOk of empty buffers. · bufsOk of empty buffers. · StateOk of a state of KdBuf whose buffers are empty: yes. · Done of a state of KdBuf whose buffers are empty. · Rows of rows as they are read, and their copies in the making; heads of rows: of no function of the program. · laws' copies of a row of files and of a row of buffers: each row of the copy in a block of its own. -/
import Derived.Test.YtfkaacfeikmabaaMg0
import Derived.Test.YtfkaacfeikmabaaMg4
import Derived.Test.YtfkaacfeikmabaaMg5
import Derived.Test.YtfkaacfeikmabaaMg8
import Derived.Deep.QuietTactic
import Derived.BigQuiet
import Derived.Test.YtfkaacfeikmabaaRows
import Derived.Deep.RegionHeld3
import Derived.Deep.DeepCutAuto
namespace Go.Proofs.Ytfkaacfeikmabaa
open Go.RowKit

set_option maxHeartbeats 1600000 in
theorem ins_any (o r a b x n i cells m : Int) (w : World) (hc1 : -9223372036854775808 ≤ cells) (hc2 : cells ≤ 9223372036854775807) :
    Calls Try.prog 135 #[.agg #[.int .i64 o, .int .i64 r, .int .i64 a, .int .i64 b, .int .i64 x, .int .i64 n], .int .i64 i, .int .i64 cells, .int .i64 m] w fun e w' => e = .returned (.bool (insB o r a b x n i cells m)) ∧ Below w.heap.size w w' := by
  have HF := hide (show insB o r a b x n i cells m = (knownB o && zeroB o r a b x n && regsB r a b && cellsB o x n cells && jumpB o n i m) from rfl)
  have k1 := hide (fun w => known_any o w)
  have k2 := hide (fun w => zero_any o r a b x n w)
  have k3 := hide (fun w => regs_any o r a b x n w)
  have k4 := hide (fun w => cells_any o r a b x n cells w hc1 hc2)
  have k5 := hide (fun w => jump_any o r a b x n i m w)
  clear hc1 hc2
  generalize knownB o = p1 at *
  generalize zeroB o r a b x n = p2 at *
  generalize regsB r a b = p3 at *
  generalize cellsB o x n cells = p4 at *
  generalize jumpB o n i m = p5 at *
  cases p1
  · go_enter Try.func135, Try.ntmps135
    go_wp2_with (first | (go_at_call 117; refine (kind_any _ _ _ _ _ _ _).mono ?_; rintro e w1 ⟨rfl, hb1⟩; obtain ⟨hcl1, hfz1⟩ := bcell hb1; have hz1 := size_step hb1) | (go_at_call 169; refine (k1.out _).mono ?_; rintro e w2 ⟨rfl, rfl⟩))
    go_ret
    exact ⟨ret_bool (by rw [HF.out]; rfl), below_step hb1⟩
  cases p2
  · go_enter Try.func135, Try.ntmps135
    go_wp2_with (first | (go_at_call 117; refine (kind_any _ _ _ _ _ _ _).mono ?_; rintro e w1 ⟨rfl, hb1⟩; obtain ⟨hcl1, hfz1⟩ := bcell hb1; have hz1 := size_step hb1) | (go_at_call 169; refine (k1.out _).mono ?_; rintro e w2 ⟨rfl, rfl⟩) | (go_at_call 175; refine (k2.out _).mono ?_; rintro e w2 ⟨rfl, hb2⟩; obtain ⟨hcl2, hfz2⟩ := bcell hb2; have hz2 := Nat.lt_of_lt_of_le hz1 hb2.size))
    go_ret
    exact ⟨ret_bool (by rw [HF.out]; rfl), below_then (below_step hb1) hb2⟩
  cases p3
  · go_enter Try.func135, Try.ntmps135
    go_wp2_with (first | (go_at_call 117; refine (kind_any _ _ _ _ _ _ _).mono ?_; rintro e w1 ⟨rfl, hb1⟩; obtain ⟨hcl1, hfz1⟩ := bcell hb1; have hz1 := size_step hb1) | (go_at_call 169; refine (k1.out _).mono ?_; rintro e w2 ⟨rfl, rfl⟩) | (go_at_call 175; refine (k2.out _).mono ?_; rintro e w2 ⟨rfl, hb2⟩; obtain ⟨hcl2, hfz2⟩ := bcell hb2; have hz2 := Nat.lt_of_lt_of_le hz1 hb2.size) | (go_at_call 120; refine (k3.out _).mono ?_; rintro e w3 ⟨rfl, hb3⟩; obtain ⟨hcl3, hfz3⟩ := bcell hb3; have hz3 := Nat.lt_of_lt_of_le hz2 hb3.size))
    go_ret
    exact ⟨ret_bool (by rw [HF.out]; rfl), below_then (below_then (below_step hb1) hb2) hb3⟩
  cases p4
  · go_enter Try.func135, Try.ntmps135
    go_wp2_with (first | (go_at_call 117; refine (kind_any _ _ _ _ _ _ _).mono ?_; rintro e w1 ⟨rfl, hb1⟩; obtain ⟨hcl1, hfz1⟩ := bcell hb1; have hz1 := size_step hb1) | (go_at_call 169; refine (k1.out _).mono ?_; rintro e w2 ⟨rfl, rfl⟩) | (go_at_call 175; refine (k2.out _).mono ?_; rintro e w2 ⟨rfl, hb2⟩; obtain ⟨hcl2, hfz2⟩ := bcell hb2; have hz2 := Nat.lt_of_lt_of_le hz1 hb2.size) | (go_at_call 120; refine (k3.out _).mono ?_; rintro e w3 ⟨rfl, hb3⟩; obtain ⟨hcl3, hfz3⟩ := bcell hb3; have hz3 := Nat.lt_of_lt_of_le hz2 hb3.size) | (go_at_call 176; refine (k4.out _).mono ?_; rintro e w4 ⟨rfl, hb4⟩; obtain ⟨hcl4, hfz4⟩ := bcell hb4; have hz4 := Nat.lt_of_lt_of_le hz3 hb4.size))
    go_ret
    exact ⟨ret_bool (by rw [HF.out]; rfl), below_then (below_then (below_then (below_step hb1) hb2) hb3) hb4⟩
  go_enter Try.func135, Try.ntmps135
  go_wp2_with (first | (go_at_call 117; refine (kind_any _ _ _ _ _ _ _).mono ?_; rintro e w1 ⟨rfl, hb1⟩; obtain ⟨hcl1, hfz1⟩ := bcell hb1; have hz1 := size_step hb1) | (go_at_call 169; refine (k1.out _).mono ?_; rintro e w2 ⟨rfl, rfl⟩) | (go_at_call 175; refine (k2.out _).mono ?_; rintro e w2 ⟨rfl, hb2⟩; obtain ⟨hcl2, hfz2⟩ := bcell hb2; have hz2 := Nat.lt_of_lt_of_le hz1 hb2.size) | (go_at_call 120; refine (k3.out _).mono ?_; rintro e w3 ⟨rfl, hb3⟩; obtain ⟨hcl3, hfz3⟩ := bcell hb3; have hz3 := Nat.lt_of_lt_of_le hz2 hb3.size) | (go_at_call 176; refine (k4.out _).mono ?_; rintro e w4 ⟨rfl, hb4⟩; obtain ⟨hcl4, hfz4⟩ := bcell hb4; have hz4 := Nat.lt_of_lt_of_le hz3 hb4.size) | (go_at_call 177; refine (k5.out _).mono ?_; rintro e w5 ⟨rfl, hb5⟩))
  go_ret
  exact ⟨ret_bool (by rw [HF.out]; rfl), below_then (below_then (below_then (below_then (below_step hb1) hb2) hb3) hb4) hb5⟩
end Go.Proofs.Ytfkaacfeikmabaa

namespace Go.Proofs.Ytfkaacfeikmabaa
open Go.RowKit

def insBD (d : InsD) (i cells m : Int) : Bool := insB d.o d.r d.a d.b d.x d.n i cells m
def thrB (l : List InsD) (cells : Nat) : Bool := decide (l.length ≤ 24) && allB (fun k => insBD (getd l k) k cells l.length) l.length
def sizesB (p : ProgD) : Bool := decide (1 ≤ p.init.length ∧ p.init.length ≤ 6 ∧ 1 ≤ p.ts.length ∧ p.ts.length ≤ 3)
def progB (p : ProgD) : Bool := sizesB p && allB (fun k => thrB (gett p.ts k) p.init.length) p.ts.length

theorem insBD_any (d : InsD) (i cells m : Int) (w : World) (hc1 : -9223372036854775808 ≤ cells) (hc2 : cells ≤ 9223372036854775807) :
    Calls Try.prog 135 #[.agg #[.int .i64 d.o, .int .i64 d.r, .int .i64 d.a, .int .i64 d.b, .int .i64 d.x, .int .i64 d.n], .int .i64 i, .int .i64 cells, .int .i64 m] w fun e w' => e = .returned (.bool (insBD d i cells m)) ∧ Below w.heap.size w w' :=
  ins_any d.o d.r d.a d.b d.x d.n i cells m w hc1 hc2

set_option maxHeartbeats 800000 in
theorem thrOk_any (A : Option Addr) (l : List InsD) (c cells : Nat) (S : Nat → Prop) (w : World) (hcells : cells ≤ 9223372036854775807) (hS : ∀ b, S b → b < w.heap.size) (ha : InssAt w S A l) :
    Calls Try.prog 113 #[.agg #[.slice A l.length c], .int .i64 cells] w fun e w' => e = .returned (.bool (thrB l cells)) ∧ Below w.heap.size w w' := by
  have hn := ha.1
  by_cases h24 : 24 < l.length
  · have HF := hide (show thrB l cells = false by unfold thrB; simp; omega)
    have h24' : (24 : Int) < (l.length : Int) := by omega
    go_enter Try.func113, Try.ntmps113
    go_wp2
    go_ret
    exact ⟨ret_bool HF.out.symm, below1 _ _⟩
  · have hle : (l.length : Int) ≤ 24 := by omega
    have hb0 := below1 w (Obj.cells #[Value.slice A l.length c] 99)
    go_enter Try.func113, Try.ntmps113
    go_wp2
    go_loopw [14] (fun i wr => ∃ (k : Nat), k ≤ l.length ∧ i = .int .i64 k ∧ Hid (∀ j, j < k → insBD (getd l j) j cells l.length = true) ∧ Below (w.alloc (Obj.cells #[Value.slice A l.length c] 99)).heap.size (w.alloc (Obj.cells #[Value.slice A l.length c] 99)) wr) (fun i _ => l.length - (intOf i).toNat)
    case atStart => exact ⟨0, Nat.zero_le _, rfl, hide (fun j hj => by omega), Below.refl _ _⟩
    case round =>
      obtain ⟨k, hk, rfl, hj, hb⟩ := hrel
      by_cases hlt : k < l.length
      · obtain ⟨b, off, rfl, hbB, hc⟩ := ((ha.below hb0 hS).below hb (fun b h => Nat.lt_of_lt_of_le (hS b h) hb0.size)).2 (by omega)
        obtain ⟨c0, c1, c2, c3, c4, c5⟩ := hc k hlt
        obtain ⟨hcl, hfz⟩ := bcell hb
        have hsz := size_step hb
        have kc := hide (fun w => insBD_any (getd l k) k cells l.length w (by omega) (by omega))
        clear hc
        cases hr : insBD (getd l k) k cells l.length
        · have HF := hide (show thrB l cells = false by unfold thrB; rw [allB_no hlt hr]; simp)
          rw [hr] at kc
          clear hr
          go_wp2_with (go_at_call 135; refine (kc.out _).mono ?_; rintro e w3 ⟨rfl, hb3⟩)
          go_ret
          exact ⟨ret_bool HF.out.symm, below_then (below_then hb0 hb) (below_step hb3)⟩
        · rw [hr] at kc
          have HR := hide hr
          clear hr
          go_wp2_with (go_at_call 135; refine (kc.out _).mono ?_; rintro e w3 ⟨rfl, hb3⟩)
          go_roundw
          case rel =>
            refine ⟨k + 1, by omega, by go_num, hide (fun j hjk => ?_), hb.trans ((below_step hb3).mono hb.size)⟩
            by_cases e : j = k
            · subst e; exact HR.out
            · exact hj.out j (by omega)
          case measure => simp [intOf]; omega
      · obtain rfl : k = l.length := by omega
        have HF := hide (show thrB l cells = true by unfold thrB; rw [allB_yes hj.out]; simp; omega)
        go_wp2
        go_ret
        exact ⟨ret_bool HF.out.symm, below_then hb0 hb⟩

set_option maxHeartbeats 800000 in
theorem progOk_any (v : Value) (p : ProgD) (S : Nat → Prop) (w : World) (hS : ∀ b, S b → b < w.heap.size) (hp : ProgAt w S v p) :
    Calls Try.prog 39 #[v] w fun e w' => e = .returned (.bool (progB p)) ∧ Below w.heap.size w w' := by
  obtain ⟨A, c, A', c', rfl, hcc, hi, ht⟩ := hp
  have hn := hi.1
  have hn' := ht.1
  have hb0 := below1 w (Obj.cells #[Value.slice A p.init.length c, Value.slice A' p.ts.length c'] 31)
  by_cases hs : 1 ≤ p.init.length ∧ p.init.length ≤ 6 ∧ 1 ≤ p.ts.length ∧ p.ts.length ≤ 3
  · obtain ⟨s1, s2, s3, s4⟩ := hs
    have HSz := hide (show sizesB p = true by unfold sizesB; simp; omega)
    have q1 : decide ((p.init.length : Int) < 1) = false := by simp; omega
    have q2 : decide ((6 : Int) < (p.init.length : Int)) = false := by simp; omega
    have q3 : decide ((p.ts.length : Int) < 1) = false := by simp; omega
    have q4 : decide ((3 : Int) < (p.ts.length : Int)) = false := by simp; omega
    go_enter Try.func39, Try.ntmps39
    go_wp2
    go_quiet (fail)
    go_wp2
    clear q1 q2 q3 q4
    have hbq := below_drewN hb0 nq
    generalize hW : (w.alloc (Obj.cells #[Value.slice A p.init.length c, Value.slice A' p.ts.length c'] 31)).drewN nq = W at *
    clear hW
    go_loopw [30] (fun i wr => ∃ (k : Nat), k ≤ p.ts.length ∧ i = .int .i64 k ∧ Hid (∀ j, j < k → thrB (gett p.ts j) p.init.length = true) ∧ Below w.heap.size w wr) (fun i _ => p.ts.length - (intOf i).toNat)
    case atStart => exact ⟨0, Nat.zero_le _, rfl, hide (fun j hj => by omega), hbq⟩
    case round =>
      obtain ⟨k, hk, rfl, hj, hb⟩ := hrel
      by_cases hlt : k < p.ts.length
      · obtain ⟨b, off, rfl, hbB, hc⟩ := (ht.below hb hS).2 (by omega)
        obtain ⟨A2, c2, hcell, hcap, hin⟩ := hc k hlt
        have hin1 := fun o => hin.below (below1 wr o) (fun b h => Nat.lt_of_lt_of_le (hS b h) hb.size)
        have kc := hide (fun w hS ha => thrOk_any A2 (gett p.ts k) c2 p.init.length S w hn hS ha)
        have HIN := hide hin1
        clear hc hin hin1
        cases hr : thrB (gett p.ts k) p.init.length
        · have HF := hide (show progB p = false by unfold progB; rw [allB_no hlt hr]; simp)
          rw [hr] at kc
          clear hr
          go_wp2_with (go_at_call 113; refine (kc.out _ (fun b h => Nat.lt_of_lt_of_le (Nat.lt_of_lt_of_le (hS b h) hb.size) (below1 _ _).size) (HIN.out _)).mono ?_; rintro e w3 ⟨rfl, hb3⟩)
          go_ret
          exact ⟨ret_bool HF.out.symm, below_then hb (below_step hb3)⟩
        · rw [hr] at kc
          have HR := hide hr
          clear hr
          go_wp2_with (go_at_call 113; refine (kc.out _ (fun b h => Nat.lt_of_lt_of_le (Nat.lt_of_lt_of_le (hS b h) hb.size) (below1 _ _).size) (HIN.out _)).mono ?_; rintro e w3 ⟨rfl, hb3⟩)
          go_roundw
          case rel =>
            refine ⟨k + 1, by omega, by go_num, hide (fun j hjk => ?_), below_then hb (below_step hb3)⟩
            by_cases e : j = k
            · subst e; exact HR.out
            · exact hj.out j (by omega)
          case measure => simp [intOf]; omega
      · obtain rfl : k = p.ts.length := by omega
        have HF := hide (show progB p = true by unfold progB; rw [allB_yes hj.out, HSz.out]; rfl)
        go_wp2
        go_ret
        exact ⟨ret_bool HF.out.symm, hb⟩
  · have HF := hide (show progB p = false by unfold progB sizesB; rw [decide_eq_false hs]; simp)
    by_cases h1 : p.init.length < 1
    · have q1 : decide ((p.init.length : Int) < 1) = true := by simp; omega
      clear hs
      go_enter Try.func39, Try.ntmps39
      go_wp2
      go_quiet (fail)
      go_wp2
      go_ret
      exact ⟨ret_bool HF.out.symm, below_drewN hb0 _⟩
    have q1 : decide ((p.init.length : Int) < 1) = false := by simp; omega
    by_cases h2 : 6 < p.init.length
    · have q2 : decide ((6 : Int) < (p.init.length : Int)) = true := by simp; omega
      clear hs
      go_enter Try.func39, Try.ntmps39
      go_wp2
      go_quiet (fail)
      go_wp2
      go_ret
      exact ⟨ret_bool HF.out.symm, below_drewN hb0 _⟩
    have q2 : decide ((6 : Int) < (p.init.length : Int)) = false := by simp; omega
    by_cases h3 : p.ts.length < 1
    · have q3 : decide ((p.ts.length : Int) < 1) = true := by simp; omega
      clear hs
      go_enter Try.func39, Try.ntmps39
      go_wp2
      go_quiet (fail)
      go_wp2
      go_ret
      exact ⟨ret_bool HF.out.symm, below_drewN hb0 _⟩
    have q3 : decide ((p.ts.length : Int) < 1) = false := by simp; omega
    have q4 : decide ((3 : Int) < (p.ts.length : Int)) = true := by simp; omega
    clear hs
    go_enter Try.func39, Try.ntmps39
    go_wp2
    go_quiet (fail)
    go_wp2
    go_ret
    exact ⟨ret_bool HF.out.symm, below_drewN hb0 _⟩
end Go.Proofs.Ytfkaacfeikmabaa

namespace Go.Proofs.Ytfkaacfeikmabaa
open Go.RowKit

set_option maxHeartbeats 800000 in
theorem comCells_any (A1 A2 A3 A4 : Option Addr) (n1 n2 n3 n4 c1 c2 c3 c4 : Nat) (w : World) :
    Calls Try.prog 103 #[.agg #[.slice A1 n1 c1, .slice A2 n2 c2, .slice A3 n3 c3, .slice A4 n4 c4]] w fun e w' => e = .returned (.int .i64 n1) ∧ Below w.heap.size w w' := by
  go_enter Try.func103, Try.ntmps103
  go_wp2_with fail
  go_ret
  exact ⟨rfl, below1 _ _⟩
set_option maxHeartbeats 800000 in
theorem comThreads_any (A1 A2 A3 A4 : Option Addr) (n1 n2 n3 n4 c1 c2 c3 c4 : Nat) (w : World) :
    Calls Try.prog 161 #[.agg #[.slice A1 n1 c1, .slice A2 n2 c2, .slice A3 n3 c3, .slice A4 n4 c4]] w fun e w' => e = .returned (.int .i64 n2) ∧ Below w.heap.size w w' := by
  go_enter Try.func161, Try.ntmps161
  go_wp2_with fail
  go_ret
  exact ⟨rfl, below1 _ _⟩

/-- Has every thread ended? -/
def endedB (ts : List (List InsD)) (pcs : List Int) : Bool := allB (fun k => decide (((gett ts k).length : Int) ≤ geti pcs k)) ts.length

set_option maxRecDepth 100000 in
set_option maxHeartbeats 3200000 in
theorem ended_any (A1 A2 A3 A4 : Option Addr) (n1 n4 c1 c2 c3 c4 : Nat) (ts : List (List InsD)) (pcs : List Int) (S : Nat → Prop) (w : World) (hl : pcs.length = ts.length) (hS : ∀ b, S b → b < w.heap.size) (ht : ThreadsAt w S A2 ts) (hp : IntsAt w S A3 pcs) :
    Calls Try.prog 110 #[.agg #[.slice A1 n1 c1, .slice A2 ts.length c2, .slice A3 ts.length c3, .slice A4 n4 c4]] w fun e w' => e = .returned (.bool (endedB ts pcs)) ∧ Below w.heap.size w w' := by
  have hn := ht.1
  have K0 := hide (Blk.new w 135 #[.slice A1 n1 c1, .slice A2 ts.length c2, .slice A3 ts.length c3, .slice A4 n4 c4])
  have hb0 := below1 w (Obj.cells #[.slice A1 n1 c1, .slice A2 ts.length c2, .slice A3 ts.length c3, .slice A4 n4 c4] 135)
  go_enter Try.func110, Try.ntmps110
  go_wp2_with fail
  go_loopw [9] (fun i wr => ∃ (k : Nat), k ≤ ts.length ∧ i = .int .i64 k ∧ Hid (∀ j, j < k → ((gett ts j).length : Int) ≤ geti pcs j) ∧ Hid (Blk wr w.heap.size 135 #[.slice A1 n1 c1, .slice A2 ts.length c2, .slice A3 ts.length c3, .slice A4 n4 c4]) ∧ Below w.heap.size w wr) (fun i _ => ts.length - (intOf i).toNat)
  case atStart => exact ⟨0, Nat.zero_le _, rfl, hide (fun j hj => by omega), K0, hb0⟩
  case round =>
    obtain ⟨k, hk, rfl, hdone, K, hb⟩ := hrel
    clear K0 hb0
    by_cases hlt : k < ts.length
    · obtain ⟨b, off, rfl, hSb, hc⟩ := (ht.below hb hS).2 (by omega)
      obtain ⟨A', c', hcell, _, _⟩ := hc k hlt
      obtain ⟨b2, off2, rfl, hSb2, hc2⟩ := (hp.below hb hS).2 (by omega)
      have hcell2 := hc2 k (by omega)
      have hlt' : (k : Int) < (ts.length : Int) := by omega
      have hbl := Nat.lt_of_lt_of_le (hS b hSb) hb.size
      have hbl2 := Nat.lt_of_lt_of_le (hS b2 hSb2) hb.size
      have k2 := K.out.cell 2
      simp only [List.getElem?_toArray, List.getElem?_cons_zero, List.getElem?_cons_succ] at k2
      have hlK := K.out.lt
      clear hc hc2
      by_cases hge : ((gett ts k).length : Int) ≤ geti pcs k
      · go_wp2_with fail
        go_quiet (fail)
        go_wp2_with fail
        go_roundw
        case rel => exact ⟨k + 1, by omega, by go_num, hide (fun j hj => by
          rcases Nat.lt_succ_iff_lt_or_eq.1 hj with h | rfl
          · exact hdone.out j h
          · exact hge), hide (K.out.alloc _), below_drewN (hb.alloc hb.size _) _⟩
        case measure => simp [intOf]; omega
      · have hE := hide (show endedB ts pcs = false from allB_no hlt (by simpa using hge))
        have hlt2 : geti pcs k < ((gett ts k).length : Int) := by omega
        go_wp2_with fail
        go_quiet (fail)
        go_wp2_with fail
        go_ret
        exact ⟨ret_bool hE.out.symm, below_drewN (hb.alloc hb.size _) _⟩
    · obtain rfl : k = ts.length := by omega
      have hE := hide (show endedB ts pcs = true from allB_yes (fun j hj => by simpa using hdone.out j hj))
      go_wp2_with fail
      go_ret
      exact ⟨ret_bool hE.out.symm, hb⟩
end Go.Proofs.Ytfkaacfeikmabaa

namespace Go.Proofs.Ytfkaacfeikmabaa
open Go.RowKit

def getn (ls : List Nat) (k : Nat) : Nat := ls.getD k 0
/-- A row of slices in a block of S, of those lengths. -/
def LensAt (w : World) (S : Nat → Prop) (A : Option Addr) (ls : List Nat) : Prop :=
  ls.length ≤ 9223372036854775807 ∧ (0 < ls.length → ∃ b off, A = some ⟨b, off, none⟩ ∧ S b ∧ ∀ k, k < ls.length → ∃ A' c', w.cell? ⟨b, off + k, none⟩ = some (.slice A' (getn ls k) c'))
theorem LensAt.below {w w' : World} {S : Nat → Prop} {B : Nat} {A : Option Addr} {ls : List Nat} (h : LensAt w S A ls) (hb : Below B w w') (hS : ∀ b, S b → b < B) : LensAt w' S A ls :=
  ⟨h.1, fun hn => by
    obtain ⟨b, off, e, hSb, hc⟩ := h.2 hn
    refine ⟨b, off, e, hSb, fun k hk => ?_⟩
    obtain ⟨A', c', h1⟩ := hc k hk
    exact ⟨A', c', (hb.cell (p := ⟨b, off + k, none⟩) (hS b hSb)).trans h1⟩⟩
def emptyB (ls : List Nat) : Bool := allB (fun k => decide (getn ls k = 0)) ls.length

set_option maxRecDepth 100000 in
set_option maxHeartbeats 3200000 in
theorem nothing_any (A1 A2 A3 A4 A5 A6 : Option Addr) (n1 n2 n3 n4 n5 c1 c2 c3 c4 c5 c6 : Nat) (ls : List Nat) (S : Nat → Prop) (w : World) (hS : ∀ b, S b → b < w.heap.size) (hp : LensAt w S A6 ls) :
    Calls Try.prog 111 #[.agg #[.slice A1 n1 c1, .slice A2 n2 c2, .slice A3 n3 c3, .slice A4 n4 c4, .slice A5 n5 c5, .slice A6 ls.length c6]] w fun e w' => e = .returned (.bool (emptyB ls)) ∧ Below w.heap.size w w' := by
  have hn := hp.1
  have hb0 := below1 w (Obj.cells #[.slice A1 n1 c1, .slice A2 n2 c2, .slice A3 n3 c3, .slice A4 n4 c4, .slice A5 n5 c5, .slice A6 ls.length c6] 141)
  go_enter Try.func111, Try.ntmps111
  go_wp2_with fail
  go_loopw [8] (fun i wr => ∃ (k : Nat), k ≤ ls.length ∧ i = .int .i64 k ∧ Hid (∀ j, j < k → getn ls j = 0) ∧ Below w.heap.size w wr) (fun i _ => ls.length - (intOf i).toNat)
  case atStart => exact ⟨0, Nat.zero_le _, rfl, hide (fun j hj => by omega), hb0⟩
  case round =>
    obtain ⟨k, hk, rfl, hdone, hb⟩ := hrel
    clear hb0
    by_cases hlt : k < ls.length
    · obtain ⟨b, off, rfl, hSb, hc⟩ := (hp.below hb hS).2 (by omega)
      obtain ⟨A', c', hcell⟩ := hc k hlt
      have hlt' : (k : Int) < (ls.length : Int) := by omega
      have hbl := Nat.lt_of_lt_of_le (hS b hSb) hb.size
      clear hc
      by_cases hge : getn ls k = 0
      · rw [hge] at hcell
        go_wp2_with fail
        go_roundw
        case rel => exact ⟨k + 1, by omega, by go_num, hide (fun j hj => by
          rcases Nat.lt_succ_iff_lt_or_eq.1 hj with h | rfl
          · exact hdone.out j h
          · exact hge), hb.alloc hb.size _⟩
        case measure => simp [intOf]; omega
      · have hE := hide (show emptyB ls = false from allB_no hlt (by simpa using hge))
        have hlt2 : (0 : Int) < (getn ls k : Int) := by omega
        go_wp2_with fail
        go_ret
        exact ⟨ret_bool hE.out.symm, hb.alloc hb.size _⟩
    · obtain rfl : k = ls.length := by omega
      have hE := hide (show emptyB ls = true from allB_yes (fun j hj => by simpa using hdone.out j hj))
      go_wp2_with fail
      go_ret
      exact ⟨ret_bool hE.out.symm, hb⟩

end Go.Proofs.Ytfkaacfeikmabaa

namespace Go.Proofs.Ytfkaacfeikmabaa
open Go.RowKit

theorem com4 {w : World} {g : Nat} {a b c d : Value} (h : Blk w g 135 #[a, b, c, d]) : w.cell? ⟨g, 0, none⟩ = some a ∧ w.cell? ⟨g, 1, none⟩ = some b ∧ w.cell? ⟨g, 2, none⟩ = some c ∧ w.cell? ⟨g, 3, none⟩ = some d := ⟨h.cell 0, h.cell 1, h.cell 2, h.cell 3⟩

/-- What one round of commonOk reads. -/
structure CoRd (T U b b2 : Nat) (i1 i2 : Nat) (v0 v1 v2 v3 t p f : Value) (w : World) : Prop where
  box : Blk w T 135 #[v0, v1, v2, v3]
  thr : Blk w U 99 #[t]
  pc : w.cell? ⟨b, i1, none⟩ = some p ∧ b < w.heap.size
  fl : w.cell? ⟨b2, i2, none⟩ = some f ∧ b2 < w.heap.size
section
variable {T U b b2 i1 i2 : Nat} {v0 v1 v2 v3 t p f : Value} {w w' : World}
theorem CoRd.next (h : CoRd T U b b2 i1 i2 v0 v1 v2 v3 t p f w) (hb : Below w.heap.size w w') : CoRd T U b b2 i1 i2 v0 v1 v2 v3 t p f w' :=
  ⟨h.box.below hb h.box.lt, h.thr.below hb h.thr.lt, ⟨(hb.cell (p := ⟨b, i1, none⟩) h.pc.2).trans h.pc.1, Nat.lt_of_lt_of_le h.pc.2 hb.size⟩, ⟨(hb.cell (p := ⟨b2, i2, none⟩) h.fl.2).trans h.fl.1, Nat.lt_of_lt_of_le h.fl.2 hb.size⟩⟩
theorem CoRd.cells (h : CoRd T U b b2 i1 i2 v0 v1 v2 v3 t p f w) : w.cell? ⟨T, 2, none⟩ = some v2 ∧ w.cell? ⟨T, 3, none⟩ = some v3 ∧ w.cell? ⟨U, 0, none⟩ = some t ∧ w.cell? ⟨b, i1, none⟩ = some p ∧ w.cell? ⟨b2, i2, none⟩ = some f :=
  ⟨h.box.cell 2, h.box.cell 3, h.thr.cell 0, h.pc.1, h.fl.1⟩
end

theorem buf6 {w : World} {g : Nat} {a b c d e f : Value} (h : Blk w g 141 #[a, b, c, d, e, f]) : w.cell? ⟨g, 0, none⟩ = some a ∧ w.cell? ⟨g, 1, none⟩ = some b ∧ w.cell? ⟨g, 2, none⟩ = some c ∧ w.cell? ⟨g, 3, none⟩ = some d ∧ w.cell? ⟨g, 4, none⟩ = some e ∧ w.cell? ⟨g, 5, none⟩ = some f := ⟨h.cell 0, h.cell 1, h.cell 2, h.cell 3, h.cell 4, h.cell 5⟩
theorem LensAt.more {w : World} {S S' : Nat → Prop} {A : Option Addr} {ls : List Nat} (h : LensAt w S A ls) (hS : ∀ b, S b → S' b) : LensAt w S' A ls :=
  ⟨h.1, fun hn => by
    obtain ⟨b, off, e, hSb, hc⟩ := h.2 hn
    exact ⟨b, off, e, hS b hSb, hc⟩⟩
theorem emptyB_yes {lb : List Nat} (h : ∀ k, k < lb.length → getn lb k = 0) : emptyB lb = true := allB_yes (fun j hj => by simpa using h j hj)
end Go.Proofs.Ytfkaacfeikmabaa

namespace Go.Proofs.Ytfkaacfeikmabaa
open Go.RowKit
/-- Rows of rows at an address, in blocks of S; of an element its n and its numbers. -/
def RowsAt (w : World) (S : Nat → Prop) (A : Option Addr) (src : List RowD) : Prop :=
  src.length ≤ 1048576 ∧ (0 < src.length → ∃ b off, A = some ⟨b, off, none⟩ ∧ S b ∧ ∀ k, k < src.length → ∃ A' c', w.cell? ⟨b, off + k, none⟩ = some (.slice A' (getr src k).n c') ∧ IntsAt w S A' (getr src k).zs)
theorem RowsAt.below {w w' : World} {S : Nat → Prop} {B : Nat} {A : Option Addr} {src : List RowD} (h : RowsAt w S A src) (hb : Below B w w') (hS : ∀ b, S b → b < B) : RowsAt w' S A src :=
  ⟨h.1, fun hn => by
    obtain ⟨b, off, e, hSb, hc⟩ := h.2 hn
    refine ⟨b, off, e, hSb, fun k hk => ?_⟩
    obtain ⟨A', c', h1, h2⟩ := hc k hk
    exact ⟨A', c', (hb.cell (p := ⟨b, off + k, none⟩) (hS b hSb)).trans h1, h2.below hb hS⟩⟩
structure RowCells (et : TypeId) (w : World) (B : Nat) (cs : Array Value) (src : List RowD) (f : Nat → RowD) (k : Nat) : Prop where
  cells : ∀ j, j < k → cs[j]? = some (.slice (f j).A (f j).n (f j).c)
  rows : ∀ j, j < k → (f j).at_ et w
  same : ∀ j, j < k → (getr src j).n = (f j).n ∧ (getr src j).zs = (f j).zs
  up : ∀ i j, i < j → j < k → (f i).hi ≤ (f j).lo
  rng : ∀ j, j < k → B ≤ (f j).lo ∧ (f j).hi ≤ w.heap.size
theorem getr_map (f : Nat → RowD) (n k : Nat) (hk : k < n) : getr ((List.range n).map f) k = f k := by
  unfold getr
  rw [List.getD_eq_getElem?_getD, List.getElem?_map, List.getElem?_range hk]
  rfl
theorem RowCells.own {t et : TypeId} {w : World} {lo q : Nat} {cs : Array Value} {src : List RowD} {f : Nat → RowD} (h : RowCells et w (q + 1) cs src f src.length) (hb : Blk w q t cs) (hs : cs.size = src.length) (hl : lo ≤ q) :
    RowsOwn t et w lo w.heap.size q ((List.range src.length).map f) ∧ SameRows src ((List.range src.length).map f) := by
  have e : ((List.range src.length).map f).length = src.length := by simp
  refine ⟨⟨⟨cs, hb, by rw [e, hs]; exact Nat.le_refl _, fun k hk => ?_⟩, fun k hk => ?_, fun i j hij hj => ?_, ⟨⟨hl, hb.lt⟩, fun k hk => ?_⟩⟩, e.symm, fun k hk => ?_⟩
  · rw [e] at hk; rw [getr_map f _ k hk]; exact h.cells k hk
  · rw [e] at hk; rw [getr_map f _ k hk]; exact h.rows k hk
  · rw [e] at hj; rw [getr_map f _ i (by omega), getr_map f _ j hj]; exact h.up i j hij hj
  · rw [e] at hk; rw [getr_map f _ k hk]; have := h.rng k hk; exact ⟨by omega, this.2⟩
  · rw [getr_map f _ k hk]; exact h.same k hk


def getl (ls : List Nat) (k : Nat) : Nat := ls.getD k 0
/-- A row of slices in a block of S, of those lengths. -/
def HeadsAt (w : World) (S : Nat → Prop) (A : Option Addr) (ls : List Nat) : Prop :=
  ls.length ≤ 9223372036854775807 ∧ (0 < ls.length → ∃ b off, A = some ⟨b, off, none⟩ ∧ S b ∧ ∀ k, k < ls.length → ∃ A' c', w.cell? ⟨b, off + k, none⟩ = some (.slice A' (getl ls k) c') ∧ getl ls k ≤ 9223372036854775807)
theorem HeadsAt.below {w w' : World} {S : Nat → Prop} {B : Nat} {A : Option Addr} {ls : List Nat} (h : HeadsAt w S A ls) (hb : Below B w w') (hS : ∀ b, S b → b < B) : HeadsAt w' S A ls :=
  ⟨h.1, fun hn => by
    obtain ⟨b, off, e, hSb, hc⟩ := h.2 hn
    refine ⟨b, off, e, hSb, fun k hk => ?_⟩
    obtain ⟨A', c', h1, h2⟩ := hc k hk
    exact ⟨A', c', (hb.cell (p := ⟨b, off + k, none⟩) (hS b hSb)).trans h1, h2⟩⟩
theorem HeadsAt.more {w : World} {S S' : Nat → Prop} {A : Option Addr} {ls : List Nat} (h : HeadsAt w S A ls) (hS : ∀ b, S b → S' b) : HeadsAt w S' A ls :=
  ⟨h.1, fun hn => by
    obtain ⟨b, off, e, hSb, hc⟩ := h.2 hn
    exact ⟨b, off, e, hS b hSb, hc⟩⟩
def headSize (ls : List Nat) : Nat := ls.length + ls.sum

end Go.Proofs.Ytfkaacfeikmabaa

namespace Go.Proofs.Ytfkaacfeikmabaa
open Go.RowKit

theorem toFileI {A : Option Addr} {zs : List Int} {n c : Nat} {S : Nat → Prop} {w : World} (hz : zs.length = n) (hn : n ≤ 1048576) (hS : ∀ b, S b → b < w.heap.size) (ha : IntsAt w S A zs) :
    Calls Try.prog 43 #[.agg #[.slice A n c]] w fun e w' => ∃ q, e = .returned (.agg #[.slice (some ⟨q, 0, none⟩) n n]) ∧ RvI 3 w' w.heap.size w'.heap.size (.slice (some ⟨q, 0, none⟩) n n) n zs ∧ Below w.heap.size w w' := by
  subst hz
  refine (toFile_any A zs c S w hn hS ha).mono ?_
  rintro e w' ⟨q, rfl, hq, hr, hb⟩
  exact ⟨q, rfl, RvI.of (.inr ⟨q, zs.length, rfl, hr, hq⟩), hb⟩

theorem Try.infoFileT : (Try.prog.info? 69).map (fun i => (i.zero, i.size, i.bytes)) = some (some (.agg #[.slice none 0 0]), 1, 24) := by kernel_rfl
theorem make_rowsFile (n : Nat) (hn : n ≤ 1048576) (W : World) : (Instr.makeSlice 44 (.int .i64 (n : Int)) (.int .i64 (n : Int))).run Try.prog W = .ok (.slice (some ⟨W.heap.size, 0, none⟩) n n) (W.alloc (.cells (zrow #[.slice none 0 0] n) 69)) := by
  obtain ⟨i0, hi, hz0, hz1, hz2⟩ := info_parts Try.infoFileT
  have hr := run_make (P := Try.prog) W 44 69 i0 _ Try.underlying44 hi hz0 .i64 .i64 n n (by omega) (Int.le_refl _) (by rw [hz2]; omega) (by omega)
  simp only [Int.toNat_natCast, hz1, Nat.mul_one] at hr
  exact hr

set_option maxRecDepth 100000 in
set_option maxHeartbeats 1600000 in
theorem toFileS_own (A : Option Addr) (src : List RowD) (c : Nat) (S : Nat → Prop) (w : World) (hz : ∀ k, k < src.length → (getr src k).zs.length = (getr src k).n  ∧ (getr src k).n ≤ 1048576) (hS : ∀ b, S b → b < w.heap.size) (ha : RowsAt w S A src) :
    Calls Try.prog 98 #[.slice A src.length c] w fun e w' => ∃ q rs, e = .returned (.slice (some ⟨q, 0, none⟩) src.length src.length) ∧ (RowsOwn 69 3 w' w.heap.size w'.heap.size q rs ∧ SameRows src rs) ∧ Below w.heap.size w w' := by
  have hn2 : src.length ≤ 1048576 := ha.1
  have hmk := make_rowsFile src.length hn2
  have HZ := hide hz
  clear hz
  go_enter Try.func98, Try.ntmps98
  go_wp2
  clear hmk
  go_loopw [4] (fun i wr => ∃ (k : Nat) (cs : Array Value) (f : Nat → RowD), k ≤ src.length ∧ i = .int .i64 k ∧ Blk wr w.heap.size 69 cs ∧ Hid (cs.size = src.length) ∧ RowCells 3 wr (w.heap.size + 1) cs src f k ∧ Below w.heap.size w wr) (fun i _ => src.length - (intOf i).toNat)
  case atStart => exact ⟨0, _, fun _ => row0, Nat.zero_le _, rfl, Blk.new _ _ _, hide (zrow_size _ _), ⟨fun j hj => by omega, fun j hj => by omega, fun j hj => by omega, fun i j _ hj => by omega, fun j hj => by omega⟩, below1 _ _⟩
  case round =>
    obtain ⟨k, cs, f, hk, rfl, hblk, hsz, hcs, hb⟩ := hrel
    by_cases hlt : k < src.length
    · obtain ⟨b, off, rfl, hbB, hc⟩ := (ha.below hb hS).2 (by omega)
      obtain ⟨A', c', hcell, hin⟩ := hc k hlt
      have hlt2 := hblk.lt
      obtain ⟨z1, z2⟩ := HZ.out k hlt
      have HB := hide hblk
      have Z1 := hide z1
      clear hblk hc z1
      go_wp2_with fail
      refine (toFileI (c := c') Z1.out z2 (fun b h => Nat.lt_of_lt_of_le (hS b h) hb.size) hin).mono ?_
      rintro e w1 ⟨qk, rfl, hl, hb1⟩
      have hblk1 := HB.out.below hb1 hlt2
      obtain ⟨v0, hv0⟩ : ∃ v, cs[k]? = some v := ⟨_, Array.getElem?_eq_getElem (by have := hsz.out; omega)⟩
      have g0 := (hblk1.cell _).trans hv0
      have z0 := hblk1.frozen k
      have HB1 := hide hblk1
      have HL := hide hl
      clear hv0 hblk1 hl
      go_wp2_with fail
      go_roundw
      case rel =>
        have hs1 := hb1.size
        have hsb := hb.size
        refine ⟨k + 1, cs.setIfInBounds k (.slice (some ⟨qk, 0, none⟩) (getr src k).n (getr src k).n), fun j => if j = k then ⟨wr.heap.size, w1.heap.size, some ⟨qk, 0, none⟩, (getr src k).n, (getr src k).n, (getr src k).zs⟩ else f j, by omega, by go_num, HB1.out.set_ _ _, hide (by rw [Array.size_setIfInBounds]; exact hsz.out), ⟨fun j hj => ?_, fun j hj => ?_, fun j hj => ?_, fun i j hij hj => ?_, fun j hj => ?_⟩, (below_then hb hb1).setCell (Nat.le_refl _) _⟩
        · by_cases e : j = k
          · subst e
            simp only [if_true]
            rw [Array.getElem?_setIfInBounds, if_pos rfl, if_pos (by have := hsz.out; omega)]
          · simp only [if_neg e]
            rw [Array.getElem?_setIfInBounds, if_neg (fun e2 => e e2.symm)]
            exact hcs.cells j (by omega)
        · by_cases e : j = k
          · subst e
            simp only [if_true]
            exact HL.out.keep (fun b h1 h2 _ => Below.heap_setCell _ _ _ _ (by show b ≠ w.heap.size; omega))
          · simp only [if_neg e]
            have hr := hcs.rng j (by omega)
            exact ((hcs.rows j (by omega)).keep (fun b h1 h2 hl => hb1.block b hl)).keep (fun b h1 h2 _ => Below.heap_setCell _ _ _ _ (by show b ≠ w.heap.size; omega))
        · by_cases e : j = k
          · subst e; simp
          · simp only [if_neg e]
            exact hcs.same j (by omega)
        · by_cases e : j = k
          · have hi : i ≠ k := by omega
            simp only [if_pos e, if_neg hi]
            exact (hcs.rng i (by omega)).2
          · have hi : i ≠ k := by omega
            simp only [if_neg e, if_neg hi]
            exact hcs.up i j hij (by omega)
        · by_cases e : j = k
          · simp only [if_pos e]
            exact ⟨by omega, by simp [World.setCell]⟩
          · simp only [if_neg e]
            have hr := hcs.rng j (by omega)
            exact ⟨hr.1, by simp [World.setCell]; omega⟩
      case measure => simp [intOf]; omega
    · obtain rfl : k = src.length := by omega
      go_wp2
      go_ret
      exact ⟨w.heap.size, (List.range src.length).map f, rfl, RowCells.own hcs hblk hsz.out (Nat.le_refl _), hb⟩

theorem Try.infoBufT : (Try.prog.info? 182).map (fun i => (i.zero, i.size, i.bytes)) = some (some (.agg #[.slice none 0 0]), 1, 24) := by kernel_rfl
theorem make_rowsBuf (n : Nat) (hn : n ≤ 1048576) (W : World) : (Instr.makeSlice 45 (.int .i64 (n : Int)) (.int .i64 (n : Int))).run Try.prog W = .ok (.slice (some ⟨W.heap.size, 0, none⟩) n n) (W.alloc (.cells (zrow #[.slice none 0 0] n) 182)) := by
  obtain ⟨i0, hi, hz0, hz1, hz2⟩ := info_parts Try.infoBufT
  have hr := run_make (P := Try.prog) W 45 182 i0 _ Try.underlying45 hi hz0 .i64 .i64 n n (by omega) (Int.le_refl _) (by rw [hz2]; omega) (by omega)
  simp only [Int.toNat_natCast, hz1, Nat.mul_one] at hr
  exact hr

set_option maxRecDepth 100000 in
set_option maxHeartbeats 1600000 in
theorem toBufS_own (A : Option Addr) (src : List RowD) (c : Nat) (S : Nat → Prop) (w : World) (hz : ∀ k, k < src.length → (getr src k).zs.length = (getr src k).n * 2 ∧ (getr src k).n ≤ 1048576) (hS : ∀ b, S b → b < w.heap.size) (ha : RowsAt w S A src) :
    Calls Try.prog 99 #[.slice A src.length c] w fun e w' => ∃ q rs, e = .returned (.slice (some ⟨q, 0, none⟩) src.length src.length) ∧ (RowsOwn 182 197 w' w.heap.size w'.heap.size q rs ∧ SameRows src rs) ∧ Below w.heap.size w w' := by
  have hn2 : src.length ≤ 1048576 := ha.1
  have hmk := make_rowsBuf src.length hn2
  have HZ := hide hz
  clear hz
  go_enter Try.func99, Try.ntmps99
  go_wp2
  clear hmk
  go_loopw [4] (fun i wr => ∃ (k : Nat) (cs : Array Value) (f : Nat → RowD), k ≤ src.length ∧ i = .int .i64 k ∧ Blk wr w.heap.size 182 cs ∧ Hid (cs.size = src.length) ∧ RowCells 197 wr (w.heap.size + 1) cs src f k ∧ Below w.heap.size w wr) (fun i _ => src.length - (intOf i).toNat)
  case atStart => exact ⟨0, _, fun _ => row0, Nat.zero_le _, rfl, Blk.new _ _ _, hide (zrow_size _ _), ⟨fun j hj => by omega, fun j hj => by omega, fun j hj => by omega, fun i j _ hj => by omega, fun j hj => by omega⟩, below1 _ _⟩
  case round =>
    obtain ⟨k, cs, f, hk, rfl, hblk, hsz, hcs, hb⟩ := hrel
    by_cases hlt : k < src.length
    · obtain ⟨b, off, rfl, hbB, hc⟩ := (ha.below hb hS).2 (by omega)
      obtain ⟨A', c', hcell, hin⟩ := hc k hlt
      have hlt2 := hblk.lt
      obtain ⟨z1, z2⟩ := HZ.out k hlt
      have HB := hide hblk
      have Z1 := hide z1
      clear hblk hc z1
      go_wp2_with fail
      refine (toBufI (c := c') Z1.out z2 (fun b h => Nat.lt_of_lt_of_le (hS b h) hb.size) hin).mono ?_
      rintro e w1 ⟨qk, rfl, hl, hb1⟩
      have hblk1 := HB.out.below hb1 hlt2
      obtain ⟨v0, hv0⟩ : ∃ v, cs[k]? = some v := ⟨_, Array.getElem?_eq_getElem (by have := hsz.out; omega)⟩
      have g0 := (hblk1.cell _).trans hv0
      have z0 := hblk1.frozen k
      have HB1 := hide hblk1
      have HL := hide hl
      clear hv0 hblk1 hl
      go_wp2_with fail
      go_roundw
      case rel =>
        have hs1 := hb1.size
        have hsb := hb.size
        refine ⟨k + 1, cs.setIfInBounds k (.slice (some ⟨qk, 0, none⟩) (getr src k).n (getr src k).n), fun j => if j = k then ⟨wr.heap.size, w1.heap.size, some ⟨qk, 0, none⟩, (getr src k).n, (getr src k).n, (getr src k).zs⟩ else f j, by omega, by go_num, HB1.out.set_ _ _, hide (by rw [Array.size_setIfInBounds]; exact hsz.out), ⟨fun j hj => ?_, fun j hj => ?_, fun j hj => ?_, fun i j hij hj => ?_, fun j hj => ?_⟩, (below_then hb hb1).setCell (Nat.le_refl _) _⟩
        · by_cases e : j = k
          · subst e
            simp only [if_true]
            rw [Array.getElem?_setIfInBounds, if_pos rfl, if_pos (by have := hsz.out; omega)]
          · simp only [if_neg e]
            rw [Array.getElem?_setIfInBounds, if_neg (fun e2 => e e2.symm)]
            exact hcs.cells j (by omega)
        · by_cases e : j = k
          · subst e
            simp only [if_true]
            exact HL.out.keep (fun b h1 h2 _ => Below.heap_setCell _ _ _ _ (by show b ≠ w.heap.size; omega))
          · simp only [if_neg e]
            have hr := hcs.rng j (by omega)
            exact ((hcs.rows j (by omega)).keep (fun b h1 h2 hl => hb1.block b hl)).keep (fun b h1 h2 _ => Below.heap_setCell _ _ _ _ (by show b ≠ w.heap.size; omega))
        · by_cases e : j = k
          · subst e; simp
          · simp only [if_neg e]
            exact hcs.same j (by omega)
        · by_cases e : j = k
          · have hi : i ≠ k := by omega
            simp only [if_pos e, if_neg hi]
            exact (hcs.rng i (by omega)).2
          · have hi : i ≠ k := by omega
            simp only [if_neg e, if_neg hi]
            exact hcs.up i j hij (by omega)
        · by_cases e : j = k
          · simp only [if_pos e]
            exact ⟨by omega, by simp [World.setCell]⟩
          · simp only [if_neg e]
            have hr := hcs.rng j (by omega)
            exact ⟨hr.1, by simp [World.setCell]; omega⟩
      case measure => simp [intOf]; omega
    · obtain rfl : k = src.length := by omega
      go_wp2
      go_ret
      exact ⟨w.heap.size, (List.range src.length).map f, rfl, RowCells.own hcs hblk hsz.out (Nat.le_refl _), hb⟩

end Go.Proofs.Ytfkaacfeikmabaa
