/- eqIns, eqInsS, eqThread, eqThreadS, eqProg: true of rows that hold the same. -/
import Derived.Test.YtjendjbbhohjcaaCore
import Derived.Test.YtjendjbbhohjcaaIntSz
import Derived.Test.YtjendjbbhohjcaaIntEq
import Derived.Test.YtjendjbbhohjcaaRows
import Derived.Deep.QuietTactic
import Derived.BigQuiet
import Derived.StillTailTactics
namespace Go.Proofs.Ytjendjbbhohjcaa
open Go.RowKit

set_option maxHeartbeats 800000 in
theorem eqIns_any (d : InsD) (w : World) :
    Calls Try.prog 139 #[.agg #[.int .i64 d.o, .int .i64 d.r, .int .i64 d.a, .int .i64 d.b, .int .i64 d.x, .int .i64 d.n], .agg #[.int .i64 d.o, .int .i64 d.r, .int .i64 d.a, .int .i64 d.b, .int .i64 d.x, .int .i64 d.n]] w fun e w' => e = .returned (.bool true) ∧ Below w.heap.size w w' := by
  go_enter Try.func139, Try.ntmps139
  go_wp2
  go_ret
  exact ⟨rfl, below2 _ _ _⟩

set_option maxRecDepth 100000 in
set_option maxHeartbeats 800000 in
theorem eqInsS_any (A A' : Option Addr) (l : List InsD) (c c' : Nat) (S : Nat → Prop) (w : World) (hS : ∀ b, S b → b < w.heap.size) (ha : InssAt w S A l) (ha' : InssAt w S A' l) :
    Calls Try.prog 123 #[.slice A l.length c, .slice A' l.length c'] w fun e w' => e = .returned (.bool true) ∧ Below w.heap.size w w' := by
  have hn := ha.1
  go_enter Try.func123, Try.ntmps123
  go_wp2
  go_loopw [5] (fun i wr => ∃ (k : Nat), k ≤ l.length ∧ i = .int .i64 k ∧ Below w.heap.size w wr) (fun i _ => l.length - (intOf i).toNat)
  case atStart => exact ⟨0, Nat.zero_le _, rfl, Below.refl _ _⟩
  case round =>
    obtain ⟨k, hk, rfl, hb⟩ := hrel
    by_cases hlt : k < l.length
    · obtain ⟨b, off, rfl, hbB, hc⟩ := (ha.below hb hS).2 (by omega)
      obtain ⟨b', off', rfl, hbB', hc'⟩ := (ha'.below hb hS).2 (by omega)
      obtain ⟨c0, c1, c2, c3, c4, c5⟩ := hc k hlt
      obtain ⟨g0, g1, g2, g3, g4, g5⟩ := hc' k hlt
      have hx : ((k : Int) < (l.length : Int)) := by omega
      clear hc hc'
      go_wp2_with fail
      go_still_tail 8, (by kernel_rfl)
      have hbd := hb.drew
      change wpList _ _ _ _ _ wr.drew
      generalize wr.drew = w2 at *
      go_wp2_with (go_at_call 139; refine (eqIns_any (getd l k) _).mono ?_; rintro e w3 ⟨rfl, hb3⟩)
      go_roundw
      case rel => exact ⟨k + 1, by omega, by go_num, below_then hbd hb3⟩
      case measure => simp [intOf]; omega
    · obtain rfl : k = l.length := by omega
      go_wp2
      go_ret
      exact ⟨rfl, hb⟩

set_option maxHeartbeats 800000 in
theorem eqThread_any (A A' : Option Addr) (l : List InsD) (c c' : Nat) (S : Nat → Prop) (w : World) (hS : ∀ b, S b → b < w.heap.size) (ha : InssAt w S A l) (ha' : InssAt w S A' l) :
    Calls Try.prog 108 #[.agg #[.slice A l.length c], .agg #[.slice A' l.length c']] w fun e w' => e = .returned (.bool true) ∧ Below w.heap.size w w' := by
  have hb2 := below2 w (Obj.cells #[Value.slice A l.length c] 45) (Obj.cells #[Value.slice A' l.length c'] 45)
  go_enter Try.func108, Try.ntmps108
  go_wp2_with fail
  refine (eqInsS_any A A' l c c' S _ (fun b h => Nat.lt_of_lt_of_le (hS b h) hb2.size) (ha.below hb2 hS) (ha'.below hb2 hS)).mono ?_
  rintro e w3 ⟨rfl, hb3⟩
  go_wp2_with fail
  go_ret
  exact ⟨rfl, below_then hb2 hb3⟩

set_option maxRecDepth 100000 in
set_option maxHeartbeats 800000 in
theorem eqThreadS_any (A A' : Option Addr) (ts : List (List InsD)) (c c' : Nat) (S : Nat → Prop) (w : World) (hS : ∀ b, S b → b < w.heap.size) (ha : ThreadsAt w S A ts) (ha' : ThreadsAt w S A' ts) :
    Calls Try.prog 87 #[.slice A ts.length c, .slice A' ts.length c'] w fun e w' => e = .returned (.bool true) ∧ Below w.heap.size w w' := by
  have hn := ha.1
  go_enter Try.func87, Try.ntmps87
  go_wp2
  go_loopw [5] (fun i wr => ∃ (k : Nat), k ≤ ts.length ∧ i = .int .i64 k ∧ Below w.heap.size w wr) (fun i _ => ts.length - (intOf i).toNat)
  case atStart => exact ⟨0, Nat.zero_le _, rfl, Below.refl _ _⟩
  case round =>
    obtain ⟨k, hk, rfl, hb⟩ := hrel
    by_cases hlt : k < ts.length
    · obtain ⟨b, off, rfl, hbB, hc⟩ := (ha.below hb hS).2 (by omega)
      obtain ⟨b', off', rfl, hbB', hc'⟩ := (ha'.below hb hS).2 (by omega)
      obtain ⟨A2, c2, h1, hcap, h2⟩ := hc k hlt
      obtain ⟨A3, c3, h3, hcap', h4⟩ := hc' k hlt
      have hx : ((k : Int) < (ts.length : Int)) := by omega
      clear hc hc'
      go_wp2_with fail
      go_still_tail 8, (by kernel_rfl)
      have hbd := hb.drew
      have h2d : InssAt wr.drew S A2 (gett ts k) := h2
      have h4d : InssAt wr.drew S A3 (gett ts k) := h4
      change wpList _ _ _ _ _ wr.drew
      clear h1 h2 h3 h4
      generalize wr.drew = w2 at *
      go_wp2_with (go_at_call 108; refine (eqThread_any A2 A3 (gett ts k) c2 c3 S _ (fun b h => Nat.lt_of_lt_of_le (hS b h) hbd.size) h2d h4d).mono ?_; rintro e w3 ⟨rfl, hb3⟩)
      go_roundw
      case rel => exact ⟨k + 1, by omega, by go_num, below_then hbd hb3⟩
      case measure => simp [intOf]; omega
    · obtain rfl : k = ts.length := by omega
      go_wp2
      go_ret
      exact ⟨rfl, hb⟩

set_option maxHeartbeats 800000 in
theorem eqProg_any (v v' : Value) (p : ProgD) (S : Nat → Prop) (w : World) (hS : ∀ b, S b → b < w.heap.size) (hp : ProgAt w S v p) (hp' : ProgAt w S v' p) :
    Calls Try.prog 44 #[v, v'] w fun e w' => e = .returned (.bool true) ∧ Below w.heap.size w w' := by
  obtain ⟨A, c, A', c', rfl, hcc, hi, ht⟩ := hp
  obtain ⟨A2, c2, A2', c2', rfl, hcc', hi', ht'⟩ := hp'
  have hb2 := below2 w (Obj.cells #[Value.slice A p.init.length c, Value.slice A' p.ts.length c'] 37) (Obj.cells #[Value.slice A2 p.init.length c2, Value.slice A2' p.ts.length c2'] 37)
  go_enter Try.func44, Try.ntmps44
  go_wp2_with fail
  refine (eqIntS_any A A2 p.init c c2 S _ (fun b h => Nat.lt_of_lt_of_le (hS b h) hb2.size) (hi.below hb2 hS) (hi'.below hb2 hS)).mono ?_
  rintro e w3 ⟨rfl, hb3⟩
  obtain ⟨hcl3, hfz3⟩ := bcell hb3
  go_wp2_with fail
  have hb4 := below_then hb2 hb3
  refine (eqThreadS_any A' A2' p.ts c' c2' S _ (fun b h => Nat.lt_of_lt_of_le (hS b h) hb4.size) (ht.below hb4 hS) (ht'.below hb4 hS)).mono ?_
  rintro e w5 ⟨rfl, hb5⟩
  go_wp2_with fail
  go_ret
  exact ⟨rfl, below_then hb4 hb5⟩
end Go.Proofs.Ytjendjbbhohjcaa
