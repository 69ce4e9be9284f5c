/- The program's crews as they are read: reached, standsOk, oneIf, workersOk, accountOf. -/
import Derived.Test.YtmhldlpjiepmpaaPoM
import Derived.Test.YtmhldlpjiepmpaaJbI
import Derived.Test.YtmhldlpjiepmpaaJbV
import Derived.Deep.RegionHeld3
namespace Go.Proofs.Ytmhldlpjiepmpaa
open Go.RowKit

def crewCells (a : PA) (p : PoolD) (qp : Nat) : Array Value := #[.slice a.A0 p.js.length a.c0, .slice a.A1 p.dq.length a.c1, .slice a.A2 p.ran.length a.c2, .slice a.A3 p.dn.length a.c3, .slice a.A4 p.lf.length a.c4, .slice a.A5 p.sm.length a.c5, .slice a.A6 p.vl.length a.c6, .slice (some ⟨qp, 0, none⟩) p.js.length p.js.length]
/-- A crew that is read, in block g: its pool's rows in blocks of S, the parents in block qp. -/
structure CrewR (w : World) (S : Nat → Prop) (g qp : Nat) (a : PA) (p : PoolD) : Prop where
  box : Blk w g 98 (crewCells a p qp)
  par : FnAt w qp p.js.length (fun m => parI p.js p.js.length (m : Int))
  pool : PoolAt w S a p
  lt : ∀ b, S b → b < w.heap.size
structure LenP (p : PoolD) : Prop where
  ran : p.ran.length = p.js.length
  dn : p.dn.length = p.js.length
  lf : p.lf.length = p.js.length
  sm : p.sm.length = p.js.length
  vl : p.vl.length = p.js.length
theorem CrewR.next {w w' : World} {S : Nat → Prop} {g qp : Nat} {a : PA} {p : PoolD} (h : CrewR w S g qp a p) (hb : Below w.heap.size w w') : CrewR w' S g qp a p :=
  ⟨h.box.below hb h.box.lt, h.par.next hb, h.pool.below hb h.lt, fun b hs => Nat.lt_of_lt_of_le (h.lt b hs) hb.size⟩
theorem CrewR.drew {w : World} {S : Nat → Prop} {g qp : Nat} {a : PA} {p : PoolD} (h : CrewR w S g qp a p) : CrewR w.drew S g qp a p := h.next (Below.refl _ _).drew
theorem box8 {w : World} {g : Nat} {t : TypeId} {a0 a1 a2 a3 a4 a5 a6 a7 : Value} (h : Blk w g t #[a0, a1, a2, a3, a4, a5, a6, a7]) :
    (w.cell? ⟨g, 0, none⟩ = some a0 ∧ w.cell? ⟨g, 1, none⟩ = some a1 ∧ w.cell? ⟨g, 2, none⟩ = some a2 ∧ w.cell? ⟨g, 3, none⟩ = some a3 ∧ w.cell? ⟨g, 4, none⟩ = some a4 ∧ w.cell? ⟨g, 5, none⟩ = some a5 ∧ w.cell? ⟨g, 6, none⟩ = some a6 ∧ w.cell? ⟨g, 7, none⟩ = some a7) ∧ g < w.heap.size :=
  ⟨⟨h.cell 0, h.cell 1, h.cell 2, h.cell 3, h.cell 4, h.cell 5, h.cell 6, h.cell 7⟩, h.lt⟩

set_option maxHeartbeats 400000 in
theorem oneIf_any (b : Bool) (w : World) : Calls Try.prog 121 #[.bool b] w fun e w' => e = .returned (.int .i64 (if b then 1 else 0)) ∧ w = w' := by
  cases b
  all_goals (go_enter Try.func121, Try.ntmps121; go_wp2_with fail; go_ret; exact ⟨rfl, rfl⟩)
set_option maxHeartbeats 400000 in
theorem workersOk_any (n : Int) (w : World) : Calls Try.prog 61 #[.int .i64 n] w fun e w' => e = .returned (.bool (workB n)) ∧ w = w' := by
  by_cases h1 : 1 ≤ n
  · by_cases h2 : n ≤ 4
    · have hE := hide (show workB n = true from by unfold workB; rw [decide_eq_true h1, decide_eq_true h2]; rfl)
      go_enter Try.func61, Try.ntmps61
      go_wp2_with fail
      go_ret
      exact ⟨ret_bool hE.out.symm, rfl⟩
    · have hE := hide (show workB n = false from by unfold workB; rw [decide_eq_false h2, Bool.and_false])
      have h3 : decide (n ≤ 4) = false := decide_eq_false h2
      go_enter Try.func61, Try.ntmps61
      go_wp2_with fail
      go_ret
      exact ⟨ret_bool hE.out.symm, rfl⟩
  · have hE := hide (show workB n = false from by unfold workB; rw [decide_eq_false h1, Bool.false_and])
    have h3 : decide (1 ≤ n) = false := decide_eq_false h1
    go_enter Try.func61, Try.ntmps61
    go_wp2_with fail
    go_ret
    exact ⟨ret_bool hE.out.symm, rfl⟩
end Go.Proofs.Ytmhldlpjiepmpaa
