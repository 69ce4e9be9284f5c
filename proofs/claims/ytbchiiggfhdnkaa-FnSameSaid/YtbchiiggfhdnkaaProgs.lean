/- laws.progs: programs are alive. -/
import Derived.Test.YtbchiiggfhdnkaaCross
import Derived.Test.YtbchiiggfhdnkaaOwnAt
import Derived.Test.YtbchiiggfhdnkaaProgOk
import Derived.Test.YtbchiiggfhdnkaaSameProg
import Derived.Test.YtbchiiggfhdnkaaTouch
import Derived.Deep.RegionHeld3
import Derived.Deep.DeepCutAuto
namespace Go.Proofs.Ytbchiiggfhdnkaa
open Go.RowKit

def crossP (f : Bool) : ProgD := ⟨[0, 0], crossTs f 2⟩

/-- What laws.progs reads of its program, in block w1.heap.size. -/
structure Pg (w1 : World) (A : Option Addr) (c b cb q c2 : Nat) (p : ProgD) (w : World) : Prop where
  blk : Blk w w1.heap.size 36 #[.slice A 2 c, .slice (some ⟨b, 0, none⟩) 2 cb]
  row : w.cell? ⟨b, 0, none⟩ = some (.slice (some ⟨q, 0, none⟩) 4 c2)
  ins : InsIn w q 6 ⟨8, 0, 1, 0, 0, 0⟩
  prog : ProgAt w (Old w1.heap.size) (.agg #[.slice A 2 c, .slice (some ⟨b, 0, none⟩) 2 cb]) p
  below : Below w1.heap.size w1 w
  lt : b < w1.heap.size ∧ q < w1.heap.size

section
variable {w1 w w' : World} {A : Option Addr} {c b cb q c2 : Nat} {p : ProgD}
theorem Pg.next (h : Pg w1 A c b cb q c2 p w) (hb : Below w.heap.size w w') : Pg w1 A c b cb q c2 p w' := by
  have h1 := h.blk.lt
  have hlt := h.lt
  exact ⟨h.blk.below hb h1, (hb.cell (p := ⟨b, 0, none⟩) (by show b < w.heap.size; omega)).trans h.row, h.ins.keep (fun o => hb.cell (p := ⟨q, o, none⟩) (by show q < w.heap.size; omega)), h.prog.below hb (fun b hb2 => by have : b < w1.heap.size := hb2; omega), h.below.trans (hb.mono h.below.size), h.lt⟩
theorem Pg.drew (h : Pg w1 A c b cb q c2 p w) : Pg w1 A c b cb q c2 p w.drew := h.next (Below.refl _ _).drew
theorem Pg.lts (h : Pg w1 A c b cb q c2 p w) : ∀ b, Old w1.heap.size b → b < w.heap.size := fun _ hb => Nat.lt_of_lt_of_le hb h.below.size
theorem Pg.cells (h : Pg w1 A c b cb q c2 p w) : w.cell? ⟨w1.heap.size, 0, none⟩ = some (.slice A 2 c) ∧ w.cell? ⟨w1.heap.size, 1, none⟩ = some (.slice (some ⟨b, 0, none⟩) 2 cb) ∧ w.cell? ⟨b, 0, none⟩ = some (.slice (some ⟨q, 0, none⟩) 4 c2) ∧
    w.cell? ⟨q, 6, none⟩ = some (.int .i64 8) ∧ w.cell? ⟨q, 7, none⟩ = some (.int .i64 0) ∧ w.cell? ⟨q, 8, none⟩ = some (.int .i64 1) ∧ w.cell? ⟨q, 9, none⟩ = some (.int .i64 0) ∧ w.cell? ⟨q, 10, none⟩ = some (.int .i64 0) ∧ w.cell? ⟨q, 11, none⟩ = some (.int .i64 0) :=
  ⟨h.blk.cell 0, h.blk.cell 1, h.row, h.ins⟩
end

set_option maxRecDepth 100000 in
set_option maxHeartbeats 6400000 in
theorem progs_any (w : World) :
    Calls Try.prog 19 #[] w fun e w' => e = .returned (.bool true) ∧ Below w.heap.size w w' := by
  have k1 := fun v S w hS hp => progOk_any v (crossP true) S w hS hp
  rw [show progB (crossP true) = true from by decide] at k1
  replace k1 := hide k1
  have k2 := fun w => ins_any 8 0 1 0 0 0 1 2 4 w (by omega) (by omega)
  rw [show insB 8 0 1 0 0 0 1 2 4 = true from by decide] at k2
  replace k2 := hide k2
  have k3 := fun w => touch_any 8 0 1 0 0 0 0 w (by omega) (by omega)
  rw [show touchD 8 0 0 0 = 2 from by decide] at k3
  replace k3 := hide k3
  have k4 := fun v v' S w hS hp hq => sameProg_any v v' (crossP true) (crossP true) S w (by decide) (by decide) hS hp hq
  rw [show sameP (crossP true) (crossP true) = true from by decide] at k4
  replace k4 := hide k4
  have k5 := fun v v' S w hS hp hq => sameProg_any v v' (crossP true) (crossP false) S w (by decide) (by decide) hS hp hq
  rw [show sameP (crossP true) (crossP false) = false from by decide] at k5
  replace k5 := hide k5
  go_enter Try.func19, Try.ntmps19
  go_wp2_with fail
  refine (crosswise_any true w).mono ?_
  rintro e w1 ⟨v, tv, rfl, ⟨vs, hown⟩, hb1⟩
  have hp := hown.at_
  obtain ⟨A, c, rfl, -⟩ := own_form hown.ints
  obtain ⟨b, cb, rfl, -, hbl, hbc⟩ := rows_at hown.rows (by decide)
  obtain ⟨A2, c2, hv, -, hin⟩ := own_inss (hown.thr 0 (by decide))
  obtain ⟨q0, c0, hv', -⟩ := inss_at (hown.thr 0 (by decide)) (by decide)
  rw [hv] at hv'
  cases hv'
  obtain ⟨q, off, e, ⟨-, -, hql⟩, hci⟩ := hin.2 (by decide)
  cases e
  have r0 := hbc 0 (by decide)
  rw [hv] at r0
  have hy : InsIn w1 q0 6 ⟨8, 0, 1, 0, 0, 0⟩ := hci 1 (by decide)
  have hlen : (gett (crossTs true 2) 0).length = 4 := by decide
  have hlen2 : (crossTs true 2).length = 2 := by decide
  have hz : [(0 : Int), 0].length = 2 := rfl
  rw [hlen] at r0
  rw [hlen2, hz] at *
  have hP : Pg w1 A c b cb q0 c2 (crossP true) (w1.alloc (Obj.cells #[Value.slice A 2 c, Value.slice (some ⟨b, 0, none⟩) 2 cb] 36)) :=
    ⟨Blk.new _ _ _, ((below1 w1 _).cell (p := ⟨b, 0, none⟩) hbl).trans r0, hy.keep (fun o => (below1 w1 _).cell (p := ⟨q0, o, none⟩) hql), (hp.below (below1 w1 _) (fun b h => h.2)).more (fun b h => h.2), below1 w1 _, hbl, hql⟩
  replace hP := hide hP
  have B1 := hide hb1
  clear hown hbc hci hin hp hv hlen hlen2 hz hy r0 hb1 hbl hql
  go_wp2_with fail
  obtain ⟨wq, hwq⟩ : ∃ wq, wq = w1.alloc (Obj.cells #[Value.slice A 2 c, Value.slice (some ⟨b, 0, none⟩) 2 cb] 36) := ⟨_, rfl⟩
  rw [← hwq] at hP ⊢
  clear hwq
  go_region_held3 (fun w' => w'.cell? ⟨w1.heap.size, 0, none⟩ = some (.slice A 2 c) ∧ w'.cell? ⟨w1.heap.size, 1, none⟩ = some (.slice (some ⟨b, 0, none⟩) 2 cb) ∧ w'.cell? ⟨b, 0, none⟩ = some (.slice (some ⟨q0, 0, none⟩) 4 c2) ∧
    w'.cell? ⟨q0, 6, none⟩ = some (.int .i64 8) ∧ w'.cell? ⟨q0, 7, none⟩ = some (.int .i64 0) ∧ w'.cell? ⟨q0, 8, none⟩ = some (.int .i64 1) ∧ w'.cell? ⟨q0, 9, none⟩ = some (.int .i64 0) ∧ w'.cell? ⟨q0, 10, none⟩ = some (.int .i64 0) ∧ w'.cell? ⟨q0, 11, none⟩ = some (.int .i64 0))
    (first | exact hP.out.cells | exact hP.out.drew.cells | exact hP2.out.cells | exact hP3.out.cells | exact hP4.out.cells | exact hP5.out.cells | exact hP6.out.cells | exact hP7.out.cells)
    (first
    | (go_at_call 26; refine (k1.out _ _ _ hP.out.drew.lts hP.out.drew.prog).mono ?_; rintro e w2 ⟨rfl, hb2⟩; have hP2 := hide (hP.out.drew.next hb2))
    | (go_at_call 17; refine (k2.out _).mono ?_; rintro e w3 ⟨rfl, hb3⟩; have hP3 := hide (hP2.out.next hb3))
    | (go_at_call 21; refine (k3.out _).mono ?_; rintro e w4 ⟨rfl, hb4⟩; have hP4 := hide (hP3.out.next hb4))
    | (go_at_call_of 24 (Value.agg #[v6, tv6]); refine (k5.out _ _ (Old w6.heap.size) _ (fun b h => h) (hP6.out.prog.more (fun b h => Nat.lt_of_lt_of_le h hP6.out.below.size)) (hp6.out.more (fun b h => h.2))).mono ?_; rintro e w7 ⟨rfl, hb7⟩; have hP7 := hide (hP6.out.next hb7))
    | (go_at_call 24; refine (k4.out _ _ _ _ hP4.out.lts hP4.out.prog hP4.out.prog).mono ?_; rintro e w5 ⟨rfl, hb5⟩; have hP5 := hide (hP4.out.next hb5))
    | (go_at_call 69; refine (crosswise_any false _).mono ?_; rintro e w6 ⟨v6, tv6, rfl, ⟨vs6, hown6⟩, hb6⟩; have hP6 := hide (hP5.out.next hb6); have hp6 := hide (hown6.at_)))
  all_goals
    go_wp2_with fail
    go_ret
    exact ⟨rfl, below_then B1.out hP7.out.below⟩
end Go.Proofs.Ytbchiiggfhdnkaa
