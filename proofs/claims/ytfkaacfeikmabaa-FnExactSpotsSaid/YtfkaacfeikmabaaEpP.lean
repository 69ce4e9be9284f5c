/- What an exact law over a program and a number carries: the program and its box. -/
import Derived.Test.YtfkaacfeikmabaaSzEq
import Derived.Test.YtfkaacfeikmabaaToP
import Derived.Test.YtfkaacfeikmabaaToPo
import Derived.Test.YtfkaacfeikmabaaMarkP
import Derived.Test.YtfkaacfeikmabaaPArg
namespace Go.Proofs.Ytfkaacfeikmabaa
open Go.RowKit

structure EpR (n : Nat) (A1 A2 : Option Addr) (c1 c2 : Nat) (p : ProgD) (w : World) : Prop where
  bp : Blk w n 25 #[.slice A1 p.init.length c1, .slice A2 p.ts.length c2]
  pr : ProgAt w (Old n) (.agg #[.slice A1 p.init.length c1, .slice A2 p.ts.length c2]) p
section
variable {w w' : World} {n : Nat} {A1 A2 : Option Addr} {c1 c2 : Nat} {p : ProgD}
theorem EpR.lts (h : EpR n A1 A2 c1 c2 p w) : ∀ b, Old n b → b < w.heap.size := fun _ k => Nat.lt_trans k h.bp.lt
theorem EpR.next (h : EpR n A1 A2 c1 c2 p w) (hb : Below w.heap.size w w') : EpR n A1 A2 c1 c2 p w' :=
  ⟨h.bp.below hb h.bp.lt, h.pr.below hb h.lts⟩
theorem EpR.cells (h : EpR n A1 A2 c1 c2 p w) : w.cell? ⟨n, 0, none⟩ = some (.slice A1 p.init.length c1) ∧ w.cell? ⟨n, 1, none⟩ = some (.slice A2 p.ts.length c2) :=
  ⟨h.bp.cell 0, h.bp.cell 1⟩
/-- The copies that a call of the law makes: their blocks told. -/
theorem EpR.toProg (h : EpR n A1 A2 c1 c2 p w) (hz : progSize p ≤ 1048576) :
    Calls Try.prog 16 #[.agg #[.slice A1 p.init.length c1, .slice A2 p.ts.length c2]] w fun e w' => ∃ q0 qt, e = .returned (.agg #[.slice (some ⟨q0, 0, none⟩) p.init.length p.init.length, .slice (some ⟨qt, 0, none⟩) p.ts.length p.ts.length]) ∧ RowB w' q0 p.init ∧ w.heap.size ≤ q0 ∧ q0 < qt ∧ ThreadsOwn w' qt (qt + 1) p.ts ∧ Below w.heap.size w w' := by
  obtain ⟨B1, d1, B2, d2, hv, hcc, hi, ht⟩ := h.pr
  simp only [Value.agg.injEq, Array.mk.injEq, List.cons.injEq, Value.slice.injEq, and_true] at hv
  obtain ⟨⟨rfl, -, rfl⟩, rfl, -, rfl⟩ := hv
  exact toProg_own _ _ p _ _ (Old n) w hz h.lts hi ht
/-- A copy, its blocks told. -/
structure CpR (lo q0 qt : Nat) (p : ProgD) (w : World) : Prop where
  r : RowB w q0 p.init
  t : ThreadsOwn w qt (qt + 1) p.ts
  ge : lo ≤ q0
  lt : q0 < qt
theorem CpR.lts {lo q0 qt : Nat} (h : CpR lo q0 qt p w) : q0 < w.heap.size ∧ qt < w.heap.size := by
  obtain ⟨cs, k, _⟩ := h.t
  exact ⟨h.r.lt, k.lt⟩
theorem InsRow.at_ {q : Nat} {l : List InsD} (h : InsRow w q l) (hn : l.length ≤ 1048576) : InssAt w (Old w.heap.size) (some ⟨q, 0, none⟩) l := by
  obtain ⟨cs, h1, h2, h3⟩ := h
  refine ⟨by omega, fun _ => ⟨q, 0, rfl, h1.lt, fun k hk => ?_⟩⟩
  have := h1.insIn (h3 k hk)
  rw [Nat.zero_add]
  exact this
theorem ThreadsOwn.at_ {q lo : Nat} {ts : List (List InsD)} (h : ThreadsOwn w q lo ts) (hn : tsSize ts ≤ 1048576) : ThreadsAt w (Old w.heap.size) (some ⟨q, 0, none⟩) ts := by
  obtain ⟨cs, h1, h2, h3⟩ := h
  refine ⟨by unfold tsSize at hn; omega, fun _ => ⟨q, 0, rfl, h1.lt, fun k hk => ?_⟩⟩
  obtain ⟨q', k1, k2, k3⟩ := h3 k hk
  refine ⟨_, _, ?_, Nat.le_refl _, k3.at_ (Nat.le_trans (gett_le ts k hk) hn)⟩
  rw [Nat.zero_add, h1.cell k]
  exact k1
/-- A copy as an argument of Start. -/
theorem CpR.arg {lo q0 qt : Nat} (h : CpR lo q0 qt p w) (hz : progSize p ≤ 1048576) : PArg w (some ⟨q0, 0, none⟩) (some ⟨qt, 0, none⟩) p.init.length p.ts.length p := by
  have hn1 : p.init.length ≤ 1048576 := by unfold progSize at hz; omega
  have hn2 : tsSize p.ts ≤ 1048576 := by unfold progSize at hz; omega
  have hi := h.r.ints (by omega)
  exact ⟨⟨Nat.le_refl _, Nat.le_refl _⟩, ⟨hi.1, fun k => by obtain ⟨b, off, e1, e2, e3⟩ := hi.2 k; exact ⟨b, off, e1, (by rw [e2]; exact h.r.lt), e3⟩⟩, h.t.at_ hn2⟩
/-- A copy as eqProg reads it. -/
theorem CpR.prog {lo q0 qt : Nat} (h : CpR lo q0 qt p w) (hz : progSize p ≤ 1048576) : ProgAt w (Old w.heap.size) (.agg #[.slice (some ⟨q0, 0, none⟩) p.init.length p.init.length, .slice (some ⟨qt, 0, none⟩) p.ts.length p.ts.length]) p :=
  ⟨_, _, _, _, rfl, (h.arg hz).cc, (h.arg hz).ini, (h.arg hz).ts⟩
theorem CpR.same {lo q0 qt lo' q0' qt' : Nat} (h : CpR lo q0 qt p w) (k : CpR lo' q0' qt' p w) (hz : progSize p ≤ 1048576) :
    Calls Try.prog 19 #[.agg #[.slice (some ⟨q0, 0, none⟩) p.init.length p.init.length, .slice (some ⟨qt, 0, none⟩) p.ts.length p.ts.length], .agg #[.slice (some ⟨q0', 0, none⟩) p.init.length p.init.length, .slice (some ⟨qt', 0, none⟩) p.ts.length p.ts.length]] w fun e w' => e = .returned (.bool true) ∧ Below w.heap.size w w' :=
  eqProg_any _ _ p (Old w.heap.size) w (fun _ h => h) (h.prog hz) (k.prog hz)
theorem ThreadsOwn.below {q lo : Nat} {ts : List (List InsD)} (h : ThreadsOwn w q lo ts) (hb : Below w.heap.size w w') : ThreadsOwn w' q lo ts := by
  obtain ⟨cs, h1, h2, h3⟩ := h
  refine ⟨cs, h1.below hb h1.lt, h2, fun j hj => ?_⟩
  obtain ⟨q', k1, k2, k3⟩ := h3 j hj
  exact ⟨q', k1, k2, k3.below hb⟩
theorem CpR.next {lo q0 qt : Nat} (h : CpR lo q0 qt p w) (hb : Below w.heap.size w w') : CpR lo q0 qt p w' :=
  ⟨h.r.below hb, h.t.below hb, h.ge, h.lt⟩
/-- A copy between two block numbers, as it is marked. -/
structure CpI (lo hi q0 qt : Nat) (p : ProgD) (w : World) : Prop where
  r : RowB w q0 p.init
  t : ThreadsIn w qt (qt + 1) hi p.ts
  ge : lo ≤ q0
  lt : q0 < qt
  top : qt < hi
  sz : hi ≤ w.heap.size
theorem CpR.in_ {lo q0 qt : Nat} (h : CpR lo q0 qt p w) : CpI lo w.heap.size q0 qt p w :=
  ⟨h.r, h.t.in_, h.ge, h.lt, h.lts.2, Nat.le_refl _⟩
theorem CpI.next {lo hi q0 qt : Nat} (h : CpI lo hi q0 qt p w) (hb : Below w.heap.size w w') : CpI lo hi q0 qt p w' :=
  ⟨h.r.below hb, h.t.next hb, h.ge, h.lt, h.top, Nat.le_trans h.sz hb.size⟩
theorem CpI.mark {lo hi q0 qt : Nat} (h : CpI lo hi q0 qt p w) (hz : progSize p ≤ 1048576) :
    Calls Try.prog 21 #[.agg #[.slice (some ⟨q0, 0, none⟩) p.init.length p.init.length, .slice (some ⟨qt, 0, none⟩) p.ts.length p.ts.length], .int .i64 1] w fun e w' => (∃ m : Nat, e = .returned (.int .i64 (m : Int)) ∧ m ≤ 16777216) ∧ Inn lo hi w w' :=
  markProg_any q0 qt lo hi p w hz ⟨h.ge, h.lt⟩ h.top h.sz h.r h.t
/-- The program as an argument of Start, and what a copy answers, in the law's walk. -/
theorem EpR.copy (h : EpR n A1 A2 c1 c2 p w) (hz : progSize p ≤ 1048576) :
    Calls Try.prog 16 #[.agg #[.slice A1 p.init.length c1, .slice A2 p.ts.length c2]] w fun e w' => ∃ q0 qt, e = .returned (.agg #[.slice (some ⟨q0, 0, none⟩) p.init.length p.init.length, .slice (some ⟨qt, 0, none⟩) p.ts.length p.ts.length]) ∧ CpR w.heap.size q0 qt p w' ∧ Below w.heap.size w w' := by
  refine (h.toProg hz).mono ?_
  rintro e w' ⟨q0, qt, rfl, h1, h2, h3, h4, h5⟩
  exact ⟨q0, qt, rfl, ⟨h1, h4, h2, h3⟩, h5⟩
theorem EpR.inn {lo hi : Nat} (h : EpR n A1 A2 c1 c2 p w) (hi' : Inn lo hi w w') (ha : n < lo) (hl : lo ≤ w.heap.size) : EpR n A1 A2 c1 c2 p w' :=
  ⟨h.bp.below (hi'.below hl) ha, h.pr.below (hi'.below hl) (fun _ k => Nat.lt_trans k ha)⟩
end
end Go.Proofs.Ytfkaacfeikmabaa
