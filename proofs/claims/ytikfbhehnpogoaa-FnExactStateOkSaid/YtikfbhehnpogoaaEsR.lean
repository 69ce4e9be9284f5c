/- What an exact law over a program and a state carries: the arguments and their boxes. -/
import Derived.Test.YtikfbhehnpogoaaOpenSt
import Derived.Test.YtikfbhehnpogoaaSSok
import Derived.Test.YtikfbhehnpogoaaSok2
import Derived.Test.YtikfbhehnpogoaaToP
import Derived.Test.YtikfbhehnpogoaaSzEq
namespace Go.Proofs.Ytikfbhehnpogoaa
open Go.RowKit

structure EsR (n : Nat) (A1 A2 : Option Addr) (c1 c2 : Nat) (p : ProgD) (s : StD) (w : World) : Prop where
  bp : Blk w n 46 #[.slice A1 p.init.length c1, .slice A2 p.ts.length c2]
  bs : Blk w (n + 1) 58 s.cells
  pr : ProgAt w (Old n) (.agg #[.slice A1 p.init.length c1, .slice A2 p.ts.length c2]) p
  st : StArg w n s
section
variable {w w' : World} {n : Nat} {A1 A2 : Option Addr} {c1 c2 : Nat} {p : ProgD} {s : StD}
theorem EsR.next (h : EsR n A1 A2 c1 c2 p s w) (hb : Below w.heap.size w w') : EsR n A1 A2 c1 c2 p s w' :=
  ⟨h.bp.below hb h.bp.lt, h.bs.below hb h.bs.lt, h.pr.below hb (fun _ k => Nat.lt_of_lt_of_le k h.st.sz), h.st.next (hb.mono h.st.sz)⟩
theorem EsR.lts (h : EsR n A1 A2 c1 c2 p s w) : ∀ b, Old n b → b < w.heap.size := fun _ k => Nat.lt_of_lt_of_le k h.st.sz
theorem EsR.cells (h : EsR n A1 A2 c1 c2 p s w) : (w.cell? ⟨n, 0, none⟩ = some (.slice A1 p.init.length c1) ∧ w.cell? ⟨n, 1, none⟩ = some (.slice A2 p.ts.length c2)) ∧ w.cell? ⟨(n + 1), 0, none⟩ = some (.int .i64 s.kind) ∧ w.cell? ⟨(n + 1), 1, none⟩ = some (.slice s.pc.A s.pc.n s.pc.c) ∧ w.cell? ⟨(n + 1), 2, none⟩ = some (.slice s.F.A s.F.n s.F.c) ∧ w.cell? ⟨(n + 1), 3, none⟩ = some (.slice s.mem.A s.mem.n s.mem.c) ∧ w.cell? ⟨(n + 1), 4, none⟩ = some (.slice s.bufs.A s.bufs.n s.bufs.c) ∧ w.cell? ⟨(n + 1), 5, none⟩ = some (.slice s.H.A s.H.n s.H.c) ∧ w.cell? ⟨(n + 1), 6, none⟩ = some (.slice s.view.A s.view.n s.view.c) ∧ w.cell? ⟨(n + 1), 7, none⟩ = some (.slice s.sc.A s.sc.n s.sc.c) ∧ w.cell? ⟨(n + 1), 8, none⟩ = some (.int .i64 s.next) :=
  ⟨⟨h.bp.cell 0, h.bp.cell 1⟩, h.bs.cell 0, h.bs.cell 1, h.bs.cell 2, h.bs.cell 3, h.bs.cell 4, h.bs.cell 5, h.bs.cell 6, h.bs.cell 7, h.bs.cell 8⟩
theorem EsR.lt (h : EsR n A1 A2 c1 c2 p s w) : n < w.heap.size ∧ n + 1 < w.heap.size := ⟨h.bp.lt, h.bs.lt⟩
/-- A box that holds a program; one that holds a state. -/
theorem prog2 {g : Nat} (h : Blk w g 26 #[.slice A1 p.init.length c1, .slice A2 p.ts.length c2]) : w.cell? ⟨g, 0, none⟩ = some (.slice A1 p.init.length c1) ∧ w.cell? ⟨g, 1, none⟩ = some (.slice A2 p.ts.length c2) := ⟨h.cell 0, h.cell 1⟩
theorem state9 {g : Nat} (h : Blk w g 33 s.cells) : w.cell? ⟨g, 0, none⟩ = some (.int .i64 s.kind) ∧ w.cell? ⟨g, 1, none⟩ = some (.slice s.pc.A s.pc.n s.pc.c) ∧ w.cell? ⟨g, 2, none⟩ = some (.slice s.F.A s.F.n s.F.c) ∧ w.cell? ⟨g, 3, none⟩ = some (.slice s.mem.A s.mem.n s.mem.c) ∧ w.cell? ⟨g, 4, none⟩ = some (.slice s.bufs.A s.bufs.n s.bufs.c) ∧ w.cell? ⟨g, 5, none⟩ = some (.slice s.H.A s.H.n s.H.c) ∧ w.cell? ⟨g, 6, none⟩ = some (.slice s.view.A s.view.n s.view.c) ∧ w.cell? ⟨g, 7, none⟩ = some (.slice s.sc.A s.sc.n s.sc.c) ∧ w.cell? ⟨g, 8, none⟩ = some (.int .i64 s.next) := ⟨h.cell 0, h.cell 1, h.cell 2, h.cell 3, h.cell 4, h.cell 5, h.cell 6, h.cell 7, h.cell 8⟩
/-- The copies that a call of the law makes. -/
theorem EsR.toProg (h : EsR n A1 A2 c1 c2 p s w) (hz : progSize p ≤ 1048576) :
    Calls Try.prog 17 #[.agg #[.slice A1 p.init.length c1, .slice A2 p.ts.length c2]] w fun e w' => ∃ B1 B2 d1 d2, e = .returned (.agg #[.slice B1 p.init.length d1, .slice B2 p.ts.length d2]) ∧ ProgAt w' (New w.heap.size w'.heap.size) (.agg #[.slice B1 p.init.length d1, .slice B2 p.ts.length d2]) p ∧ Below w.heap.size w w' := by
  refine (toProg_any _ p (Old n) w hz h.lts h.pr).mono ?_
  rintro e w' ⟨v', rfl, hp, hb⟩
  obtain ⟨B1, d1, B2, d2, rfl, hcc, hi, ht⟩ := hp
  exact ⟨B1, B2, d1, d2, rfl, ⟨B1, d1, B2, d2, rfl, hcc, hi, ht⟩, hb⟩
/-- A copy, as it is read later. -/
structure PcR (m : Nat) (B1 B2 : Option Addr) (d1 d2 : Nat) (p : ProgD) (w : World) : Prop where
  at_ : ProgAt w (Old m) (.agg #[.slice B1 p.init.length d1, .slice B2 p.ts.length d2]) p
  sz : m ≤ w.heap.size
theorem PcR.of {w0 : World} {B1 B2 : Option Addr} {d1 d2 : Nat} (h : ProgAt w (New w0.heap.size w.heap.size) (.agg #[.slice B1 p.init.length d1, .slice B2 p.ts.length d2]) p) : PcR w.heap.size B1 B2 d1 d2 p w :=
  ⟨h.more (fun _ k => k.2), Nat.le_refl _⟩
theorem PcR.next {m : Nat} {B1 B2 : Option Addr} {d1 d2 : Nat} (h : PcR m B1 B2 d1 d2 p w) (hb : Below w.heap.size w w') : PcR m B1 B2 d1 d2 p w' :=
  ⟨h.at_.below hb (fun _ k => Nat.lt_of_lt_of_le k h.sz), Nat.le_trans h.sz hb.size⟩
theorem PcR.same {m m' : Nat} {B1 B2 C1 C2 : Option Addr} {d1 d2 e1 e2 : Nat} (h : PcR m B1 B2 d1 d2 p w) (k : PcR m' C1 C2 e1 e2 p w) :
    Calls Try.prog 19 #[.agg #[.slice B1 p.init.length d1, .slice B2 p.ts.length d2], .agg #[.slice C1 p.init.length e1, .slice C2 p.ts.length e2]] w fun e w' => e = .returned (.bool true) ∧ Below w.heap.size w w' :=
  eqProg_any _ _ p (Old w.heap.size) w (fun _ h => h) (h.at_.more (fun _ k => Nat.lt_of_lt_of_le k h.sz)) (k.at_.more (fun _ q => Nat.lt_of_lt_of_le q k.sz))
end
end Go.Proofs.Ytikfbhehnpogoaa
