/- laws.states: states are alive. -/
import Derived.Test.YtfkaacfeikmabaaMf0
import Derived.Test.YtfkaacfeikmabaaMf6
import Derived.Test.YtfkaacfeikmabaaMf26
import Derived.Test.YtfkaacfeikmabaaMf30
import Derived.Test.YtfkaacfeikmabaaMf31
import Derived.Test.YtfkaacfeikmabaaMf32
import Derived.Test.YtfkaacfeikmabaaMf34
import Derived.Deep.RegionLaw
import Derived.Deep.RegionHeld3
import Derived.Deep.DeepCutAuto
namespace Go.Proofs.Ytfkaacfeikmabaa
open Go.RowKit

attribute [local go_sem ↓] Go.wp_at_zero Go.wp_at_succ

def crossQ (f : Bool) : ProgD := ⟨[0, 0], crossTs f 2⟩

structure Sp (w1 : World) (A : Option Addr) (c b cb q0 c2 q1 c3 : Nat) (w : World) : Prop where
  box : Blk w w1.heap.size 31 #[.slice A 2 c, .slice (some ⟨b, 0, none⟩) 2 cb]
  row0 : w.cell? ⟨b, 0, none⟩ = some (.slice (some ⟨q0, 0, none⟩) 3 c2)
  row1 : w.cell? ⟨b, 1, none⟩ = some (.slice (some ⟨q1, 0, none⟩) 3 c3)
  i0 : InsIn w q0 0 ⟨1, 1, 0, 0, 0, 1⟩
  i1 : InsIn w q1 6 ⟨8, 0, 1, 0, 1, 0⟩
  ints : IntsAt w (Old w1.heap.size) A [0, 0]
  thr : ThreadsAt w (Old w1.heap.size) (some ⟨b, 0, none⟩) (crossTs false 2)
  below : Below w1.heap.size w1 w
  lt : b < w1.heap.size ∧ q0 < w1.heap.size ∧ q1 < w1.heap.size
structure Ss (d : StD) (gs qf of qr or cr : Nat) (w : World) : Prop where
  box : Blk w gs 48 #[.int .i64 1, .slice d.pc.A 2 d.pc.c, .slice (some ⟨qf, of, none⟩) 2 d.F.c, .slice d.mem.A 2 d.mem.c, .slice d.bufs.A 2 d.bufs.c, .slice d.H.A 0 d.H.c, .slice d.view.A 0 d.view.c, .slice d.sc.A 0 d.sc.c, .int .i64 0]
  st : StIn w d
  same : SameSt (startC (crossQ false) 1) d
  fst : w.cell? ⟨qf, of, none⟩ = some (.slice (some ⟨qr, or, none⟩) 6 cr)
  row : IntsAt w (Old w.heap.size) (some ⟨qr, or, none⟩) [0, 0, 0, 0, 0, 0]
  lt : qf < w.heap.size

structure Sf (w0 : World) (T qv cv : Nat) (w : World) : Prop where
  box : Blk w T 69 #[.slice (some ⟨qv, 0, none⟩) 6 cv]
  row : RowB w qv [0, 1, 0, 0, 0, 0]
  below : Below w0.heap.size w0 w
section
variable {w0 w w' : World} {T qv cv : Nat}
theorem Sf.next (h : Sf w0 T qv cv w) (hb : Below w.heap.size w w') : Sf w0 T qv cv w' := ⟨h.box.below hb h.box.lt, h.row.below hb, below_then h.below hb⟩
theorem Sf.drew (h : Sf w0 T qv cv w) : Sf w0 T qv cv w.drew := h.next (Below.refl _ _).drew
theorem Sf.cells (h : Sf w0 T qv cv w) : w.cell? ⟨T, 0, none⟩ = some (.slice (some ⟨qv, 0, none⟩) 6 cv) ∧ w.cell? ⟨qv, 1, none⟩ = some (.int .i64 1) := by
  refine ⟨h.box.cell 0, ?_⟩
  obtain ⟨cs, h1, _, h2⟩ := h.row
  rw [h1.cell 1, h2 1 (by decide)]
  rfl
end

section
variable {w0 w1 w w' : World} {A : Option Addr} {c b cb q0 c2 q1 c3 gs qp qf c4 qm cm qb qr : Nat} {fs : List Value}
theorem Sp.next (h : Sp w1 A c b cb q0 c2 q1 c3 w) (hb : Below w.heap.size w w') : Sp w1 A c b cb q0 c2 q1 c3 w' := by
  have hs := h.below.size
  have hlt := h.lt
  have hk : ∀ q o, q < w1.heap.size → w'.cell? ⟨q, o, none⟩ = w.cell? ⟨q, o, none⟩ := fun q o hq => hb.cell (p := ⟨q, o, none⟩) (by show q < w.heap.size; omega)
  exact ⟨h.box.below hb h.box.lt, (hk _ _ hlt.1).trans h.row0, (hk _ _ hlt.1).trans h.row1, h.i0.keep (fun o => hk _ o hlt.2.1), h.i1.keep (fun o => hk _ o hlt.2.2), h.ints.below hb (fun _ k => Nat.lt_of_lt_of_le k hs), h.thr.below hb (fun _ k => Nat.lt_of_lt_of_le k hs), below_then h.below hb, hlt⟩
theorem Sp.drew (h : Sp w1 A c b cb q0 c2 q1 c3 w) : Sp w1 A c b cb q0 c2 q1 c3 w.drew := h.next (Below.refl _ _).drew
theorem Sp.int (h : Sp w1 A c b cb q0 c2 q1 c3 w) : IntsAt w (Old w.heap.size) A [0, 0] := h.ints.more (fun _ k => Nat.lt_of_lt_of_le k h.below.size)
theorem Sp.ths (h : Sp w1 A c b cb q0 c2 q1 c3 w) : ThreadsAt w (Old w.heap.size) (some ⟨b, 0, none⟩) (crossTs false 2) := h.thr.more (fun _ k => Nat.lt_of_lt_of_le k h.below.size)
theorem Sp.cells (h : Sp w1 A c b cb q0 c2 q1 c3 w) : (w.cell? ⟨w1.heap.size, 0, none⟩ = some (.slice A 2 c) ∧ w.cell? ⟨w1.heap.size, 1, none⟩ = some (.slice (some ⟨b, 0, none⟩) 2 cb)) ∧ w.cell? ⟨b, 0, none⟩ = some (.slice (some ⟨q0, 0, none⟩) 3 c2) ∧ w.cell? ⟨b, 1, none⟩ = some (.slice (some ⟨q1, 0, none⟩) 3 c3) ∧
    (w.cell? ⟨q0, 0, none⟩ = some (.int .i64 1) ∧ w.cell? ⟨q0, 1, none⟩ = some (.int .i64 1) ∧ w.cell? ⟨q0, 2, none⟩ = some (.int .i64 0) ∧ w.cell? ⟨q0, 3, none⟩ = some (.int .i64 0) ∧ w.cell? ⟨q0, 4, none⟩ = some (.int .i64 0) ∧ w.cell? ⟨q0, 5, none⟩ = some (.int .i64 1)) ∧
    (w.cell? ⟨q1, 6, none⟩ = some (.int .i64 8) ∧ w.cell? ⟨q1, 7, none⟩ = some (.int .i64 0) ∧ w.cell? ⟨q1, 8, none⟩ = some (.int .i64 1) ∧ w.cell? ⟨q1, 9, none⟩ = some (.int .i64 0) ∧ w.cell? ⟨q1, 10, none⟩ = some (.int .i64 1) ∧ w.cell? ⟨q1, 11, none⟩ = some (.int .i64 0)) :=
  ⟨⟨h.box.cell 0, h.box.cell 1⟩, h.row0, h.row1, h.i0, h.i1⟩
end
section
variable {w w' : World} {d : StD} {gs qf of qr or cr : Nat}
theorem Ss.next (h : Ss d gs qf of qr or cr w) (hb : Below w.heap.size w w') : Ss d gs qf of qr or cr w' :=
  ⟨h.box.below hb h.box.lt, h.st.next hb, h.same, (hb.cell (p := ⟨qf, of, none⟩) h.lt).trans h.fst, (h.row.below hb (fun _ k => k)).more (fun _ k => Nat.lt_of_lt_of_le k hb.size), Nat.lt_of_lt_of_le h.lt hb.size⟩
theorem Ss.drew (h : Ss d gs qf of qr or cr w) : Ss d gs qf of qr or cr w.drew := h.next (Below.refl _ _).drew
theorem Ss.cells (h : Ss d gs qf of qr or cr w) : (w.cell? ⟨gs, 0, none⟩ = some (.int .i64 1) ∧ w.cell? ⟨gs, 1, none⟩ = some (.slice d.pc.A 2 d.pc.c) ∧ w.cell? ⟨gs, 2, none⟩ = some (.slice (some ⟨qf, of, none⟩) 2 d.F.c) ∧ w.cell? ⟨gs, 3, none⟩ = some (.slice d.mem.A 2 d.mem.c) ∧ w.cell? ⟨gs, 4, none⟩ = some (.slice d.bufs.A 2 d.bufs.c) ∧ w.cell? ⟨gs, 5, none⟩ = some (.slice d.H.A 0 d.H.c) ∧ w.cell? ⟨gs, 6, none⟩ = some (.slice d.view.A 0 d.view.c) ∧ w.cell? ⟨gs, 7, none⟩ = some (.slice d.sc.A 0 d.sc.c) ∧ w.cell? ⟨gs, 8, none⟩ = some (.int .i64 0)) ∧ w.cell? ⟨qf, of, none⟩ = some (.slice (some ⟨qr, or, none⟩) 6 cr) :=
  ⟨⟨h.box.cell 0, h.box.cell 1, h.box.cell 2, h.box.cell 3, h.box.cell 4, h.box.cell 5, h.box.cell 6, h.box.cell 7, h.box.cell 8⟩, h.fst⟩
theorem Ss.ok {c1 c2 : Nat} {A1 A2 : Option Addr} (h : Ss d gs qf of qr or cr w) (hcc : 2 ≤ c1 ∧ 2 ≤ c2) (hi : IntsAt w (Old w.heap.size) A1 [0, 0]) (ht : ThreadsAt w (Old w.heap.size) A2 (crossTs false 2)) :
    Calls Try.prog 35 #[.agg #[.slice A1 2 c1, .slice A2 2 c2], .agg d.cells] w (fun e w' => e = .returned (.bool true) ∧ Below w.heap.size w w') ∧
    Calls Try.prog 37 #[.agg #[.slice A1 2 c1, .slice A2 2 c2], .agg d.cells] w (fun e w' => e = .returned (.bool false) ∧ Below w.heap.size w w') := by
  have k1 := stateOk_any (p := crossQ false) (v := .agg #[.slice A1 2 c1, .slice A2 2 c2]) ⟨A1, c1, A2, c2, rfl, hcc, hi, ht⟩ h.st.at_ h.st.len
  have k2 := done_any (p := crossQ false) (v := .agg #[.slice A1 2 c1, .slice A2 2 c2]) ⟨A1, c1, A2, c2, rfl, hcc, hi, ht⟩ h.st.at_ h.st.len
  rw [← stateB_same h.same, show stateB (crossQ false) (startC (crossQ false) 1) = true from by decide +kernel] at k1
  rw [← doneB_same h.same, show doneB (crossQ false) (startC (crossQ false) 1) = false from by decide +kernel] at k2
  exact ⟨k1, k2⟩
end

theorem Rv.block6 {w : World} {B : Nat} {v : Value} {row : List Int} (h : Rv w B v row) (hn : row.length = 6) : ∃ q c, v = .slice (some ⟨q, 0, none⟩) 6 c ∧ RowB w q row ∧ B ≤ q := by
  rcases h with ⟨_, h⟩ | ⟨q, c, h1, h2, h3⟩
  · rw [h] at hn; cases hn
  · rw [hn] at h1
    exact ⟨q, c, h1, h2, h3⟩
theorem ints_old {w : World} {q : Nat} {zs : List Int} (h : RowB w q zs) (hn : zs.length ≤ 9223372036854775807) : IntsAt w (Old w.heap.size) (some ⟨q, 0, none⟩) zs :=
  ⟨(h.ints hn).1, fun k => by obtain ⟨b, off, e1, e2, e3⟩ := (h.ints hn).2 k; exact ⟨b, off, e1, (by rw [e2]; exact h.lt), e3⟩⟩
set_option maxRecDepth 100000 in
set_option maxHeartbeats 12800000 in
theorem states_any (w : World) :
    Calls Try.prog 49 #[] w fun e w' => e = .returned (.bool true) ∧ Below w.heap.size w w' := by
  have kS := fun A1 A2 c1 c2 w hcc hi ht => start_1 (crossQ false) A1 A2 c1 c2 w.heap.size w (Nat.le_refl _) hcc hi ht (by decide +kernel)
  rw [show (crossQ false).ts.length = 2 from rfl, show (crossQ false).init.length = 2 from rfl, show (crossQ false).init = [0, 0] from rfl, show (crossQ false).ts = crossTs false 2 from rfl] at kS
  replace kS := hide kS
  have kQ := fun A c w hS => (quiet_all 1 1 0 0 0 1 0 A [0, 0, 0, 0, 0, 0] c w hS).1
  rw [show ([0, 0, 0, 0, 0, 0] : List Int).length = 6 from rfl, show qRow 1 1 0 0 1 [0, 0, 0, 0, 0, 0] = [0, 1, 0, 0, 0, 0] from by decide, show qPc 1 1 0 0 1 0 [0, 0, 0, 0, 0, 0] = 1 from by decide +kernel] at kQ
  replace kQ := hide kQ
  have kC := fun A w c hS => cellOf_any (zs := [0, 1, 0, 0, 0, 0]) (A := A) (w := w) 8 0 1 0 0 1 c (by omega) rfl hS
  rw [show ([0, 1, 0, 0, 0, 0] : List Int).length = 6 from rfl, show cellV 8 1 0 (geti [0, 1, 0, 0, 0, 0] 1) 6 = 1 from by decide, show ((1 : Nat) : Int) = 1 from rfl] at kC
  replace kC := hide kC
  go_enter Try.func49, Try.ntmps49
  go_wp2_with fail
  refine (crosswise_any false w).mono ?_
  rintro e w1 ⟨v, tv, rfl, ⟨vs, hown⟩, hb1⟩
  have hp := hown.at_
  obtain ⟨A, c, rfl, -⟩ := own_form hown.ints
  obtain ⟨b, cb, rfl, -, hbl, hbc⟩ := rows_at hown.rows (by decide)
  obtain ⟨A2, c2, hv, -, hin⟩ := own_inss (hown.thr 0 (by decide))
  obtain ⟨q0, c0, hv', -⟩ := inss_at (hown.thr 0 (by decide)) (by decide)
  rw [hv] at hv'
  cases hv'
  obtain ⟨q, off, e, ⟨-, -, hql⟩, hci⟩ := hin.2 (by decide)
  cases e
  obtain ⟨A3, c3, hv3, -, hin3⟩ := own_inss (hown.thr 1 (by decide))
  obtain ⟨q1, c1, hv3', -⟩ := inss_at (hown.thr 1 (by decide)) (by decide)
  rw [hv3] at hv3'
  cases hv3'
  obtain ⟨q, off, e, ⟨-, -, hql1⟩, hci1⟩ := hin3.2 (by decide)
  cases e
  have r0 := hbc 0 (by decide)
  rw [hv] at r0
  have r1 := hbc 1 (by decide)
  rw [hv3] at r1
  have hy0 : InsIn w1 q0 0 ⟨1, 1, 0, 0, 0, 1⟩ := hci 0 (by decide)
  have hy1 : InsIn w1 q1 6 ⟨8, 0, 1, 0, 1, 0⟩ := hci1 1 (by decide)
  rw [show (gett (crossTs false 2) 0).length = 3 from by decide] at r0
  rw [show (gett (crossTs false 2) 1).length = 3 from by decide] at r1
  obtain ⟨A5, c5, A6, c6, e5, hcc, hi, ht⟩ := hp
  cases e5
  have hcc : 2 ≤ c ∧ 2 ≤ cb := hcc
  rw [show (crossTs false 2).length = 2 from by decide, show ([0, 0] : List Int).length = 2 from rfl]
  have hP : Hid (Sp w1 A c b cb q0 c2 q1 c3 (w1.alloc (Obj.cells #[Value.slice A 2 c, Value.slice (some ⟨b, 0, none⟩) 2 cb] 31))) := hide
    ⟨Blk.new _ _ _, ((below1 w1 _).cell (p := ⟨b, 0, none⟩) hbl).trans r0, ((below1 w1 _).cell (p := ⟨b, 1, none⟩) hbl).trans r1, hy0.keep (fun o => (below1 w1 _).cell (p := ⟨q0, o, none⟩) hql), hy1.keep (fun o => (below1 w1 _).cell (p := ⟨q1, o, none⟩) hql1), (hi.below (below1 w1 _) (fun b h => h.2)).more (fun b h => h.2), (ht.below (below1 w1 _) (fun b h => h.2)).more (fun b h => h.2), below1 w1 _, hbl, hql, hql1⟩
  have B1 := hide hb1
  clear hown hbc hci hci1 hin hin3 hi ht hv hv3 hy0 hy1 r0 r1 hb1 hbl hql hql1
  go_wp2_with fail
  obtain ⟨wq, hwq⟩ : ∃ wq, wq = w1.alloc (Obj.cells #[Value.slice A 2 c, Value.slice (some ⟨b, 0, none⟩) 2 cb] 31) := ⟨_, rfl⟩
  rw [← hwq] at hP ⊢
  clear hwq
  refine (kS.out _ _ _ _ _ hcc hP.out.int hP.out.ths).mono ?_
  rintro e w2 ⟨d, rfl, hst, -, hsm, hb2⟩
  have hF := hst.F.at_
  have hlF := hst.F.2.1
  have hsF := hsm.F
  obtain ⟨qf, of, eF, hqf, hcF⟩ := hF.2 (by rw [← hsF.1]; decide)
  obtain ⟨AR, cr, hf0, hr0⟩ := hcF 0 (by rw [← hsF.1]; decide)
  obtain ⟨en, ez⟩ := hsF.2 0 (by decide)
  rw [← en] at hf0
  rw [← ez] at hr0
  have hr0 : IntsAt w2 (Old w2.heap.size) AR [0, 0, 0, 0, 0, 0] := hr0
  obtain ⟨qr, or, rfl, -, -⟩ := hr0.2 (by decide)
  have dcs := hide (show d.cells = #[.int .i64 1, .slice d.pc.A 2 d.pc.c, .slice (some ⟨qf, of, none⟩) 2 d.F.c, .slice d.mem.A 2 d.mem.c, .slice d.bufs.A 2 d.bufs.c, .slice d.H.A 0 d.H.c, .slice d.view.A 0 d.view.c, .slice d.sc.A 0 d.sc.c, .int .i64 0] from by
    unfold StD.cells
    have e0 : d.kind = 1 := hsm.kind.symm
    have e1 : d.pc.n = 2 := hsm.pc.1.symm
    have e2 : d.F.n = 2 := by rw [← hlF, ← hsF.1]; rfl
    have e3 : d.mem.n = 2 := hsm.mem.1.symm
    have e4 : d.bufs.n = 2 := by rw [← hst.bufs.2.1, ← hsm.bufs.1]; rfl
    have e5 : d.H.n = 0 := by rw [← hst.H.2.1, ← hsm.H]; rfl
    have e6 : d.view.n = 0 := by rw [← hst.view.2.1, ← hsm.view.1]; rfl
    have e7 : d.sc.n = 0 := hsm.sc.1.symm
    have e8 : d.next = 0 := hsm.next.symm
    rw [e0, e1, e2, e3, e4, e5, e6, e7, e8, eF])
  have hb2a := hide hb2
  have hP2 := hide ((hP.out.next hb2).next (below1 w2 (Obj.cells #[.int .i64 1, .slice d.pc.A 2 d.pc.c, .slice (some ⟨qf, of, none⟩) 2 d.F.c, .slice d.mem.A 2 d.mem.c, .slice d.bufs.A 2 d.bufs.c, .slice d.H.A 0 d.H.c, .slice d.view.A 0 d.view.c, .slice d.sc.A 0 d.sc.c, .int .i64 0] 48)))
  have hS2 : Hid (Ss d w2.heap.size qf of qr or cr (w2.alloc (Obj.cells #[.int .i64 1, .slice d.pc.A 2 d.pc.c, .slice (some ⟨qf, of, none⟩) 2 d.F.c, .slice d.mem.A 2 d.mem.c, .slice d.bufs.A 2 d.bufs.c, .slice d.H.A 0 d.H.c, .slice d.view.A 0 d.view.c, .slice d.sc.A 0 d.sc.c, .int .i64 0] 48))) := hide
    ⟨Blk.new _ _ _, hst.next (below1 w2 _), hsm, ((below1 w2 _).cell (p := ⟨qf, of, none⟩) hqf).trans hf0, (hr0.below (below1 w2 _) (fun _ k => k)).more (fun _ k => Nat.lt_of_lt_of_le k (below1 w2 _).size), Nat.lt_of_lt_of_le hqf (below1 w2 _).size⟩
  rw [show #[Value.agg d.cells, Value.bool true] = #[Value.agg #[.int .i64 1, .slice d.pc.A 2 d.pc.c, .slice (some ⟨qf, of, none⟩) 2 d.F.c, .slice d.mem.A 2 d.mem.c, .slice d.bufs.A 2 d.bufs.c, .slice d.H.A 0 d.H.c, .slice d.view.A 0 d.view.c, .slice d.sc.A 0 d.sc.c, .int .i64 0], Value.bool true] from by rw [dcs.out]]
  clear hF hlF hsF eF hqf hcF hf0 en ez hr0 hst hsm hb2 kS
  go_wp2_with fail
  obtain ⟨ws, hws⟩ : ∃ ws, ws = w2.alloc (Obj.cells #[.int .i64 1, .slice d.pc.A 2 d.pc.c, .slice (some ⟨qf, of, none⟩) 2 d.F.c, .slice d.mem.A 2 d.mem.c, .slice d.bufs.A 2 d.bufs.c, .slice d.H.A 0 d.H.c, .slice d.view.A 0 d.view.c, .slice d.sc.A 0 d.sc.c, .int .i64 0] 48) := ⟨_, rfl⟩
  rw [← hws] at hP2 hS2 ⊢
  clear hws hP
  generalize w2.heap.size = gs at *
  go_cut [4, 5] (fun s4 s5 wx => ∃ T qv cv, s4 = .pointer (some ⟨T, 0, none⟩) ∧ s5 = .int .i64 1 ∧ Blk wx T 69 #[.slice (some ⟨qv, 0, none⟩) 6 cv] ∧ RowB wx qv [0, 1, 0, 0, 0, 0] ∧ Below ws.heap.size ws wx)
  case first =>
    have hC := hide (fun w' (hb : Below ws.heap.size ws w') => (show ((fun w' => ((w'.cell? ⟨w1.heap.size, 0, none⟩ = some (.slice A 2 c) ∧ w'.cell? ⟨w1.heap.size, 1, none⟩ = some (.slice (some ⟨b, 0, none⟩) 2 cb)) ∧ w'.cell? ⟨b, 0, none⟩ = some (.slice (some ⟨q0, 0, none⟩) 3 c2) ∧ w'.cell? ⟨b, 1, none⟩ = some (.slice (some ⟨q1, 0, none⟩) 3 c3) ∧ (w'.cell? ⟨q0, 0, none⟩ = some (.int .i64 1) ∧ w'.cell? ⟨q0, 1, none⟩ = some (.int .i64 1) ∧ w'.cell? ⟨q0, 2, none⟩ = some (.int .i64 0) ∧ w'.cell? ⟨q0, 3, none⟩ = some (.int .i64 0) ∧ w'.cell? ⟨q0, 4, none⟩ = some (.int .i64 0) ∧ w'.cell? ⟨q0, 5, none⟩ = some (.int .i64 1)) ∧ (w'.cell? ⟨q1, 6, none⟩ = some (.int .i64 8) ∧ w'.cell? ⟨q1, 7, none⟩ = some (.int .i64 0) ∧ w'.cell? ⟨q1, 8, none⟩ = some (.int .i64 1) ∧ w'.cell? ⟨q1, 9, none⟩ = some (.int .i64 0) ∧ w'.cell? ⟨q1, 10, none⟩ = some (.int .i64 1) ∧ w'.cell? ⟨q1, 11, none⟩ = some (.int .i64 0))) ∧ ((w'.cell? ⟨gs, 0, none⟩ = some (.int .i64 1) ∧ w'.cell? ⟨gs, 1, none⟩ = some (.slice d.pc.A 2 d.pc.c) ∧ w'.cell? ⟨gs, 2, none⟩ = some (.slice (some ⟨qf, of, none⟩) 2 d.F.c) ∧ w'.cell? ⟨gs, 3, none⟩ = some (.slice d.mem.A 2 d.mem.c) ∧ w'.cell? ⟨gs, 4, none⟩ = some (.slice d.bufs.A 2 d.bufs.c) ∧ w'.cell? ⟨gs, 5, none⟩ = some (.slice d.H.A 0 d.H.c) ∧ w'.cell? ⟨gs, 6, none⟩ = some (.slice d.view.A 0 d.view.c) ∧ w'.cell? ⟨gs, 7, none⟩ = some (.slice d.sc.A 0 d.sc.c) ∧ w'.cell? ⟨gs, 8, none⟩ = some (.int .i64 0)) ∧ w'.cell? ⟨qf, of, none⟩ = some (.slice (some ⟨qr, or, none⟩) 6 cr))) : World → Prop) w' from ⟨(hP2.out.next hb).cells, (hS2.out.next hb).cells⟩))
    have B0 := hide (Below.refl ws.heap.size ws).drew
    refine wp_region_held_drew (S := (fun w' => ((w'.cell? ⟨w1.heap.size, 0, none⟩ = some (.slice A 2 c) ∧ w'.cell? ⟨w1.heap.size, 1, none⟩ = some (.slice (some ⟨b, 0, none⟩) 2 cb)) ∧ w'.cell? ⟨b, 0, none⟩ = some (.slice (some ⟨q0, 0, none⟩) 3 c2) ∧ w'.cell? ⟨b, 1, none⟩ = some (.slice (some ⟨q1, 0, none⟩) 3 c3) ∧ (w'.cell? ⟨q0, 0, none⟩ = some (.int .i64 1) ∧ w'.cell? ⟨q0, 1, none⟩ = some (.int .i64 1) ∧ w'.cell? ⟨q0, 2, none⟩ = some (.int .i64 0) ∧ w'.cell? ⟨q0, 3, none⟩ = some (.int .i64 0) ∧ w'.cell? ⟨q0, 4, none⟩ = some (.int .i64 0) ∧ w'.cell? ⟨q0, 5, none⟩ = some (.int .i64 1)) ∧ (w'.cell? ⟨q1, 6, none⟩ = some (.int .i64 8) ∧ w'.cell? ⟨q1, 7, none⟩ = some (.int .i64 0) ∧ w'.cell? ⟨q1, 8, none⟩ = some (.int .i64 1) ∧ w'.cell? ⟨q1, 9, none⟩ = some (.int .i64 0) ∧ w'.cell? ⟨q1, 10, none⟩ = some (.int .i64 1) ∧ w'.cell? ⟨q1, 11, none⟩ = some (.int .i64 0))) ∧ ((w'.cell? ⟨gs, 0, none⟩ = some (.int .i64 1) ∧ w'.cell? ⟨gs, 1, none⟩ = some (.slice d.pc.A 2 d.pc.c) ∧ w'.cell? ⟨gs, 2, none⟩ = some (.slice (some ⟨qf, of, none⟩) 2 d.F.c) ∧ w'.cell? ⟨gs, 3, none⟩ = some (.slice d.mem.A 2 d.mem.c) ∧ w'.cell? ⟨gs, 4, none⟩ = some (.slice d.bufs.A 2 d.bufs.c) ∧ w'.cell? ⟨gs, 5, none⟩ = some (.slice d.H.A 0 d.H.c) ∧ w'.cell? ⟨gs, 6, none⟩ = some (.slice d.view.A 0 d.view.c) ∧ w'.cell? ⟨gs, 7, none⟩ = some (.slice d.sc.A 0 d.sc.c) ∧ w'.cell? ⟨gs, 8, none⟩ = some (.int .i64 0)) ∧ w'.cell? ⟨qf, of, none⟩ = some (.slice (some ⟨qr, or, none⟩) 6 cr)))) (by kernel_rfl) ?_ (fun hHeld => ?_)
    · exact hC.out _ B0.out
    refine wpAnyH_take (i := 0) (oi := { dst := some 17, op := Op.fieldAddr 31 (Operand.tmp 1) 1, type := 0, pos := "laws.go:75", after := #[], guard := none }) (v := ?_) rfl (by kernel_rfl) (by kernel_rfl) (by kernel_rfl) (fun _ _ _ h => h) (Or.inl ⟨by rfl, ?_⟩) hHeld ?_
    rotate_left
    · (intro wq hSw; (try dsimp only at hSw); first | (go_simp; done) | (go_simp; with_reducible rfl))
    try simp only [Act.put, qa, qb, qc]
    refine wpAnyH_take (i := 1) (oi := { dst := some 18, op := Op.load 29 (Operand.tmp 17), type := 29, pos := "laws.go:75", after := #[{ on := 0, ground := Ground.data }], guard := none }) (v := ?_) rfl (by kernel_rfl) (by kernel_rfl) (by kernel_rfl) (fun _ _ _ h => h) (Or.inl ⟨by rfl, ?_⟩) hHeld ?_
    rotate_left
    · (intro wq hSw; (try dsimp only at hSw); first | (go_simp; done) | (go_simp; with_reducible rfl))
    try simp only [Act.put, qa, qb, qc]
    refine wpAnyH_take (i := 2) (oi := { dst := some 19, op := Op.indexAddr 29 (Operand.tmp 18) (Operand.const (Value.int IntKind.i64 0)), type := 0, pos := "laws.go:75", after := #[{ on := 1, ground := Ground.data }], guard := none }) (v := ?_) rfl (by kernel_rfl) (by kernel_rfl) (by kernel_rfl) (fun _ _ _ h => h) (Or.inl ⟨by rfl, ?_⟩) hHeld ?_
    rotate_left
    · (intro wq hSw; (try dsimp only at hSw); first | (go_simp; done) | (go_simp; with_reducible rfl))
    try simp only [Act.put, qa, qb, qc]
    refine wpAnyH_take (i := 3) (oi := { dst := some 20, op := Op.fieldAddr 99 (Operand.tmp 19) 0, type := 0, pos := "laws.go:75", after := #[{ on := 2, ground := Ground.data }], guard := none }) (v := ?_) rfl (by kernel_rfl) (by kernel_rfl) (by kernel_rfl) (fun _ _ _ h => h) (Or.inl ⟨by rfl, ?_⟩) hHeld ?_
    rotate_left
    · (intro wq hSw; (try dsimp only at hSw); first | (go_simp; done) | (go_simp; with_reducible rfl))
    try simp only [Act.put, qa, qb, qc]
    refine wpAnyH_take (i := 4) (oi := { dst := some 21, op := Op.load 97 (Operand.tmp 20), type := 97, pos := "laws.go:75", after := #[{ on := 3, ground := Ground.data }], guard := none }) (v := ?_) rfl (by kernel_rfl) (by kernel_rfl) (by kernel_rfl) (fun _ _ _ h => h) (Or.inl ⟨by rfl, ?_⟩) hHeld ?_
    rotate_left
    · (intro wq hSw; (try dsimp only at hSw); first | (go_simp; done) | (go_simp; with_reducible rfl))
    try simp only [Act.put, qa, qb, qc]
    refine wpAnyH_take (i := 5) (oi := { dst := some 22, op := Op.indexAddr 97 (Operand.tmp 21) (Operand.const (Value.int IntKind.i64 0)), type := 0, pos := "laws.go:75", after := #[{ on := 4, ground := Ground.data }], guard := none }) (v := ?_) rfl (by kernel_rfl) (by kernel_rfl) (by kernel_rfl) (fun _ _ _ h => h) (Or.inl ⟨by rfl, ?_⟩) hHeld ?_
    rotate_left
    · (intro wq hSw; (try dsimp only at hSw); first | (go_simp; done) | (go_simp; with_reducible rfl))
    try simp only [Act.put, qa, qb, qc]
    refine wpAnyH_take (i := 6) (oi := { dst := some 23, op := Op.load 72 (Operand.tmp 22), type := 72, pos := "laws.go:75", after := #[{ on := 5, ground := Ground.data }], guard := none }) (v := ?_) rfl (by kernel_rfl) (by kernel_rfl) (by kernel_rfl) (fun _ _ _ h => h) (Or.inl ⟨by rfl, ?_⟩) hHeld ?_
    rotate_left
    · (intro wq hSw; (try dsimp only at hSw); first | (go_simp; done) | (go_simp; with_reducible rfl))
    try simp only [Act.put, qa, qb, qc]
    refine wpAnyH_take (i := 7) (oi := { dst := some 24, op := Op.fieldAddr 48 (Operand.tmp 2) 2, type := 0, pos := "laws.go:75", after := #[], guard := none }) (v := ?_) rfl (by kernel_rfl) (by kernel_rfl) (by kernel_rfl) (fun _ _ _ h => h) (Or.inl ⟨by rfl, ?_⟩) hHeld ?_
    rotate_left
    · (intro wq hSw; (try dsimp only at hSw); first | (go_simp; done) | (go_simp; with_reducible rfl))
    try simp only [Act.put, qa, qb, qc]
    refine wpAnyH_take (i := 8) (oi := { dst := some 25, op := Op.load 44 (Operand.tmp 24), type := 44, pos := "laws.go:75", after := #[{ on := 7, ground := Ground.data }], guard := none }) (v := ?_) rfl (by kernel_rfl) (by kernel_rfl) (by kernel_rfl) (fun _ _ _ h => h) (Or.inl ⟨by rfl, ?_⟩) hHeld ?_
    rotate_left
    · (intro wq hSw; (try dsimp only at hSw); first | (go_simp; done) | (go_simp; with_reducible rfl))
    try simp only [Act.put, qa, qb, qc]
    refine wpAnyH_take (i := 9) (oi := { dst := some 26, op := Op.indexAddr 44 (Operand.tmp 25) (Operand.const (Value.int IntKind.i64 0)), type := 0, pos := "laws.go:75", after := #[{ on := 8, ground := Ground.data }], guard := none }) (v := ?_) rfl (by kernel_rfl) (by kernel_rfl) (by kernel_rfl) (fun _ _ _ h => h) (Or.inl ⟨by rfl, ?_⟩) hHeld ?_
    rotate_left
    · (intro wq hSw; (try dsimp only at hSw); first | (go_simp; done) | (go_simp; with_reducible rfl))
    try simp only [Act.put, qa, qb, qc]
    refine wpAnyH_take (i := 10) (oi := { dst := some 27, op := Op.load 69 (Operand.tmp 26), type := 69, pos := "laws.go:75", after := #[{ on := 9, ground := Ground.data }], guard := none }) (v := ?_) rfl (by kernel_rfl) (by kernel_rfl) (by kernel_rfl) (fun _ _ _ h => h) (Or.inl ⟨by rfl, ?_⟩) hHeld ?_
    rotate_left
    · (intro wq hSw; (try dsimp only at hSw); first | (go_simp; done) | (go_simp; with_reducible rfl))
    try simp only [Act.put, qa, qb, qc]
    refine wpAnyH_ready (rs := [11, 15]) (by kernel_rfl) (by simp) ?_
    refine AllReadyH.cons (o := { dst := some 28, op := Op.call { callee := Callee.value (Operand.func 44), args := #[Operand.tmp 23, Operand.const (Value.int IntKind.i64 0), Operand.tmp 27], argTypes := #[72, 3, 69] }, type := 70, pos := "laws.go:75", after := #[{ on := 6, ground := Ground.data }, { on := 10, ground := Ground.data }], guard := none }) rfl (fun K hK => ?_) (AllReadyH.cons (o := { dst := some 4, op := Op.alloc 69, type := 0, pos := "laws.go:75", after := #[], guard := none }) rfl (fun K hK => ?_) (AllReadyH.nil))
    · go_simp
      go_at_call 44; refine (kQ.out _ _ _ hS2.out.drew.row).mono ?_; rintro e w3 ⟨v3, rfl, hv3, hb3⟩; obtain ⟨qv, cv, rfl, hrv, hqv⟩ := hv3.block6 rfl; have B3 := hide (below_then B0.out hb3); clear hv3
      refine hK.out _ _ ?_ (fun hHeldN => ?_)
      · exact hC.out _ B3.out
      clear hK K hHeld
      have hHeld := hHeldN
      clear hHeldN
      try simp only [Act.put, qa, qb, qc]
      refine wpAnyH_take (i := 12) (oi := { dst := some 16, op := Op.move (Operand.tmp 28), type := 70, pos := "laws.go:75", after := #[{ on := 11, ground := Ground.data }], guard := none }) (v := ?_) rfl (by kernel_rfl) (by kernel_rfl) (by kernel_rfl) (fun _ _ _ h => h) (Or.inl ⟨by rfl, ?_⟩) hHeld ?_
      rotate_left
      · (intro wq hSw; (try dsimp only at hSw); first | (go_simp; done) | (go_simp; with_reducible rfl))
      try simp only [Act.put, qa, qb, qc]
      refine wpAnyH_take (i := 13) (oi := { dst := some 29, op := Op.extract (Operand.tmp 16) 0, type := 69, pos := "laws.go:75", after := #[{ on := 12, ground := Ground.data }], guard := none }) (v := ?_) rfl (by kernel_rfl) (by kernel_rfl) (by kernel_rfl) (fun _ _ _ h => h) (Or.inl ⟨by rfl, ?_⟩) hHeld ?_
      rotate_left
      · (intro wq hSw; (try dsimp only at hSw); first | (go_simp; done) | (go_simp; with_reducible rfl))
      try simp only [Act.put, qa, qb, qc]
      refine wpAnyH_take (i := 14) (oi := { dst := some 30, op := Op.extract (Operand.tmp 16) 1, type := 3, pos := "laws.go:75", after := #[{ on := 12, ground := Ground.data }, { on := 16, ground := Ground.gcOnly Departure.lateStores }], guard := none }) (v := ?_) rfl (by kernel_rfl) (by kernel_rfl) (by kernel_rfl) (fun _ _ _ h => h) (Or.inl ⟨by rfl, ?_⟩) hHeld ?_
      rotate_left
      · (intro wq hSw; (try dsimp only at hSw); first | (go_simp; done) | (go_simp; with_reducible rfl))
      try simp only [Act.put, qa, qb, qc]
      refine wpAnyH_ready (rs := [15]) (by kernel_rfl) (by simp) ?_
      refine AllReadyH.cons (o := { dst := some 4, op := Op.alloc 69, type := 0, pos := "laws.go:75", after := #[], guard := none }) rfl (fun K hK => ?_) (AllReadyH.nil)
      · go_simp
        refine hK.out _ _ ?_ (fun hHeldN => ?_)
        · exact hC.out _ (B3.out.alloc B3.out.size _)
        clear hK K hHeld
        have hHeld := hHeldN
        clear hHeldN
        try simp only [Act.put, qa, qb, qc]
        refine wpAnyH_ready (rs := [16]) (by kernel_rfl) (by simp) ?_
        refine AllReadyH.cons (o := { dst := none, op := Op.store 69 (Operand.tmp 4) (Operand.tmp 29), type := 0, pos := "laws.go:75", after := #[{ on := 15, ground := Ground.data }, { on := 13, ground := Ground.data }, { on := 11, ground := Ground.chain }, { on := 0, ground := Ground.phase }, { on := 1, ground := Ground.phase }, { on := 2, ground := Ground.phase }, { on := 3, ground := Ground.phase }, { on := 4, ground := Ground.phase }, { on := 5, ground := Ground.phase }, { on := 6, ground := Ground.phase }, { on := 7, ground := Ground.phase }, { on := 8, ground := Ground.phase }, { on := 9, ground := Ground.phase }, { on := 10, ground := Ground.phase }, { on := 11, ground := Ground.phase }, { on := 12, ground := Ground.phase }, { on := 13, ground := Ground.phase }, { on := 14, ground := Ground.textOnly Departure.lateStores }, { on := 15, ground := Ground.phase }], guard := none }) rfl (fun K hK => ?_) (AllReadyH.nil)
        · go_simp
          refine hK.out _ _ ?_ (fun hHeldN => ?_)
          · exact (by first | exact hC.out _ (B3.out.alloc B3.out.size _) | exact hC.out _ ((B3.out.alloc B3.out.size _).setCell (by have := B3.out.size; omega) _))
          clear hK K hHeld
          have hHeld := hHeldN
          clear hHeldN
          try simp only [Act.put, qa, qb, qc]
          refine wpAnyH_take (i := 17) (oi := { dst := some 5, op := Op.assign (Operand.tmp 30), type := 3, pos := "laws.go:75", after := #[{ on := 14, ground := Ground.data }, { on := 16, ground := Ground.chain }, { on := 0, ground := Ground.phase }, { on := 1, ground := Ground.phase }, { on := 2, ground := Ground.phase }, { on := 3, ground := Ground.phase }, { on := 4, ground := Ground.phase }, { on := 5, ground := Ground.phase }, { on := 6, ground := Ground.phase }, { on := 7, ground := Ground.phase }, { on := 8, ground := Ground.phase }, { on := 9, ground := Ground.phase }, { on := 10, ground := Ground.phase }, { on := 11, ground := Ground.phase }, { on := 12, ground := Ground.phase }, { on := 13, ground := Ground.phase }, { on := 14, ground := Ground.phase }, { on := 15, ground := Ground.phase }, { on := 16, ground := Ground.phase }], guard := none }) (v := ?_) rfl (by kernel_rfl) (by kernel_rfl) (by kernel_rfl) (fun _ _ _ h => h) (Or.inl ⟨by rfl, ?_⟩) hHeld ?_
          rotate_left
          · (intro wq hSw; (try dsimp only at hSw); first | (go_simp; done) | (go_simp; with_reducible rfl))
          try simp only [Act.put, qa, qb, qc]
          refine wpAnyH_done (by kernel_rfl) ?_ _
          go_wp2_with fail
          go_meet
          refine ⟨_, qv, cv, rfl, rfl, ?_, ?_, ?_⟩
          · first
              | exact Blk.new w3 _ _
              | exact (Blk.new w3 _ _).set_ 0 _
          · first
              | exact hrv.below (below1 w3 _)
              | exact (hrv.below (below1 w3 _)).heap (Below.heap_setCell _ _ _ _ (by have := hrv.lt; show qv ≠ w3.heap.size; omega))
          · first
              | exact B3.out.alloc B3.out.size _
              | exact (B3.out.alloc B3.out.size _).setCell B3.out.size _
    · go_simp
      refine hK.out _ _ ?_ (fun hHeldN => ?_)
      · exact hC.out _ (B0.out.alloc B0.out.size _)
      clear hK K hHeld
      have hHeld := hHeldN
      clear hHeldN
      try simp only [Act.put, qa, qb, qc]
      refine wpAnyH_ready (rs := [11]) (by kernel_rfl) (by simp) ?_
      refine AllReadyH.cons (o := { dst := some 28, op := Op.call { callee := Callee.value (Operand.func 44), args := #[Operand.tmp 23, Operand.const (Value.int IntKind.i64 0), Operand.tmp 27], argTypes := #[72, 3, 69] }, type := 70, pos := "laws.go:75", after := #[{ on := 6, ground := Ground.data }, { on := 10, ground := Ground.data }], guard := none }) rfl (fun K hK => ?_) (AllReadyH.nil)
      · go_simp
        go_at_call 44; refine (kQ.out _ _ _ (hS2.out.drew.next (below1 _ _)).row).mono ?_; rintro e w3 ⟨v3, rfl, hv3, hb3⟩; obtain ⟨qv, cv, rfl, hrv, hqv⟩ := hv3.block6 rfl; have B3 := hide (below_then (B0.out.alloc B0.out.size (Obj.cells #[Value.slice none 0 0] 69)) hb3); have K3 := hide ((show Blk (ws.drew.alloc (Obj.cells #[Value.slice none 0 0] 69)) ws.heap.size 69 #[Value.slice none 0 0] from Blk.new ws.drew _ _).below hb3 (by show ws.heap.size < (ws.alloc _).heap.size; simp)); have t0 := K3.out.cell 0; have t1 := K3.out.frozen 0; have t2 := K3.out.lt; simp only [List.getElem?_toArray, List.getElem?_cons_zero] at t0; clear hv3
        refine hK.out _ _ ?_ (fun hHeldN => ?_)
        · exact hC.out _ B3.out
        clear hK K hHeld
        have hHeld := hHeldN
        clear hHeldN
        try simp only [Act.put, qa, qb, qc]
        refine wpAnyH_take (i := 12) (oi := { dst := some 16, op := Op.move (Operand.tmp 28), type := 70, pos := "laws.go:75", after := #[{ on := 11, ground := Ground.data }], guard := none }) (v := ?_) rfl (by kernel_rfl) (by kernel_rfl) (by kernel_rfl) (fun _ _ _ h => h) (Or.inl ⟨by rfl, ?_⟩) hHeld ?_
        rotate_left
        · (intro wq hSw; (try dsimp only at hSw); first | (go_simp; done) | (go_simp; with_reducible rfl))
        try simp only [Act.put, qa, qb, qc]
        refine wpAnyH_take (i := 13) (oi := { dst := some 29, op := Op.extract (Operand.tmp 16) 0, type := 69, pos := "laws.go:75", after := #[{ on := 12, ground := Ground.data }], guard := none }) (v := ?_) rfl (by kernel_rfl) (by kernel_rfl) (by kernel_rfl) (fun _ _ _ h => h) (Or.inl ⟨by rfl, ?_⟩) hHeld ?_
        rotate_left
        · (intro wq hSw; (try dsimp only at hSw); first | (go_simp; done) | (go_simp; with_reducible rfl))
        try simp only [Act.put, qa, qb, qc]
        refine wpAnyH_take (i := 14) (oi := { dst := some 30, op := Op.extract (Operand.tmp 16) 1, type := 3, pos := "laws.go:75", after := #[{ on := 12, ground := Ground.data }, { on := 16, ground := Ground.gcOnly Departure.lateStores }], guard := none }) (v := ?_) rfl (by kernel_rfl) (by kernel_rfl) (by kernel_rfl) (fun _ _ _ h => h) (Or.inl ⟨by rfl, ?_⟩) hHeld ?_
        rotate_left
        · (intro wq hSw; (try dsimp only at hSw); first | (go_simp; done) | (go_simp; with_reducible rfl))
        try simp only [Act.put, qa, qb, qc]
        refine wpAnyH_ready (rs := [16]) (by kernel_rfl) (by simp) ?_
        refine AllReadyH.cons (o := { dst := none, op := Op.store 69 (Operand.tmp 4) (Operand.tmp 29), type := 0, pos := "laws.go:75", after := #[{ on := 15, ground := Ground.data }, { on := 13, ground := Ground.data }, { on := 11, ground := Ground.chain }, { on := 0, ground := Ground.phase }, { on := 1, ground := Ground.phase }, { on := 2, ground := Ground.phase }, { on := 3, ground := Ground.phase }, { on := 4, ground := Ground.phase }, { on := 5, ground := Ground.phase }, { on := 6, ground := Ground.phase }, { on := 7, ground := Ground.phase }, { on := 8, ground := Ground.phase }, { on := 9, ground := Ground.phase }, { on := 10, ground := Ground.phase }, { on := 11, ground := Ground.phase }, { on := 12, ground := Ground.phase }, { on := 13, ground := Ground.phase }, { on := 14, ground := Ground.textOnly Departure.lateStores }, { on := 15, ground := Ground.phase }], guard := none }) rfl (fun K hK => ?_) (AllReadyH.nil)
        · go_simp
          refine hK.out _ _ ?_ (fun hHeldN => ?_)
          · exact hC.out _ (B3.out.setCell (Nat.le_refl _) _)
          clear hK K hHeld
          have hHeld := hHeldN
          clear hHeldN
          try simp only [Act.put, qa, qb, qc]
          refine wpAnyH_take (i := 17) (oi := { dst := some 5, op := Op.assign (Operand.tmp 30), type := 3, pos := "laws.go:75", after := #[{ on := 14, ground := Ground.data }, { on := 16, ground := Ground.chain }, { on := 0, ground := Ground.phase }, { on := 1, ground := Ground.phase }, { on := 2, ground := Ground.phase }, { on := 3, ground := Ground.phase }, { on := 4, ground := Ground.phase }, { on := 5, ground := Ground.phase }, { on := 6, ground := Ground.phase }, { on := 7, ground := Ground.phase }, { on := 8, ground := Ground.phase }, { on := 9, ground := Ground.phase }, { on := 10, ground := Ground.phase }, { on := 11, ground := Ground.phase }, { on := 12, ground := Ground.phase }, { on := 13, ground := Ground.phase }, { on := 14, ground := Ground.phase }, { on := 15, ground := Ground.phase }, { on := 16, ground := Ground.phase }], guard := none }) (v := ?_) rfl (by kernel_rfl) (by kernel_rfl) (by kernel_rfl) (fun _ _ _ h => h) (Or.inl ⟨by rfl, ?_⟩) hHeld ?_
          rotate_left
          · (intro wq hSw; (try dsimp only at hSw); first | (go_simp; done) | (go_simp; with_reducible rfl))
          try simp only [Act.put, qa, qb, qc]
          refine wpAnyH_done (by kernel_rfl) ?_ _
          go_wp2_with fail
          go_meet
          refine ⟨_, qv, cv, rfl, rfl, K3.out.set_ 0 _, hrv.heap (Below.heap_setCell _ _ _ _ (by have h4 := hqv; simp only [World.size_drew, World.size_alloc] at h4; show qv ≠ ws.heap.size; omega)), B3.out.setCell (Nat.le_refl _) _⟩
  case rest =>
    obtain ⟨T, qv, cv, rfl, rfl, k4, r4, hb4⟩ := hcut
    obtain ⟨w4, rfl⟩ : ∃ w4 : World, w4 = wc := ⟨_, rfl⟩
    have P4 := hide (hP2.out.next hb4)
    have S4 := hide (hS2.out.next hb4)
    have F4 := hide (show Sf w4 T qv cv w4 from ⟨k4, r4, Below.refl _ _⟩)
    clear k4 r4 hb4 hP2 hS2
    go_wp2_with fail
    replace P4 := hide P4.out.drew
    replace S4 := hide S4.out.drew
    replace F4 := hide F4.out.drew
    refine wp_region_held_drew (S := (fun w' => ((w'.cell? ⟨w1.heap.size, 0, none⟩ = some (.slice A 2 c) ∧ w'.cell? ⟨w1.heap.size, 1, none⟩ = some (.slice (some ⟨b, 0, none⟩) 2 cb)) ∧ w'.cell? ⟨b, 0, none⟩ = some (.slice (some ⟨q0, 0, none⟩) 3 c2) ∧ w'.cell? ⟨b, 1, none⟩ = some (.slice (some ⟨q1, 0, none⟩) 3 c3) ∧ (w'.cell? ⟨q0, 0, none⟩ = some (.int .i64 1) ∧ w'.cell? ⟨q0, 1, none⟩ = some (.int .i64 1) ∧ w'.cell? ⟨q0, 2, none⟩ = some (.int .i64 0) ∧ w'.cell? ⟨q0, 3, none⟩ = some (.int .i64 0) ∧ w'.cell? ⟨q0, 4, none⟩ = some (.int .i64 0) ∧ w'.cell? ⟨q0, 5, none⟩ = some (.int .i64 1)) ∧ (w'.cell? ⟨q1, 6, none⟩ = some (.int .i64 8) ∧ w'.cell? ⟨q1, 7, none⟩ = some (.int .i64 0) ∧ w'.cell? ⟨q1, 8, none⟩ = some (.int .i64 1) ∧ w'.cell? ⟨q1, 9, none⟩ = some (.int .i64 0) ∧ w'.cell? ⟨q1, 10, none⟩ = some (.int .i64 1) ∧ w'.cell? ⟨q1, 11, none⟩ = some (.int .i64 0))) ∧ ((w'.cell? ⟨gs, 0, none⟩ = some (.int .i64 1) ∧ w'.cell? ⟨gs, 1, none⟩ = some (.slice d.pc.A 2 d.pc.c) ∧ w'.cell? ⟨gs, 2, none⟩ = some (.slice (some ⟨qf, of, none⟩) 2 d.F.c) ∧ w'.cell? ⟨gs, 3, none⟩ = some (.slice d.mem.A 2 d.mem.c) ∧ w'.cell? ⟨gs, 4, none⟩ = some (.slice d.bufs.A 2 d.bufs.c) ∧ w'.cell? ⟨gs, 5, none⟩ = some (.slice d.H.A 0 d.H.c) ∧ w'.cell? ⟨gs, 6, none⟩ = some (.slice d.view.A 0 d.view.c) ∧ w'.cell? ⟨gs, 7, none⟩ = some (.slice d.sc.A 0 d.sc.c) ∧ w'.cell? ⟨gs, 8, none⟩ = some (.int .i64 0)) ∧ w'.cell? ⟨qf, of, none⟩ = some (.slice (some ⟨qr, or, none⟩) 6 cr)) ∧ w'.cell? ⟨T, 0, none⟩ = some (.slice (some ⟨qv, 0, none⟩) 6 cv) ∧ w'.cell? ⟨qv, 1, none⟩ = some (.int .i64 1))) (by kernel_rfl) ?_ (fun hHeld => ?_)
    · exact ⟨P4.out.cells, S4.out.cells, F4.out.cells⟩
    refine wpAnyH_take (i := 0) (oi := { dst := some 31, op := Op.move (Operand.tmp 3), type := 4, pos := "laws.go:76", after := #[], guard := none }) (v := ?_) rfl (by kernel_rfl) (by kernel_rfl) (by kernel_rfl) (fun _ _ _ h => h) (Or.inl ⟨by rfl, ?_⟩) hHeld ?_
    rotate_left
    · (intro wq hSw; (try dsimp only at hSw); first | (go_simp; done) | (go_simp; with_reducible rfl))
    try simp only [Act.put, qa, qb, qc]
    refine wpAnyH_take (i := 1) (oi := { dst := some 32, op := Op.move (Operand.tmp 31), type := 4, pos := "laws.go:76", after := #[{ on := 0, ground := Ground.data }], guard := none }) (v := ?_) rfl (by kernel_rfl) (by kernel_rfl) (by kernel_rfl) (fun _ _ _ h => h) (Or.inl ⟨by rfl, ?_⟩) hHeld ?_
    rotate_left
    · (intro wq hSw; (try dsimp only at hSw); first | (go_simp; done) | (go_simp; with_reducible rfl))
    try simp only [Act.put, qa, qb, qc]
    refine wpAnyH_take (i := 2) (oi := { dst := some 33, op := Op.load 31 (Operand.tmp 1), type := 31, pos := "laws.go:76", after := #[{ on := 1, ground := Ground.guard }], guard := some (1, true) }) (v := ?_) rfl (by kernel_rfl) (by kernel_rfl) (by kernel_rfl) (fun _ _ _ h => h) (Or.inl ⟨by rfl, ?_⟩) hHeld ?_
    rotate_left
    · (intro wq hSw; (try dsimp only at hSw); first | (go_simp; done) | (go_simp; with_reducible rfl))
    try simp only [Act.put, qa, qb, qc]
    refine wpAnyH_take (i := 3) (oi := { dst := some 34, op := Op.load 48 (Operand.tmp 2), type := 48, pos := "laws.go:76", after := #[{ on := 1, ground := Ground.guard }], guard := some (1, true) }) (v := ?_) rfl (by kernel_rfl) (by kernel_rfl) (by kernel_rfl) (fun _ _ _ h => h) (Or.inl ⟨by rfl, ?_⟩) hHeld ?_
    rotate_left
    · (intro wq hSw; (try dsimp only at hSw); first | (go_simp; done) | (go_simp; with_reducible rfl))
    try simp only [Act.put, qa, qb, qc]
    refine wpAnyH_ready (rs := [4]) (by kernel_rfl) (by simp) ?_
    refine AllReadyH.cons (o := { dst := some 35, op := Op.call { callee := Callee.value (Operand.func 35), args := #[Operand.tmp 33, Operand.tmp 34], argTypes := #[31, 48] }, type := 4, pos := "laws.go:76", after := #[{ on := 2, ground := Ground.data }, { on := 3, ground := Ground.data }, { on := 1, ground := Ground.chain }, { on := 1, ground := Ground.guard }], guard := some (1, true) }) rfl (fun K hK => ?_) AllReadyH.nil
    go_simp
    go_at_call 35; rw [← dcs.out]; refine (S4.out.ok hcc P4.out.int P4.out.ths).1.mono ?_; rintro e w5 ⟨rfl, hb5⟩; have P5 := hide (P4.out.next hb5); have S5 := hide (S4.out.next hb5); have F5 := hide (F4.out.next hb5); clear hb5
    refine hK.out _ _ ?_ (fun hHeldN => ?_)
    · exact ⟨P5.out.cells, S5.out.cells, F5.out.cells⟩
    clear hK K hHeld
    have hHeld := hHeldN
    clear hHeldN
    try simp only [Act.put, qa, qb, qc]
    refine wpAnyH_take (i := 5) (oi := { dst := some 36, op := Op.pick (Operand.tmp 32) (Operand.tmp 35) (Operand.const (Value.bool false)), type := 4, pos := "laws.go:76", after := #[{ on := 1, ground := Ground.data }, { on := 4, ground := Ground.data }], guard := none }) (v := ?_) rfl (by kernel_rfl) (by kernel_rfl) (by kernel_rfl) (fun _ _ _ h => h) (Or.inl ⟨by rfl, ?_⟩) hHeld ?_
    rotate_left
    · (intro wq hSw; (try dsimp only at hSw); first | (go_simp; done) | (go_simp; with_reducible rfl))
    try simp only [Act.put, qa, qb, qc]
    refine wpAnyH_take (i := 6) (oi := { dst := some 37, op := Op.move (Operand.tmp 36), type := 4, pos := "laws.go:76", after := #[{ on := 5, ground := Ground.data }, { on := 4, ground := Ground.chain }], guard := none }) (v := ?_) rfl (by kernel_rfl) (by kernel_rfl) (by kernel_rfl) (fun _ _ _ h => h) (Or.inl ⟨by rfl, ?_⟩) hHeld ?_
    rotate_left
    · (intro wq hSw; (try dsimp only at hSw); first | (go_simp; done) | (go_simp; with_reducible rfl))
    try simp only [Act.put, qa, qb, qc]
    refine wpAnyH_take (i := 7) (oi := { dst := some 38, op := Op.fieldAddr 48 (Operand.tmp 2) 4, type := 0, pos := "laws.go:76", after := #[{ on := 6, ground := Ground.guard }], guard := some (6, true) }) (v := ?_) rfl (by kernel_rfl) (by kernel_rfl) (by kernel_rfl) (fun _ _ _ h => h) (Or.inl ⟨by rfl, ?_⟩) hHeld ?_
    rotate_left
    · (intro wq hSw; (try dsimp only at hSw); first | (go_simp; done) | (go_simp; with_reducible rfl))
    try simp only [Act.put, qa, qb, qc]
    refine wpAnyH_take (i := 8) (oi := { dst := some 39, op := Op.load 45 (Operand.tmp 38), type := 45, pos := "laws.go:76", after := #[{ on := 7, ground := Ground.data }, { on := 6, ground := Ground.guard }], guard := some (6, true) }) (v := ?_) rfl (by kernel_rfl) (by kernel_rfl) (by kernel_rfl) (fun _ _ _ h => h) (Or.inl ⟨by rfl, ?_⟩) hHeld ?_
    rotate_left
    · (intro wq hSw; (try dsimp only at hSw); first | (go_simp; done) | (go_simp; with_reducible rfl))
    try simp only [Act.put, qa, qb, qc]
    refine wpAnyH_take (i := 9) (oi := { dst := some 40, op := Op.call { callee := Callee.builtin Builtin.len, args := #[Operand.tmp 39], argTypes := #[45] }, type := 3, pos := "laws.go:76", after := #[{ on := 8, ground := Ground.data }, { on := 6, ground := Ground.guard }], guard := some (6, true) }) (v := ?_) rfl (by kernel_rfl) (by kernel_rfl) (by kernel_rfl) (fun _ _ _ h => h) (Or.inl ⟨by rfl, ?_⟩) hHeld ?_
    rotate_left
    · (intro wq hSw; (try dsimp only at hSw); first | (go_simp; done) | (go_simp; with_reducible rfl))
    try simp only [Act.put, qa, qb, qc]
    refine wpAnyH_take (i := 10) (oi := { dst := some 41, op := Op.binOp BinOp.eql 3 (Operand.tmp 40) (Operand.const (Value.int IntKind.i64 2)) 3, type := 4, pos := "laws.go:76", after := #[{ on := 9, ground := Ground.data }, { on := 6, ground := Ground.guard }], guard := some (6, true) }) (v := ?_) rfl (by kernel_rfl) (by kernel_rfl) (by kernel_rfl) (fun _ _ _ h => h) (Or.inl ⟨by rfl, ?_⟩) hHeld ?_
    rotate_left
    · (intro wq hSw; (try dsimp only at hSw); first | (go_simp; done) | (go_simp; with_reducible rfl))
    try simp only [Act.put, qa, qb, qc]
    refine wpAnyH_take (i := 11) (oi := { dst := some 42, op := Op.pick (Operand.tmp 37) (Operand.tmp 41) (Operand.const (Value.bool false)), type := 4, pos := "laws.go:76", after := #[{ on := 6, ground := Ground.data }, { on := 10, ground := Ground.data }], guard := none }) (v := ?_) rfl (by kernel_rfl) (by kernel_rfl) (by kernel_rfl) (fun _ _ _ h => h) (Or.inl ⟨by rfl, ?_⟩) hHeld ?_
    rotate_left
    · (intro wq hSw; (try dsimp only at hSw); first | (go_simp; done) | (go_simp; with_reducible rfl))
    try simp only [Act.put, qa, qb, qc]
    refine wpAnyH_take (i := 12) (oi := { dst := some 43, op := Op.move (Operand.tmp 42), type := 4, pos := "laws.go:76", after := #[{ on := 11, ground := Ground.data }, { on := 6, ground := Ground.chain }], guard := none }) (v := ?_) rfl (by kernel_rfl) (by kernel_rfl) (by kernel_rfl) (fun _ _ _ h => h) (Or.inl ⟨by rfl, ?_⟩) hHeld ?_
    rotate_left
    · (intro wq hSw; (try dsimp only at hSw); first | (go_simp; done) | (go_simp; with_reducible rfl))
    try simp only [Act.put, qa, qb, qc]
    refine wpAnyH_take (i := 13) (oi := { dst := some 44, op := Op.load 31 (Operand.tmp 1), type := 31, pos := "laws.go:76", after := #[{ on := 12, ground := Ground.guard }], guard := some (12, true) }) (v := ?_) rfl (by kernel_rfl) (by kernel_rfl) (by kernel_rfl) (fun _ _ _ h => h) (Or.inl ⟨by rfl, ?_⟩) hHeld ?_
    rotate_left
    · (intro wq hSw; (try dsimp only at hSw); first | (go_simp; done) | (go_simp; with_reducible rfl))
    try simp only [Act.put, qa, qb, qc]
    refine wpAnyH_take (i := 14) (oi := { dst := some 45, op := Op.load 48 (Operand.tmp 2), type := 48, pos := "laws.go:76", after := #[{ on := 12, ground := Ground.guard }], guard := some (12, true) }) (v := ?_) rfl (by kernel_rfl) (by kernel_rfl) (by kernel_rfl) (fun _ _ _ h => h) (Or.inl ⟨by rfl, ?_⟩) hHeld ?_
    rotate_left
    · (intro wq hSw; (try dsimp only at hSw); first | (go_simp; done) | (go_simp; with_reducible rfl))
    try simp only [Act.put, qa, qb, qc]
    refine wpAnyH_ready (rs := [15]) (by kernel_rfl) (by simp) ?_
    refine AllReadyH.cons (o := { dst := some 46, op := Op.call { callee := Callee.value (Operand.func 37), args := #[Operand.tmp 44, Operand.tmp 45], argTypes := #[31, 48] }, type := 4, pos := "laws.go:76", after := #[{ on := 13, ground := Ground.data }, { on := 14, ground := Ground.data }, { on := 12, ground := Ground.chain }, { on := 12, ground := Ground.guard }], guard := some (12, true) }) rfl (fun K hK => ?_) AllReadyH.nil
    go_simp
    go_at_call 37; rw [← dcs.out]; refine (S5.out.ok hcc P5.out.int P5.out.ths).2.mono ?_; rintro e w6 ⟨rfl, hb6⟩; have P6 := hide (P5.out.next hb6); have S6 := hide (S5.out.next hb6); have F6 := hide (F5.out.next hb6); clear hb6
    refine hK.out _ _ ?_ (fun hHeldN => ?_)
    · exact ⟨P6.out.cells, S6.out.cells, F6.out.cells⟩
    clear hK K hHeld
    have hHeld := hHeldN
    clear hHeldN
    try simp only [Act.put, qa, qb, qc]
    refine wpAnyH_take (i := 16) (oi := { dst := some 47, op := Op.unOp UnOp.not 4 (Operand.tmp 46), type := 4, pos := "laws.go:76", after := #[{ on := 15, ground := Ground.data }, { on := 12, ground := Ground.guard }], guard := some (12, true) }) (v := ?_) rfl (by kernel_rfl) (by kernel_rfl) (by kernel_rfl) (fun _ _ _ h => h) (Or.inl ⟨by rfl, ?_⟩) hHeld ?_
    rotate_left
    · (intro wq hSw; (try dsimp only at hSw); first | (go_simp; done) | (go_simp; with_reducible rfl))
    try simp only [Act.put, qa, qb, qc]
    refine wpAnyH_take (i := 17) (oi := { dst := some 48, op := Op.pick (Operand.tmp 43) (Operand.tmp 47) (Operand.const (Value.bool false)), type := 4, pos := "laws.go:76", after := #[{ on := 12, ground := Ground.data }, { on := 16, ground := Ground.data }], guard := none }) (v := ?_) rfl (by kernel_rfl) (by kernel_rfl) (by kernel_rfl) (fun _ _ _ h => h) (Or.inl ⟨by rfl, ?_⟩) hHeld ?_
    rotate_left
    · (intro wq hSw; (try dsimp only at hSw); first | (go_simp; done) | (go_simp; with_reducible rfl))
    try simp only [Act.put, qa, qb, qc]
    refine wpAnyH_take (i := 18) (oi := { dst := some 49, op := Op.move (Operand.tmp 48), type := 4, pos := "laws.go:76", after := #[{ on := 17, ground := Ground.data }, { on := 15, ground := Ground.chain }], guard := none }) (v := ?_) rfl (by kernel_rfl) (by kernel_rfl) (by kernel_rfl) (fun _ _ _ h => h) (Or.inl ⟨by rfl, ?_⟩) hHeld ?_
    rotate_left
    · (intro wq hSw; (try dsimp only at hSw); first | (go_simp; done) | (go_simp; with_reducible rfl))
    try simp only [Act.put, qa, qb, qc]
    refine wpAnyH_take (i := 19) (oi := { dst := some 50, op := Op.move (Operand.tmp 5), type := 3, pos := "laws.go:76", after := #[{ on := 18, ground := Ground.guard }], guard := some (18, true) }) (v := ?_) rfl (by kernel_rfl) (by kernel_rfl) (by kernel_rfl) (fun _ _ _ h => h) (Or.inl ⟨by rfl, ?_⟩) hHeld ?_
    rotate_left
    · (intro wq hSw; (try dsimp only at hSw); first | (go_simp; done) | (go_simp; with_reducible rfl))
    try simp only [Act.put, qa, qb, qc]
    refine wpAnyH_take (i := 20) (oi := { dst := some 51, op := Op.binOp BinOp.eql 3 (Operand.tmp 50) (Operand.const (Value.int IntKind.i64 1)) 3, type := 4, pos := "laws.go:76", after := #[{ on := 19, ground := Ground.data }, { on := 18, ground := Ground.guard }], guard := some (18, true) }) (v := ?_) rfl (by kernel_rfl) (by kernel_rfl) (by kernel_rfl) (fun _ _ _ h => h) (Or.inl ⟨by rfl, ?_⟩) hHeld ?_
    rotate_left
    · (intro wq hSw; (try dsimp only at hSw); first | (go_simp; done) | (go_simp; with_reducible rfl))
    try simp only [Act.put, qa, qb, qc]
    refine wpAnyH_take (i := 21) (oi := { dst := some 52, op := Op.pick (Operand.tmp 49) (Operand.tmp 51) (Operand.const (Value.bool false)), type := 4, pos := "laws.go:76", after := #[{ on := 18, ground := Ground.data }, { on := 20, ground := Ground.data }], guard := none }) (v := ?_) rfl (by kernel_rfl) (by kernel_rfl) (by kernel_rfl) (fun _ _ _ h => h) (Or.inl ⟨by rfl, ?_⟩) hHeld ?_
    rotate_left
    · (intro wq hSw; (try dsimp only at hSw); first | (go_simp; done) | (go_simp; with_reducible rfl))
    try simp only [Act.put, qa, qb, qc]
    refine wpAnyH_take (i := 22) (oi := { dst := some 53, op := Op.move (Operand.tmp 52), type := 4, pos := "laws.go:76", after := #[{ on := 21, ground := Ground.data }, { on := 18, ground := Ground.chain }], guard := none }) (v := ?_) rfl (by kernel_rfl) (by kernel_rfl) (by kernel_rfl) (fun _ _ _ h => h) (Or.inl ⟨by rfl, ?_⟩) hHeld ?_
    rotate_left
    · (intro wq hSw; (try dsimp only at hSw); first | (go_simp; done) | (go_simp; with_reducible rfl))
    try simp only [Act.put, qa, qb, qc]
    refine wpAnyH_take (i := 23) (oi := { dst := some 54, op := Op.fieldAddr 69 (Operand.tmp 4) 0, type := 0, pos := "laws.go:76", after := #[{ on := 22, ground := Ground.guard }], guard := some (22, true) }) (v := ?_) rfl (by kernel_rfl) (by kernel_rfl) (by kernel_rfl) (fun _ _ _ h => h) (Or.inl ⟨by rfl, ?_⟩) hHeld ?_
    rotate_left
    · (intro wq hSw; (try dsimp only at hSw); first | (go_simp; done) | (go_simp; with_reducible rfl))
    try simp only [Act.put, qa, qb, qc]
    refine wpAnyH_take (i := 24) (oi := { dst := some 55, op := Op.load 22 (Operand.tmp 54), type := 22, pos := "laws.go:76", after := #[{ on := 23, ground := Ground.data }, { on := 22, ground := Ground.guard }], guard := some (22, true) }) (v := ?_) rfl (by kernel_rfl) (by kernel_rfl) (by kernel_rfl) (fun _ _ _ h => h) (Or.inl ⟨by rfl, ?_⟩) hHeld ?_
    rotate_left
    · (intro wq hSw; (try dsimp only at hSw); first | (go_simp; done) | (go_simp; with_reducible rfl))
    try simp only [Act.put, qa, qb, qc]
    refine wpAnyH_take (i := 25) (oi := { dst := some 56, op := Op.call { callee := Callee.builtin Builtin.len, args := #[Operand.tmp 55], argTypes := #[22] }, type := 3, pos := "laws.go:76", after := #[{ on := 24, ground := Ground.data }, { on := 22, ground := Ground.guard }], guard := some (22, true) }) (v := ?_) rfl (by kernel_rfl) (by kernel_rfl) (by kernel_rfl) (fun _ _ _ h => h) (Or.inl ⟨by rfl, ?_⟩) hHeld ?_
    rotate_left
    · (intro wq hSw; (try dsimp only at hSw); first | (go_simp; done) | (go_simp; with_reducible rfl))
    try simp only [Act.put, qa, qb, qc]
    refine wpAnyH_take (i := 26) (oi := { dst := some 57, op := Op.binOp BinOp.gtr 3 (Operand.tmp 56) (Operand.const (Value.int IntKind.i64 1)) 3, type := 4, pos := "laws.go:76", after := #[{ on := 25, ground := Ground.data }, { on := 22, ground := Ground.guard }], guard := some (22, true) }) (v := ?_) rfl (by kernel_rfl) (by kernel_rfl) (by kernel_rfl) (fun _ _ _ h => h) (Or.inl ⟨by rfl, ?_⟩) hHeld ?_
    rotate_left
    · (intro wq hSw; (try dsimp only at hSw); first | (go_simp; done) | (go_simp; with_reducible rfl))
    try simp only [Act.put, qa, qb, qc]
    refine wpAnyH_take (i := 27) (oi := { dst := some 58, op := Op.pick (Operand.tmp 53) (Operand.tmp 57) (Operand.const (Value.bool false)), type := 4, pos := "laws.go:76", after := #[{ on := 22, ground := Ground.data }, { on := 26, ground := Ground.data }], guard := none }) (v := ?_) rfl (by kernel_rfl) (by kernel_rfl) (by kernel_rfl) (fun _ _ _ h => h) (Or.inl ⟨by rfl, ?_⟩) hHeld ?_
    rotate_left
    · (intro wq hSw; (try dsimp only at hSw); first | (go_simp; done) | (go_simp; with_reducible rfl))
    try simp only [Act.put, qa, qb, qc]
    refine wpAnyH_take (i := 28) (oi := { dst := some 59, op := Op.move (Operand.tmp 58), type := 4, pos := "laws.go:76", after := #[{ on := 27, ground := Ground.data }, { on := 22, ground := Ground.chain }], guard := none }) (v := ?_) rfl (by kernel_rfl) (by kernel_rfl) (by kernel_rfl) (fun _ _ _ h => h) (Or.inl ⟨by rfl, ?_⟩) hHeld ?_
    rotate_left
    · (intro wq hSw; (try dsimp only at hSw); first | (go_simp; done) | (go_simp; with_reducible rfl))
    try simp only [Act.put, qa, qb, qc]
    refine wpAnyH_take (i := 29) (oi := { dst := some 60, op := Op.fieldAddr 69 (Operand.tmp 4) 0, type := 0, pos := "laws.go:76", after := #[{ on := 28, ground := Ground.guard }], guard := some (28, true) }) (v := ?_) rfl (by kernel_rfl) (by kernel_rfl) (by kernel_rfl) (fun _ _ _ h => h) (Or.inl ⟨by rfl, ?_⟩) hHeld ?_
    rotate_left
    · (intro wq hSw; (try dsimp only at hSw); first | (go_simp; done) | (go_simp; with_reducible rfl))
    try simp only [Act.put, qa, qb, qc]
    refine wpAnyH_take (i := 30) (oi := { dst := some 61, op := Op.load 22 (Operand.tmp 60), type := 22, pos := "laws.go:76", after := #[{ on := 29, ground := Ground.data }, { on := 28, ground := Ground.guard }], guard := some (28, true) }) (v := ?_) rfl (by kernel_rfl) (by kernel_rfl) (by kernel_rfl) (fun _ _ _ h => h) (Or.inl ⟨by rfl, ?_⟩) hHeld ?_
    rotate_left
    · (intro wq hSw; (try dsimp only at hSw); first | (go_simp; done) | (go_simp; with_reducible rfl))
    try simp only [Act.put, qa, qb, qc]
    refine wpAnyH_take (i := 31) (oi := { dst := some 62, op := Op.indexAddr 22 (Operand.tmp 61) (Operand.const (Value.int IntKind.i64 1)), type := 0, pos := "laws.go:76", after := #[{ on := 30, ground := Ground.data }, { on := 28, ground := Ground.guard }], guard := some (28, true) }) (v := ?_) rfl (by kernel_rfl) (by kernel_rfl) (by kernel_rfl) (fun _ _ _ h => h) (Or.inl ⟨by rfl, ?_⟩) hHeld ?_
    rotate_left
    · (intro wq hSw; (try dsimp only at hSw); first | (go_simp; done) | (go_simp; with_reducible rfl))
    try simp only [Act.put, qa, qb, qc]
    refine wpAnyH_take (i := 32) (oi := { dst := some 63, op := Op.load 3 (Operand.tmp 62), type := 3, pos := "laws.go:76", after := #[{ on := 31, ground := Ground.data }, { on := 28, ground := Ground.guard }], guard := some (28, true) }) (v := ?_) rfl (by kernel_rfl) (by kernel_rfl) (by kernel_rfl) (fun _ _ _ h => h) (Or.inl ⟨by rfl, ?_⟩) hHeld ?_
    rotate_left
    · (intro wq hSw; (try dsimp only at hSw); first | (go_simp; done) | (go_simp; with_reducible rfl))
    try simp only [Act.put, qa, qb, qc]
    refine wpAnyH_take (i := 33) (oi := { dst := some 64, op := Op.binOp BinOp.eql 3 (Operand.tmp 63) (Operand.const (Value.int IntKind.i64 1)) 3, type := 4, pos := "laws.go:76", after := #[{ on := 32, ground := Ground.data }, { on := 28, ground := Ground.guard }], guard := some (28, true) }) (v := ?_) rfl (by kernel_rfl) (by kernel_rfl) (by kernel_rfl) (fun _ _ _ h => h) (Or.inl ⟨by rfl, ?_⟩) hHeld ?_
    rotate_left
    · (intro wq hSw; (try dsimp only at hSw); first | (go_simp; done) | (go_simp; with_reducible rfl))
    try simp only [Act.put, qa, qb, qc]
    refine wpAnyH_take (i := 34) (oi := { dst := some 65, op := Op.pick (Operand.tmp 59) (Operand.tmp 64) (Operand.const (Value.bool false)), type := 4, pos := "laws.go:76", after := #[{ on := 28, ground := Ground.data }, { on := 33, ground := Ground.data }], guard := none }) (v := ?_) rfl (by kernel_rfl) (by kernel_rfl) (by kernel_rfl) (fun _ _ _ h => h) (Or.inl ⟨by rfl, ?_⟩) hHeld ?_
    rotate_left
    · (intro wq hSw; (try dsimp only at hSw); first | (go_simp; done) | (go_simp; with_reducible rfl))
    try simp only [Act.put, qa, qb, qc]
    refine wpAnyH_take (i := 35) (oi := { dst := some 66, op := Op.move (Operand.tmp 65), type := 4, pos := "laws.go:76", after := #[{ on := 34, ground := Ground.data }, { on := 28, ground := Ground.chain }], guard := none }) (v := ?_) rfl (by kernel_rfl) (by kernel_rfl) (by kernel_rfl) (fun _ _ _ h => h) (Or.inl ⟨by rfl, ?_⟩) hHeld ?_
    rotate_left
    · (intro wq hSw; (try dsimp only at hSw); first | (go_simp; done) | (go_simp; with_reducible rfl))
    try simp only [Act.put, qa, qb, qc]
    refine wpAnyH_take (i := 36) (oi := { dst := some 67, op := Op.fieldAddr 31 (Operand.tmp 1) 1, type := 0, pos := "laws.go:76", after := #[{ on := 35, ground := Ground.guard }], guard := some (35, true) }) (v := ?_) rfl (by kernel_rfl) (by kernel_rfl) (by kernel_rfl) (fun _ _ _ h => h) (Or.inl ⟨by rfl, ?_⟩) hHeld ?_
    rotate_left
    · (intro wq hSw; (try dsimp only at hSw); first | (go_simp; done) | (go_simp; with_reducible rfl))
    try simp only [Act.put, qa, qb, qc]
    refine wpAnyH_take (i := 37) (oi := { dst := some 68, op := Op.load 29 (Operand.tmp 67), type := 29, pos := "laws.go:76", after := #[{ on := 36, ground := Ground.data }, { on := 35, ground := Ground.guard }], guard := some (35, true) }) (v := ?_) rfl (by kernel_rfl) (by kernel_rfl) (by kernel_rfl) (fun _ _ _ h => h) (Or.inl ⟨by rfl, ?_⟩) hHeld ?_
    rotate_left
    · (intro wq hSw; (try dsimp only at hSw); first | (go_simp; done) | (go_simp; with_reducible rfl))
    try simp only [Act.put, qa, qb, qc]
    refine wpAnyH_take (i := 38) (oi := { dst := some 69, op := Op.indexAddr 29 (Operand.tmp 68) (Operand.const (Value.int IntKind.i64 1)), type := 0, pos := "laws.go:76", after := #[{ on := 37, ground := Ground.data }, { on := 35, ground := Ground.guard }], guard := some (35, true) }) (v := ?_) rfl (by kernel_rfl) (by kernel_rfl) (by kernel_rfl) (fun _ _ _ h => h) (Or.inl ⟨by rfl, ?_⟩) hHeld ?_
    rotate_left
    · (intro wq hSw; (try dsimp only at hSw); first | (go_simp; done) | (go_simp; with_reducible rfl))
    try simp only [Act.put, qa, qb, qc]
    refine wpAnyH_take (i := 39) (oi := { dst := some 70, op := Op.fieldAddr 99 (Operand.tmp 69) 0, type := 0, pos := "laws.go:76", after := #[{ on := 38, ground := Ground.data }, { on := 35, ground := Ground.guard }], guard := some (35, true) }) (v := ?_) rfl (by kernel_rfl) (by kernel_rfl) (by kernel_rfl) (fun _ _ _ h => h) (Or.inl ⟨by rfl, ?_⟩) hHeld ?_
    rotate_left
    · (intro wq hSw; (try dsimp only at hSw); first | (go_simp; done) | (go_simp; with_reducible rfl))
    try simp only [Act.put, qa, qb, qc]
    refine wpAnyH_take (i := 40) (oi := { dst := some 71, op := Op.load 97 (Operand.tmp 70), type := 97, pos := "laws.go:76", after := #[{ on := 39, ground := Ground.data }, { on := 35, ground := Ground.guard }], guard := some (35, true) }) (v := ?_) rfl (by kernel_rfl) (by kernel_rfl) (by kernel_rfl) (fun _ _ _ h => h) (Or.inl ⟨by rfl, ?_⟩) hHeld ?_
    rotate_left
    · (intro wq hSw; (try dsimp only at hSw); first | (go_simp; done) | (go_simp; with_reducible rfl))
    try simp only [Act.put, qa, qb, qc]
    refine wpAnyH_take (i := 41) (oi := { dst := some 72, op := Op.indexAddr 97 (Operand.tmp 71) (Operand.const (Value.int IntKind.i64 1)), type := 0, pos := "laws.go:76", after := #[{ on := 40, ground := Ground.data }, { on := 35, ground := Ground.guard }], guard := some (35, true) }) (v := ?_) rfl (by kernel_rfl) (by kernel_rfl) (by kernel_rfl) (fun _ _ _ h => h) (Or.inl ⟨by rfl, ?_⟩) hHeld ?_
    rotate_left
    · (intro wq hSw; (try dsimp only at hSw); first | (go_simp; done) | (go_simp; with_reducible rfl))
    try simp only [Act.put, qa, qb, qc]
    refine wpAnyH_take (i := 42) (oi := { dst := some 73, op := Op.load 72 (Operand.tmp 72), type := 72, pos := "laws.go:76", after := #[{ on := 41, ground := Ground.data }, { on := 35, ground := Ground.guard }], guard := some (35, true) }) (v := ?_) rfl (by kernel_rfl) (by kernel_rfl) (by kernel_rfl) (fun _ _ _ h => h) (Or.inl ⟨by rfl, ?_⟩) hHeld ?_
    rotate_left
    · (intro wq hSw; (try dsimp only at hSw); first | (go_simp; done) | (go_simp; with_reducible rfl))
    try simp only [Act.put, qa, qb, qc]
    refine wpAnyH_take (i := 43) (oi := { dst := some 74, op := Op.load 69 (Operand.tmp 4), type := 69, pos := "laws.go:76", after := #[{ on := 35, ground := Ground.guard }], guard := some (35, true) }) (v := ?_) rfl (by kernel_rfl) (by kernel_rfl) (by kernel_rfl) (fun _ _ _ h => h) (Or.inl ⟨by rfl, ?_⟩) hHeld ?_
    rotate_left
    · (intro wq hSw; (try dsimp only at hSw); first | (go_simp; done) | (go_simp; with_reducible rfl))
    try simp only [Act.put, qa, qb, qc]
    refine wpAnyH_ready (rs := [44]) (by kernel_rfl) (by simp) ?_
    refine AllReadyH.cons (o := { dst := some 75, op := Op.call { callee := Callee.value (Operand.func 51), args := #[Operand.tmp 73, Operand.tmp 74], argTypes := #[72, 69] }, type := 3, pos := "laws.go:76", after := #[{ on := 42, ground := Ground.data }, { on := 43, ground := Ground.data }, { on := 35, ground := Ground.chain }, { on := 35, ground := Ground.guard }], guard := some (35, true) }) rfl (fun K hK => ?_) AllReadyH.nil
    go_simp
    go_at_call 51; refine (kC.out _ _ _ (ints_old F6.out.row (by decide))).mono ?_; rintro e w7 ⟨rfl, hb7⟩; have P7 := hide (P6.out.next hb7); have S7 := hide (S6.out.next hb7); have F7 := hide (F6.out.next hb7); clear hb7
    refine hK.out _ _ ?_ (fun hHeldN => ?_)
    · exact ⟨P7.out.cells, S7.out.cells, F7.out.cells⟩
    clear hK K hHeld
    have hHeld := hHeldN
    clear hHeldN
    try simp only [Act.put, qa, qb, qc]
    refine wpAnyH_take (i := 45) (oi := { dst := some 76, op := Op.binOp BinOp.eql 3 (Operand.tmp 75) (Operand.const (Value.int IntKind.i64 1)) 3, type := 4, pos := "laws.go:76", after := #[{ on := 44, ground := Ground.data }, { on := 35, ground := Ground.guard }], guard := some (35, true) }) (v := ?_) rfl (by kernel_rfl) (by kernel_rfl) (by kernel_rfl) (fun _ _ _ h => h) (Or.inl ⟨by rfl, ?_⟩) hHeld ?_
    rotate_left
    · (intro wq hSw; (try dsimp only at hSw); first | (go_simp; done) | (go_simp; with_reducible rfl))
    try simp only [Act.put, qa, qb, qc]
    refine wpAnyH_take (i := 46) (oi := { dst := some 77, op := Op.pick (Operand.tmp 66) (Operand.tmp 76) (Operand.const (Value.bool false)), type := 4, pos := "laws.go:76", after := #[{ on := 35, ground := Ground.data }, { on := 45, ground := Ground.data }], guard := none }) (v := ?_) rfl (by kernel_rfl) (by kernel_rfl) (by kernel_rfl) (fun _ _ _ h => h) (Or.inl ⟨by rfl, ?_⟩) hHeld ?_
    rotate_left
    · (intro wq hSw; (try dsimp only at hSw); first | (go_simp; done) | (go_simp; with_reducible rfl))
    try simp only [Act.put, qa, qb, qc]
    refine wpAnyH_take (i := 47) (oi := { dst := some 0, op := Op.assign (Operand.tmp 77), type := 4, pos := "laws.go:76", after := #[{ on := 46, ground := Ground.data }, { on := 44, ground := Ground.chain }, { on := 0, ground := Ground.phase }, { on := 1, ground := Ground.phase }, { on := 2, ground := Ground.phase }, { on := 3, ground := Ground.phase }, { on := 4, ground := Ground.phase }, { on := 5, ground := Ground.phase }, { on := 6, ground := Ground.phase }, { on := 7, ground := Ground.phase }, { on := 8, ground := Ground.phase }, { on := 9, ground := Ground.phase }, { on := 10, ground := Ground.phase }, { on := 11, ground := Ground.phase }, { on := 12, ground := Ground.phase }, { on := 13, ground := Ground.phase }, { on := 14, ground := Ground.phase }, { on := 15, ground := Ground.phase }, { on := 16, ground := Ground.phase }, { on := 17, ground := Ground.phase }, { on := 18, ground := Ground.phase }, { on := 19, ground := Ground.phase }, { on := 20, ground := Ground.phase }, { on := 21, ground := Ground.phase }, { on := 22, ground := Ground.phase }, { on := 23, ground := Ground.phase }, { on := 24, ground := Ground.phase }, { on := 25, ground := Ground.phase }, { on := 26, ground := Ground.phase }, { on := 27, ground := Ground.phase }, { on := 28, ground := Ground.phase }, { on := 29, ground := Ground.phase }, { on := 30, ground := Ground.phase }, { on := 31, ground := Ground.phase }, { on := 32, ground := Ground.phase }, { on := 33, ground := Ground.phase }, { on := 34, ground := Ground.phase }, { on := 35, ground := Ground.phase }, { on := 36, ground := Ground.phase }, { on := 37, ground := Ground.phase }, { on := 38, ground := Ground.phase }, { on := 39, ground := Ground.phase }, { on := 40, ground := Ground.phase }, { on := 41, ground := Ground.phase }, { on := 42, ground := Ground.phase }, { on := 43, ground := Ground.phase }, { on := 44, ground := Ground.phase }, { on := 45, ground := Ground.phase }, { on := 46, ground := Ground.phase }], guard := none }) (v := ?_) rfl (by kernel_rfl) (by kernel_rfl) (by kernel_rfl) (fun _ _ _ h => h) (Or.inl ⟨by rfl, ?_⟩) hHeld ?_
    rotate_left
    · (intro wq hSw; (try dsimp only at hSw); first | (go_simp; done) | (go_simp; with_reducible rfl))
    try simp only [Act.put, qa, qb]
    refine wpAnyH_done (by kernel_rfl) ?_ _
    clear hHeld
    go_wp2_with fail
    go_ret
    exact ⟨rfl, below_then B1.out P7.out.below⟩
end Go.Proofs.Ytfkaacfeikmabaa
