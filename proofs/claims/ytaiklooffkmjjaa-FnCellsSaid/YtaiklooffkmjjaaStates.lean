/- laws.states: states are alive. -/
import Derived.Test.YtaiklooffkmjjaaStLem
import Derived.Test.YtaiklooffkmjjaaCellG
import Derived.Test.YtaiklooffkmjjaaCross
import Derived.Test.YtaiklooffkmjjaaBeG
import Derived.Test.YtaiklooffkmjjaaQAll
import Derived.Deep.RegionLaw
import Derived.Deep.RegionHeld3
import Derived.Deep.DeepCutAuto
namespace Go.Proofs.Ytaiklooffkmjjaa
open Go.RowKit

attribute [local go_sem ↓] Go.wp_at_zero Go.wp_at_succ

def crossQ (f : Bool) : ProgD := ⟨[0, 0], crossTs f 2⟩

/-- The program of laws.states, in block w1.heap.size. -/
structure Sp (w1 : World) (A : Option Addr) (c b cb q0 c2 q1 c3 : Nat) (w : World) : Prop where
  box : Blk w w1.heap.size 43 #[.slice A 2 c, .slice (some ⟨b, 0, none⟩) 2 cb]
  row0 : w.cell? ⟨b, 0, none⟩ = some (.slice (some ⟨q0, 0, none⟩) 3 c2)
  row1 : w.cell? ⟨b, 1, none⟩ = some (.slice (some ⟨q1, 0, none⟩) 3 c3)
  i0 : InsIn w q0 0 ⟨1, 1, 0, 0, 0, 1⟩
  i1 : InsIn w q1 6 ⟨8, 0, 1, 0, 1, 0⟩
  ints : IntsAt w (Old w1.heap.size) A [0, 0]
  thr : ThreadsAt w (Old w1.heap.size) (some ⟨b, 0, none⟩) (crossTs false 2)
  below : Below w1.heap.size w1 w
  lt : b < w1.heap.size ∧ q0 < w1.heap.size ∧ q1 < w1.heap.size
/-- The state of laws.states, in block gs. -/
structure Ss (w0 : World) (gs qp qf c4 qm cm qb qr : Nat) (fs : List Value) (w : World) : Prop where
  box : Blk w gs 77 #[.int .i64 1, .slice (some ⟨qp, 0, none⟩) 2 2, .slice (some ⟨qf, 0, none⟩) 2 c4, .slice (some ⟨qm, 0, none⟩) 2 cm, .slice (some ⟨qb, 0, none⟩) 2 2, .slice none 0 0, .slice none 0 0, .slice none 0 0, .int .i64 0]
  len : fs.length = 2
  ks : KsAt w0 2 qp (.slice (some ⟨qf, 0, none⟩) fs.length c4) fs w
  mem : RowB w qm [0, 0]
  bufs : Blk w qb 134 (zrow #[.slice none 0 0] 2)
  fst : w.cell? ⟨qf, 0, none⟩ = some (.slice (some ⟨qr, 0, none⟩) 6 6)
  row : RowB w qr [0, 0, 0, 0, 0, 0]
  lt : qf < w.heap.size

/-- What Quiet has handed back, in block T. -/
structure Sf (w0 : World) (T qv cv : Nat) (w : World) : Prop where
  box : Blk w T 32 #[.slice (some ⟨qv, 0, none⟩) 6 cv]
  row : RowB w qv [0, 1, 0, 0, 0, 0]
  below : Below w0.heap.size w0 w
section
variable {w0 w w' : World} {T qv cv : Nat}
theorem Sf.next (h : Sf w0 T qv cv w) (hb : Below w.heap.size w w') : Sf w0 T qv cv w' := ⟨h.box.below hb h.box.lt, h.row.below hb, below_then h.below hb⟩
theorem Sf.drew (h : Sf w0 T qv cv w) : Sf w0 T qv cv w.drew := h.next (Below.refl _ _).drew
theorem Sf.cells (h : Sf w0 T qv cv w) : w.cell? ⟨T, 0, none⟩ = some (.slice (some ⟨qv, 0, none⟩) 6 cv) ∧ w.cell? ⟨qv, 1, none⟩ = some (.int .i64 1) := by
  refine ⟨h.box.cell 0, ?_⟩
  obtain ⟨cs, h1, _, h2⟩ := h.row
  rw [h1.cell 1, h2 1 (by decide)]
  rfl
end

section
variable {w0 w1 w w' : World} {A : Option Addr} {c b cb q0 c2 q1 c3 gs qp qf c4 qm cm qb qr : Nat} {fs : List Value}
theorem Sp.next (h : Sp w1 A c b cb q0 c2 q1 c3 w) (hb : Below w.heap.size w w') : Sp w1 A c b cb q0 c2 q1 c3 w' := by
  have hs := h.below.size
  have hlt := h.lt
  have hk : ∀ q o, q < w1.heap.size → w'.cell? ⟨q, o, none⟩ = w.cell? ⟨q, o, none⟩ := fun q o hq => hb.cell (p := ⟨q, o, none⟩) (by show q < w.heap.size; omega)
  exact ⟨h.box.below hb h.box.lt, (hk _ _ hlt.1).trans h.row0, (hk _ _ hlt.1).trans h.row1, h.i0.keep (fun o => hk _ o hlt.2.1), h.i1.keep (fun o => hk _ o hlt.2.2), h.ints.below hb (fun _ k => Nat.lt_of_lt_of_le k hs), h.thr.below hb (fun _ k => Nat.lt_of_lt_of_le k hs), below_then h.below hb, hlt⟩
theorem Sp.drew (h : Sp w1 A c b cb q0 c2 q1 c3 w) : Sp w1 A c b cb q0 c2 q1 c3 w.drew := h.next (Below.refl _ _).drew
theorem Sp.int (h : Sp w1 A c b cb q0 c2 q1 c3 w) : IntsAt w (Old w.heap.size) A [0, 0] := h.ints.more (fun _ k => Nat.lt_of_lt_of_le k h.below.size)
theorem Sp.ths (h : Sp w1 A c b cb q0 c2 q1 c3 w) : ThreadsAt w (Old w.heap.size) (some ⟨b, 0, none⟩) (crossTs false 2) := h.thr.more (fun _ k => Nat.lt_of_lt_of_le k h.below.size)
theorem Sp.cells (h : Sp w1 A c b cb q0 c2 q1 c3 w) : (w.cell? ⟨w1.heap.size, 0, none⟩ = some (.slice A 2 c) ∧ w.cell? ⟨w1.heap.size, 1, none⟩ = some (.slice (some ⟨b, 0, none⟩) 2 cb)) ∧ w.cell? ⟨b, 0, none⟩ = some (.slice (some ⟨q0, 0, none⟩) 3 c2) ∧ w.cell? ⟨b, 1, none⟩ = some (.slice (some ⟨q1, 0, none⟩) 3 c3) ∧
    (w.cell? ⟨q0, 0, none⟩ = some (.int .i64 1) ∧ w.cell? ⟨q0, 1, none⟩ = some (.int .i64 1) ∧ w.cell? ⟨q0, 2, none⟩ = some (.int .i64 0) ∧ w.cell? ⟨q0, 3, none⟩ = some (.int .i64 0) ∧ w.cell? ⟨q0, 4, none⟩ = some (.int .i64 0) ∧ w.cell? ⟨q0, 5, none⟩ = some (.int .i64 1)) ∧
    (w.cell? ⟨q1, 6, none⟩ = some (.int .i64 8) ∧ w.cell? ⟨q1, 7, none⟩ = some (.int .i64 0) ∧ w.cell? ⟨q1, 8, none⟩ = some (.int .i64 1) ∧ w.cell? ⟨q1, 9, none⟩ = some (.int .i64 0) ∧ w.cell? ⟨q1, 10, none⟩ = some (.int .i64 1) ∧ w.cell? ⟨q1, 11, none⟩ = some (.int .i64 0)) :=
  ⟨⟨h.box.cell 0, h.box.cell 1⟩, h.row0, h.row1, h.i0, h.i1⟩
theorem Ss.next (h : Ss w0 gs qp qf c4 qm cm qb qr fs w) (hb : Below w.heap.size w w') : Ss w0 gs qp qf c4 qm cm qb qr fs w' :=
  ⟨h.box.below hb h.box.lt, h.len, h.ks.next hb, h.mem.below hb, h.bufs.below hb h.bufs.lt, (hb.cell (p := ⟨qf, 0, none⟩) h.lt).trans h.fst, h.row.below hb, Nat.lt_of_lt_of_le h.lt hb.size⟩
theorem Ss.drew (h : Ss w0 gs qp qf c4 qm cm qb qr fs w) : Ss w0 gs qp qf c4 qm cm qb qr fs w.drew := h.next (Below.refl _ _).drew
theorem Ss.cells (h : Ss w0 gs qp qf c4 qm cm qb qr fs w) : (w.cell? ⟨gs, 0, none⟩ = some (.int .i64 1) ∧ w.cell? ⟨gs, 1, none⟩ = some (.slice (some ⟨qp, 0, none⟩) 2 2) ∧ w.cell? ⟨gs, 2, none⟩ = some (.slice (some ⟨qf, 0, none⟩) 2 c4) ∧ w.cell? ⟨gs, 3, none⟩ = some (.slice (some ⟨qm, 0, none⟩) 2 cm) ∧ w.cell? ⟨gs, 4, none⟩ = some (.slice (some ⟨qb, 0, none⟩) 2 2) ∧ w.cell? ⟨gs, 5, none⟩ = some (.slice none 0 0) ∧ w.cell? ⟨gs, 6, none⟩ = some (.slice none 0 0) ∧ w.cell? ⟨gs, 7, none⟩ = some (.slice none 0 0) ∧ w.cell? ⟨gs, 8, none⟩ = some (.int .i64 0)) ∧
    w.cell? ⟨qf, 0, none⟩ = some (.slice (some ⟨qr, 0, none⟩) 6 6) :=
  ⟨⟨h.box.cell 0, h.box.cell 1, h.box.cell 2, h.box.cell 3, h.box.cell 4, h.box.cell 5, h.box.cell 6, h.box.cell 7, h.box.cell 8⟩, h.fst⟩
theorem Ss.ok {c1 c2 : Nat} {A1 A2 : Option Addr} (h : Ss w0 gs qp qf c4 qm cm qb qr fs w) (hcc : 2 ≤ c1 ∧ 2 ≤ c2) (hi : IntsAt w (Old w.heap.size) A1 [0, 0]) (ht : ThreadsAt w (Old w.heap.size) A2 (crossTs false 2)) :
    Calls Try.prog 44 #[.agg #[.slice A1 2 c1, .slice A2 2 c2], .agg #[.int .i64 1, .slice (some ⟨qp, 0, none⟩) 2 2, .slice (some ⟨qf, 0, none⟩) 2 c4, .slice (some ⟨qm, 0, none⟩) 2 cm, .slice (some ⟨qb, 0, none⟩) 2 2, .slice none 0 0, .slice none 0 0, .slice none 0 0, .int .i64 0]] w (fun e w' => e = .returned (.bool true) ∧ Below w.heap.size w w') ∧
    Calls Try.prog 45 #[.agg #[.slice A1 2 c1, .slice A2 2 c2], .agg #[.int .i64 1, .slice (some ⟨qp, 0, none⟩) 2 2, .slice (some ⟨qf, 0, none⟩) 2 c4, .slice (some ⟨qm, 0, none⟩) 2 cm, .slice (some ⟨qb, 0, none⟩) 2 2, .slice none 0 0, .slice none 0 0, .slice none 0 0, .int .i64 0]] w (fun e w' => e = .returned (.bool false) ∧ Below w.heap.size w w') := by
  have := KsAt.ok (c1 := c1) (c2 := c2) (cm := cm) (crossQ false) h.ks h.len h.mem h.bufs (by decide) hcc hi ht (by decide)
  rw [show endedB (crossQ false).ts (zeros (crossQ false).ts.length) = false from by decide] at this
  exact this
end

theorem Rv.block6 {w : World} {B : Nat} {v : Value} {row : List Int} (h : Rv w B v row) (hn : row.length = 6) : ∃ q c, v = .slice (some ⟨q, 0, none⟩) 6 c ∧ RowB w q row ∧ B ≤ q := by
  rcases h with ⟨_, h⟩ | ⟨q, c, h1, h2, h3⟩
  · rw [h] at hn; cases hn
  · rw [hn] at h1
    exact ⟨q, c, h1, h2, h3⟩
theorem KsAt.first {w0 w : World} {n2 qp c : Nat} {A : Option Addr} {fs : List Value} (h : KsAt w0 n2 qp (.slice A fs.length c) fs w) (hn : 0 < fs.length) : ∃ qf qr, A = some ⟨qf, 0, none⟩ ∧ w.cell? ⟨qf, 0, none⟩ = some (.slice (some ⟨qr, 0, none⟩) 6 6) ∧ RowB w qr [0, 0, 0, 0, 0, 0] ∧ qf < w.heap.size := by
  rcases h.rows.2 with ⟨hv, _⟩ | ⟨q', cap, cur, hv, hb, hh, hcap, hmax, hcs, ht⟩
  · injection hv with _ h2 _
    omega
  · cases hv
    have hq : Blk w q' 32 cur := hh
    obtain ⟨q, e, h1, -⟩ := h.files fs[0] (List.getElem_mem hn)
    refine ⟨q', q, rfl, ?_, h1, hq.lt⟩
    rw [hq.cell 0, ← e]
    have h1 : cur.toList[0]? = fs[0]? := by rw [← ht, List.getElem?_take, if_pos (by omega)]
    rw [← Array.getElem?_toList, h1, List.getElem?_eq_getElem hn]

set_option maxRecDepth 100000 in
set_option maxHeartbeats 12800000 in
theorem states_any (w : World) :
    Calls Try.prog 14 #[] w fun e w' => e = .returned (.bool true) ∧ Below w.heap.size w w' := by
  have kS := fun A1 A2 c1 c2 w hcc hi ht => start_buf (crossQ false) A1 A2 c1 c2 w (by decide) (by decide) (by decide) (by decide) hcc hi ht
  rw [show (crossQ false).ts.length = 2 from rfl, show (crossQ false).init.length = 2 from rfl, show (crossQ false).init = [0, 0] from rfl, show (crossQ false).ts = crossTs false 2 from rfl] at kS
  replace kS := hide kS
  have kQ := fun A w hS => (quiet_all 1 1 0 0 0 1 0 A [0, 0, 0, 0, 0, 0] 6 w hS).1
  rw [show ([0, 0, 0, 0, 0, 0] : List Int).length = 6 from rfl, show qRow 1 1 0 0 1 [0, 0, 0, 0, 0, 0] = [0, 1, 0, 0, 0, 0] from by decide, show qPc 1 1 0 0 1 0 [0, 0, 0, 0, 0, 0] = 1 from by decide +kernel] at kQ
  replace kQ := hide kQ
  have kC := fun A w c hS => cellOf_any (zs := [0, 1, 0, 0, 0, 0]) (A := A) (w := w) 8 0 1 0 0 1 c (by omega) rfl hS
  rw [show ([0, 1, 0, 0, 0, 0] : List Int).length = 6 from rfl, show cellV 8 1 0 (geti [0, 1, 0, 0, 0, 0] 1) 6 = 1 from by decide, show ((1 : Nat) : Int) = 1 from rfl] at kC
  replace kC := hide kC
  go_enter Try.func14, Try.ntmps14
  go_wp2_with fail
  refine (crosswise_any false w).mono ?_
  rintro e w1 ⟨v, tv, rfl, ⟨vs, hown⟩, hb1⟩
  have hp := hown.at_
  obtain ⟨A, c, rfl, -⟩ := own_form hown.ints
  obtain ⟨b, cb, rfl, -, hbl, hbc⟩ := rows_at hown.rows (by decide)
  obtain ⟨A2, c2, hv, -, hin⟩ := own_inss (hown.thr 0 (by decide))
  obtain ⟨q0, c0, hv', -⟩ := inss_at (hown.thr 0 (by decide)) (by decide)
  rw [hv] at hv'
  cases hv'
  obtain ⟨q, off, e, ⟨-, -, hql⟩, hci⟩ := hin.2 (by decide)
  cases e
  obtain ⟨A3, c3, hv3, -, hin3⟩ := own_inss (hown.thr 1 (by decide))
  obtain ⟨q1, c1, hv3', -⟩ := inss_at (hown.thr 1 (by decide)) (by decide)
  rw [hv3] at hv3'
  cases hv3'
  obtain ⟨q, off, e, ⟨-, -, hql1⟩, hci1⟩ := hin3.2 (by decide)
  cases e
  have r0 := hbc 0 (by decide)
  rw [hv] at r0
  have r1 := hbc 1 (by decide)
  rw [hv3] at r1
  have hy0 : InsIn w1 q0 0 ⟨1, 1, 0, 0, 0, 1⟩ := hci 0 (by decide)
  have hy1 : InsIn w1 q1 6 ⟨8, 0, 1, 0, 1, 0⟩ := hci1 1 (by decide)
  rw [show (gett (crossTs false 2) 0).length = 3 from by decide] at r0
  rw [show (gett (crossTs false 2) 1).length = 3 from by decide] at r1
  obtain ⟨A5, c5, A6, c6, e5, hcc, hi, ht⟩ := hp
  cases e5
  have hcc : 2 ≤ c ∧ 2 ≤ cb := hcc
  rw [show (crossTs false 2).length = 2 from by decide, show ([0, 0] : List Int).length = 2 from rfl]
  have hP : Hid (Sp w1 A c b cb q0 c2 q1 c3 (w1.alloc (Obj.cells #[Value.slice A 2 c, Value.slice (some ⟨b, 0, none⟩) 2 cb] 43))) := hide
    ⟨Blk.new _ _ _, ((below1 w1 _).cell (p := ⟨b, 0, none⟩) hbl).trans r0, ((below1 w1 _).cell (p := ⟨b, 1, none⟩) hbl).trans r1, hy0.keep (fun o => (below1 w1 _).cell (p := ⟨q0, o, none⟩) hql), hy1.keep (fun o => (below1 w1 _).cell (p := ⟨q1, o, none⟩) hql1), (hi.below (below1 w1 _) (fun b h => h.2)).more (fun b h => h.2), (ht.below (below1 w1 _) (fun b h => h.2)).more (fun b h => h.2), below1 w1 _, hbl, hql, hql1⟩
  have B1 := hide hb1
  clear hown hbc hci hci1 hin hin3 hi ht hv hv3 hy0 hy1 r0 r1 hb1 hbl hql hql1
  go_wp2_with fail
  obtain ⟨wq, hwq⟩ : ∃ wq, wq = w1.alloc (Obj.cells #[Value.slice A 2 c, Value.slice (some ⟨b, 0, none⟩) 2 cb] 43) := ⟨_, rfl⟩
  rw [← hwq] at hP ⊢
  clear hwq
  refine (kS.out _ _ _ _ _ hcc hP.out.int hP.out.ths).mono ?_
  rintro e w2 ⟨qp, A4, c4, fs, qm, cm, qb, rfl, hfl, hK, hM, hQ, hqb⟩
  obtain ⟨qf, qr, rfl, hf0, hr0, hql⟩ := hK.first (by omega)
  rw [hfl]
  have hP2 := hide ((hP.out.next hK.below).next (below1 w2 (Obj.cells #[.int .i64 1, .slice (some ⟨qp, 0, none⟩) 2 2, .slice (some ⟨qf, 0, none⟩) 2 c4, .slice (some ⟨qm, 0, none⟩) 2 cm, .slice (some ⟨qb, 0, none⟩) 2 2, .slice none 0 0, .slice none 0 0, .slice none 0 0, .int .i64 0] 77)))
  have hS2 : Hid (Ss wq w2.heap.size qp qf c4 qm cm qb qr fs (w2.alloc (Obj.cells #[.int .i64 1, .slice (some ⟨qp, 0, none⟩) 2 2, .slice (some ⟨qf, 0, none⟩) 2 c4, .slice (some ⟨qm, 0, none⟩) 2 cm, .slice (some ⟨qb, 0, none⟩) 2 2, .slice none 0 0, .slice none 0 0, .slice none 0 0, .int .i64 0] 77))) := hide
    ⟨Blk.new _ _ _, hfl, hK.next (below1 w2 _), hM.1.below (below1 w2 _), hQ.alloc _, ((below1 w2 _).cell (p := ⟨qf, 0, none⟩) hql).trans hf0, hr0.below (below1 w2 _), by rw [World.size_alloc]; omega⟩
  clear hK hM hQ hqb hf0 hr0 hfl hql kS
  go_wp2_with fail
  obtain ⟨ws, hws⟩ : ∃ ws, ws = w2.alloc (Obj.cells #[.int .i64 1, .slice (some ⟨qp, 0, none⟩) 2 2, .slice (some ⟨qf, 0, none⟩) 2 c4, .slice (some ⟨qm, 0, none⟩) 2 cm, .slice (some ⟨qb, 0, none⟩) 2 2, .slice none 0 0, .slice none 0 0, .slice none 0 0, .int .i64 0] 77) := ⟨_, rfl⟩
  rw [← hws] at hP2 hS2 ⊢
  clear hws hP
  generalize w2.heap.size = gs at *
  go_cut [4, 5] (fun s4 s5 wx => ∃ T qv cv, s4 = .pointer (some ⟨T, 0, none⟩) ∧ s5 = .int .i64 1 ∧ Blk wx T 32 #[.slice (some ⟨qv, 0, none⟩) 6 cv] ∧ RowB wx qv [0, 1, 0, 0, 0, 0] ∧ Below ws.heap.size ws wx)
  case first =>
    obtain ⟨⟨e0, e1⟩, e2, e3, ⟨e4, e5, e6, e7, e8, e9⟩, -⟩ := hP2.out.cells
    obtain ⟨⟨-, -, g2, -⟩, g3⟩ := hS2.out.cells
    obtain ⟨⟨f0, f1⟩, f2, f3, ⟨f4, f5, f6, f7, f8, f9⟩, -⟩ := (hP2.out.next (below1 _ (Obj.cells #[Value.slice none 0 0] 32))).cells
    obtain ⟨⟨-, -, h2, -⟩, h3⟩ := (hS2.out.next (below1 _ (Obj.cells #[Value.slice none 0 0] 32))).cells
    have B0 := hide (Below.refl ws.heap.size ws).drew
    go_region_law (first
      | (go_simp; refine (kQ.out _ _ (by first | exact ints_old hS2.out.drew.row (by decide) | exact ints_old (hS2.out.drew.next (below1 _ _)).row (by decide) | exact ints_old (hS2.out.next (below1 _ _)).drew.row (by decide))).mono ?_; rintro e w3 ⟨v3, rfl, hv3, hb3⟩; obtain ⟨qv, cv, rfl, hrv, hqv⟩ := hv3.block6 rfl; have hb4 := hide (below_then B0.out (by first | exact hb3 | exact below_da hb3 | exact below_step hb3)); obtain ⟨hcl3, hfz3⟩ := bcell hb3; (first | (have hl3 : ws.heap.size < w3.heap.size := (by have h := hb3.size; have h2 : (ws.alloc (Obj.cells #[Value.slice none 0 0] 32)).heap.size ≤ w3.heap.size := h; simp only [World.size_alloc] at h2; omega)) | skip); clear hv3; go_simp)
      | fail)
    all_goals
      go_wp2_with fail
      go_meet
      refine ⟨_, qv, cv, rfl, rfl, ?_, ?_, ?_⟩
      · first
          | exact Blk.new w3 _ _
          | exact ((show Blk (ws.alloc (Obj.cells #[Value.slice none 0 0] 32)).drew ws.heap.size 32 #[Value.slice none 0 0] from Blk.new ws _ _).below hb3 (by show ws.heap.size < (ws.alloc _).heap.size; simp)).set_ 0 _
      · first
          | exact hrv.below (below1 w3 _)
          | exact hrv.heap (Below.heap_setCell _ _ _ _ (by have h4 := hqv; simp only [World.size_drew, World.size_alloc] at h4; show qv ≠ ws.heap.size; omega))
      · first
          | exact hb4.out.alloc hb4.out.size _
          | exact hb4.out.setCell (Nat.le_refl _) _
  case rest =>
    obtain ⟨T, qv, cv, rfl, rfl, k4, r4, hb4⟩ := hcut
    obtain ⟨w4, rfl⟩ : ∃ w4 : World, w4 = wc := ⟨_, rfl⟩
    have P4 := hide (hP2.out.next hb4)
    have S4 := hide (hS2.out.next hb4)
    have F4 := hide (show Sf w4 T qv cv w4 from ⟨k4, r4, Below.refl _ _⟩)
    clear k4 r4 hb4 hP2 hS2
    go_wp2_with fail
    go_region_held3 (fun w' => ((w'.cell? ⟨w1.heap.size, 0, none⟩ = some (.slice A 2 c) ∧ w'.cell? ⟨w1.heap.size, 1, none⟩ = some (.slice (some ⟨b, 0, none⟩) 2 cb)) ∧ w'.cell? ⟨b, 0, none⟩ = some (.slice (some ⟨q0, 0, none⟩) 3 c2) ∧ w'.cell? ⟨b, 1, none⟩ = some (.slice (some ⟨q1, 0, none⟩) 3 c3) ∧
      (w'.cell? ⟨q0, 0, none⟩ = some (.int .i64 1) ∧ w'.cell? ⟨q0, 1, none⟩ = some (.int .i64 1) ∧ w'.cell? ⟨q0, 2, none⟩ = some (.int .i64 0) ∧ w'.cell? ⟨q0, 3, none⟩ = some (.int .i64 0) ∧ w'.cell? ⟨q0, 4, none⟩ = some (.int .i64 0) ∧ w'.cell? ⟨q0, 5, none⟩ = some (.int .i64 1)) ∧
      (w'.cell? ⟨q1, 6, none⟩ = some (.int .i64 8) ∧ w'.cell? ⟨q1, 7, none⟩ = some (.int .i64 0) ∧ w'.cell? ⟨q1, 8, none⟩ = some (.int .i64 1) ∧ w'.cell? ⟨q1, 9, none⟩ = some (.int .i64 0) ∧ w'.cell? ⟨q1, 10, none⟩ = some (.int .i64 1) ∧ w'.cell? ⟨q1, 11, none⟩ = some (.int .i64 0))) ∧
      ((w'.cell? ⟨gs, 0, none⟩ = some (.int .i64 1) ∧ w'.cell? ⟨gs, 1, none⟩ = some (.slice (some ⟨qp, 0, none⟩) 2 2) ∧ w'.cell? ⟨gs, 2, none⟩ = some (.slice (some ⟨qf, 0, none⟩) 2 c4) ∧ w'.cell? ⟨gs, 3, none⟩ = some (.slice (some ⟨qm, 0, none⟩) 2 cm) ∧ w'.cell? ⟨gs, 4, none⟩ = some (.slice (some ⟨qb, 0, none⟩) 2 2) ∧ w'.cell? ⟨gs, 5, none⟩ = some (.slice none 0 0) ∧ w'.cell? ⟨gs, 6, none⟩ = some (.slice none 0 0) ∧ w'.cell? ⟨gs, 7, none⟩ = some (.slice none 0 0) ∧ w'.cell? ⟨gs, 8, none⟩ = some (.int .i64 0)) ∧
      w'.cell? ⟨qf, 0, none⟩ = some (.slice (some ⟨qr, 0, none⟩) 6 6)) ∧ w'.cell? ⟨T, 0, none⟩ = some (.slice (some ⟨qv, 0, none⟩) 6 cv) ∧ w'.cell? ⟨qv, 1, none⟩ = some (.int .i64 1))
      (first | exact ⟨P4.out.drew.cells, S4.out.drew.cells, F4.out.drew.cells⟩ | exact ⟨P4.out.cells, S4.out.cells, F4.out.cells⟩ | exact ⟨P5.out.cells, S5.out.cells, F5.out.cells⟩ | exact ⟨P6.out.cells, S6.out.cells, F6.out.cells⟩ | exact ⟨P7.out.cells, S7.out.cells, F7.out.cells⟩)
      (first
      | (go_at_call 44; refine (S4.out.drew.ok hcc P4.out.drew.int P4.out.drew.ths).1.mono ?_; rintro e w5 ⟨rfl, hb5⟩; have P5 := hide (P4.out.drew.next hb5); have S5 := hide (S4.out.drew.next hb5); have F5 := hide (F4.out.drew.next hb5))
      | (go_at_call 45; refine (S5.out.ok hcc P5.out.int P5.out.ths).2.mono ?_; rintro e w6 ⟨rfl, hb6⟩; have P6 := hide (P5.out.next hb6); have S6 := hide (S5.out.next hb6); have F6 := hide (F5.out.next hb6))
      | (go_at_call 12; refine (kC.out _ _ _ (ints_old F6.out.row (by decide))).mono ?_; rintro e w7 ⟨rfl, hb7⟩; have P7 := hide (P6.out.next hb7); have S7 := hide (S6.out.next hb7); have F7 := hide (F6.out.next hb7)))
    all_goals
      go_wp2_with fail
      go_ret
      exact ⟨rfl, below_then B1.out P7.out.below⟩
end Go.Proofs.Ytaiklooffkmjjaa
