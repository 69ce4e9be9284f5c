/- The walk of FnExactStart where Start lays a state: it answers true and leaves its arguments. -/
import Derived.Test.YtfkaacfeikmabaaMg20
import Derived.Test.YtfkaacfeikmabaaMg35
import Derived.Deep.RegionHeld3
import Derived.Deep.DeepCutAuto
namespace Go.Proofs.Ytfkaacfeikmabaa
open Go.RowKit

theorem nine_cells {w : World} {g : Nat} {t : TypeId} {v0 v1 v2 v3 v4 v5 v6 v7 v8 : Value} (h : Blk w g t #[v0, v1, v2, v3, v4, v5, v6, v7, v8]) : w.cell? ⟨g, 0, none⟩ = some v0 ∧ w.cell? ⟨g, 1, none⟩ = some v1 ∧ w.cell? ⟨g, 2, none⟩ = some v2 ∧ w.cell? ⟨g, 3, none⟩ = some v3 ∧ w.cell? ⟨g, 4, none⟩ = some v4 ∧ w.cell? ⟨g, 5, none⟩ = some v5 ∧ w.cell? ⟨g, 6, none⟩ = some v6 ∧ w.cell? ⟨g, 7, none⟩ = some v7 ∧ w.cell? ⟨g, 8, none⟩ = some v8 := ⟨h.cell 0, h.cell 1, h.cell 2, h.cell 3, h.cell 4, h.cell 5, h.cell 6, h.cell 7, h.cell 8⟩
structure StX (n T U V q0 qt : Nat) (A1 A2 : Option Addr) (c1 c2 : Nat) (p : ProgD) (K N : Int) (d g : StD) (w : World) : Prop where
  e : EpR n A1 A2 c1 c2 p w
  y : Blk w T 48 #[.int .i64 K, .slice d.pc.A d.pc.n d.pc.c, .slice d.F.A d.F.n d.F.c, .slice d.mem.A d.mem.n d.mem.c, .slice d.bufs.A d.bufs.n d.bufs.c, .slice d.H.A d.H.n d.H.c, .slice d.view.A d.view.n d.view.c, .slice d.sc.A d.sc.n d.sc.c, .int .i64 N]
  z : Blk w V 48 #[.int .i64 K, .slice g.pc.A g.pc.n g.pc.c, .slice g.F.A g.F.n g.F.c, .slice g.mem.A g.mem.n g.mem.c, .slice g.bufs.A g.bufs.n g.bufs.c, .slice g.H.A g.H.n g.H.c, .slice g.view.A g.view.n g.view.c, .slice g.sc.A g.sc.n g.sc.c, .int .i64 N]
  x : Blk w U 31 #[.slice (some ⟨q0, 0, none⟩) p.init.length p.init.length, .slice (some ⟨qt, 0, none⟩) p.ts.length p.ts.length]
  sd : StIn w d
  sg : StIn w g
theorem StX.next {n T U V q0 qt : Nat} {A1 A2 : Option Addr} {c1 c2 : Nat} {p : ProgD} {K N : Int} {d g : StD} {w w' : World} (h : StX n T U V q0 qt A1 A2 c1 c2 p K N d g w) (hb : Below w.heap.size w w') : StX n T U V q0 qt A1 A2 c1 c2 p K N d g w' :=
  ⟨h.e.next hb, h.y.below hb h.y.lt, h.z.below hb h.z.lt, h.x.below hb h.x.lt, h.sd.next hb, h.sg.next hb⟩
theorem StX.nle {n T U V q0 qt : Nat} {A1 A2 : Option Addr} {c1 c2 : Nat} {p : ProgD} {K N : Int} {d g : StD} {w : World} (h : StX n T U V q0 qt A1 A2 c1 c2 p K N d g w) : n ≤ w.heap.size := Nat.le_of_lt h.e.bp.lt
theorem StX.lt {n T U V q0 qt : Nat} {A1 A2 : Option Addr} {c1 c2 : Nat} {p : ProgD} {K N : Int} {d g : StD} {w : World} (h : StX n T U V q0 qt A1 A2 c1 c2 p K N d g w) : n < w.heap.size ∧ T < w.heap.size ∧ U < w.heap.size ∧ V < w.heap.size := ⟨h.e.bp.lt, h.y.lt, h.x.lt, h.z.lt⟩
theorem StX.c10 {n T U V q0 qt : Nat} {A1 A2 : Option Addr} {c1 c2 : Nat} {p : ProgD} {K N : Int} {d g : StD} {w : World} (h : StX n T U V q0 qt A1 A2 c1 c2 p K N d g w) : (w.cell? ⟨n, 0, none⟩ = some (.slice A1 p.init.length c1) ∧ w.cell? ⟨n, 1, none⟩ = some (.slice A2 p.ts.length c2)) ∧ w.cell? ⟨U, 0, none⟩ = some (.slice (some ⟨q0, 0, none⟩) p.init.length p.init.length) ∧ w.cell? ⟨U, 1, none⟩ = some (.slice (some ⟨qt, 0, none⟩) p.ts.length p.ts.length) := ⟨⟨h.e.bp.cell 0, h.e.bp.cell 1⟩, h.x.cell 0, h.x.cell 1⟩
theorem StX.inn {lo hi n T U V q0 qt : Nat} {A1 A2 : Option Addr} {c1 c2 : Nat} {p : ProgD} {K N : Int} {d g : StD} {w w' : World} (h : StX n T U V q0 qt A1 A2 c1 c2 p K N d g w) (hi' : Inn lo hi w w') (hn : n < lo) (hT : T < lo) (hU : hi ≤ U) (hV : hi ≤ V) (hd : ∀ i, i < 7 → (d.iv i).2 ≤ lo) (hg : ∀ i, i < 7 → hi ≤ (g.iv i).1) (hl : lo ≤ w.heap.size) : StX n T U V q0 qt A1 A2 c1 c2 p K N d g w' :=
  ⟨h.e.inn hi' hn hl, h.y.inn hi' (Or.inl hT), h.z.inn hi' (Or.inr hV), h.x.inn hi' (Or.inr hU), h.sd.inn hi' (fun i k => Or.inl (hd i k)), h.sg.inn hi' (fun i k => Or.inr (hg i k))⟩
set_option maxRecDepth 100000 in
set_option maxHeartbeats 12800000 in
theorem exStart_false (p : ProgD) (kd : Int) (A1 A2 : Option Addr) (c1 c2 : Nat) (w : World) (hp : ProgAt w (Old w.heap.size) (.agg #[.slice A1 p.init.length c1, .slice A2 p.ts.length c2]) p) (s0 : StD) (hsB : stB s0 ≤ 1048576)
    (kS : Hid (∀ A1 A2 c1 c2 w, PArg w A1 A2 c1 c2 p → Calls Try.prog 27 #[.agg #[.slice A1 p.init.length c1, .slice A2 p.ts.length c2], .int .i64 kd] w (StAns s0 false w)))
    (kI : Hid (∀ A1 A2 c1 c2 w, PArg w A1 A2 c1 c2 p → Calls Try.prog 28 #[.agg #[.slice A1 p.init.length c1, .slice A2 p.ts.length c2], .int .i64 kd] w (StAns s0 false w))) :
    Calls Try.prog 5 #[.agg #[.slice A1 p.init.length c1, .slice A2 p.ts.length c2], .int .i64 kd] w fun e w' => e = .returned (.bool true) ∧ Below w.heap.size w w' := by
  obtain ⟨n, hn⟩ : ∃ n, n = w.heap.size := ⟨_, rfl⟩
  have hb0 := hide (below1 w (Obj.cells #[.slice A1 p.init.length c1, .slice A2 p.ts.length c2] 25))
  have hE0 := hide (show EpR n A1 A2 c1 c2 p (w.alloc (Obj.cells #[.slice A1 p.init.length c1, .slice A2 p.ts.length c2] 25)) from by
    subst hn
    exact ⟨Blk.new w 25 #[.slice A1 p.init.length c1, .slice A2 p.ts.length c2], hp.below hb0.out (fun _ h => h)⟩)
  rw [← hn] at hb0
  clear hp
  obtain ⟨w0, hw0⟩ : ∃ wq, wq = w.alloc (Obj.cells #[.slice A1 p.init.length c1, .slice A2 p.ts.length c2] 25) := ⟨_, rfl⟩
  rw [← hw0] at hE0 hb0
  go_enter Try.func5, Try.ntmps5
  go_wp2_with fail
  try rw [← hw0]
  rw [← hn]
  replace hn := hide hn
  clear hw0
  refine (szProg_any p _ (Old n) 1048576 w0 (by omega) (by omega) hE0.out.lts hE0.out.pr).mono ?_
  rintro e w1 ⟨rfl, hb1⟩
  have E1 := hide (hE0.out.next hb1)
  have B1 := hide (hb0.out.trans (hb1.mono (Nat.le_of_lt hE0.out.bp.lt)))
  clear hE0 hb1 hb0
  by_cases hz : (1048576 : Int) < progSize p
  · rw [szR_neg hz]
    clear hz
    go_wp2_with fail
    go_ret
    rw [← hn.out]
    exact ⟨rfl, B1.out⟩
  · rw [szR_pos hz]
    obtain ⟨left, hleft⟩ : ∃ l : Int, l = 1048576 - (progSize p : Int) := ⟨_, rfl⟩
    rw [← hleft]
    have hlt0 : decide (left < 0) = false := decide_eq_false (by omega)
    have hzp : progSize p ≤ 1048576 := by omega
    replace hzp := hide hzp
    clear hz hleft
    obtain ⟨x0, x1⟩ := E1.out.cells
    have l0 := E1.out.bp.lt
    go_wp2_with fail
    clear x0 x1 l0 hlt0
    refine (E1.out.copy hzp.out).mono ?_
    rintro e w2 ⟨q0, qt, rfl, hc2, hb2⟩
    have C2 := hide hc2
    have E2 := hide (E1.out.next hb2)
    have B2 := hide (B1.out.trans (hb2.mono (Nat.le_of_lt E1.out.bp.lt)))
    clear hc2 hb2 E1 B1
    obtain ⟨x0, x1⟩ := E2.out.cells
    go_wp2_with fail
    clear x0 x1
    refine (kS.out _ _ _ _ _ (C2.out.arg hzp.out)).mono ?_
    rintro e w3 ⟨d, rfl, hd3, hl3, hs3, hb3⟩
    have D3 := hide hd3
    have Q3 := hide hs3
    have E3 := hide (E2.out.next hb3)
    have B3 := hide (B2.out.trans (hb3.mono (Nat.le_of_lt E2.out.bp.lt)))
    have hs3k := hs3.kind
    have hs3n := hs3.next
    clear hd3 hl3 hs3 hb3 E2 B2 C2
    have dcs := hide (show d.cells = #[.int .i64 s0.kind, .slice d.pc.A d.pc.n d.pc.c, .slice d.F.A d.F.n d.F.c, .slice d.mem.A d.mem.n d.mem.c, .slice d.bufs.A d.bufs.n d.bufs.c, .slice d.H.A d.H.n d.H.c, .slice d.view.A d.view.n d.view.c, .slice d.sc.A d.sc.n d.sc.c, .int .i64 s0.next] from by unfold StD.cells; rw [hs3k, hs3n])
    have hb4 : Below w3.heap.size w3 (w3.alloc (Obj.cells d.cells 48)) := below1 _ _
    have Y4 := hide (Blk.new w3 48 d.cells)
    have D4 := hide (D3.out.next hb4)
    have E4 := hide (E3.out.next hb4)
    have B4 := hide (B3.out.trans (hb4.mono (Nat.le_of_lt E3.out.bp.lt)))
    clear hb4
    have hdk : d.kind = s0.kind := hs3k.symm
    have hdn : d.next = s0.next := hs3n.symm
    rw [show #[Value.agg d.cells, Value.bool false] = #[Value.agg #[.int .i64 s0.kind, .slice d.pc.A d.pc.n d.pc.c, .slice d.F.A d.F.n d.F.c, .slice d.mem.A d.mem.n d.mem.c, .slice d.bufs.A d.bufs.n d.bufs.c, .slice d.H.A d.H.n d.H.c, .slice d.view.A d.view.n d.view.c, .slice d.sc.A d.sc.n d.sc.c, .int .i64 s0.next], Value.bool false] from by rw [dcs.out]]
    rw [dcs.out] at Y4 D4 E4 B4
    obtain ⟨x0, x1⟩ := E3.out.cells
    have l0 := E3.out.bp.lt
    clear hdk hdn hs3k hs3n
    go_wp2_with fail
    clear x0 x1 l0 D3 E3 B3
    obtain ⟨w4, hw4⟩ : ∃ wq, wq = w3.alloc (Obj.cells #[.int .i64 s0.kind, .slice d.pc.A d.pc.n d.pc.c, .slice d.F.A d.F.n d.F.c, .slice d.mem.A d.mem.n d.mem.c, .slice d.bufs.A d.bufs.n d.bufs.c, .slice d.H.A d.H.n d.H.c, .slice d.view.A d.view.n d.view.c, .slice d.sc.A d.sc.n d.sc.c, .int .i64 s0.next] 48) := ⟨_, rfl⟩
    rw [← hw4] at Y4 D4 E4 B4 ⊢
    obtain ⟨T, hT⟩ : ∃ T, T = w3.heap.size := ⟨_, rfl⟩
    rw [← hT] at Y4 ⊢
    clear hw4 hT
    refine (E4.out.copy hzp.out).mono ?_
    rintro e w5 ⟨q1, qu, rfl, hc5, hb5⟩
    have C5 := hide hc5
    have Y5 := hide (Y4.out.below hb5 Y4.out.lt)
    have D5 := hide (D4.out.next hb5)
    have E5 := hide (E4.out.next hb5)
    have B5 := hide (B4.out.trans (hb5.mono (Nat.le_of_lt E4.out.bp.lt)))
    have N5 := hide (show T < w4.heap.size ∧ n < w4.heap.size ∧ (∀ i, i < 7 → (d.iv i).2 ≤ w4.heap.size) from ⟨Y4.out.lt, E4.out.bp.lt, D4.out.bnd⟩)
    obtain ⟨lo, hlo⟩ : ∃ x, x = w4.heap.size := ⟨_, rfl⟩
    rw [← hlo] at C5 N5
    have L5 := hide (show lo ≤ w5.heap.size from by rw [hlo]; exact hb5.size)
    clear hc5 hb5 Y4 D4 E4 B4 hlo
    have I5 := hide C5.out.in_
    obtain ⟨hi, hhi⟩ : ∃ x, x = w5.heap.size := ⟨_, rfl⟩
    rw [← hhi] at I5 L5
    have hb6 : Below w5.heap.size w5 (w5.alloc (Obj.cells #[.slice (some ⟨q1, 0, none⟩) p.init.length p.init.length, .slice (some ⟨qu, 0, none⟩) p.ts.length p.ts.length] 31)) := below1 _ _
    have X6 := hide (Blk.new w5 31 #[.slice (some ⟨q1, 0, none⟩) p.init.length p.init.length, .slice (some ⟨qu, 0, none⟩) p.ts.length p.ts.length])
    rw [← hhi] at X6
    have C6 := hide (C5.out.next hb6)
    have I6 := hide (I5.out.next hb6)
    have Y6 := hide (Y5.out.below hb6 Y5.out.lt)
    have D6 := hide (D5.out.next hb6)
    have E6 := hide (E5.out.next hb6)
    have B6 := hide (B5.out.trans (hb6.mono (Nat.le_of_lt E5.out.bp.lt)))
    have z0 := X6.out.cell 0
    have z1 := X6.out.cell 1
    have l0 := X6.out.lt
    have L6 := hide (show hi ≤ (w5.alloc (Obj.cells #[.slice (some ⟨q1, 0, none⟩) p.init.length p.init.length, .slice (some ⟨qu, 0, none⟩) p.ts.length p.ts.length] 31)).heap.size from by simp; omega)
    rw [hhi] at z0 z1 l0
    simp only [List.getElem?_toArray, List.getElem?_cons_zero, List.getElem?_cons_succ] at z0 z1
    clear hb6
    go_wp2_with fail
    clear z0 z1 l0 C5 I5 Y5 D5 E5 B5
    obtain ⟨w6, hw6⟩ : ∃ wq, wq = w5.alloc (Obj.cells #[.slice (some ⟨q1, 0, none⟩) p.init.length p.init.length, .slice (some ⟨qu, 0, none⟩) p.ts.length p.ts.length] 31) := ⟨_, rfl⟩
    rw [← hw6] at X6 C6 I6 Y6 D6 E6 B6 L6 ⊢
    rw [← hhi]
    clear hw6 hhi
    refine (kI.out _ _ _ _ _ (C6.out.arg hzp.out)).mono ?_
    rintro e w7 ⟨g, rfl, hg7, hl7, hs7, hb7⟩
    have G7 := hide hg7
    have Q7 := hide (Q3.out.symm.trans hs7)
    have M7 := hide (fun i hi7 => hl7 i hi7)
    have T7 := hide hg7.bnd
    have U7 := hide (show hi < w6.heap.size from X6.out.lt)
    have P7 := hide (show w6.heap.size ≤ w7.heap.size from hb7.size)
    obtain ⟨lo2, hlo2⟩ : ∃ x, x = w6.heap.size := ⟨_, rfl⟩
    rw [← hlo2] at M7 U7 P7
    have C7 := hide (C6.out.next hb7)
    have I7 := hide (I6.out.next hb7)
    have X7 := hide (X6.out.below hb7 X6.out.lt)
    have Y7 := hide (Y6.out.below hb7 Y6.out.lt)
    have D7 := hide (D6.out.next hb7)
    have E7 := hide (E6.out.next hb7)
    have B7 := hide (B6.out.trans (hb7.mono (Nat.le_of_lt E6.out.bp.lt)))
    have L7 := hide (Nat.le_trans L6.out hb7.size)
    have gcs := hide (show g.cells = #[.int .i64 s0.kind, .slice g.pc.A g.pc.n g.pc.c, .slice g.F.A g.F.n g.F.c, .slice g.mem.A g.mem.n g.mem.c, .slice g.bufs.A g.bufs.n g.bufs.c, .slice g.H.A g.H.n g.H.c, .slice g.view.A g.view.n g.view.c, .slice g.sc.A g.sc.n g.sc.c, .int .i64 s0.next] from by unfold StD.cells; rw [hs7.kind, hs7.next])
    clear hg7 hl7 hs7 hb7 C6 I6 X6 Y6 D6 E6 B6 L6 hlo2
    have hb8 : Below w7.heap.size w7 (w7.alloc (Obj.cells g.cells 48)) := below1 _ _
    have Z8 := hide (Blk.new w7 48 g.cells)
    have G8 := hide (G7.out.next hb8)
    have C8 := hide (C7.out.next hb8)
    have I8 := hide (I7.out.next hb8)
    have X8 := hide (X7.out.below hb8 X7.out.lt)
    have Y8 := hide (Y7.out.below hb8 Y7.out.lt)
    have D8 := hide (D7.out.next hb8)
    have E8 := hide (E7.out.next hb8)
    have B8 := hide (B7.out.trans (hb8.mono (Nat.le_of_lt E7.out.bp.lt)))
    clear hb8
    rw [show #[Value.agg g.cells, Value.bool false] = #[Value.agg #[.int .i64 s0.kind, .slice g.pc.A g.pc.n g.pc.c, .slice g.F.A g.F.n g.F.c, .slice g.mem.A g.mem.n g.mem.c, .slice g.bufs.A g.bufs.n g.bufs.c, .slice g.H.A g.H.n g.H.c, .slice g.view.A g.view.n g.view.c, .slice g.sc.A g.sc.n g.sc.c, .int .i64 s0.next], Value.bool false] from by rw [gcs.out]]
    rw [gcs.out] at Z8 G8 C8 I8 X8 Y8 D8 E8 B8
    obtain ⟨y0, y1, y2, y3, y4, y5, y6, y7, y8⟩ := nine_cells Y8.out
    obtain ⟨z0, z1, z2, z3, z4, z5, z6, z7, z8⟩ := nine_cells Z8.out
    have l0 := Z8.out.lt
    have l1 := Y8.out.lt
    go_wp2_with fail
    clear y0 y1 y2 y3 y4 y5 y6 y7 y8 z0 z1 z2 z3 z4 z5 z6 z7 z8 l0 l1 X7 Y7 D7 E7 B7 C7 I7 G7
    have L8 := hide (show hi ≤ (w7.alloc (Obj.cells #[.int .i64 s0.kind, .slice g.pc.A g.pc.n g.pc.c, .slice g.F.A g.F.n g.F.c, .slice g.mem.A g.mem.n g.mem.c, .slice g.bufs.A g.bufs.n g.bufs.c, .slice g.H.A g.H.n g.H.c, .slice g.view.A g.view.n g.view.c, .slice g.sc.A g.sc.n g.sc.c, .int .i64 s0.next] 48)).heap.size from by simp; have := L7.out; omega)
    have W8 := hide (show hi ≤ w7.heap.size from L7.out)
    clear L7
    obtain ⟨w8, hw8⟩ : ∃ wq, wq = w7.alloc (Obj.cells #[.int .i64 s0.kind, .slice g.pc.A g.pc.n g.pc.c, .slice g.F.A g.F.n g.F.c, .slice g.mem.A g.mem.n g.mem.c, .slice g.bufs.A g.bufs.n g.bufs.c, .slice g.H.A g.H.n g.H.c, .slice g.view.A g.view.n g.view.c, .slice g.sc.A g.sc.n g.sc.c, .int .i64 s0.next] 48) := ⟨_, rfl⟩
    rw [← hw8] at Z8 G8 C8 I8 X8 Y8 D8 E8 B8 L8 ⊢
    obtain ⟨V, hV⟩ : ∃ V, V = w7.heap.size := ⟨_, rfl⟩
    rw [← hV] at Z8 W8 T7 P7 ⊢
    clear hw8 hV
    have H8 := hide (show StX n T hi V q1 qu A1 A2 c1 c2 p s0.kind s0.next d g w8 from ⟨E8.out, Y8.out, Z8.out, X8.out, D8.out, G8.out⟩)
    clear E8 Y8 Z8 X8 D8 G8
    refine (eqState_in s0.kind s0.next Q7.out.symm H8.out.sg H8.out.sd).mono ?_
    rintro e w9 ⟨rfl, hb9⟩
    have H9 := hide (H8.out.next hb9)
    have C9 := hide (C8.out.next hb9)
    have I9 := hide (I8.out.next hb9)
    have B9 := hide (B8.out.trans (hb9.mono H8.out.nle))
    have L9 := hide (Nat.le_trans L8.out hb9.size)
    clear hb9 H8 C8 I8 B8 L8
    replace H9 := hide (H9.out.next (Below.refl _ _).drew)
    replace C9 := hide (C9.out.next (Below.refl _ _).drew)
    replace I9 := hide (I9.out.next (Below.refl _ _).drew)
    replace B9 := hide B9.out.drew
    replace L9 := hide (show hi ≤ w9.drew.heap.size from L9.out)
    go_wp2_with fail
    refine wp_region_held_drew (S := (fun w' => (w'.cell? ⟨n, 0, none⟩ = some (.slice A1 p.init.length c1) ∧ w'.cell? ⟨n, 1, none⟩ = some (.slice A2 p.ts.length c2)) ∧ w'.cell? ⟨hi, 0, none⟩ = some (.slice (some ⟨q1, 0, none⟩) p.init.length p.init.length) ∧ w'.cell? ⟨hi, 1, none⟩ = some (.slice (some ⟨qu, 0, none⟩) p.ts.length p.ts.length))) (by kernel_rfl) ?_ (fun hHeld => ?_)
    · exact H9.out.c10
    refine wpAnyH_take (i := 0) (oi := { dst := some 45, op := Op.load 31 (Operand.tmp 8), type := 31, pos := "exact.go:1799", after := #[], guard := none }) (v := ?_) rfl (by kernel_rfl) (by kernel_rfl) (by kernel_rfl) (fun _ _ _ h => h) (Or.inl ⟨by rfl, ?_⟩) hHeld ?_
    rotate_left
    · (intro wq hSw; (try dsimp only at hSw); first | (go_simp; done) | (go_simp; with_reducible rfl))
    try simp only [Act.put, List.setIfInBounds_toArray, List.set_cons_zero, List.set_cons_succ]
    refine wpAnyH_take (i := 1) (oi := { dst := some 46, op := Op.load 25 (Operand.tmp 2), type := 25, pos := "exact.go:1799", after := #[], guard := none }) (v := ?_) rfl (by kernel_rfl) (by kernel_rfl) (by kernel_rfl) (fun _ _ _ h => h) (Or.inl ⟨by rfl, ?_⟩) hHeld ?_
    rotate_left
    · (intro wq hSw; (try dsimp only at hSw); first | (go_simp; done) | (go_simp; with_reducible rfl))
    try simp only [Act.put, List.setIfInBounds_toArray, List.set_cons_zero, List.set_cons_succ]
    refine wpAnyH_ready (rs := [2]) (by kernel_rfl) (by simp) ?_
    refine AllReadyH.cons (o := { dst := some 47, op := Op.call { callee := Callee.value (Operand.func 16), args := #[Operand.tmp 46], argTypes := #[25] }, type := 31, pos := "exact.go:1799", after := #[{ on := 1, ground := Ground.data }], guard := none }) rfl (fun K hK => ?_) AllReadyH.nil
    go_simp
    go_at_call 16; refine (H9.out.e.copy hzp.out).mono ?_; rintro e w10 ⟨q2, qv, rfl, hc10, hb10⟩; have K10 := hide hc10; have H10 := hide (H9.out.next hb10); have C10 := hide (C9.out.next hb10); have I10 := hide (I9.out.next hb10); have B10 := hide (B9.out.trans (hb10.mono H9.out.nle)); have L10 := hide (Nat.le_trans L9.out hb10.size); clear hc10 hb10
    refine hK.out _ _ ?_ (fun hHeldN => ?_)
    · exact H10.out.c10
    clear hK K hHeld
    have hHeld := hHeldN
    clear hHeldN
    try simp only [Act.put, List.setIfInBounds_toArray, List.set_cons_zero, List.set_cons_succ]
    refine wpAnyH_ready (rs := [3]) (by kernel_rfl) (by simp) ?_
    refine AllReadyH.cons (o := { dst := some 48, op := Op.call { callee := Callee.value (Operand.func 19), args := #[Operand.tmp 45, Operand.tmp 47], argTypes := #[31, 31] }, type := 4, pos := "exact.go:1799", after := #[{ on := 0, ground := Ground.data }, { on := 2, ground := Ground.data }, { on := 2, ground := Ground.chain }], guard := none }) rfl (fun K hK => ?_) AllReadyH.nil
    go_simp
    go_at_call 19; refine (C10.out.same K10.out hzp.out).mono ?_; rintro e w11 ⟨rfl, hb11⟩; have H11 := hide (H10.out.next hb11); have C11 := hide (C10.out.next hb11); have I11 := hide (I10.out.next hb11); have B11 := hide (B10.out.trans (hb11.mono H10.out.nle)); have L11 := hide (Nat.le_trans L10.out hb11.size); clear hb11
    refine hK.out _ _ ?_ (fun hHeldN => ?_)
    · exact H11.out.c10
    clear hK K hHeld
    have hHeld := hHeldN
    clear hHeldN
    try simp only [Act.put, List.setIfInBounds_toArray, List.set_cons_zero, List.set_cons_succ]
    refine wpAnyH_take (i := 4) (oi := { dst := some 49, op := Op.unOp UnOp.not 4 (Operand.tmp 48), type := 4, pos := "exact.go:1799", after := #[{ on := 3, ground := Ground.data }], guard := none }) (v := ?_) rfl (by kernel_rfl) (by kernel_rfl) (by kernel_rfl) (fun _ _ _ h => h) (Or.inl ⟨by rfl, ?_⟩) hHeld ?_
    rotate_left
    · (intro wq hSw; (try dsimp only at hSw); first | (go_simp; done) | (go_simp; with_reducible rfl))
    try simp only [Act.put, List.setIfInBounds_toArray, List.set_cons_zero, List.set_cons_succ]
    refine wpAnyH_done (by kernel_rfl) ?_ _
    clear hHeld C10 K10 I10 H9 C9 I9 B9 L9 H10 B10 L10 C11
    have z0 := H11.out.x.cell 0
    have z1 := H11.out.x.cell 1
    simp only [List.getElem?_toArray, List.getElem?_cons_zero, List.getElem?_cons_succ] at z0 z1
    go_wp2_with fail
    clear z0 z1
    refine (I11.out.mark hzp.out).mono ?_
    rintro e w12 ⟨⟨m, rfl, hm⟩, hi12⟩
    have H12 := hide (H11.out.inn hi12 N5.out.2.1 N5.out.1 (Nat.le_refl _) W8.out N5.out.2.2 (fun i h => Nat.le_trans (Nat.le_of_lt U7.out) (M7.out i h)) (Nat.le_trans L5.out L11.out))
    have B12 := hide (B11.out.trans ((hi12.below (Nat.le_trans L5.out L11.out)).mono (Nat.le_of_lt N5.out.2.1)))
    clear hi12 H11 B11 I11 L11
    have hm0 : decide ((m : Int) < 0) = false := decide_eq_false (by omega)
    clear hm
    obtain ⟨y0, y1, y2, y3, y4, y5, y6, y7, y8⟩ := nine_cells H12.out.y
    obtain ⟨z0, z1, z2, z3, z4, z5, z6, z7, z8⟩ := nine_cells H12.out.z
    have l0 := H12.out.lt
    have O12 := hide (show hi ≤ w12.heap.size from Nat.le_of_lt H12.out.x.lt)
    go_wp2_with fail
    clear y0 y1 y2 y3 y4 y5 y6 y7 y8 z0 z1 z2 z3 z4 z5 z6 z7 z8 l0 O12
    refine (eqState_in s0.kind s0.next Q7.out.symm H12.out.sg H12.out.sd).mono ?_
    rintro e w13 ⟨rfl, hb13⟩
    have H13 := hide (H12.out.next hb13)
    have B13 := hide (B12.out.trans (hb13.mono H12.out.nle))
    clear hb13 H12 B12
    obtain ⟨z0, z1, z2, z3, z4, z5, z6, z7, z8⟩ := nine_cells H13.out.z
    go_wp2_with fail
    clear z0 z1 z2 z3 z4 z5 z6 z7 z8 hm0
    have hB := hide (show (1 : Int) + stB g ≤ 4194304 from by rw [← stB_same (Q3.out.trans Q7.out)]; have := hsB; omega)
    have F13 := hide H13.out.sg.F.2.2.2
    have U13 := hide H13.out.sg.bufs.2.2.2
    have V13 := hide H13.out.sg.view.2.2.2
    rw [← gcs.out]
    refine (markState_to (k := 1) (by omega) hB.out H13.out.sg).mono ?_
    rintro e w14 ⟨rfl, hst14, hin14⟩
    have hI := hide (hin14 lo2 V (fun i h => ⟨M7.out i h, T7.out i h⟩))
    have hlo2 : lo2 ≤ w13.heap.size := Nat.le_trans P7.out (Nat.le_of_lt H13.out.z.lt)
    have hlt2 : lo < lo2 := Nat.lt_of_le_of_lt L5.out U7.out
    have hE14 := H13.out.e.inn hI.out (Nat.lt_trans N5.out.2.1 hlt2) hlo2
    have hY14 := H13.out.y.inn hI.out (Or.inl (Nat.lt_trans N5.out.1 hlt2))
    have hZ14 := H13.out.z.inn hI.out (Or.inr (Nat.le_refl _))
    have hX14 := H13.out.x.inn hI.out (Or.inl U7.out)
    have hD14 := H13.out.sd.inn hI.out (fun i k => Or.inl (Nat.le_trans (N5.out.2.2 i k) (Nat.le_of_lt hlt2)))
    have H14 := hide (show StX n T hi V q1 qu A1 A2 c1 c2 p s0.kind s0.next d (mkSt 1 g) w14 from ⟨hE14, hY14, hZ14, hX14, hD14, hst14⟩)
    have B14 := hide (B13.out.trans ((hI.out.below hlo2).mono (Nat.le_of_lt (Nat.lt_trans N5.out.2.1 hlt2))))
    have Z14 := hide (show Blk w14 V 48 #[.int .i64 s0.kind, .slice g.pc.A g.pc.n g.pc.c, .slice g.F.A g.F.n g.F.c, .slice g.mem.A g.mem.n g.mem.c, .slice g.bufs.A g.bufs.n g.bufs.c, .slice g.H.A g.H.n g.H.c, .slice g.view.A g.view.n g.view.c, .slice g.sc.A g.sc.n g.sc.c, .int .i64 s0.next] from hZ14)
    clear hE14 hY14 hZ14 hX14 hD14 hst14 hin14 hI hlo2 hlt2 H13 B13
    obtain ⟨mz, hmz⟩ : ∃ mz, mz = stK7 1 g := ⟨_, rfl⟩
    have hmz0 : decide (mz < 0) = false := decide_eq_false (by
      obtain ⟨-, -, -, -, -, -, h7, -⟩ := stK_le (k := 1) (by omega) hB.out
      omega)
    rw [← hmz]
    replace hmz := hide hmz
    have hmm : (mz != mz) = false := by simp
    obtain ⟨z0, z1, z2, z3, z4, z5, z6, z7, z8⟩ := nine_cells Z14.out
    go_wp2_with fail
    clear z0 z1 z2 z3 z4 z5 z6 z7 z8
    rw [← gcs.out]
    have kh := heldState_to (k := 1) (by omega) hB.out H14.out.sg F13.out U13.out V13.out
    rw [← hmz.out] at kh
    refine kh.mono ?_
    clear kh
    rintro e w15 ⟨rfl, hb15⟩
    have H15 := hide (H14.out.next hb15)
    have B15 := hide (B14.out.trans (hb15.mono H14.out.nle))
    have Z15 := hide (Z14.out.below hb15 Z14.out.lt)
    clear hb15 H14 B14 Z14
    obtain ⟨x0, x1⟩ := H15.out.e.cells
    go_wp2_with fail
    clear x0 x1
    refine (H15.out.e.copy hzp.out).mono ?_
    rintro e w16 ⟨q3, qx, rfl, hc16, hb16⟩
    have C16 := hide hc16
    have H16 := hide (H15.out.next hb16)
    have B16 := hide (B15.out.trans (hb16.mono H15.out.nle))
    have Z16 := hide (Z15.out.below hb16 Z15.out.lt)
    clear hc16 hb16 H15 B15 Z15
    go_wp2_with fail
    refine (kI.out _ _ _ _ _ (C16.out.arg hzp.out)).mono ?_
    rintro e w17 ⟨f, rfl, hf17, -, hs17, hb17⟩
    have G17 := hide hf17
    have Q17 := hide (Q3.out.symm.trans hs17)
    have H17 := hide (H16.out.next hb17)
    have B17 := hide (B16.out.trans (hb17.mono H16.out.nle))
    have Z17 := hide (Z16.out.below hb17 Z16.out.lt)
    have fcs := hide (show f.cells = #[.int .i64 s0.kind, .slice f.pc.A f.pc.n f.pc.c, .slice f.F.A f.F.n f.F.c, .slice f.mem.A f.mem.n f.mem.c, .slice f.bufs.A f.bufs.n f.bufs.c, .slice f.H.A f.H.n f.H.c, .slice f.view.A f.view.n f.view.c, .slice f.sc.A f.sc.n f.sc.c, .int .i64 s0.next] from by unfold StD.cells; rw [hs17.kind, hs17.next])
    clear hf17 hs17 hb17 H16 B16 Z16 C16
    have hb18 : Below w17.heap.size w17 (w17.alloc (Obj.cells f.cells 48)) := below1 _ _
    have Y18 := hide (Blk.new w17 48 f.cells)
    have G18 := hide (G17.out.next hb18)
    have H18 := hide (H17.out.next hb18)
    have B18 := hide (B17.out.trans (hb18.mono H17.out.nle))
    have Z18 := hide (Z17.out.below hb18 Z17.out.lt)
    clear hb18
    rw [show #[Value.agg f.cells, Value.bool false] = #[Value.agg #[.int .i64 s0.kind, .slice f.pc.A f.pc.n f.pc.c, .slice f.F.A f.F.n f.F.c, .slice f.mem.A f.mem.n f.mem.c, .slice f.bufs.A f.bufs.n f.bufs.c, .slice f.H.A f.H.n f.H.c, .slice f.view.A f.view.n f.view.c, .slice f.sc.A f.sc.n f.sc.c, .int .i64 s0.next], Value.bool false] from by rw [fcs.out]]
    rw [fcs.out] at Y18 G18 H18 B18 Z18
    obtain ⟨z0, z1, z2, z3, z4, z5, z6, z7, z8⟩ := nine_cells Y18.out
    obtain ⟨y0, y1, y2, y3, y4, y5, y6, y7, y8⟩ := nine_cells H18.out.y
    have l0 := Y18.out.lt
    have l1 := H17.out.lt
    go_wp2_with fail
    clear z0 z1 z2 z3 z4 z5 z6 z7 z8 y0 y1 y2 y3 y4 y5 y6 y7 y8 l0 l1 G17 H17 B17 Z17
    obtain ⟨w18, hw18⟩ : ∃ wq, wq = w17.alloc (Obj.cells #[.int .i64 s0.kind, .slice f.pc.A f.pc.n f.pc.c, .slice f.F.A f.F.n f.F.c, .slice f.mem.A f.mem.n f.mem.c, .slice f.bufs.A f.bufs.n f.bufs.c, .slice f.H.A f.H.n f.H.c, .slice f.view.A f.view.n f.view.c, .slice f.sc.A f.sc.n f.sc.c, .int .i64 s0.next] 48) := ⟨_, rfl⟩
    rw [← hw18] at Y18 G18 H18 B18 Z18 ⊢
    clear hw18
    refine (eqState_in s0.kind s0.next Q17.out.symm G18.out H18.out.sd).mono ?_
    rintro e w19 ⟨rfl, hb19⟩
    have H19 := hide (H18.out.next hb19)
    have B19 := hide (B18.out.trans (hb19.mono H18.out.nle))
    have Z19 := hide (Z18.out.below hb19 Z18.out.lt)
    clear hb19 H18 B18 Z18 G18 Y18
    obtain ⟨z0, z1, z2, z3, z4, z5, z6, z7, z8⟩ := nine_cells Z19.out
    go_wp2_with fail
    clear z0 z1 z2 z3 z4 z5 z6 z7 z8
    rw [← gcs.out]
    have kh := heldState_to (k := 1) (by omega) hB.out H19.out.sg F13.out U13.out V13.out
    rw [← hmz.out] at kh
    refine kh.mono ?_
    clear kh
    rintro e w20 ⟨rfl, hb20⟩
    have B20 := hide (B19.out.trans (hb20.mono H19.out.nle))
    clear hb20
    go_wp2_with fail
    go_ret
    rw [← hn.out]
    exact ⟨rfl, B20.out⟩
set_option maxRecDepth 100000 in
set_option maxHeartbeats 12800000 in
theorem exStart_true (p : ProgD) (kd : Int) (A1 A2 : Option Addr) (c1 c2 : Nat) (w : World) (hp : ProgAt w (Old w.heap.size) (.agg #[.slice A1 p.init.length c1, .slice A2 p.ts.length c2]) p) (s0 : StD) (hsB : stB s0 ≤ 1048576)
    (kS : Hid (∀ A1 A2 c1 c2 w, PArg w A1 A2 c1 c2 p → Calls Try.prog 27 #[.agg #[.slice A1 p.init.length c1, .slice A2 p.ts.length c2], .int .i64 kd] w (StAns s0 true w)))
    (kI : Hid (∀ A1 A2 c1 c2 w, PArg w A1 A2 c1 c2 p → Calls Try.prog 28 #[.agg #[.slice A1 p.init.length c1, .slice A2 p.ts.length c2], .int .i64 kd] w (StAns s0 true w))) :
    Calls Try.prog 5 #[.agg #[.slice A1 p.init.length c1, .slice A2 p.ts.length c2], .int .i64 kd] w fun e w' => e = .returned (.bool true) ∧ Below w.heap.size w w' := by
  obtain ⟨n, hn⟩ : ∃ n, n = w.heap.size := ⟨_, rfl⟩
  have hb0 := hide (below1 w (Obj.cells #[.slice A1 p.init.length c1, .slice A2 p.ts.length c2] 25))
  have hE0 := hide (show EpR n A1 A2 c1 c2 p (w.alloc (Obj.cells #[.slice A1 p.init.length c1, .slice A2 p.ts.length c2] 25)) from by
    subst hn
    exact ⟨Blk.new w 25 #[.slice A1 p.init.length c1, .slice A2 p.ts.length c2], hp.below hb0.out (fun _ h => h)⟩)
  rw [← hn] at hb0
  clear hp
  obtain ⟨w0, hw0⟩ : ∃ wq, wq = w.alloc (Obj.cells #[.slice A1 p.init.length c1, .slice A2 p.ts.length c2] 25) := ⟨_, rfl⟩
  rw [← hw0] at hE0 hb0
  go_enter Try.func5, Try.ntmps5
  go_wp2_with fail
  try rw [← hw0]
  rw [← hn]
  replace hn := hide hn
  clear hw0
  refine (szProg_any p _ (Old n) 1048576 w0 (by omega) (by omega) hE0.out.lts hE0.out.pr).mono ?_
  rintro e w1 ⟨rfl, hb1⟩
  have E1 := hide (hE0.out.next hb1)
  have B1 := hide (hb0.out.trans (hb1.mono (Nat.le_of_lt hE0.out.bp.lt)))
  clear hE0 hb1 hb0
  by_cases hz : (1048576 : Int) < progSize p
  · rw [szR_neg hz]
    clear hz
    go_wp2_with fail
    go_ret
    rw [← hn.out]
    exact ⟨rfl, B1.out⟩
  · rw [szR_pos hz]
    obtain ⟨left, hleft⟩ : ∃ l : Int, l = 1048576 - (progSize p : Int) := ⟨_, rfl⟩
    rw [← hleft]
    have hlt0 : decide (left < 0) = false := decide_eq_false (by omega)
    have hzp : progSize p ≤ 1048576 := by omega
    replace hzp := hide hzp
    clear hz hleft
    obtain ⟨x0, x1⟩ := E1.out.cells
    have l0 := E1.out.bp.lt
    go_wp2_with fail
    clear x0 x1 l0 hlt0
    refine (E1.out.copy hzp.out).mono ?_
    rintro e w2 ⟨q0, qt, rfl, hc2, hb2⟩
    have C2 := hide hc2
    have E2 := hide (E1.out.next hb2)
    have B2 := hide (B1.out.trans (hb2.mono (Nat.le_of_lt E1.out.bp.lt)))
    clear hc2 hb2 E1 B1
    obtain ⟨x0, x1⟩ := E2.out.cells
    go_wp2_with fail
    clear x0 x1
    refine (kS.out _ _ _ _ _ (C2.out.arg hzp.out)).mono ?_
    rintro e w3 ⟨d, rfl, hd3, hl3, hs3, hb3⟩
    have D3 := hide hd3
    have Q3 := hide hs3
    have E3 := hide (E2.out.next hb3)
    have B3 := hide (B2.out.trans (hb3.mono (Nat.le_of_lt E2.out.bp.lt)))
    have hs3k := hs3.kind
    have hs3n := hs3.next
    clear hd3 hl3 hs3 hb3 E2 B2 C2
    have dcs := hide (show d.cells = #[.int .i64 s0.kind, .slice d.pc.A d.pc.n d.pc.c, .slice d.F.A d.F.n d.F.c, .slice d.mem.A d.mem.n d.mem.c, .slice d.bufs.A d.bufs.n d.bufs.c, .slice d.H.A d.H.n d.H.c, .slice d.view.A d.view.n d.view.c, .slice d.sc.A d.sc.n d.sc.c, .int .i64 s0.next] from by unfold StD.cells; rw [hs3k, hs3n])
    have hb4 : Below w3.heap.size w3 (w3.alloc (Obj.cells d.cells 48)) := below1 _ _
    have Y4 := hide (Blk.new w3 48 d.cells)
    have D4 := hide (D3.out.next hb4)
    have E4 := hide (E3.out.next hb4)
    have B4 := hide (B3.out.trans (hb4.mono (Nat.le_of_lt E3.out.bp.lt)))
    clear hb4
    have hdk : d.kind = s0.kind := hs3k.symm
    have hdn : d.next = s0.next := hs3n.symm
    rw [show #[Value.agg d.cells, Value.bool true] = #[Value.agg #[.int .i64 s0.kind, .slice d.pc.A d.pc.n d.pc.c, .slice d.F.A d.F.n d.F.c, .slice d.mem.A d.mem.n d.mem.c, .slice d.bufs.A d.bufs.n d.bufs.c, .slice d.H.A d.H.n d.H.c, .slice d.view.A d.view.n d.view.c, .slice d.sc.A d.sc.n d.sc.c, .int .i64 s0.next], Value.bool true] from by rw [dcs.out]]
    rw [dcs.out] at Y4 D4 E4 B4
    obtain ⟨x0, x1⟩ := E3.out.cells
    have l0 := E3.out.bp.lt
    clear hdk hdn hs3k hs3n
    go_wp2_with fail
    clear x0 x1 l0 D3 E3 B3
    obtain ⟨w4, hw4⟩ : ∃ wq, wq = w3.alloc (Obj.cells #[.int .i64 s0.kind, .slice d.pc.A d.pc.n d.pc.c, .slice d.F.A d.F.n d.F.c, .slice d.mem.A d.mem.n d.mem.c, .slice d.bufs.A d.bufs.n d.bufs.c, .slice d.H.A d.H.n d.H.c, .slice d.view.A d.view.n d.view.c, .slice d.sc.A d.sc.n d.sc.c, .int .i64 s0.next] 48) := ⟨_, rfl⟩
    rw [← hw4] at Y4 D4 E4 B4 ⊢
    obtain ⟨T, hT⟩ : ∃ T, T = w3.heap.size := ⟨_, rfl⟩
    rw [← hT] at Y4 ⊢
    clear hw4 hT
    refine (E4.out.copy hzp.out).mono ?_
    rintro e w5 ⟨q1, qu, rfl, hc5, hb5⟩
    have C5 := hide hc5
    have Y5 := hide (Y4.out.below hb5 Y4.out.lt)
    have D5 := hide (D4.out.next hb5)
    have E5 := hide (E4.out.next hb5)
    have B5 := hide (B4.out.trans (hb5.mono (Nat.le_of_lt E4.out.bp.lt)))
    have N5 := hide (show T < w4.heap.size ∧ n < w4.heap.size ∧ (∀ i, i < 7 → (d.iv i).2 ≤ w4.heap.size) from ⟨Y4.out.lt, E4.out.bp.lt, D4.out.bnd⟩)
    obtain ⟨lo, hlo⟩ : ∃ x, x = w4.heap.size := ⟨_, rfl⟩
    rw [← hlo] at C5 N5
    have L5 := hide (show lo ≤ w5.heap.size from by rw [hlo]; exact hb5.size)
    clear hc5 hb5 Y4 D4 E4 B4 hlo
    have I5 := hide C5.out.in_
    obtain ⟨hi, hhi⟩ : ∃ x, x = w5.heap.size := ⟨_, rfl⟩
    rw [← hhi] at I5 L5
    have hb6 : Below w5.heap.size w5 (w5.alloc (Obj.cells #[.slice (some ⟨q1, 0, none⟩) p.init.length p.init.length, .slice (some ⟨qu, 0, none⟩) p.ts.length p.ts.length] 31)) := below1 _ _
    have X6 := hide (Blk.new w5 31 #[.slice (some ⟨q1, 0, none⟩) p.init.length p.init.length, .slice (some ⟨qu, 0, none⟩) p.ts.length p.ts.length])
    rw [← hhi] at X6
    have C6 := hide (C5.out.next hb6)
    have I6 := hide (I5.out.next hb6)
    have Y6 := hide (Y5.out.below hb6 Y5.out.lt)
    have D6 := hide (D5.out.next hb6)
    have E6 := hide (E5.out.next hb6)
    have B6 := hide (B5.out.trans (hb6.mono (Nat.le_of_lt E5.out.bp.lt)))
    have z0 := X6.out.cell 0
    have z1 := X6.out.cell 1
    have l0 := X6.out.lt
    have L6 := hide (show hi ≤ (w5.alloc (Obj.cells #[.slice (some ⟨q1, 0, none⟩) p.init.length p.init.length, .slice (some ⟨qu, 0, none⟩) p.ts.length p.ts.length] 31)).heap.size from by simp; omega)
    rw [hhi] at z0 z1 l0
    simp only [List.getElem?_toArray, List.getElem?_cons_zero, List.getElem?_cons_succ] at z0 z1
    clear hb6
    go_wp2_with fail
    clear z0 z1 l0 C5 I5 Y5 D5 E5 B5
    obtain ⟨w6, hw6⟩ : ∃ wq, wq = w5.alloc (Obj.cells #[.slice (some ⟨q1, 0, none⟩) p.init.length p.init.length, .slice (some ⟨qu, 0, none⟩) p.ts.length p.ts.length] 31) := ⟨_, rfl⟩
    rw [← hw6] at X6 C6 I6 Y6 D6 E6 B6 L6 ⊢
    rw [← hhi]
    clear hw6 hhi
    refine (kI.out _ _ _ _ _ (C6.out.arg hzp.out)).mono ?_
    rintro e w7 ⟨g, rfl, hg7, hl7, hs7, hb7⟩
    have G7 := hide hg7
    have Q7 := hide (Q3.out.symm.trans hs7)
    have M7 := hide (fun i hi7 => hl7 i hi7)
    have T7 := hide hg7.bnd
    have U7 := hide (show hi < w6.heap.size from X6.out.lt)
    have P7 := hide (show w6.heap.size ≤ w7.heap.size from hb7.size)
    obtain ⟨lo2, hlo2⟩ : ∃ x, x = w6.heap.size := ⟨_, rfl⟩
    rw [← hlo2] at M7 U7 P7
    have C7 := hide (C6.out.next hb7)
    have I7 := hide (I6.out.next hb7)
    have X7 := hide (X6.out.below hb7 X6.out.lt)
    have Y7 := hide (Y6.out.below hb7 Y6.out.lt)
    have D7 := hide (D6.out.next hb7)
    have E7 := hide (E6.out.next hb7)
    have B7 := hide (B6.out.trans (hb7.mono (Nat.le_of_lt E6.out.bp.lt)))
    have L7 := hide (Nat.le_trans L6.out hb7.size)
    have gcs := hide (show g.cells = #[.int .i64 s0.kind, .slice g.pc.A g.pc.n g.pc.c, .slice g.F.A g.F.n g.F.c, .slice g.mem.A g.mem.n g.mem.c, .slice g.bufs.A g.bufs.n g.bufs.c, .slice g.H.A g.H.n g.H.c, .slice g.view.A g.view.n g.view.c, .slice g.sc.A g.sc.n g.sc.c, .int .i64 s0.next] from by unfold StD.cells; rw [hs7.kind, hs7.next])
    clear hg7 hl7 hs7 hb7 C6 I6 X6 Y6 D6 E6 B6 L6 hlo2
    have hb8 : Below w7.heap.size w7 (w7.alloc (Obj.cells g.cells 48)) := below1 _ _
    have Z8 := hide (Blk.new w7 48 g.cells)
    have G8 := hide (G7.out.next hb8)
    have C8 := hide (C7.out.next hb8)
    have I8 := hide (I7.out.next hb8)
    have X8 := hide (X7.out.below hb8 X7.out.lt)
    have Y8 := hide (Y7.out.below hb8 Y7.out.lt)
    have D8 := hide (D7.out.next hb8)
    have E8 := hide (E7.out.next hb8)
    have B8 := hide (B7.out.trans (hb8.mono (Nat.le_of_lt E7.out.bp.lt)))
    clear hb8
    rw [show #[Value.agg g.cells, Value.bool true] = #[Value.agg #[.int .i64 s0.kind, .slice g.pc.A g.pc.n g.pc.c, .slice g.F.A g.F.n g.F.c, .slice g.mem.A g.mem.n g.mem.c, .slice g.bufs.A g.bufs.n g.bufs.c, .slice g.H.A g.H.n g.H.c, .slice g.view.A g.view.n g.view.c, .slice g.sc.A g.sc.n g.sc.c, .int .i64 s0.next], Value.bool true] from by rw [gcs.out]]
    rw [gcs.out] at Z8 G8 C8 I8 X8 Y8 D8 E8 B8
    obtain ⟨y0, y1, y2, y3, y4, y5, y6, y7, y8⟩ := nine_cells Y8.out
    obtain ⟨z0, z1, z2, z3, z4, z5, z6, z7, z8⟩ := nine_cells Z8.out
    have l0 := Z8.out.lt
    have l1 := Y8.out.lt
    go_wp2_with fail
    clear y0 y1 y2 y3 y4 y5 y6 y7 y8 z0 z1 z2 z3 z4 z5 z6 z7 z8 l0 l1 X7 Y7 D7 E7 B7 C7 I7 G7
    have L8 := hide (show hi ≤ (w7.alloc (Obj.cells #[.int .i64 s0.kind, .slice g.pc.A g.pc.n g.pc.c, .slice g.F.A g.F.n g.F.c, .slice g.mem.A g.mem.n g.mem.c, .slice g.bufs.A g.bufs.n g.bufs.c, .slice g.H.A g.H.n g.H.c, .slice g.view.A g.view.n g.view.c, .slice g.sc.A g.sc.n g.sc.c, .int .i64 s0.next] 48)).heap.size from by simp; have := L7.out; omega)
    have W8 := hide (show hi ≤ w7.heap.size from L7.out)
    clear L7
    obtain ⟨w8, hw8⟩ : ∃ wq, wq = w7.alloc (Obj.cells #[.int .i64 s0.kind, .slice g.pc.A g.pc.n g.pc.c, .slice g.F.A g.F.n g.F.c, .slice g.mem.A g.mem.n g.mem.c, .slice g.bufs.A g.bufs.n g.bufs.c, .slice g.H.A g.H.n g.H.c, .slice g.view.A g.view.n g.view.c, .slice g.sc.A g.sc.n g.sc.c, .int .i64 s0.next] 48) := ⟨_, rfl⟩
    rw [← hw8] at Z8 G8 C8 I8 X8 Y8 D8 E8 B8 L8 ⊢
    obtain ⟨V, hV⟩ : ∃ V, V = w7.heap.size := ⟨_, rfl⟩
    rw [← hV] at Z8 W8 T7 P7 ⊢
    clear hw8 hV
    have H8 := hide (show StX n T hi V q1 qu A1 A2 c1 c2 p s0.kind s0.next d g w8 from ⟨E8.out, Y8.out, Z8.out, X8.out, D8.out, G8.out⟩)
    clear E8 Y8 Z8 X8 D8 G8
    refine (eqState_in s0.kind s0.next Q7.out.symm H8.out.sg H8.out.sd).mono ?_
    rintro e w9 ⟨rfl, hb9⟩
    have H9 := hide (H8.out.next hb9)
    have C9 := hide (C8.out.next hb9)
    have I9 := hide (I8.out.next hb9)
    have B9 := hide (B8.out.trans (hb9.mono H8.out.nle))
    have L9 := hide (Nat.le_trans L8.out hb9.size)
    clear hb9 H8 C8 I8 B8 L8
    replace H9 := hide (H9.out.next (Below.refl _ _).drew)
    replace C9 := hide (C9.out.next (Below.refl _ _).drew)
    replace I9 := hide (I9.out.next (Below.refl _ _).drew)
    replace B9 := hide B9.out.drew
    replace L9 := hide (show hi ≤ w9.drew.heap.size from L9.out)
    go_wp2_with fail
    refine wp_region_held_drew (S := (fun w' => (w'.cell? ⟨n, 0, none⟩ = some (.slice A1 p.init.length c1) ∧ w'.cell? ⟨n, 1, none⟩ = some (.slice A2 p.ts.length c2)) ∧ w'.cell? ⟨hi, 0, none⟩ = some (.slice (some ⟨q1, 0, none⟩) p.init.length p.init.length) ∧ w'.cell? ⟨hi, 1, none⟩ = some (.slice (some ⟨qu, 0, none⟩) p.ts.length p.ts.length))) (by kernel_rfl) ?_ (fun hHeld => ?_)
    · exact H9.out.c10
    refine wpAnyH_take (i := 0) (oi := { dst := some 45, op := Op.load 31 (Operand.tmp 8), type := 31, pos := "exact.go:1799", after := #[], guard := none }) (v := ?_) rfl (by kernel_rfl) (by kernel_rfl) (by kernel_rfl) (fun _ _ _ h => h) (Or.inl ⟨by rfl, ?_⟩) hHeld ?_
    rotate_left
    · (intro wq hSw; (try dsimp only at hSw); first | (go_simp; done) | (go_simp; with_reducible rfl))
    try simp only [Act.put, List.setIfInBounds_toArray, List.set_cons_zero, List.set_cons_succ]
    refine wpAnyH_take (i := 1) (oi := { dst := some 46, op := Op.load 25 (Operand.tmp 2), type := 25, pos := "exact.go:1799", after := #[], guard := none }) (v := ?_) rfl (by kernel_rfl) (by kernel_rfl) (by kernel_rfl) (fun _ _ _ h => h) (Or.inl ⟨by rfl, ?_⟩) hHeld ?_
    rotate_left
    · (intro wq hSw; (try dsimp only at hSw); first | (go_simp; done) | (go_simp; with_reducible rfl))
    try simp only [Act.put, List.setIfInBounds_toArray, List.set_cons_zero, List.set_cons_succ]
    refine wpAnyH_ready (rs := [2]) (by kernel_rfl) (by simp) ?_
    refine AllReadyH.cons (o := { dst := some 47, op := Op.call { callee := Callee.value (Operand.func 16), args := #[Operand.tmp 46], argTypes := #[25] }, type := 31, pos := "exact.go:1799", after := #[{ on := 1, ground := Ground.data }], guard := none }) rfl (fun K hK => ?_) AllReadyH.nil
    go_simp
    go_at_call 16; refine (H9.out.e.copy hzp.out).mono ?_; rintro e w10 ⟨q2, qv, rfl, hc10, hb10⟩; have K10 := hide hc10; have H10 := hide (H9.out.next hb10); have C10 := hide (C9.out.next hb10); have I10 := hide (I9.out.next hb10); have B10 := hide (B9.out.trans (hb10.mono H9.out.nle)); have L10 := hide (Nat.le_trans L9.out hb10.size); clear hc10 hb10
    refine hK.out _ _ ?_ (fun hHeldN => ?_)
    · exact H10.out.c10
    clear hK K hHeld
    have hHeld := hHeldN
    clear hHeldN
    try simp only [Act.put, List.setIfInBounds_toArray, List.set_cons_zero, List.set_cons_succ]
    refine wpAnyH_ready (rs := [3]) (by kernel_rfl) (by simp) ?_
    refine AllReadyH.cons (o := { dst := some 48, op := Op.call { callee := Callee.value (Operand.func 19), args := #[Operand.tmp 45, Operand.tmp 47], argTypes := #[31, 31] }, type := 4, pos := "exact.go:1799", after := #[{ on := 0, ground := Ground.data }, { on := 2, ground := Ground.data }, { on := 2, ground := Ground.chain }], guard := none }) rfl (fun K hK => ?_) AllReadyH.nil
    go_simp
    go_at_call 19; refine (C10.out.same K10.out hzp.out).mono ?_; rintro e w11 ⟨rfl, hb11⟩; have H11 := hide (H10.out.next hb11); have C11 := hide (C10.out.next hb11); have I11 := hide (I10.out.next hb11); have B11 := hide (B10.out.trans (hb11.mono H10.out.nle)); have L11 := hide (Nat.le_trans L10.out hb11.size); clear hb11
    refine hK.out _ _ ?_ (fun hHeldN => ?_)
    · exact H11.out.c10
    clear hK K hHeld
    have hHeld := hHeldN
    clear hHeldN
    try simp only [Act.put, List.setIfInBounds_toArray, List.set_cons_zero, List.set_cons_succ]
    refine wpAnyH_take (i := 4) (oi := { dst := some 49, op := Op.unOp UnOp.not 4 (Operand.tmp 48), type := 4, pos := "exact.go:1799", after := #[{ on := 3, ground := Ground.data }], guard := none }) (v := ?_) rfl (by kernel_rfl) (by kernel_rfl) (by kernel_rfl) (fun _ _ _ h => h) (Or.inl ⟨by rfl, ?_⟩) hHeld ?_
    rotate_left
    · (intro wq hSw; (try dsimp only at hSw); first | (go_simp; done) | (go_simp; with_reducible rfl))
    try simp only [Act.put, List.setIfInBounds_toArray, List.set_cons_zero, List.set_cons_succ]
    refine wpAnyH_done (by kernel_rfl) ?_ _
    clear hHeld C10 K10 I10 H9 C9 I9 B9 L9 H10 B10 L10 C11
    have z0 := H11.out.x.cell 0
    have z1 := H11.out.x.cell 1
    simp only [List.getElem?_toArray, List.getElem?_cons_zero, List.getElem?_cons_succ] at z0 z1
    go_wp2_with fail
    clear z0 z1
    refine (I11.out.mark hzp.out).mono ?_
    rintro e w12 ⟨⟨m, rfl, hm⟩, hi12⟩
    have H12 := hide (H11.out.inn hi12 N5.out.2.1 N5.out.1 (Nat.le_refl _) W8.out N5.out.2.2 (fun i h => Nat.le_trans (Nat.le_of_lt U7.out) (M7.out i h)) (Nat.le_trans L5.out L11.out))
    have B12 := hide (B11.out.trans ((hi12.below (Nat.le_trans L5.out L11.out)).mono (Nat.le_of_lt N5.out.2.1)))
    clear hi12 H11 B11 I11 L11
    have hm0 : decide ((m : Int) < 0) = false := decide_eq_false (by omega)
    clear hm
    obtain ⟨y0, y1, y2, y3, y4, y5, y6, y7, y8⟩ := nine_cells H12.out.y
    obtain ⟨z0, z1, z2, z3, z4, z5, z6, z7, z8⟩ := nine_cells H12.out.z
    have l0 := H12.out.lt
    have O12 := hide (show hi ≤ w12.heap.size from Nat.le_of_lt H12.out.x.lt)
    go_wp2_with fail
    clear y0 y1 y2 y3 y4 y5 y6 y7 y8 z0 z1 z2 z3 z4 z5 z6 z7 z8 l0 O12
    refine (eqState_in s0.kind s0.next Q7.out.symm H12.out.sg H12.out.sd).mono ?_
    rintro e w13 ⟨rfl, hb13⟩
    have H13 := hide (H12.out.next hb13)
    have B13 := hide (B12.out.trans (hb13.mono H12.out.nle))
    clear hb13 H12 B12
    obtain ⟨z0, z1, z2, z3, z4, z5, z6, z7, z8⟩ := nine_cells H13.out.z
    go_wp2_with fail
    clear z0 z1 z2 z3 z4 z5 z6 z7 z8 hm0
    have hB := hide (show (1 : Int) + stB g ≤ 4194304 from by rw [← stB_same (Q3.out.trans Q7.out)]; have := hsB; omega)
    have F13 := hide H13.out.sg.F.2.2.2
    have U13 := hide H13.out.sg.bufs.2.2.2
    have V13 := hide H13.out.sg.view.2.2.2
    rw [← gcs.out]
    refine (markState_to (k := 1) (by omega) hB.out H13.out.sg).mono ?_
    rintro e w14 ⟨rfl, hst14, hin14⟩
    have hI := hide (hin14 lo2 V (fun i h => ⟨M7.out i h, T7.out i h⟩))
    have hlo2 : lo2 ≤ w13.heap.size := Nat.le_trans P7.out (Nat.le_of_lt H13.out.z.lt)
    have hlt2 : lo < lo2 := Nat.lt_of_le_of_lt L5.out U7.out
    have hE14 := H13.out.e.inn hI.out (Nat.lt_trans N5.out.2.1 hlt2) hlo2
    have hY14 := H13.out.y.inn hI.out (Or.inl (Nat.lt_trans N5.out.1 hlt2))
    have hZ14 := H13.out.z.inn hI.out (Or.inr (Nat.le_refl _))
    have hX14 := H13.out.x.inn hI.out (Or.inl U7.out)
    have hD14 := H13.out.sd.inn hI.out (fun i k => Or.inl (Nat.le_trans (N5.out.2.2 i k) (Nat.le_of_lt hlt2)))
    have H14 := hide (show StX n T hi V q1 qu A1 A2 c1 c2 p s0.kind s0.next d (mkSt 1 g) w14 from ⟨hE14, hY14, hZ14, hX14, hD14, hst14⟩)
    have B14 := hide (B13.out.trans ((hI.out.below hlo2).mono (Nat.le_of_lt (Nat.lt_trans N5.out.2.1 hlt2))))
    have Z14 := hide (show Blk w14 V 48 #[.int .i64 s0.kind, .slice g.pc.A g.pc.n g.pc.c, .slice g.F.A g.F.n g.F.c, .slice g.mem.A g.mem.n g.mem.c, .slice g.bufs.A g.bufs.n g.bufs.c, .slice g.H.A g.H.n g.H.c, .slice g.view.A g.view.n g.view.c, .slice g.sc.A g.sc.n g.sc.c, .int .i64 s0.next] from hZ14)
    clear hE14 hY14 hZ14 hX14 hD14 hst14 hin14 hI hlo2 hlt2 H13 B13
    obtain ⟨mz, hmz⟩ : ∃ mz, mz = stK7 1 g := ⟨_, rfl⟩
    have hmz0 : decide (mz < 0) = false := decide_eq_false (by
      obtain ⟨-, -, -, -, -, -, h7, -⟩ := stK_le (k := 1) (by omega) hB.out
      omega)
    rw [← hmz]
    replace hmz := hide hmz
    have hmm : (mz != mz) = false := by simp
    obtain ⟨z0, z1, z2, z3, z4, z5, z6, z7, z8⟩ := nine_cells Z14.out
    go_wp2_with fail
    clear z0 z1 z2 z3 z4 z5 z6 z7 z8
    rw [← gcs.out]
    have kh := heldState_to (k := 1) (by omega) hB.out H14.out.sg F13.out U13.out V13.out
    rw [← hmz.out] at kh
    refine kh.mono ?_
    clear kh
    rintro e w15 ⟨rfl, hb15⟩
    have H15 := hide (H14.out.next hb15)
    have B15 := hide (B14.out.trans (hb15.mono H14.out.nle))
    have Z15 := hide (Z14.out.below hb15 Z14.out.lt)
    clear hb15 H14 B14 Z14
    obtain ⟨x0, x1⟩ := H15.out.e.cells
    go_wp2_with fail
    clear x0 x1
    refine (H15.out.e.copy hzp.out).mono ?_
    rintro e w16 ⟨q3, qx, rfl, hc16, hb16⟩
    have C16 := hide hc16
    have H16 := hide (H15.out.next hb16)
    have B16 := hide (B15.out.trans (hb16.mono H15.out.nle))
    have Z16 := hide (Z15.out.below hb16 Z15.out.lt)
    clear hc16 hb16 H15 B15 Z15
    go_wp2_with fail
    refine (kI.out _ _ _ _ _ (C16.out.arg hzp.out)).mono ?_
    rintro e w17 ⟨f, rfl, hf17, -, hs17, hb17⟩
    have G17 := hide hf17
    have Q17 := hide (Q3.out.symm.trans hs17)
    have H17 := hide (H16.out.next hb17)
    have B17 := hide (B16.out.trans (hb17.mono H16.out.nle))
    have Z17 := hide (Z16.out.below hb17 Z16.out.lt)
    have fcs := hide (show f.cells = #[.int .i64 s0.kind, .slice f.pc.A f.pc.n f.pc.c, .slice f.F.A f.F.n f.F.c, .slice f.mem.A f.mem.n f.mem.c, .slice f.bufs.A f.bufs.n f.bufs.c, .slice f.H.A f.H.n f.H.c, .slice f.view.A f.view.n f.view.c, .slice f.sc.A f.sc.n f.sc.c, .int .i64 s0.next] from by unfold StD.cells; rw [hs17.kind, hs17.next])
    clear hf17 hs17 hb17 H16 B16 Z16 C16
    have hb18 : Below w17.heap.size w17 (w17.alloc (Obj.cells f.cells 48)) := below1 _ _
    have Y18 := hide (Blk.new w17 48 f.cells)
    have G18 := hide (G17.out.next hb18)
    have H18 := hide (H17.out.next hb18)
    have B18 := hide (B17.out.trans (hb18.mono H17.out.nle))
    have Z18 := hide (Z17.out.below hb18 Z17.out.lt)
    clear hb18
    rw [show #[Value.agg f.cells, Value.bool true] = #[Value.agg #[.int .i64 s0.kind, .slice f.pc.A f.pc.n f.pc.c, .slice f.F.A f.F.n f.F.c, .slice f.mem.A f.mem.n f.mem.c, .slice f.bufs.A f.bufs.n f.bufs.c, .slice f.H.A f.H.n f.H.c, .slice f.view.A f.view.n f.view.c, .slice f.sc.A f.sc.n f.sc.c, .int .i64 s0.next], Value.bool true] from by rw [fcs.out]]
    rw [fcs.out] at Y18 G18 H18 B18 Z18
    obtain ⟨z0, z1, z2, z3, z4, z5, z6, z7, z8⟩ := nine_cells Y18.out
    obtain ⟨y0, y1, y2, y3, y4, y5, y6, y7, y8⟩ := nine_cells H18.out.y
    have l0 := Y18.out.lt
    have l1 := H17.out.lt
    go_wp2_with fail
    clear z0 z1 z2 z3 z4 z5 z6 z7 z8 y0 y1 y2 y3 y4 y5 y6 y7 y8 l0 l1 G17 H17 B17 Z17
    obtain ⟨w18, hw18⟩ : ∃ wq, wq = w17.alloc (Obj.cells #[.int .i64 s0.kind, .slice f.pc.A f.pc.n f.pc.c, .slice f.F.A f.F.n f.F.c, .slice f.mem.A f.mem.n f.mem.c, .slice f.bufs.A f.bufs.n f.bufs.c, .slice f.H.A f.H.n f.H.c, .slice f.view.A f.view.n f.view.c, .slice f.sc.A f.sc.n f.sc.c, .int .i64 s0.next] 48) := ⟨_, rfl⟩
    rw [← hw18] at Y18 G18 H18 B18 Z18 ⊢
    clear hw18
    refine (eqState_in s0.kind s0.next Q17.out.symm G18.out H18.out.sd).mono ?_
    rintro e w19 ⟨rfl, hb19⟩
    have H19 := hide (H18.out.next hb19)
    have B19 := hide (B18.out.trans (hb19.mono H18.out.nle))
    have Z19 := hide (Z18.out.below hb19 Z18.out.lt)
    clear hb19 H18 B18 Z18 G18 Y18
    obtain ⟨z0, z1, z2, z3, z4, z5, z6, z7, z8⟩ := nine_cells Z19.out
    go_wp2_with fail
    clear z0 z1 z2 z3 z4 z5 z6 z7 z8
    rw [← gcs.out]
    have kh := heldState_to (k := 1) (by omega) hB.out H19.out.sg F13.out U13.out V13.out
    rw [← hmz.out] at kh
    refine kh.mono ?_
    clear kh
    rintro e w20 ⟨rfl, hb20⟩
    have B20 := hide (B19.out.trans (hb20.mono H19.out.nle))
    clear hb20
    go_wp2_with fail
    go_ret
    rw [← hn.out]
    exact ⟨rfl, B20.out⟩


theorem exStart_walk (v : Value) (p : ProgD) (kd : Int) (w : World) (hp : ProgAt w (Old w.heap.size) v p) :
    Calls Try.prog 5 #[v, .int .i64 kd] w fun e w' => e = .returned (.bool true) ∧ Below w.heap.size w w' := by
  obtain ⟨A1, c1, A2, c2, rfl, hcc, hi, ht⟩ := hp
  obtain ⟨s0, ok, hs, k1, k2⟩ := start_both p kd
  cases ok
  · exact exStart_false p kd A1 A2 c1 c2 w ⟨A1, c1, A2, c2, rfl, hcc, hi, ht⟩ s0 hs (hide k1) (hide k2)
  · exact exStart_true p kd A1 A2 c1 c2 w ⟨A1, c1, A2, c2, rfl, hcc, hi, ht⟩ s0 hs (hide k1) (hide k2)
end Go.Proofs.Ytfkaacfeikmabaa
