/- The walk of FnStarts: it answers true. -/
import Derived.Test.YtfkaacfeikmabaaMf0
import Derived.Test.YtfkaacfeikmabaaMf35
import Derived.Test.YtfkaacfeikmabaaMf36
import Derived.Test.YtfkaacfeikmabaaMf37
import Derived.Deep.RegionHeld3
import Derived.Deep.DeepCutAuto
namespace Go.Proofs.Ytfkaacfeikmabaa
open Go.RowKit

theorem nineC {w : World} {g : Nat} {t : TypeId} {v0 v1 v2 v3 v4 v5 v6 v7 v8 : Value} (h : Blk w g t #[v0, v1, v2, v3, v4, v5, v6, v7, v8]) : w.cell? ⟨g, 0, none⟩ = some v0 ∧ w.cell? ⟨g, 1, none⟩ = some v1 ∧ w.cell? ⟨g, 2, none⟩ = some v2 ∧ w.cell? ⟨g, 3, none⟩ = some v3 ∧ w.cell? ⟨g, 4, none⟩ = some v4 ∧ w.cell? ⟨g, 5, none⟩ = some v5 ∧ w.cell? ⟨g, 6, none⟩ = some v6 ∧ w.cell? ⟨g, 7, none⟩ = some v7 ∧ w.cell? ⟨g, 8, none⟩ = some v8 := ⟨h.cell 0, h.cell 1, h.cell 2, h.cell 3, h.cell 4, h.cell 5, h.cell 6, h.cell 7, h.cell 8⟩
theorem histK_at (init : List Int) (n k : Nat) (h : k < n) : geth (histK init n) k = [⟨(k : Int), geti init k, false, idsL init.length⟩] := by
  unfold geth histK
  rw [List.getD_eq_getElem?_getD, List.getElem?_map, List.getElem?_range h]
  rfl
structure FsR (X Y : Nat) (A1 A2 : Option Addr) (c1 c2 : Nat) (p : ProgD) (K N : Int) (d : StD) (w : World) : Prop where
  x : Blk w X 31 #[.slice A1 p.init.length c1, .slice A2 p.ts.length c2]
  pr : PArg w A1 A2 c1 c2 p
  y : Blk w Y 48 #[.int .i64 K, .slice d.pc.A d.pc.n d.pc.c, .slice d.F.A d.F.n d.F.c, .slice d.mem.A d.mem.n d.mem.c, .slice d.bufs.A d.bufs.n d.bufs.c, .slice d.H.A d.H.n d.H.c, .slice d.view.A d.view.n d.view.c, .slice d.sc.A d.sc.n d.sc.c, .int .i64 N]
  st : StIn w d
section
variable {X Y c1 c2 : Nat} {A1 A2 : Option Addr} {p : ProgD} {K N : Int} {d : StD} {w w' : World}
theorem FsR.next (h : FsR X Y A1 A2 c1 c2 p K N d w) (hb : Below w.heap.size w w') : FsR X Y A1 A2 c1 c2 p K N d w' :=
  ⟨h.x.below hb h.x.lt, h.pr.next hb, h.y.below hb h.y.lt, h.st.next hb⟩
theorem FsR.drew (h : FsR X Y A1 A2 c1 c2 p K N d w) : FsR X Y A1 A2 c1 c2 p K N d w.drew := h.next (Below.refl _ _).drew
theorem FsR.cells (h : FsR X Y A1 A2 c1 c2 p K N d w) : (w.cell? ⟨X, 0, none⟩ = some (.slice A1 p.init.length c1) ∧ w.cell? ⟨X, 1, none⟩ = some (.slice A2 p.ts.length c2)) ∧ w.cell? ⟨Y, 0, none⟩ = some (.int .i64 K) ∧ w.cell? ⟨Y, 1, none⟩ = some (.slice d.pc.A d.pc.n d.pc.c) ∧ w.cell? ⟨Y, 2, none⟩ = some (.slice d.F.A d.F.n d.F.c) ∧ w.cell? ⟨Y, 3, none⟩ = some (.slice d.mem.A d.mem.n d.mem.c) ∧ w.cell? ⟨Y, 4, none⟩ = some (.slice d.bufs.A d.bufs.n d.bufs.c) ∧ w.cell? ⟨Y, 5, none⟩ = some (.slice d.H.A d.H.n d.H.c) ∧ w.cell? ⟨Y, 6, none⟩ = some (.slice d.view.A d.view.n d.view.c) ∧ w.cell? ⟨Y, 7, none⟩ = some (.slice d.sc.A d.sc.n d.sc.c) ∧ w.cell? ⟨Y, 8, none⟩ = some (.int .i64 N) := ⟨⟨h.x.cell 0, h.x.cell 1⟩, nineC h.y⟩
theorem FsR.zero (h : FsR X Y A1 A2 c1 c2 p K N d w) (he : d.pc.n = 0) : w.cell? ⟨Y, 0, none⟩ = some (.int .i64 K) ∧ w.cell? ⟨Y, 1, none⟩ = some (.slice d.pc.A 0 d.pc.c) ∧ w.cell? ⟨Y, 2, none⟩ = some (.slice d.F.A d.F.n d.F.c) ∧ w.cell? ⟨Y, 3, none⟩ = some (.slice d.mem.A d.mem.n d.mem.c) ∧ w.cell? ⟨Y, 4, none⟩ = some (.slice d.bufs.A d.bufs.n d.bufs.c) ∧ w.cell? ⟨Y, 5, none⟩ = some (.slice d.H.A d.H.n d.H.c) ∧ w.cell? ⟨Y, 6, none⟩ = some (.slice d.view.A d.view.n d.view.c) ∧ w.cell? ⟨Y, 7, none⟩ = some (.slice d.sc.A d.sc.n d.sc.c) ∧ w.cell? ⟨Y, 8, none⟩ = some (.int .i64 N) := by
  have h1 := h.cells.2
  rw [he] at h1
  exact h1
theorem FsR.lts (h : FsR X Y A1 A2 c1 c2 p K N d w) : X < w.heap.size ∧ Y < w.heap.size := ⟨h.x.lt, h.y.lt⟩
theorem FsR.prog (h : FsR X Y A1 A2 c1 c2 p K N d w) : ProgAt w (Old w.heap.size) (.agg #[.slice A1 p.init.length c1, .slice A2 p.ts.length c2]) p := ⟨A1, c1, A2, c2, rfl, h.pr.cc, h.pr.ini, h.pr.ts⟩
end
set_option maxRecDepth 100000 in
set_option maxHeartbeats 12800000 in
theorem fnStarts_walk (A : Option Addr) (n c : Nat) (w : World) (hn : n ≤ c) (ha : BytesAt w (Old w.heap.size) A n) :
    Calls Try.prog 10 #[.slice A n c] w fun e w' => e = .returned (.bool true) ∧ Below w.heap.size w w' := by
  go_enter Try.func10, Try.ntmps10
  go_wp2_with fail
  refine (drawStart_any A n c w hn ha).mono ?_
  rintro e w1 ⟨A1, A2, c1, c2, p, kd, rfl, hp, hb1⟩
  have P1 : PArg w1 A1 A2 c1 c2 p := by
    obtain ⟨B1, d1, B2, d2, hv, hcc, hi, ht⟩ := hp
    simp only [Value.agg.injEq, Array.mk.injEq, List.cons.injEq, Value.slice.injEq, and_true] at hv
    obtain ⟨⟨rfl, -, rfl⟩, rfl, -, rfl⟩ := hv
    exact ⟨hcc, hi, ht⟩
  obtain ⟨s0, ok, hkS, hkI, hcase⟩ := start_told p kd
  have kS := hide hkS
  have kI := hide hkI
  replace hcase := hide hcase
  have hb2 := below1 w1 (Obj.cells #[.slice A1 p.init.length c1, .slice A2 p.ts.length c2] 31)
  have X2 := hide (Blk.new w1 31 #[.slice A1 p.init.length c1, .slice A2 p.ts.length c2])
  have P2 := hide (P1.next hb2)
  have B2 := hide (below_then hb1 hb2)
  have z0 := X2.out.cell 0
  have z1 := X2.out.cell 1
  have l0 := X2.out.lt
  simp only [List.getElem?_toArray, List.getElem?_cons_zero, List.getElem?_cons_succ] at z0 z1
  clear hp P1 hb1 hb2 hkS hkI
  go_wp2_with fail
  obtain ⟨w2, hw2⟩ : ∃ wq, wq = w1.alloc (Obj.cells #[.slice A1 p.init.length c1, .slice A2 p.ts.length c2] 31) := ⟨_, rfl⟩
  rw [← hw2] at X2 P2 B2 ⊢
  obtain ⟨X, hX⟩ : ∃ X, X = w1.heap.size := ⟨_, rfl⟩
  rw [← hX] at X2 ⊢
  clear z0 z1 l0 hw2 hX
  refine (kI.out _ _ _ _ _ P2.out).mono ?_
  rintro e w3 ⟨d, rfl, hd3, -, hs3, hb3⟩
  have dcs := hide (show d.cells = #[.int .i64 s0.kind, .slice d.pc.A d.pc.n d.pc.c, .slice d.F.A d.F.n d.F.c, .slice d.mem.A d.mem.n d.mem.c, .slice d.bufs.A d.bufs.n d.bufs.c, .slice d.H.A d.H.n d.H.c, .slice d.view.A d.view.n d.view.c, .slice d.sc.A d.sc.n d.sc.c, .int .i64 s0.next] from by unfold StD.cells; rw [hs3.kind, hs3.next])
  have Q := hide hs3
  have hb4 : Below w3.heap.size w3 (w3.alloc (Obj.cells d.cells 48)) := below1 _ _
  have hb34 := below_then hb3 hb4
  have hY4 := Blk.new w3 48 d.cells
  have H4 := hide (And.intro (X2.out.below hb34 X2.out.lt) (And.intro (P2.out.next hb34) (And.intro hY4 (hd3.next hb4))))
  have B4 := hide (below_then B2.out hb34)
  rw [show #[Value.agg d.cells, Value.bool ok] = #[Value.agg #[.int .i64 s0.kind, .slice d.pc.A d.pc.n d.pc.c, .slice d.F.A d.F.n d.F.c, .slice d.mem.A d.mem.n d.mem.c, .slice d.bufs.A d.bufs.n d.bufs.c, .slice d.H.A d.H.n d.H.c, .slice d.view.A d.view.n d.view.c, .slice d.sc.A d.sc.n d.sc.c, .int .i64 s0.next], Value.bool ok] from by rw [dcs.out]]
  rw [dcs.out] at H4 B4
  have H4 : Hid (FsR X w3.heap.size A1 A2 c1 c2 p s0.kind s0.next d (w3.alloc (Obj.cells #[.int .i64 s0.kind, .slice d.pc.A d.pc.n d.pc.c, .slice d.F.A d.F.n d.F.c, .slice d.mem.A d.mem.n d.mem.c, .slice d.bufs.A d.bufs.n d.bufs.c, .slice d.H.A d.H.n d.H.c, .slice d.view.A d.view.n d.view.c, .slice d.sc.A d.sc.n d.sc.c, .int .i64 s0.next] 48))) := hide ⟨H4.out.1, H4.out.2.1, H4.out.2.2.1, H4.out.2.2.2⟩
  have z0 := H4.out.x.cell 0
  have z1 := H4.out.x.cell 1
  have l0 := H4.out.lts
  simp only [List.getElem?_toArray, List.getElem?_cons_zero, List.getElem?_cons_succ] at z0 z1
  clear hb3 hb4 hb34 hY4 hd3 hs3 X2 P2 B2
  go_wp2_with fail
  obtain ⟨w4, hw4⟩ : ∃ wq, wq = w3.alloc (Obj.cells #[.int .i64 s0.kind, .slice d.pc.A d.pc.n d.pc.c, .slice d.F.A d.F.n d.F.c, .slice d.mem.A d.mem.n d.mem.c, .slice d.bufs.A d.bufs.n d.bufs.c, .slice d.H.A d.H.n d.H.c, .slice d.view.A d.view.n d.view.c, .slice d.sc.A d.sc.n d.sc.c, .int .i64 s0.next] 48) := ⟨_, rfl⟩
  rw [← hw4] at H4 B4 ⊢
  obtain ⟨Y, hY⟩ : ∃ Y, Y = w3.heap.size := ⟨_, rfl⟩
  rw [← hY] at H4 ⊢
  clear z0 z1 l0 hw4 hY
  refine (kS.out _ _ _ _ _ H4.out.pr).mono ?_
  rintro e w5 ⟨d5, rfl, -, -, -, hb5⟩
  have H5 := hide (H4.out.next hb5)
  have B5 := hide (below_then B4.out hb5)
  clear hb5 H4 B4 kS kI
  have hb6 : Below w5.heap.size w5 (w5.alloc (Obj.cells #[.int .i64 d5.kind, .slice d5.pc.A d5.pc.n d5.pc.c, .slice d5.F.A d5.F.n d5.F.c, .slice d5.mem.A d5.mem.n d5.mem.c, .slice d5.bufs.A d5.bufs.n d5.bufs.c, .slice d5.H.A d5.H.n d5.H.c, .slice d5.view.A d5.view.n d5.view.c, .slice d5.sc.A d5.sc.n d5.sc.c, .int .i64 d5.next] 48)) := below1 _ _
  have H6 := hide (H5.out.next hb6)
  have B6 := hide (below_then B5.out hb6)
  rw [show #[Value.agg d5.cells, Value.bool ok] = #[Value.agg #[.int .i64 d5.kind, .slice d5.pc.A d5.pc.n d5.pc.c, .slice d5.F.A d5.F.n d5.F.c, .slice d5.mem.A d5.mem.n d5.mem.c, .slice d5.bufs.A d5.bufs.n d5.bufs.c, .slice d5.H.A d5.H.n d5.H.c, .slice d5.view.A d5.view.n d5.view.c, .slice d5.sc.A d5.sc.n d5.sc.c, .int .i64 d5.next], Value.bool ok] from rfl]
  clear hb6 H5 B5
  rcases hcase.out with ⟨rfl, rfl⟩ | ⟨rfl, hB, hk, rfl⟩ | ⟨rfl, hB, rfl, rfl⟩
  · have hpc := hide (show d.pc.n = 0 from Q.out.pc.1.symm)
    clear hcase Q dcs
    obtain ⟨y0, y1, y2, y3, y4, y5, y6, y7, y8⟩ := H6.out.zero hpc.out
    have l0 := H6.out.lts
    go_wp2_with fail
    clear y0 y1 y2 y3 y4 y5 y6 y7 y8 l0
    refine (states_any _).mono ?_
    rintro e w7 ⟨rfl, hb7⟩
    have B7 := hide (below_then B6.out hb7)
    clear hb7 B6 H6
    go_wp2_with fail
    go_ret
    exact ⟨rfl, B7.out⟩
  · have hk2 : (kd == 2) = false := by rcases hk with rfl | rfl <;> rfl
    have hk3 : (kd != 2) = true := by rcases hk with rfl | rfl <;> rfl
    have hk4 : (kd == kd) = true := by simp
    have hSt := hide (show stateB p d = true from by rw [← stateB_same Q.out]; exact startC_state hB hk)
    have hmz := hide (show d.mem.zs = p.init ∧ d.mem.n = p.init.length from ⟨Q.out.mem.2.symm, Q.out.mem.1.symm⟩)
    have H6 : Hid (FsR X Y A1 A2 c1 c2 p kd 0 d _) := H6
    have dcs : Hid (d.cells = #[.int .i64 kd, .slice d.pc.A d.pc.n d.pc.c, .slice d.F.A d.F.n d.F.c, .slice d.mem.A d.mem.n d.mem.c, .slice d.bufs.A d.bufs.n d.bufs.c, .slice d.H.A d.H.n d.H.c, .slice d.view.A d.view.n d.view.c, .slice d.sc.A d.sc.n d.sc.c, .int .i64 0]) := dcs
    have hn6 : p.init.length ≤ 6 := (prog_small hB).1
    clear hcase Q hB hk
    go_wp2_with fail
    obtain ⟨w6, hw6⟩ : ∃ wq, wq = w5.alloc (Obj.cells #[.int .i64 d5.kind, .slice d5.pc.A d5.pc.n d5.pc.c, .slice d5.F.A d5.F.n d5.F.c, .slice d5.mem.A d5.mem.n d5.mem.c, .slice d5.bufs.A d5.bufs.n d5.bufs.c, .slice d5.H.A d5.H.n d5.H.c, .slice d5.view.A d5.view.n d5.view.c, .slice d5.sc.A d5.sc.n d5.sc.c, .int .i64 d5.next] 48) := ⟨_, rfl⟩
    rw [← hw6] at H6 B6 ⊢
    clear hw6
    go_loopw [9] (fun i wr => ∃ (k : Nat), k ≤ p.init.length ∧ i = .int .i64 k ∧ Hid (FsR X Y A1 A2 c1 c2 p kd 0 d wr) ∧ Hid (Below w.heap.size w wr)) (fun i _ => p.init.length - (intOf i).toNat)
    case atStart => exact ⟨0, Nat.zero_le _, rfl, H6, B6⟩
    case round =>
      clear H6 B6
      obtain ⟨k, hk, rfl, H7, B7⟩ := hrel
      by_cases hlt : k < p.init.length
      · have hm := H7.out.st.mem.at_
        rw [hmz.out.1] at hm
        obtain ⟨bm, om, eM, -, hcm⟩ := hm.2 (by omega)
        obtain ⟨b1, o1, rfl, -, hc1⟩ := H7.out.pr.ini.2 (by omega)
        have m0 := hcm k hlt
        have i0 := hc1 k hlt
        obtain ⟨⟨x0, x1⟩, y0, y1, y2, y3, y4, y5, y6, y7, y8⟩ := H7.out.cells
        rw [eM, hmz.out.2] at y3
        obtain ⟨l0, l1⟩ := H7.out.lts
        have hkn : decide ((k : Int) < (p.init.length : Int)) = true := decide_eq_true (by omega)
        have hkm : decide ((p.init.length : Int) ≤ (k : Int)) = false := decide_eq_false (by omega)
        have hS := hide (show ((fun w' => (w'.cell? ⟨X, 0, none⟩ = some (.slice (some ⟨b1, o1, none⟩) p.init.length c1) ∧ w'.cell? ⟨X, 1, none⟩ = some (.slice A2 p.ts.length c2)) ∧ (w'.cell? ⟨Y, 0, none⟩ = some (.int .i64 kd) ∧ w'.cell? ⟨Y, 1, none⟩ = some (.slice d.pc.A d.pc.n d.pc.c) ∧ w'.cell? ⟨Y, 2, none⟩ = some (.slice d.F.A d.F.n d.F.c) ∧ w'.cell? ⟨Y, 3, none⟩ = some (.slice (some ⟨bm, om, none⟩) p.init.length d.mem.c) ∧ w'.cell? ⟨Y, 4, none⟩ = some (.slice d.bufs.A d.bufs.n d.bufs.c) ∧ w'.cell? ⟨Y, 5, none⟩ = some (.slice d.H.A d.H.n d.H.c) ∧ w'.cell? ⟨Y, 6, none⟩ = some (.slice d.view.A d.view.n d.view.c) ∧ w'.cell? ⟨Y, 7, none⟩ = some (.slice d.sc.A d.sc.n d.sc.c) ∧ w'.cell? ⟨Y, 8, none⟩ = some (.int .i64 0)) ∧ w'.cell? ⟨b1, o1 + k, none⟩ = some (.int .i64 (geti p.init k)) ∧ w'.cell? ⟨bm, om + k, none⟩ = some (.int .i64 (geti p.init k))) : World → Prop) wr.drew from ⟨⟨x0, x1⟩, ⟨y0, y1, y2, y3, y4, y5, y6, y7, y8⟩, i0, m0⟩)
        have hne : (geti p.init k != geti p.init k) = false := by simp
        have hk0 : (0 : Int) ≤ (k : Int) := by omega
        clear hm hcm hc1 eM
        go_wp2_with fail
        clear x0 x1 y0 y1 y2 y3 y4 y5 y6 y7 y8 i0 m0
        replace H7 := hide H7.out.drew
        replace B7 := hide B7.out.drew
        refine wp_region_held_drew (S := (fun w' => (w'.cell? ⟨X, 0, none⟩ = some (.slice (some ⟨b1, o1, none⟩) p.init.length c1) ∧ w'.cell? ⟨X, 1, none⟩ = some (.slice A2 p.ts.length c2)) ∧ (w'.cell? ⟨Y, 0, none⟩ = some (.int .i64 kd) ∧ w'.cell? ⟨Y, 1, none⟩ = some (.slice d.pc.A d.pc.n d.pc.c) ∧ w'.cell? ⟨Y, 2, none⟩ = some (.slice d.F.A d.F.n d.F.c) ∧ w'.cell? ⟨Y, 3, none⟩ = some (.slice (some ⟨bm, om, none⟩) p.init.length d.mem.c) ∧ w'.cell? ⟨Y, 4, none⟩ = some (.slice d.bufs.A d.bufs.n d.bufs.c) ∧ w'.cell? ⟨Y, 5, none⟩ = some (.slice d.H.A d.H.n d.H.c) ∧ w'.cell? ⟨Y, 6, none⟩ = some (.slice d.view.A d.view.n d.view.c) ∧ w'.cell? ⟨Y, 7, none⟩ = some (.slice d.sc.A d.sc.n d.sc.c) ∧ w'.cell? ⟨Y, 8, none⟩ = some (.int .i64 0)) ∧ w'.cell? ⟨b1, o1 + k, none⟩ = some (.int .i64 (geti p.init k)) ∧ w'.cell? ⟨bm, om + k, none⟩ = some (.int .i64 (geti p.init k)))) (by kernel_rfl) ?_ (fun hHeld => ?_)
        · exact hS.out
        refine wpAnyH_take (i := 0) (oi := { dst := some 73, op := Op.move (Operand.tmp 4), type := 3, pos := "laws.go:215", after := #[], guard := none }) (v := ?_) rfl (by kernel_rfl) (by kernel_rfl) (by kernel_rfl) (fun _ _ _ h => h) (Or.inl ⟨by rfl, ?_⟩) hHeld ?_
        rotate_left
        · (intro wq hSw; (try dsimp only at hSw); first | (go_simp; done) | (go_simp; with_reducible rfl))
        try simp only [Act.put, qa, qb, qc]
        refine wpAnyH_take (i := 1) (oi := { dst := some 74, op := Op.binOp BinOp.eql 3 (Operand.tmp 73) (Operand.const (Value.int IntKind.i64 2)) 3, type := 4, pos := "laws.go:215", after := #[{ on := 0, ground := Ground.data }], guard := none }) (v := ?_) rfl (by kernel_rfl) (by kernel_rfl) (by kernel_rfl) (fun _ _ _ h => h) (Or.inl ⟨by rfl, ?_⟩) hHeld ?_
        rotate_left
        · (intro wq hSw; (try dsimp only at hSw); first | (go_simp; done) | (go_simp; with_reducible rfl))
        try simp only [Act.put, qa, qb, qc]
        refine wpAnyH_take (i := 2) (oi := { dst := some 75, op := Op.move (Operand.tmp 74), type := 4, pos := "laws.go:215", after := #[{ on := 1, ground := Ground.data }], guard := none }) (v := ?_) rfl (by kernel_rfl) (by kernel_rfl) (by kernel_rfl) (fun _ _ _ h => h) (Or.inl ⟨by rfl, ?_⟩) hHeld ?_
        rotate_left
        · (intro wq hSw; (try dsimp only at hSw); first | (go_simp; done) | (go_simp; with_reducible rfl))
        try simp only [Act.put, qa, qb, qc]
        refine wpAnyH_take (i := 3) (oi := { dst := some 76, op := Op.fieldAddr 48 (Operand.tmp 5) 5, type := 0, pos := "laws.go:215", after := #[{ on := 2, ground := Ground.guard }], guard := some (2, true) }) (v := undef) rfl (by kernel_rfl) (by kernel_rfl) (by kernel_rfl) (fun _ _ _ h => h) (Or.inr ⟨by rfl, rfl⟩) hHeld ?_
        try simp only [Act.put, qa, qb, qc]
        refine wpAnyH_take (i := 4) (oi := { dst := some 77, op := Op.load 46 (Operand.tmp 76), type := 46, pos := "laws.go:215", after := #[{ on := 3, ground := Ground.data }, { on := 2, ground := Ground.guard }], guard := some (2, true) }) (v := undef) rfl (by kernel_rfl) (by kernel_rfl) (by kernel_rfl) (fun _ _ _ h => h) (Or.inr ⟨by rfl, rfl⟩) hHeld ?_
        try simp only [Act.put, qa, qb, qc]
        refine wpAnyH_take (i := 5) (oi := { dst := some 78, op := Op.move (Operand.tmp 9), type := 3, pos := "laws.go:215", after := #[{ on := 2, ground := Ground.guard }], guard := some (2, true) }) (v := undef) rfl (by kernel_rfl) (by kernel_rfl) (by kernel_rfl) (fun _ _ _ h => h) (Or.inr ⟨by rfl, rfl⟩) hHeld ?_
        try simp only [Act.put, qa, qb, qc]
        refine wpAnyH_take (i := 6) (oi := { dst := some 79, op := Op.indexAddr 46 (Operand.tmp 77) (Operand.tmp 78), type := 0, pos := "laws.go:215", after := #[{ on := 4, ground := Ground.data }, { on := 5, ground := Ground.data }, { on := 2, ground := Ground.guard }], guard := some (2, true) }) (v := undef) rfl (by kernel_rfl) (by kernel_rfl) (by kernel_rfl) (fun _ _ _ h => h) (Or.inr ⟨by rfl, rfl⟩) hHeld ?_
        try simp only [Act.put, qa, qb, qc]
        refine wpAnyH_take (i := 7) (oi := { dst := some 80, op := Op.fieldAddr 84 (Operand.tmp 79) 0, type := 0, pos := "laws.go:215", after := #[{ on := 6, ground := Ground.data }, { on := 2, ground := Ground.guard }], guard := some (2, true) }) (v := undef) rfl (by kernel_rfl) (by kernel_rfl) (by kernel_rfl) (fun _ _ _ h => h) (Or.inr ⟨by rfl, rfl⟩) hHeld ?_
        try simp only [Act.put, qa, qb, qc]
        refine wpAnyH_take (i := 8) (oi := { dst := some 81, op := Op.load 82 (Operand.tmp 80), type := 82, pos := "laws.go:215", after := #[{ on := 7, ground := Ground.data }, { on := 2, ground := Ground.guard }], guard := some (2, true) }) (v := undef) rfl (by kernel_rfl) (by kernel_rfl) (by kernel_rfl) (fun _ _ _ h => h) (Or.inr ⟨by rfl, rfl⟩) hHeld ?_
        try simp only [Act.put, qa, qb, qc]
        refine wpAnyH_take (i := 9) (oi := { dst := some 82, op := Op.call { callee := Callee.builtin Builtin.len, args := #[Operand.tmp 81], argTypes := #[82] }, type := 3, pos := "laws.go:215", after := #[{ on := 8, ground := Ground.data }, { on := 2, ground := Ground.guard }], guard := some (2, true) }) (v := undef) rfl (by kernel_rfl) (by kernel_rfl) (by kernel_rfl) (fun _ _ _ h => h) (Or.inr ⟨by rfl, rfl⟩) hHeld ?_
        try simp only [Act.put, qa, qb, qc]
        refine wpAnyH_take (i := 10) (oi := { dst := some 83, op := Op.binOp BinOp.neq 3 (Operand.tmp 82) (Operand.const (Value.int IntKind.i64 1)) 3, type := 4, pos := "laws.go:215", after := #[{ on := 9, ground := Ground.data }, { on := 2, ground := Ground.guard }], guard := some (2, true) }) (v := undef) rfl (by kernel_rfl) (by kernel_rfl) (by kernel_rfl) (fun _ _ _ h => h) (Or.inr ⟨by rfl, rfl⟩) hHeld ?_
        try simp only [Act.put, qa, qb, qc]
        refine wpAnyH_take (i := 11) (oi := { dst := some 84, op := Op.move (Operand.tmp 83), type := 4, pos := "laws.go:215", after := #[{ on := 10, ground := Ground.data }, { on := 2, ground := Ground.chain }, { on := 2, ground := Ground.guard }], guard := some (2, true) }) (v := undef) rfl (by kernel_rfl) (by kernel_rfl) (by kernel_rfl) (fun _ _ _ h => h) (Or.inr ⟨by rfl, rfl⟩) hHeld ?_
        try simp only [Act.put, qa, qb, qc]
        refine wpAnyH_take (i := 12) (oi := { dst := some 85, op := Op.fieldAddr 48 (Operand.tmp 5) 5, type := 0, pos := "laws.go:215", after := #[{ on := 11, ground := Ground.guard }], guard := some (11, false) }) (v := undef) rfl (by kernel_rfl) (by kernel_rfl) (by kernel_rfl) (fun _ _ _ h => h) (Or.inr ⟨by rfl, rfl⟩) hHeld ?_
        try simp only [Act.put, qa, qb, qc]
        refine wpAnyH_take (i := 13) (oi := { dst := some 86, op := Op.load 46 (Operand.tmp 85), type := 46, pos := "laws.go:215", after := #[{ on := 12, ground := Ground.data }, { on := 11, ground := Ground.guard }], guard := some (11, false) }) (v := undef) rfl (by kernel_rfl) (by kernel_rfl) (by kernel_rfl) (fun _ _ _ h => h) (Or.inr ⟨by rfl, rfl⟩) hHeld ?_
        try simp only [Act.put, qa, qb, qc]
        refine wpAnyH_take (i := 14) (oi := { dst := some 87, op := Op.move (Operand.tmp 9), type := 3, pos := "laws.go:215", after := #[{ on := 11, ground := Ground.guard }], guard := some (11, false) }) (v := undef) rfl (by kernel_rfl) (by kernel_rfl) (by kernel_rfl) (fun _ _ _ h => h) (Or.inr ⟨by rfl, rfl⟩) hHeld ?_
        try simp only [Act.put, qa, qb, qc]
        refine wpAnyH_take (i := 15) (oi := { dst := some 88, op := Op.indexAddr 46 (Operand.tmp 86) (Operand.tmp 87), type := 0, pos := "laws.go:215", after := #[{ on := 13, ground := Ground.data }, { on := 14, ground := Ground.data }, { on := 11, ground := Ground.guard }], guard := some (11, false) }) (v := undef) rfl (by kernel_rfl) (by kernel_rfl) (by kernel_rfl) (fun _ _ _ h => h) (Or.inr ⟨by rfl, rfl⟩) hHeld ?_
        try simp only [Act.put, qa, qb, qc]
        refine wpAnyH_take (i := 16) (oi := { dst := some 89, op := Op.fieldAddr 84 (Operand.tmp 88) 0, type := 0, pos := "laws.go:215", after := #[{ on := 15, ground := Ground.data }, { on := 11, ground := Ground.guard }], guard := some (11, false) }) (v := undef) rfl (by kernel_rfl) (by kernel_rfl) (by kernel_rfl) (fun _ _ _ h => h) (Or.inr ⟨by rfl, rfl⟩) hHeld ?_
        try simp only [Act.put, qa, qb, qc]
        refine wpAnyH_take (i := 17) (oi := { dst := some 90, op := Op.load 82 (Operand.tmp 89), type := 82, pos := "laws.go:215", after := #[{ on := 16, ground := Ground.data }, { on := 11, ground := Ground.guard }], guard := some (11, false) }) (v := undef) rfl (by kernel_rfl) (by kernel_rfl) (by kernel_rfl) (fun _ _ _ h => h) (Or.inr ⟨by rfl, rfl⟩) hHeld ?_
        try simp only [Act.put, qa, qb, qc]
        refine wpAnyH_take (i := 18) (oi := { dst := some 91, op := Op.indexAddr 82 (Operand.tmp 90) (Operand.const (Value.int IntKind.i64 0)), type := 0, pos := "laws.go:215", after := #[{ on := 17, ground := Ground.data }, { on := 11, ground := Ground.guard }], guard := some (11, false) }) (v := undef) rfl (by kernel_rfl) (by kernel_rfl) (by kernel_rfl) (fun _ _ _ h => h) (Or.inr ⟨by rfl, rfl⟩) hHeld ?_
        try simp only [Act.put, qa, qb, qc]
        refine wpAnyH_take (i := 19) (oi := { dst := some 92, op := Op.fieldAddr 86 (Operand.tmp 91) 1, type := 0, pos := "laws.go:215", after := #[{ on := 18, ground := Ground.data }, { on := 11, ground := Ground.guard }], guard := some (11, false) }) (v := undef) rfl (by kernel_rfl) (by kernel_rfl) (by kernel_rfl) (fun _ _ _ h => h) (Or.inr ⟨by rfl, rfl⟩) hHeld ?_
        try simp only [Act.put, qa, qb, qc]
        refine wpAnyH_take (i := 20) (oi := { dst := some 93, op := Op.load 3 (Operand.tmp 92), type := 3, pos := "laws.go:215", after := #[{ on := 19, ground := Ground.data }, { on := 11, ground := Ground.guard }], guard := some (11, false) }) (v := undef) rfl (by kernel_rfl) (by kernel_rfl) (by kernel_rfl) (fun _ _ _ h => h) (Or.inr ⟨by rfl, rfl⟩) hHeld ?_
        try simp only [Act.put, qa, qb, qc]
        refine wpAnyH_take (i := 21) (oi := { dst := some 94, op := Op.fieldAddr 31 (Operand.tmp 3) 0, type := 0, pos := "laws.go:215", after := #[{ on := 11, ground := Ground.guard }], guard := some (11, false) }) (v := undef) rfl (by kernel_rfl) (by kernel_rfl) (by kernel_rfl) (fun _ _ _ h => h) (Or.inr ⟨by rfl, rfl⟩) hHeld ?_
        try simp only [Act.put, qa, qb, qc]
        refine wpAnyH_take (i := 22) (oi := { dst := some 95, op := Op.load 22 (Operand.tmp 94), type := 22, pos := "laws.go:215", after := #[{ on := 21, ground := Ground.data }, { on := 11, ground := Ground.guard }], guard := some (11, false) }) (v := undef) rfl (by kernel_rfl) (by kernel_rfl) (by kernel_rfl) (fun _ _ _ h => h) (Or.inr ⟨by rfl, rfl⟩) hHeld ?_
        try simp only [Act.put, qa, qb, qc]
        refine wpAnyH_take (i := 23) (oi := { dst := some 96, op := Op.move (Operand.tmp 9), type := 3, pos := "laws.go:215", after := #[{ on := 11, ground := Ground.guard }], guard := some (11, false) }) (v := undef) rfl (by kernel_rfl) (by kernel_rfl) (by kernel_rfl) (fun _ _ _ h => h) (Or.inr ⟨by rfl, rfl⟩) hHeld ?_
        try simp only [Act.put, qa, qb, qc]
        refine wpAnyH_take (i := 24) (oi := { dst := some 97, op := Op.indexAddr 22 (Operand.tmp 95) (Operand.tmp 96), type := 0, pos := "laws.go:215", after := #[{ on := 22, ground := Ground.data }, { on := 23, ground := Ground.data }, { on := 11, ground := Ground.guard }], guard := some (11, false) }) (v := undef) rfl (by kernel_rfl) (by kernel_rfl) (by kernel_rfl) (fun _ _ _ h => h) (Or.inr ⟨by rfl, rfl⟩) hHeld ?_
        try simp only [Act.put, qa, qb, qc]
        refine wpAnyH_take (i := 25) (oi := { dst := some 98, op := Op.load 3 (Operand.tmp 97), type := 3, pos := "laws.go:215", after := #[{ on := 24, ground := Ground.data }, { on := 11, ground := Ground.guard }], guard := some (11, false) }) (v := undef) rfl (by kernel_rfl) (by kernel_rfl) (by kernel_rfl) (fun _ _ _ h => h) (Or.inr ⟨by rfl, rfl⟩) hHeld ?_
        try simp only [Act.put, qa, qb, qc]
        refine wpAnyH_take (i := 26) (oi := { dst := some 99, op := Op.binOp BinOp.neq 3 (Operand.tmp 93) (Operand.tmp 98) 3, type := 4, pos := "laws.go:215", after := #[{ on := 20, ground := Ground.data }, { on := 25, ground := Ground.data }, { on := 11, ground := Ground.guard }], guard := some (11, false) }) (v := undef) rfl (by kernel_rfl) (by kernel_rfl) (by kernel_rfl) (fun _ _ _ h => h) (Or.inr ⟨by rfl, rfl⟩) hHeld ?_
        try simp only [Act.put, qa, qb, qc]
        refine wpAnyH_take (i := 27) (oi := { dst := some 100, op := Op.pick (Operand.tmp 84) (Operand.const (Value.bool true)) (Operand.tmp 99), type := 4, pos := "laws.go:215", after := #[{ on := 11, ground := Ground.data }, { on := 26, ground := Ground.data }, { on := 2, ground := Ground.guard }], guard := some (2, true) }) (v := undef) rfl (by kernel_rfl) (by kernel_rfl) (by kernel_rfl) (fun _ _ _ h => h) (Or.inr ⟨by rfl, rfl⟩) hHeld ?_
        try simp only [Act.put, qa, qb, qc]
        refine wpAnyH_take (i := 28) (oi := { dst := some 101, op := Op.pick (Operand.tmp 75) (Operand.tmp 100) (Operand.const (Value.bool false)), type := 4, pos := "laws.go:215", after := #[{ on := 2, ground := Ground.data }, { on := 27, ground := Ground.data }], guard := none }) (v := ?_) rfl (by kernel_rfl) (by kernel_rfl) (by kernel_rfl) (fun _ _ _ h => h) (Or.inl ⟨by rfl, ?_⟩) hHeld ?_
        rotate_left
        · (intro wq hSw; (try dsimp only at hSw); first | (go_simp; done) | (go_simp; with_reducible rfl))
        try simp only [Act.put, qa, qb, qc]
        refine wpAnyH_take (i := 29) (oi := { dst := some 102, op := Op.move (Operand.tmp 101), type := 4, pos := "laws.go:215", after := #[{ on := 28, ground := Ground.data }, { on := 11, ground := Ground.chain }], guard := none }) (v := ?_) rfl (by kernel_rfl) (by kernel_rfl) (by kernel_rfl) (fun _ _ _ h => h) (Or.inl ⟨by rfl, ?_⟩) hHeld ?_
        rotate_left
        · (intro wq hSw; (try dsimp only at hSw); first | (go_simp; done) | (go_simp; with_reducible rfl))
        try simp only [Act.put, qa, qb, qc]
        refine wpAnyH_take (i := 30) (oi := { dst := some 103, op := Op.move (Operand.tmp 4), type := 3, pos := "laws.go:215", after := #[{ on := 29, ground := Ground.guard }], guard := some (29, false) }) (v := ?_) rfl (by kernel_rfl) (by kernel_rfl) (by kernel_rfl) (fun _ _ _ h => h) (Or.inl ⟨by rfl, ?_⟩) hHeld ?_
        rotate_left
        · (intro wq hSw; (try dsimp only at hSw); first | (go_simp; done) | (go_simp; with_reducible rfl))
        try simp only [Act.put, qa, qb, qc]
        refine wpAnyH_take (i := 31) (oi := { dst := some 104, op := Op.binOp BinOp.neq 3 (Operand.tmp 103) (Operand.const (Value.int IntKind.i64 2)) 3, type := 4, pos := "laws.go:215", after := #[{ on := 30, ground := Ground.data }, { on := 29, ground := Ground.guard }], guard := some (29, false) }) (v := ?_) rfl (by kernel_rfl) (by kernel_rfl) (by kernel_rfl) (fun _ _ _ h => h) (Or.inl ⟨by rfl, ?_⟩) hHeld ?_
        rotate_left
        · (intro wq hSw; (try dsimp only at hSw); first | (go_simp; done) | (go_simp; with_reducible rfl))
        try simp only [Act.put, qa, qb, qc]
        refine wpAnyH_take (i := 32) (oi := { dst := some 105, op := Op.move (Operand.tmp 104), type := 4, pos := "laws.go:215", after := #[{ on := 31, ground := Ground.data }, { on := 29, ground := Ground.chain }, { on := 29, ground := Ground.guard }], guard := some (29, false) }) (v := ?_) rfl (by kernel_rfl) (by kernel_rfl) (by kernel_rfl) (fun _ _ _ h => h) (Or.inl ⟨by rfl, ?_⟩) hHeld ?_
        rotate_left
        · (intro wq hSw; (try dsimp only at hSw); first | (go_simp; done) | (go_simp; with_reducible rfl))
        try simp only [Act.put, qa, qb, qc]
        refine wpAnyH_take (i := 33) (oi := { dst := some 106, op := Op.fieldAddr 48 (Operand.tmp 5) 3, type := 0, pos := "laws.go:215", after := #[{ on := 32, ground := Ground.guard }], guard := some (32, true) }) (v := ?_) rfl (by kernel_rfl) (by kernel_rfl) (by kernel_rfl) (fun _ _ _ h => h) (Or.inl ⟨by rfl, ?_⟩) hHeld ?_
        rotate_left
        · (intro wq hSw; (try dsimp only at hSw); first | (go_simp; done) | (go_simp; with_reducible rfl))
        try simp only [Act.put, qa, qb, qc]
        refine wpAnyH_take (i := 34) (oi := { dst := some 107, op := Op.load 22 (Operand.tmp 106), type := 22, pos := "laws.go:215", after := #[{ on := 33, ground := Ground.data }, { on := 32, ground := Ground.guard }], guard := some (32, true) }) (v := ?_) rfl (by kernel_rfl) (by kernel_rfl) (by kernel_rfl) (fun _ _ _ h => h) (Or.inl ⟨by rfl, ?_⟩) hHeld ?_
        rotate_left
        · (intro wq hSw; (try dsimp only at hSw); first | (go_simp; done) | (go_simp; with_reducible rfl))
        try simp only [Act.put, qa, qb, qc]
        refine wpAnyH_take (i := 35) (oi := { dst := some 108, op := Op.move (Operand.tmp 9), type := 3, pos := "laws.go:215", after := #[{ on := 32, ground := Ground.guard }], guard := some (32, true) }) (v := ?_) rfl (by kernel_rfl) (by kernel_rfl) (by kernel_rfl) (fun _ _ _ h => h) (Or.inl ⟨by rfl, ?_⟩) hHeld ?_
        rotate_left
        · (intro wq hSw; (try dsimp only at hSw); first | (go_simp; done) | (go_simp; with_reducible rfl))
        try simp only [Act.put, qa, qb, qc]
        refine wpAnyH_take (i := 36) (oi := { dst := some 109, op := Op.indexAddr 22 (Operand.tmp 107) (Operand.tmp 108), type := 0, pos := "laws.go:215", after := #[{ on := 34, ground := Ground.data }, { on := 35, ground := Ground.data }, { on := 32, ground := Ground.guard }], guard := some (32, true) }) (v := ?_) rfl (by kernel_rfl) (by kernel_rfl) (by kernel_rfl) (fun _ _ _ h => h) (Or.inl ⟨by rfl, ?_⟩) hHeld ?_
        rotate_left
        · (intro wq hSw; (try dsimp only at hSw); first | (go_simp; done) | (go_simp; with_reducible rfl))
        try simp only [Act.put, qa, qb, qc]
        refine wpAnyH_take (i := 37) (oi := { dst := some 110, op := Op.load 3 (Operand.tmp 109), type := 3, pos := "laws.go:215", after := #[{ on := 36, ground := Ground.data }, { on := 32, ground := Ground.guard }], guard := some (32, true) }) (v := ?_) rfl (by kernel_rfl) (by kernel_rfl) (by kernel_rfl) (fun _ _ _ h => h) (Or.inl ⟨by rfl, ?_⟩) hHeld ?_
        rotate_left
        · (intro wq hSw; (try dsimp only at hSw); first | (go_simp; done) | (go_simp; with_reducible rfl))
        try simp only [Act.put, qa, qb, qc]
        refine wpAnyH_take (i := 38) (oi := { dst := some 111, op := Op.fieldAddr 31 (Operand.tmp 3) 0, type := 0, pos := "laws.go:215", after := #[{ on := 32, ground := Ground.guard }], guard := some (32, true) }) (v := ?_) rfl (by kernel_rfl) (by kernel_rfl) (by kernel_rfl) (fun _ _ _ h => h) (Or.inl ⟨by rfl, ?_⟩) hHeld ?_
        rotate_left
        · (intro wq hSw; (try dsimp only at hSw); first | (go_simp; done) | (go_simp; with_reducible rfl))
        try simp only [Act.put, qa, qb, qc]
        refine wpAnyH_take (i := 39) (oi := { dst := some 112, op := Op.load 22 (Operand.tmp 111), type := 22, pos := "laws.go:215", after := #[{ on := 38, ground := Ground.data }, { on := 32, ground := Ground.guard }], guard := some (32, true) }) (v := ?_) rfl (by kernel_rfl) (by kernel_rfl) (by kernel_rfl) (fun _ _ _ h => h) (Or.inl ⟨by rfl, ?_⟩) hHeld ?_
        rotate_left
        · (intro wq hSw; (try dsimp only at hSw); first | (go_simp; done) | (go_simp; with_reducible rfl))
        try simp only [Act.put, qa, qb, qc]
        refine wpAnyH_take (i := 40) (oi := { dst := some 113, op := Op.move (Operand.tmp 9), type := 3, pos := "laws.go:215", after := #[{ on := 32, ground := Ground.guard }], guard := some (32, true) }) (v := ?_) rfl (by kernel_rfl) (by kernel_rfl) (by kernel_rfl) (fun _ _ _ h => h) (Or.inl ⟨by rfl, ?_⟩) hHeld ?_
        rotate_left
        · (intro wq hSw; (try dsimp only at hSw); first | (go_simp; done) | (go_simp; with_reducible rfl))
        try simp only [Act.put, qa, qb, qc]
        refine wpAnyH_take (i := 41) (oi := { dst := some 114, op := Op.indexAddr 22 (Operand.tmp 112) (Operand.tmp 113), type := 0, pos := "laws.go:215", after := #[{ on := 39, ground := Ground.data }, { on := 40, ground := Ground.data }, { on := 32, ground := Ground.guard }], guard := some (32, true) }) (v := ?_) rfl (by kernel_rfl) (by kernel_rfl) (by kernel_rfl) (fun _ _ _ h => h) (Or.inl ⟨by rfl, ?_⟩) hHeld ?_
        rotate_left
        · (intro wq hSw; (try dsimp only at hSw); first | (go_simp; done) | (go_simp; with_reducible rfl))
        try simp only [Act.put, qa, qb, qc]
        refine wpAnyH_take (i := 42) (oi := { dst := some 115, op := Op.load 3 (Operand.tmp 114), type := 3, pos := "laws.go:215", after := #[{ on := 41, ground := Ground.data }, { on := 32, ground := Ground.guard }], guard := some (32, true) }) (v := ?_) rfl (by kernel_rfl) (by kernel_rfl) (by kernel_rfl) (fun _ _ _ h => h) (Or.inl ⟨by rfl, ?_⟩) hHeld ?_
        rotate_left
        · (intro wq hSw; (try dsimp only at hSw); first | (go_simp; done) | (go_simp; with_reducible rfl))
        try simp only [Act.put, qa, qb, qc]
        refine wpAnyH_take (i := 43) (oi := { dst := some 116, op := Op.binOp BinOp.neq 3 (Operand.tmp 110) (Operand.tmp 115) 3, type := 4, pos := "laws.go:215", after := #[{ on := 37, ground := Ground.data }, { on := 42, ground := Ground.data }, { on := 32, ground := Ground.guard }], guard := some (32, true) }) (v := ?_) rfl (by kernel_rfl) (by kernel_rfl) (by kernel_rfl) (fun _ _ _ h => h) (Or.inl ⟨by rfl, ?_⟩) hHeld ?_
        rotate_left
        · (intro wq hSw; (try dsimp only at hSw); first | (go_simp; done) | (go_simp; with_reducible rfl))
        try simp only [Act.put, qa, qb, qc]
        refine wpAnyH_take (i := 44) (oi := { dst := some 117, op := Op.pick (Operand.tmp 105) (Operand.tmp 116) (Operand.const (Value.bool false)), type := 4, pos := "laws.go:215", after := #[{ on := 32, ground := Ground.data }, { on := 43, ground := Ground.data }, { on := 29, ground := Ground.guard }], guard := some (29, false) }) (v := ?_) rfl (by kernel_rfl) (by kernel_rfl) (by kernel_rfl) (fun _ _ _ h => h) (Or.inl ⟨by rfl, ?_⟩) hHeld ?_
        rotate_left
        · (intro wq hSw; (try dsimp only at hSw); first | (go_simp; done) | (go_simp; with_reducible rfl))
        try simp only [Act.put, qa, qb, qc]
        refine wpAnyH_take (i := 45) (oi := { dst := some 118, op := Op.pick (Operand.tmp 102) (Operand.const (Value.bool true)) (Operand.tmp 117), type := 4, pos := "laws.go:215", after := #[{ on := 29, ground := Ground.data }, { on := 44, ground := Ground.data }], guard := none }) (v := ?_) rfl (by kernel_rfl) (by kernel_rfl) (by kernel_rfl) (fun _ _ _ h => h) (Or.inl ⟨by rfl, ?_⟩) hHeld ?_
        rotate_left
        · (intro wq hSw; (try dsimp only at hSw); first | (go_simp; done) | (go_simp; with_reducible rfl))
        try simp only [Act.put, qa, qb, qc]
        refine wpAnyH_done (by kernel_rfl) ?_ _
        go_wp2_with fail
        go_roundw
        case rel => exact ⟨k + 1, by omega, by go_num, H7, B7⟩
        case measure => simp [intOf]; omega
      · obtain rfl : k = p.init.length := by omega
        obtain ⟨⟨x0, x1⟩, y0, y1, y2, y3, y4, y5, y6, y7, y8⟩ := H7.out.cells
        obtain ⟨l0, l1⟩ := H7.out.lts
        have hkn : decide ((p.init.length : Int) < (p.init.length : Int)) = false := decide_eq_false (by omega)
        go_wp2_with fail
        clear x0 x1 y0 y1 y2 y3 y4 y5 y6 y7 y8 l0 l1 hkn
        have kO := stateOk_any H7.out.prog H7.out.st.at_ H7.out.st.len
        rw [hSt.out, dcs.out] at kO
        refine kO.mono ?_
        rintro e w8 ⟨rfl, hb8⟩
        have H8 := hide (H7.out.next hb8)
        have B8 := hide (below_then B7.out hb8)
        have y0 := H8.out.y.cell 0
        simp only [List.getElem?_toArray, List.getElem?_cons_zero] at y0
        clear kO hb8 H7 B7
        go_wp2_with fail
        clear y0
        refine (states_any _).mono ?_
        rintro e w9 ⟨rfl, hb9⟩
        have B9 := hide (below_then B8.out hb9)
        clear hb9 B8 H8
        go_wp2_with fail
        go_ret
        exact ⟨rfl, B9.out⟩
  · have hSt := hide (show stateB p d = true from by rw [← stateB_same Q.out]; exact startV_state hB)
    have hHz := hide (show d.H.hs = histK p.init p.init.length from Q.out.H.symm)
    have hHn := hide (show d.H.n = p.init.length from by rw [← H6.out.st.H.2.1, ← Q.out.H]; exact histK_len _ _)
    obtain ⟨N, hN⟩ : ∃ N, N = (startV p).next := ⟨_, rfl⟩
    have H6 : Hid (FsR X Y A1 A2 c1 c2 p 2 (startV p).next d _) := H6
    have dcs : Hid (d.cells = #[.int .i64 2, .slice d.pc.A d.pc.n d.pc.c, .slice d.F.A d.F.n d.F.c, .slice d.mem.A d.mem.n d.mem.c, .slice d.bufs.A d.bufs.n d.bufs.c, .slice d.H.A d.H.n d.H.c, .slice d.view.A d.view.n d.view.c, .slice d.sc.A d.sc.n d.sc.c, .int .i64 (startV p).next]) := dcs
    rw [← hN] at H6 dcs
    have hn6 : p.init.length ≤ 6 := (prog_small hB).1
    clear hcase Q hB
    go_wp2_with fail
    obtain ⟨w6, hw6⟩ : ∃ wq, wq = w5.alloc (Obj.cells #[.int .i64 d5.kind, .slice d5.pc.A d5.pc.n d5.pc.c, .slice d5.F.A d5.F.n d5.F.c, .slice d5.mem.A d5.mem.n d5.mem.c, .slice d5.bufs.A d5.bufs.n d5.bufs.c, .slice d5.H.A d5.H.n d5.H.c, .slice d5.view.A d5.view.n d5.view.c, .slice d5.sc.A d5.sc.n d5.sc.c, .int .i64 d5.next] 48) := ⟨_, rfl⟩
    rw [← hw6] at H6 B6 ⊢
    clear hw6
    clear hN
    go_loopw [9] (fun i wr => ∃ (k : Nat), k ≤ p.init.length ∧ i = .int .i64 k ∧ Hid (FsR X Y A1 A2 c1 c2 p 2 N d wr) ∧ Hid (Below w.heap.size w wr)) (fun i _ => p.init.length - (intOf i).toNat)
    case atStart => exact ⟨0, Nat.zero_le _, rfl, H6, B6⟩
    case round =>
      clear H6 B6
      obtain ⟨k, hk, rfl, H7, B7⟩ := hrel
      by_cases hlt : k < p.init.length
      · have hm := H7.out.st.H.1.at_ (H7.out.st.bnd 4 (by omega))
        rw [hHz.out] at hm
        obtain ⟨bh, oh, eM, -, hcm⟩ := hm.2 (by rw [histK_len]; omega)
        obtain ⟨b1, o1, rfl, -, hc1⟩ := H7.out.pr.ini.2 (by omega)
        obtain ⟨AH, cp, m0, -, hP⟩ := hcm k (by rw [histK_len]; exact hlt)
        have hgk : geth (histK p.init p.init.length) k = [⟨(k : Int), geti p.init k, false, idsL p.init.length⟩] := histK_at p.init _ k hlt
        rw [hgk] at m0 hP
        obtain ⟨bp, op, rfl, -, hcp⟩ := hP.2 (by simp)
        obtain ⟨VV, cV, ⟨-, m1, -, -⟩, -, -⟩ := hcp 0 (by simp)
        have m1 : wr.cell? ⟨bp, op + 1, none⟩ = some (.int .i64 (geti p.init k)) := m1
        have m0 : wr.cell? ⟨bh, oh + k, none⟩ = some (.slice (some ⟨bp, op, none⟩) 1 cp) := m0
        have i0 := hc1 k hlt
        obtain ⟨⟨x0, x1⟩, y0, y1, y2, y3, y4, y5, y6, y7, y8⟩ := H7.out.cells
        rw [eM, hHn.out] at y5
        obtain ⟨l0, l1⟩ := H7.out.lts
        have hkn : decide ((k : Int) < (p.init.length : Int)) = true := decide_eq_true (by omega)
        have hkm : decide ((p.init.length : Int) ≤ (k : Int)) = false := decide_eq_false (by omega)
        have hS := hide (show ((fun w' => (w'.cell? ⟨X, 0, none⟩ = some (.slice (some ⟨b1, o1, none⟩) p.init.length c1) ∧ w'.cell? ⟨X, 1, none⟩ = some (.slice A2 p.ts.length c2)) ∧ (w'.cell? ⟨Y, 0, none⟩ = some (.int .i64 2) ∧ w'.cell? ⟨Y, 1, none⟩ = some (.slice d.pc.A d.pc.n d.pc.c) ∧ w'.cell? ⟨Y, 2, none⟩ = some (.slice d.F.A d.F.n d.F.c) ∧ w'.cell? ⟨Y, 3, none⟩ = some (.slice d.mem.A d.mem.n d.mem.c) ∧ w'.cell? ⟨Y, 4, none⟩ = some (.slice d.bufs.A d.bufs.n d.bufs.c) ∧ w'.cell? ⟨Y, 5, none⟩ = some (.slice (some ⟨bh, oh, none⟩) p.init.length d.H.c) ∧ w'.cell? ⟨Y, 6, none⟩ = some (.slice d.view.A d.view.n d.view.c) ∧ w'.cell? ⟨Y, 7, none⟩ = some (.slice d.sc.A d.sc.n d.sc.c) ∧ w'.cell? ⟨Y, 8, none⟩ = some (.int .i64 N)) ∧ w'.cell? ⟨b1, o1 + k, none⟩ = some (.int .i64 (geti p.init k)) ∧ w'.cell? ⟨bh, oh + k, none⟩ = some (.slice (some ⟨bp, op, none⟩) 1 cp) ∧ w'.cell? ⟨bp, op + 1, none⟩ = some (.int .i64 (geti p.init k))) : World → Prop) wr.drew from ⟨⟨x0, x1⟩, ⟨y0, y1, y2, y3, y4, y5, y6, y7, y8⟩, i0, m0, m1⟩)
        have hne : (geti p.init k != geti p.init k) = false := by simp
        have hk0 : (0 : Int) ≤ (k : Int) := by omega
        clear hm hcm hc1 eM hP hcp hgk
        go_wp2_with fail
        clear x0 x1 y0 y1 y2 y3 y4 y5 y6 y7 y8 i0 m0 m1
        replace H7 := hide H7.out.drew
        replace B7 := hide B7.out.drew
        refine wp_region_held_drew (S := (fun w' => (w'.cell? ⟨X, 0, none⟩ = some (.slice (some ⟨b1, o1, none⟩) p.init.length c1) ∧ w'.cell? ⟨X, 1, none⟩ = some (.slice A2 p.ts.length c2)) ∧ (w'.cell? ⟨Y, 0, none⟩ = some (.int .i64 2) ∧ w'.cell? ⟨Y, 1, none⟩ = some (.slice d.pc.A d.pc.n d.pc.c) ∧ w'.cell? ⟨Y, 2, none⟩ = some (.slice d.F.A d.F.n d.F.c) ∧ w'.cell? ⟨Y, 3, none⟩ = some (.slice d.mem.A d.mem.n d.mem.c) ∧ w'.cell? ⟨Y, 4, none⟩ = some (.slice d.bufs.A d.bufs.n d.bufs.c) ∧ w'.cell? ⟨Y, 5, none⟩ = some (.slice (some ⟨bh, oh, none⟩) p.init.length d.H.c) ∧ w'.cell? ⟨Y, 6, none⟩ = some (.slice d.view.A d.view.n d.view.c) ∧ w'.cell? ⟨Y, 7, none⟩ = some (.slice d.sc.A d.sc.n d.sc.c) ∧ w'.cell? ⟨Y, 8, none⟩ = some (.int .i64 N)) ∧ w'.cell? ⟨b1, o1 + k, none⟩ = some (.int .i64 (geti p.init k)) ∧ w'.cell? ⟨bh, oh + k, none⟩ = some (.slice (some ⟨bp, op, none⟩) 1 cp) ∧ w'.cell? ⟨bp, op + 1, none⟩ = some (.int .i64 (geti p.init k)))) (by kernel_rfl) ?_ (fun hHeld => ?_)
        · exact hS.out
        refine wpAnyH_take (i := 0) (oi := { dst := some 73, op := Op.move (Operand.tmp 4), type := 3, pos := "laws.go:215", after := #[], guard := none }) (v := ?_) rfl (by kernel_rfl) (by kernel_rfl) (by kernel_rfl) (fun _ _ _ h => h) (Or.inl ⟨by rfl, ?_⟩) hHeld ?_
        rotate_left
        · (intro wq hSw; (try dsimp only at hSw); first | (go_simp; done) | (go_simp; with_reducible rfl))
        try simp only [Act.put, qa, qb, qc]
        refine wpAnyH_take (i := 1) (oi := { dst := some 74, op := Op.binOp BinOp.eql 3 (Operand.tmp 73) (Operand.const (Value.int IntKind.i64 2)) 3, type := 4, pos := "laws.go:215", after := #[{ on := 0, ground := Ground.data }], guard := none }) (v := ?_) rfl (by kernel_rfl) (by kernel_rfl) (by kernel_rfl) (fun _ _ _ h => h) (Or.inl ⟨by rfl, ?_⟩) hHeld ?_
        rotate_left
        · (intro wq hSw; (try dsimp only at hSw); first | (go_simp; done) | (go_simp; with_reducible rfl))
        try simp only [Act.put, qa, qb, qc]
        refine wpAnyH_take (i := 2) (oi := { dst := some 75, op := Op.move (Operand.tmp 74), type := 4, pos := "laws.go:215", after := #[{ on := 1, ground := Ground.data }], guard := none }) (v := ?_) rfl (by kernel_rfl) (by kernel_rfl) (by kernel_rfl) (fun _ _ _ h => h) (Or.inl ⟨by rfl, ?_⟩) hHeld ?_
        rotate_left
        · (intro wq hSw; (try dsimp only at hSw); first | (go_simp; done) | (go_simp; with_reducible rfl))
        try simp only [Act.put, qa, qb, qc]
        refine wpAnyH_take (i := 3) (oi := { dst := some 76, op := Op.fieldAddr 48 (Operand.tmp 5) 5, type := 0, pos := "laws.go:215", after := #[{ on := 2, ground := Ground.guard }], guard := some (2, true) }) (v := ?_) rfl (by kernel_rfl) (by kernel_rfl) (by kernel_rfl) (fun _ _ _ h => h) (Or.inl ⟨by rfl, ?_⟩) hHeld ?_
        rotate_left
        · (intro wq hSw; (try dsimp only at hSw); first | (go_simp; done) | (go_simp; with_reducible rfl))
        try simp only [Act.put, qa, qb, qc]
        refine wpAnyH_take (i := 4) (oi := { dst := some 77, op := Op.load 46 (Operand.tmp 76), type := 46, pos := "laws.go:215", after := #[{ on := 3, ground := Ground.data }, { on := 2, ground := Ground.guard }], guard := some (2, true) }) (v := ?_) rfl (by kernel_rfl) (by kernel_rfl) (by kernel_rfl) (fun _ _ _ h => h) (Or.inl ⟨by rfl, ?_⟩) hHeld ?_
        rotate_left
        · (intro wq hSw; (try dsimp only at hSw); first | (go_simp; done) | (go_simp; with_reducible rfl))
        try simp only [Act.put, qa, qb, qc]
        refine wpAnyH_take (i := 5) (oi := { dst := some 78, op := Op.move (Operand.tmp 9), type := 3, pos := "laws.go:215", after := #[{ on := 2, ground := Ground.guard }], guard := some (2, true) }) (v := ?_) rfl (by kernel_rfl) (by kernel_rfl) (by kernel_rfl) (fun _ _ _ h => h) (Or.inl ⟨by rfl, ?_⟩) hHeld ?_
        rotate_left
        · (intro wq hSw; (try dsimp only at hSw); first | (go_simp; done) | (go_simp; with_reducible rfl))
        try simp only [Act.put, qa, qb, qc]
        refine wpAnyH_take (i := 6) (oi := { dst := some 79, op := Op.indexAddr 46 (Operand.tmp 77) (Operand.tmp 78), type := 0, pos := "laws.go:215", after := #[{ on := 4, ground := Ground.data }, { on := 5, ground := Ground.data }, { on := 2, ground := Ground.guard }], guard := some (2, true) }) (v := ?_) rfl (by kernel_rfl) (by kernel_rfl) (by kernel_rfl) (fun _ _ _ h => h) (Or.inl ⟨by rfl, ?_⟩) hHeld ?_
        rotate_left
        · (intro wq hSw; (try dsimp only at hSw); first | (go_simp; done) | (go_simp; with_reducible rfl))
        try simp only [Act.put, qa, qb, qc]
        refine wpAnyH_take (i := 7) (oi := { dst := some 80, op := Op.fieldAddr 84 (Operand.tmp 79) 0, type := 0, pos := "laws.go:215", after := #[{ on := 6, ground := Ground.data }, { on := 2, ground := Ground.guard }], guard := some (2, true) }) (v := ?_) rfl (by kernel_rfl) (by kernel_rfl) (by kernel_rfl) (fun _ _ _ h => h) (Or.inl ⟨by rfl, ?_⟩) hHeld ?_
        rotate_left
        · (intro wq hSw; (try dsimp only at hSw); first | (go_simp; done) | (go_simp; with_reducible rfl))
        try simp only [Act.put, qa, qb, qc]
        refine wpAnyH_take (i := 8) (oi := { dst := some 81, op := Op.load 82 (Operand.tmp 80), type := 82, pos := "laws.go:215", after := #[{ on := 7, ground := Ground.data }, { on := 2, ground := Ground.guard }], guard := some (2, true) }) (v := ?_) rfl (by kernel_rfl) (by kernel_rfl) (by kernel_rfl) (fun _ _ _ h => h) (Or.inl ⟨by rfl, ?_⟩) hHeld ?_
        rotate_left
        · (intro wq hSw; (try dsimp only at hSw); first | (go_simp; done) | (go_simp; with_reducible rfl))
        try simp only [Act.put, qa, qb, qc]
        refine wpAnyH_take (i := 9) (oi := { dst := some 82, op := Op.call { callee := Callee.builtin Builtin.len, args := #[Operand.tmp 81], argTypes := #[82] }, type := 3, pos := "laws.go:215", after := #[{ on := 8, ground := Ground.data }, { on := 2, ground := Ground.guard }], guard := some (2, true) }) (v := ?_) rfl (by kernel_rfl) (by kernel_rfl) (by kernel_rfl) (fun _ _ _ h => h) (Or.inl ⟨by rfl, ?_⟩) hHeld ?_
        rotate_left
        · (intro wq hSw; (try dsimp only at hSw); first | (go_simp; done) | (go_simp; with_reducible rfl))
        try simp only [Act.put, qa, qb, qc]
        refine wpAnyH_take (i := 10) (oi := { dst := some 83, op := Op.binOp BinOp.neq 3 (Operand.tmp 82) (Operand.const (Value.int IntKind.i64 1)) 3, type := 4, pos := "laws.go:215", after := #[{ on := 9, ground := Ground.data }, { on := 2, ground := Ground.guard }], guard := some (2, true) }) (v := ?_) rfl (by kernel_rfl) (by kernel_rfl) (by kernel_rfl) (fun _ _ _ h => h) (Or.inl ⟨by rfl, ?_⟩) hHeld ?_
        rotate_left
        · (intro wq hSw; (try dsimp only at hSw); first | (go_simp; done) | (go_simp; with_reducible rfl))
        try simp only [Act.put, qa, qb, qc]
        refine wpAnyH_take (i := 11) (oi := { dst := some 84, op := Op.move (Operand.tmp 83), type := 4, pos := "laws.go:215", after := #[{ on := 10, ground := Ground.data }, { on := 2, ground := Ground.chain }, { on := 2, ground := Ground.guard }], guard := some (2, true) }) (v := ?_) rfl (by kernel_rfl) (by kernel_rfl) (by kernel_rfl) (fun _ _ _ h => h) (Or.inl ⟨by rfl, ?_⟩) hHeld ?_
        rotate_left
        · (intro wq hSw; (try dsimp only at hSw); first | (go_simp; done) | (go_simp; with_reducible rfl))
        try simp only [Act.put, qa, qb, qc]
        refine wpAnyH_take (i := 12) (oi := { dst := some 85, op := Op.fieldAddr 48 (Operand.tmp 5) 5, type := 0, pos := "laws.go:215", after := #[{ on := 11, ground := Ground.guard }], guard := some (11, false) }) (v := ?_) rfl (by kernel_rfl) (by kernel_rfl) (by kernel_rfl) (fun _ _ _ h => h) (Or.inl ⟨by rfl, ?_⟩) hHeld ?_
        rotate_left
        · (intro wq hSw; (try dsimp only at hSw); first | (go_simp; done) | (go_simp; with_reducible rfl))
        try simp only [Act.put, qa, qb, qc]
        refine wpAnyH_take (i := 13) (oi := { dst := some 86, op := Op.load 46 (Operand.tmp 85), type := 46, pos := "laws.go:215", after := #[{ on := 12, ground := Ground.data }, { on := 11, ground := Ground.guard }], guard := some (11, false) }) (v := ?_) rfl (by kernel_rfl) (by kernel_rfl) (by kernel_rfl) (fun _ _ _ h => h) (Or.inl ⟨by rfl, ?_⟩) hHeld ?_
        rotate_left
        · (intro wq hSw; (try dsimp only at hSw); first | (go_simp; done) | (go_simp; with_reducible rfl))
        try simp only [Act.put, qa, qb, qc]
        refine wpAnyH_take (i := 14) (oi := { dst := some 87, op := Op.move (Operand.tmp 9), type := 3, pos := "laws.go:215", after := #[{ on := 11, ground := Ground.guard }], guard := some (11, false) }) (v := ?_) rfl (by kernel_rfl) (by kernel_rfl) (by kernel_rfl) (fun _ _ _ h => h) (Or.inl ⟨by rfl, ?_⟩) hHeld ?_
        rotate_left
        · (intro wq hSw; (try dsimp only at hSw); first | (go_simp; done) | (go_simp; with_reducible rfl))
        try simp only [Act.put, qa, qb, qc]
        refine wpAnyH_take (i := 15) (oi := { dst := some 88, op := Op.indexAddr 46 (Operand.tmp 86) (Operand.tmp 87), type := 0, pos := "laws.go:215", after := #[{ on := 13, ground := Ground.data }, { on := 14, ground := Ground.data }, { on := 11, ground := Ground.guard }], guard := some (11, false) }) (v := ?_) rfl (by kernel_rfl) (by kernel_rfl) (by kernel_rfl) (fun _ _ _ h => h) (Or.inl ⟨by rfl, ?_⟩) hHeld ?_
        rotate_left
        · (intro wq hSw; (try dsimp only at hSw); first | (go_simp; done) | (go_simp; with_reducible rfl))
        try simp only [Act.put, qa, qb, qc]
        refine wpAnyH_take (i := 16) (oi := { dst := some 89, op := Op.fieldAddr 84 (Operand.tmp 88) 0, type := 0, pos := "laws.go:215", after := #[{ on := 15, ground := Ground.data }, { on := 11, ground := Ground.guard }], guard := some (11, false) }) (v := ?_) rfl (by kernel_rfl) (by kernel_rfl) (by kernel_rfl) (fun _ _ _ h => h) (Or.inl ⟨by rfl, ?_⟩) hHeld ?_
        rotate_left
        · (intro wq hSw; (try dsimp only at hSw); first | (go_simp; done) | (go_simp; with_reducible rfl))
        try simp only [Act.put, qa, qb, qc]
        refine wpAnyH_take (i := 17) (oi := { dst := some 90, op := Op.load 82 (Operand.tmp 89), type := 82, pos := "laws.go:215", after := #[{ on := 16, ground := Ground.data }, { on := 11, ground := Ground.guard }], guard := some (11, false) }) (v := ?_) rfl (by kernel_rfl) (by kernel_rfl) (by kernel_rfl) (fun _ _ _ h => h) (Or.inl ⟨by rfl, ?_⟩) hHeld ?_
        rotate_left
        · (intro wq hSw; (try dsimp only at hSw); first | (go_simp; done) | (go_simp; with_reducible rfl))
        try simp only [Act.put, qa, qb, qc]
        refine wpAnyH_take (i := 18) (oi := { dst := some 91, op := Op.indexAddr 82 (Operand.tmp 90) (Operand.const (Value.int IntKind.i64 0)), type := 0, pos := "laws.go:215", after := #[{ on := 17, ground := Ground.data }, { on := 11, ground := Ground.guard }], guard := some (11, false) }) (v := ?_) rfl (by kernel_rfl) (by kernel_rfl) (by kernel_rfl) (fun _ _ _ h => h) (Or.inl ⟨by rfl, ?_⟩) hHeld ?_
        rotate_left
        · (intro wq hSw; (try dsimp only at hSw); first | (go_simp; done) | (go_simp; with_reducible rfl))
        try simp only [Act.put, qa, qb, qc]
        refine wpAnyH_take (i := 19) (oi := { dst := some 92, op := Op.fieldAddr 86 (Operand.tmp 91) 1, type := 0, pos := "laws.go:215", after := #[{ on := 18, ground := Ground.data }, { on := 11, ground := Ground.guard }], guard := some (11, false) }) (v := ?_) rfl (by kernel_rfl) (by kernel_rfl) (by kernel_rfl) (fun _ _ _ h => h) (Or.inl ⟨by rfl, ?_⟩) hHeld ?_
        rotate_left
        · (intro wq hSw; (try dsimp only at hSw); first | (go_simp; done) | (go_simp; with_reducible rfl))
        try simp only [Act.put, qa, qb, qc]
        refine wpAnyH_take (i := 20) (oi := { dst := some 93, op := Op.load 3 (Operand.tmp 92), type := 3, pos := "laws.go:215", after := #[{ on := 19, ground := Ground.data }, { on := 11, ground := Ground.guard }], guard := some (11, false) }) (v := ?_) rfl (by kernel_rfl) (by kernel_rfl) (by kernel_rfl) (fun _ _ _ h => h) (Or.inl ⟨by rfl, ?_⟩) hHeld ?_
        rotate_left
        · (intro wq hSw; (try dsimp only at hSw); first | (go_simp; done) | (go_simp; with_reducible rfl))
        try simp only [Act.put, qa, qb, qc]
        refine wpAnyH_take (i := 21) (oi := { dst := some 94, op := Op.fieldAddr 31 (Operand.tmp 3) 0, type := 0, pos := "laws.go:215", after := #[{ on := 11, ground := Ground.guard }], guard := some (11, false) }) (v := ?_) rfl (by kernel_rfl) (by kernel_rfl) (by kernel_rfl) (fun _ _ _ h => h) (Or.inl ⟨by rfl, ?_⟩) hHeld ?_
        rotate_left
        · (intro wq hSw; (try dsimp only at hSw); first | (go_simp; done) | (go_simp; with_reducible rfl))
        try simp only [Act.put, qa, qb, qc]
        refine wpAnyH_take (i := 22) (oi := { dst := some 95, op := Op.load 22 (Operand.tmp 94), type := 22, pos := "laws.go:215", after := #[{ on := 21, ground := Ground.data }, { on := 11, ground := Ground.guard }], guard := some (11, false) }) (v := ?_) rfl (by kernel_rfl) (by kernel_rfl) (by kernel_rfl) (fun _ _ _ h => h) (Or.inl ⟨by rfl, ?_⟩) hHeld ?_
        rotate_left
        · (intro wq hSw; (try dsimp only at hSw); first | (go_simp; done) | (go_simp; with_reducible rfl))
        try simp only [Act.put, qa, qb, qc]
        refine wpAnyH_take (i := 23) (oi := { dst := some 96, op := Op.move (Operand.tmp 9), type := 3, pos := "laws.go:215", after := #[{ on := 11, ground := Ground.guard }], guard := some (11, false) }) (v := ?_) rfl (by kernel_rfl) (by kernel_rfl) (by kernel_rfl) (fun _ _ _ h => h) (Or.inl ⟨by rfl, ?_⟩) hHeld ?_
        rotate_left
        · (intro wq hSw; (try dsimp only at hSw); first | (go_simp; done) | (go_simp; with_reducible rfl))
        try simp only [Act.put, qa, qb, qc]
        refine wpAnyH_take (i := 24) (oi := { dst := some 97, op := Op.indexAddr 22 (Operand.tmp 95) (Operand.tmp 96), type := 0, pos := "laws.go:215", after := #[{ on := 22, ground := Ground.data }, { on := 23, ground := Ground.data }, { on := 11, ground := Ground.guard }], guard := some (11, false) }) (v := ?_) rfl (by kernel_rfl) (by kernel_rfl) (by kernel_rfl) (fun _ _ _ h => h) (Or.inl ⟨by rfl, ?_⟩) hHeld ?_
        rotate_left
        · (intro wq hSw; (try dsimp only at hSw); first | (go_simp; done) | (go_simp; with_reducible rfl))
        try simp only [Act.put, qa, qb, qc]
        refine wpAnyH_take (i := 25) (oi := { dst := some 98, op := Op.load 3 (Operand.tmp 97), type := 3, pos := "laws.go:215", after := #[{ on := 24, ground := Ground.data }, { on := 11, ground := Ground.guard }], guard := some (11, false) }) (v := ?_) rfl (by kernel_rfl) (by kernel_rfl) (by kernel_rfl) (fun _ _ _ h => h) (Or.inl ⟨by rfl, ?_⟩) hHeld ?_
        rotate_left
        · (intro wq hSw; (try dsimp only at hSw); first | (go_simp; done) | (go_simp; with_reducible rfl))
        try simp only [Act.put, qa, qb, qc]
        refine wpAnyH_take (i := 26) (oi := { dst := some 99, op := Op.binOp BinOp.neq 3 (Operand.tmp 93) (Operand.tmp 98) 3, type := 4, pos := "laws.go:215", after := #[{ on := 20, ground := Ground.data }, { on := 25, ground := Ground.data }, { on := 11, ground := Ground.guard }], guard := some (11, false) }) (v := ?_) rfl (by kernel_rfl) (by kernel_rfl) (by kernel_rfl) (fun _ _ _ h => h) (Or.inl ⟨by rfl, ?_⟩) hHeld ?_
        rotate_left
        · (intro wq hSw; (try dsimp only at hSw); first | (go_simp; done) | (go_simp; with_reducible rfl))
        try simp only [Act.put, qa, qb, qc]
        refine wpAnyH_take (i := 27) (oi := { dst := some 100, op := Op.pick (Operand.tmp 84) (Operand.const (Value.bool true)) (Operand.tmp 99), type := 4, pos := "laws.go:215", after := #[{ on := 11, ground := Ground.data }, { on := 26, ground := Ground.data }, { on := 2, ground := Ground.guard }], guard := some (2, true) }) (v := ?_) rfl (by kernel_rfl) (by kernel_rfl) (by kernel_rfl) (fun _ _ _ h => h) (Or.inl ⟨by rfl, ?_⟩) hHeld ?_
        rotate_left
        · (intro wq hSw; (try dsimp only at hSw); first | (go_simp; done) | (go_simp; with_reducible rfl))
        try simp only [Act.put, qa, qb, qc]
        refine wpAnyH_take (i := 28) (oi := { dst := some 101, op := Op.pick (Operand.tmp 75) (Operand.tmp 100) (Operand.const (Value.bool false)), type := 4, pos := "laws.go:215", after := #[{ on := 2, ground := Ground.data }, { on := 27, ground := Ground.data }], guard := none }) (v := ?_) rfl (by kernel_rfl) (by kernel_rfl) (by kernel_rfl) (fun _ _ _ h => h) (Or.inl ⟨by rfl, ?_⟩) hHeld ?_
        rotate_left
        · (intro wq hSw; (try dsimp only at hSw); first | (go_simp; done) | (go_simp; with_reducible rfl))
        try simp only [Act.put, qa, qb, qc]
        refine wpAnyH_take (i := 29) (oi := { dst := some 102, op := Op.move (Operand.tmp 101), type := 4, pos := "laws.go:215", after := #[{ on := 28, ground := Ground.data }, { on := 11, ground := Ground.chain }], guard := none }) (v := ?_) rfl (by kernel_rfl) (by kernel_rfl) (by kernel_rfl) (fun _ _ _ h => h) (Or.inl ⟨by rfl, ?_⟩) hHeld ?_
        rotate_left
        · (intro wq hSw; (try dsimp only at hSw); first | (go_simp; done) | (go_simp; with_reducible rfl))
        try simp only [Act.put, qa, qb, qc]
        refine wpAnyH_take (i := 30) (oi := { dst := some 103, op := Op.move (Operand.tmp 4), type := 3, pos := "laws.go:215", after := #[{ on := 29, ground := Ground.guard }], guard := some (29, false) }) (v := ?_) rfl (by kernel_rfl) (by kernel_rfl) (by kernel_rfl) (fun _ _ _ h => h) (Or.inl ⟨by rfl, ?_⟩) hHeld ?_
        rotate_left
        · (intro wq hSw; (try dsimp only at hSw); first | (go_simp; done) | (go_simp; with_reducible rfl))
        try simp only [Act.put, qa, qb, qc]
        refine wpAnyH_take (i := 31) (oi := { dst := some 104, op := Op.binOp BinOp.neq 3 (Operand.tmp 103) (Operand.const (Value.int IntKind.i64 2)) 3, type := 4, pos := "laws.go:215", after := #[{ on := 30, ground := Ground.data }, { on := 29, ground := Ground.guard }], guard := some (29, false) }) (v := ?_) rfl (by kernel_rfl) (by kernel_rfl) (by kernel_rfl) (fun _ _ _ h => h) (Or.inl ⟨by rfl, ?_⟩) hHeld ?_
        rotate_left
        · (intro wq hSw; (try dsimp only at hSw); first | (go_simp; done) | (go_simp; with_reducible rfl))
        try simp only [Act.put, qa, qb, qc]
        refine wpAnyH_take (i := 32) (oi := { dst := some 105, op := Op.move (Operand.tmp 104), type := 4, pos := "laws.go:215", after := #[{ on := 31, ground := Ground.data }, { on := 29, ground := Ground.chain }, { on := 29, ground := Ground.guard }], guard := some (29, false) }) (v := ?_) rfl (by kernel_rfl) (by kernel_rfl) (by kernel_rfl) (fun _ _ _ h => h) (Or.inl ⟨by rfl, ?_⟩) hHeld ?_
        rotate_left
        · (intro wq hSw; (try dsimp only at hSw); first | (go_simp; done) | (go_simp; with_reducible rfl))
        try simp only [Act.put, qa, qb, qc]
        refine wpAnyH_take (i := 33) (oi := { dst := some 106, op := Op.fieldAddr 48 (Operand.tmp 5) 3, type := 0, pos := "laws.go:215", after := #[{ on := 32, ground := Ground.guard }], guard := some (32, true) }) (v := undef) rfl (by kernel_rfl) (by kernel_rfl) (by kernel_rfl) (fun _ _ _ h => h) (Or.inr ⟨by rfl, rfl⟩) hHeld ?_
        try simp only [Act.put, qa, qb, qc]
        refine wpAnyH_take (i := 34) (oi := { dst := some 107, op := Op.load 22 (Operand.tmp 106), type := 22, pos := "laws.go:215", after := #[{ on := 33, ground := Ground.data }, { on := 32, ground := Ground.guard }], guard := some (32, true) }) (v := undef) rfl (by kernel_rfl) (by kernel_rfl) (by kernel_rfl) (fun _ _ _ h => h) (Or.inr ⟨by rfl, rfl⟩) hHeld ?_
        try simp only [Act.put, qa, qb, qc]
        refine wpAnyH_take (i := 35) (oi := { dst := some 108, op := Op.move (Operand.tmp 9), type := 3, pos := "laws.go:215", after := #[{ on := 32, ground := Ground.guard }], guard := some (32, true) }) (v := undef) rfl (by kernel_rfl) (by kernel_rfl) (by kernel_rfl) (fun _ _ _ h => h) (Or.inr ⟨by rfl, rfl⟩) hHeld ?_
        try simp only [Act.put, qa, qb, qc]
        refine wpAnyH_take (i := 36) (oi := { dst := some 109, op := Op.indexAddr 22 (Operand.tmp 107) (Operand.tmp 108), type := 0, pos := "laws.go:215", after := #[{ on := 34, ground := Ground.data }, { on := 35, ground := Ground.data }, { on := 32, ground := Ground.guard }], guard := some (32, true) }) (v := undef) rfl (by kernel_rfl) (by kernel_rfl) (by kernel_rfl) (fun _ _ _ h => h) (Or.inr ⟨by rfl, rfl⟩) hHeld ?_
        try simp only [Act.put, qa, qb, qc]
        refine wpAnyH_take (i := 37) (oi := { dst := some 110, op := Op.load 3 (Operand.tmp 109), type := 3, pos := "laws.go:215", after := #[{ on := 36, ground := Ground.data }, { on := 32, ground := Ground.guard }], guard := some (32, true) }) (v := undef) rfl (by kernel_rfl) (by kernel_rfl) (by kernel_rfl) (fun _ _ _ h => h) (Or.inr ⟨by rfl, rfl⟩) hHeld ?_
        try simp only [Act.put, qa, qb, qc]
        refine wpAnyH_take (i := 38) (oi := { dst := some 111, op := Op.fieldAddr 31 (Operand.tmp 3) 0, type := 0, pos := "laws.go:215", after := #[{ on := 32, ground := Ground.guard }], guard := some (32, true) }) (v := undef) rfl (by kernel_rfl) (by kernel_rfl) (by kernel_rfl) (fun _ _ _ h => h) (Or.inr ⟨by rfl, rfl⟩) hHeld ?_
        try simp only [Act.put, qa, qb, qc]
        refine wpAnyH_take (i := 39) (oi := { dst := some 112, op := Op.load 22 (Operand.tmp 111), type := 22, pos := "laws.go:215", after := #[{ on := 38, ground := Ground.data }, { on := 32, ground := Ground.guard }], guard := some (32, true) }) (v := undef) rfl (by kernel_rfl) (by kernel_rfl) (by kernel_rfl) (fun _ _ _ h => h) (Or.inr ⟨by rfl, rfl⟩) hHeld ?_
        try simp only [Act.put, qa, qb, qc]
        refine wpAnyH_take (i := 40) (oi := { dst := some 113, op := Op.move (Operand.tmp 9), type := 3, pos := "laws.go:215", after := #[{ on := 32, ground := Ground.guard }], guard := some (32, true) }) (v := undef) rfl (by kernel_rfl) (by kernel_rfl) (by kernel_rfl) (fun _ _ _ h => h) (Or.inr ⟨by rfl, rfl⟩) hHeld ?_
        try simp only [Act.put, qa, qb, qc]
        refine wpAnyH_take (i := 41) (oi := { dst := some 114, op := Op.indexAddr 22 (Operand.tmp 112) (Operand.tmp 113), type := 0, pos := "laws.go:215", after := #[{ on := 39, ground := Ground.data }, { on := 40, ground := Ground.data }, { on := 32, ground := Ground.guard }], guard := some (32, true) }) (v := undef) rfl (by kernel_rfl) (by kernel_rfl) (by kernel_rfl) (fun _ _ _ h => h) (Or.inr ⟨by rfl, rfl⟩) hHeld ?_
        try simp only [Act.put, qa, qb, qc]
        refine wpAnyH_take (i := 42) (oi := { dst := some 115, op := Op.load 3 (Operand.tmp 114), type := 3, pos := "laws.go:215", after := #[{ on := 41, ground := Ground.data }, { on := 32, ground := Ground.guard }], guard := some (32, true) }) (v := undef) rfl (by kernel_rfl) (by kernel_rfl) (by kernel_rfl) (fun _ _ _ h => h) (Or.inr ⟨by rfl, rfl⟩) hHeld ?_
        try simp only [Act.put, qa, qb, qc]
        refine wpAnyH_take (i := 43) (oi := { dst := some 116, op := Op.binOp BinOp.neq 3 (Operand.tmp 110) (Operand.tmp 115) 3, type := 4, pos := "laws.go:215", after := #[{ on := 37, ground := Ground.data }, { on := 42, ground := Ground.data }, { on := 32, ground := Ground.guard }], guard := some (32, true) }) (v := undef) rfl (by kernel_rfl) (by kernel_rfl) (by kernel_rfl) (fun _ _ _ h => h) (Or.inr ⟨by rfl, rfl⟩) hHeld ?_
        try simp only [Act.put, qa, qb, qc]
        refine wpAnyH_take (i := 44) (oi := { dst := some 117, op := Op.pick (Operand.tmp 105) (Operand.tmp 116) (Operand.const (Value.bool false)), type := 4, pos := "laws.go:215", after := #[{ on := 32, ground := Ground.data }, { on := 43, ground := Ground.data }, { on := 29, ground := Ground.guard }], guard := some (29, false) }) (v := ?_) rfl (by kernel_rfl) (by kernel_rfl) (by kernel_rfl) (fun _ _ _ h => h) (Or.inl ⟨by rfl, ?_⟩) hHeld ?_
        rotate_left
        · (intro wq hSw; (try dsimp only at hSw); first | (go_simp; done) | (go_simp; with_reducible rfl))
        try simp only [Act.put, qa, qb, qc]
        refine wpAnyH_take (i := 45) (oi := { dst := some 118, op := Op.pick (Operand.tmp 102) (Operand.const (Value.bool true)) (Operand.tmp 117), type := 4, pos := "laws.go:215", after := #[{ on := 29, ground := Ground.data }, { on := 44, ground := Ground.data }], guard := none }) (v := ?_) rfl (by kernel_rfl) (by kernel_rfl) (by kernel_rfl) (fun _ _ _ h => h) (Or.inl ⟨by rfl, ?_⟩) hHeld ?_
        rotate_left
        · (intro wq hSw; (try dsimp only at hSw); first | (go_simp; done) | (go_simp; with_reducible rfl))
        try simp only [Act.put, qa, qb, qc]
        refine wpAnyH_done (by kernel_rfl) ?_ _
        go_wp2_with fail
        go_roundw
        case rel => exact ⟨k + 1, by omega, by go_num, H7, B7⟩
        case measure => simp [intOf]; omega
      · obtain rfl : k = p.init.length := by omega
        obtain ⟨⟨x0, x1⟩, y0, y1, y2, y3, y4, y5, y6, y7, y8⟩ := H7.out.cells
        obtain ⟨l0, l1⟩ := H7.out.lts
        have hkn : decide ((p.init.length : Int) < (p.init.length : Int)) = false := decide_eq_false (by omega)
        go_wp2_with fail
        clear x0 x1 y0 y1 y2 y3 y4 y5 y6 y7 y8 l0 l1 hkn
        have kO := stateOk_any H7.out.prog H7.out.st.at_ H7.out.st.len
        rw [hSt.out, dcs.out] at kO
        refine kO.mono ?_
        rintro e w8 ⟨rfl, hb8⟩
        have H8 := hide (H7.out.next hb8)
        have B8 := hide (below_then B7.out hb8)
        have y0 := H8.out.y.cell 0
        simp only [List.getElem?_toArray, List.getElem?_cons_zero] at y0
        clear kO hb8 H7 B7
        go_wp2_with fail
        clear y0
        refine (states_any _).mono ?_
        rintro e w9 ⟨rfl, hb9⟩
        have B9 := hide (below_then B8.out hb9)
        clear hb9 B8 H8
        go_wp2_with fail
        go_ret
        exact ⟨rfl, B9.out⟩
end Go.Proofs.Ytfkaacfeikmabaa
