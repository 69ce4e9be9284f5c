/- Quiet's smaller calls: the file's copy, what is put into the register, whether it jumps. -/
import Derived.Test.YtfkaacfeikmabaaMf0
import Derived.Test.YtfkaacfeikmabaaMf2
import Derived.Test.YtfkaacfeikmabaaMf4
import Derived.Test.YtfkaacfeikmabaaMf6
import Derived.Test.YtfkaacfeikmabaaMf30
import Derived.Deep.AppendLies
namespace Go.Proofs.Ytfkaacfeikmabaa
open Go.RowKit

theorem stateB_yes {p : ProgD} {s : StD} (h : stateB p s = true) : s.pc.zs.length = p.ts.length ∧ s.F.rs.length = p.ts.length ∧ (s.kind = 1 → s.bufs.rs.length = p.ts.length) ∧ (s.kind = 0 ∨ s.kind = 1 ∨ s.kind = 2) := by
  unfold stateB at h
  simp only [Bool.and_eq_true] at h
  obtain ⟨⟨-, h1⟩, h2⟩ := h
  unfold comB at h1
  simp only [Bool.and_eq_true, decide_eq_true_eq] at h1
  refine ⟨h1.1.1, h1.1.2, fun hk => ?_, ?_⟩
  · unfold restB at h2
    rw [if_neg (by omega), if_pos hk] at h2
    simp only [Bool.and_eq_true] at h2
    have h3 := h2.1.2
    unfold bufsB at h3
    simp only [Bool.and_eq_true, decide_eq_true_eq] at h3
    exact h3.1
  · unfold restB at h2
    by_cases h0 : s.kind = 0
    · exact .inl h0
    · by_cases h1 : s.kind = 1
      · exact .inr (.inl h1)
      · by_cases h3 : s.kind = 2
        · exact .inr (.inr h3)
        · rw [if_neg h0, if_neg h1, if_neg h3] at h2; cases h2
theorem RowsAt.lens {w : World} {S : Nat → Prop} {A : Option Addr} {rs : List RowD} (h : RowsAt w S A rs) : LensAt w S A (rns rs) := by
  refine ⟨by rw [rns_len]; have := h.1; omega, fun hp => ?_⟩
  rw [rns_len] at hp
  obtain ⟨b, off, e, hb, hc⟩ := h.2 hp
  refine ⟨b, off, e, hb, fun k hk => ?_⟩
  rw [rns_len] at hk
  obtain ⟨A', c', h1, -⟩ := hc k hk
  rw [rns_get]
  exact ⟨A', c', h1⟩
def endB (p : ProgD) (s : StD) : Bool := endedB p.ts s.pc.zs && (if s.kind = 1 then emptyB (rns s.bufs.rs) else true)

theorem doneB_eq (p : ProgD) (s : StD) : doneB p s = (stateB p s && endB p s) := rfl
set_option maxRecDepth 100000 in
set_option maxHeartbeats 3200000 in
theorem done_bad (p : ProgD) (s : StD) (A1 A2 : Option Addr) (c1 c2 n : Nat) (w : World) (hcc : p.init.length ≤ c1 ∧ p.ts.length ≤ c2) (hi : IntsAt w (Old n) A1 p.init) (ht : ThreadsAt w (Old n) A2 p.ts) (hs : StAt w n s) (hl : StLen s) (hB : stateB p s = false) :
    Calls Try.prog 37 #[.agg #[.slice A1 p.init.length c1, .slice A2 p.ts.length c2], .agg s.cells] w fun e w' => e = .returned (.bool false) ∧ Below w.heap.size w w' := by
  have hS : ∀ b, Old n b → b < w.heap.size := hs.lts
  have hb0 := hide (below2 w (Obj.cells #[.slice A1 p.init.length c1, .slice A2 p.ts.length c2] 31) (Obj.cells s.cells 48))
  have G0 := hide ((Blk.new w 31 #[.slice A1 p.init.length c1, .slice A2 p.ts.length c2]).alloc (Obj.cells s.cells 48))
  have K0 := Blk.new (w.alloc (Obj.cells #[.slice A1 p.init.length c1, .slice A2 p.ts.length c2] 31)) 48 s.cells
  simp only [World.size_alloc] at K0
  replace K0 := hide K0
  have hok := hide (stateOk_any (n := n) (v := .agg #[.slice A1 p.init.length c1, .slice A2 p.ts.length c2]) (w := (w.alloc (Obj.cells #[.slice A1 p.init.length c1, .slice A2 p.ts.length c2] 31)).alloc (Obj.cells s.cells 48)) (p := p) (s := s) ⟨A1, c1, A2, c2, rfl, hcc, hi.below hb0.out hS, ht.below hb0.out hS⟩ (hs.next hb0.out) hl)
  have hs0 := hide (hs.next hb0.out)
  have ht0 := hide (ht.below hb0.out hS)
  clear hs ht hi
  rw [hB] at hok
  unfold StD.cells at hok hb0 ⊢
  go_enter Try.func37, Try.ntmps37
  go_wp2_with fail
  refine hok.out.mono ?_
  rintro e w1 ⟨rfl, hb1⟩
  have B1 := hide (below_then hb0.out hb1)
  clear hok hb1
  go_wp2_with fail
  go_ret
  exact ⟨rfl, B1.out⟩

set_option maxRecDepth 100000 in
set_option maxHeartbeats 12800000 in
theorem done_0 (p : ProgD) (s : StD) (A1 A2 : Option Addr) (c1 c2 n : Nat) (w : World) (hcc : p.init.length ≤ c1 ∧ p.ts.length ≤ c2) (hi : IntsAt w (Old n) A1 p.init) (ht : ThreadsAt w (Old n) A2 p.ts) (hs : StAt w n s) (hl : StLen s) (hB : stateB p s = true) (hk : s.kind = 0) :
    Calls Try.prog 37 #[.agg #[.slice A1 p.init.length c1, .slice A2 p.ts.length c2], .agg s.cells] w fun e w' => e = .returned (.bool (endB p s)) ∧ Below w.heap.size w w' := by
  have hS : ∀ b, Old n b → b < w.heap.size := hs.lts
  have hb0 := hide (below2 w (Obj.cells #[.slice A1 p.init.length c1, .slice A2 p.ts.length c2] 31) (Obj.cells s.cells 48))
  have G0 := hide ((Blk.new w 31 #[.slice A1 p.init.length c1, .slice A2 p.ts.length c2]).alloc (Obj.cells s.cells 48))
  have K0 := Blk.new (w.alloc (Obj.cells #[.slice A1 p.init.length c1, .slice A2 p.ts.length c2] 31)) 48 s.cells
  simp only [World.size_alloc] at K0
  replace K0 := hide K0
  have hok := hide (stateOk_any (n := n) (v := .agg #[.slice A1 p.init.length c1, .slice A2 p.ts.length c2]) (w := (w.alloc (Obj.cells #[.slice A1 p.init.length c1, .slice A2 p.ts.length c2] 31)).alloc (Obj.cells s.cells 48)) (p := p) (s := s) ⟨A1, c1, A2, c2, rfl, hcc, hi.below hb0.out hS, ht.below hb0.out hS⟩ (hs.next hb0.out) hl)
  have hs0 := hide (hs.next hb0.out)
  have ht0 := hide (ht.below hb0.out hS)
  clear hs ht hi
  rw [hB] at hok
  have hcs : s.cells = #[.int .i64 0, .slice s.pc.A s.pc.n s.pc.c, .slice s.F.A s.F.n s.F.c, .slice s.mem.A s.mem.n s.mem.c, .slice s.bufs.A s.bufs.n s.bufs.c, .slice s.H.A s.H.n s.H.c, .slice s.view.A s.view.n s.view.c, .slice s.sc.A s.sc.n s.sc.c, .int .i64 s.next] := by unfold StD.cells; rw [hk]
  rw [hcs] at hok hb0 G0 K0 hs0 ht0 ⊢
  obtain ⟨y1, -, y2, -⟩ := stateB_yes hB
  obtain ⟨res, hres⟩ : ∃ res, res = endB p s := ⟨_, rfl⟩
  rw [← hres]
  have hE := hide (show res = (endedB p.ts s.pc.zs) from by rw [hres]; unfold endB; rw [hk]; rw [if_neg (by decide), Bool.and_true])
  have hlp := hide hl.pc
  have hlf := hide hl.F
  have hlb := hide hl.bufs
  replace y1 := hide y1
  clear hcs hres hl hk y2
  go_enter Try.func37, Try.ntmps37
  go_wp2_with fail
  refine hok.out.mono ?_
  rintro e w1 ⟨rfl, hb1⟩
  have B1 := hide (below_then hb0.out hb1)
  have hz1 := hb1.size
  simp only [World.size_alloc] at hz1
  have G1 := hide (G0.out.below hb1 G0.out.lt)
  have K1 := hide (K0.out.below hb1 K0.out.lt)
  have hs1 := hide (hs0.out.next hb1)
  have ht1 := hide (ht0.out.below hb1 hs0.out.lts)
  have k0 : w1.cell? ⟨w.heap.size + 1, 0, none⟩ = some (.int .i64 0) := K1.out.cell 0
  have k1 : w1.cell? ⟨w.heap.size + 1, 1, none⟩ = some (.slice s.pc.A s.pc.n s.pc.c) := K1.out.cell 1
  have k2 : w1.cell? ⟨w.heap.size + 1, 2, none⟩ = some (.slice s.F.A s.F.n s.F.c) := K1.out.cell 2
  have k3 : w1.cell? ⟨w.heap.size + 1, 3, none⟩ = some (.slice s.mem.A s.mem.n s.mem.c) := K1.out.cell 3
  have k4 : w1.cell? ⟨w.heap.size + 1, 4, none⟩ = some (.slice s.bufs.A s.bufs.n s.bufs.c) := K1.out.cell 4
  have k5 : w1.cell? ⟨w.heap.size + 1, 5, none⟩ = some (.slice s.H.A s.H.n s.H.c) := K1.out.cell 5
  have k6 : w1.cell? ⟨w.heap.size + 1, 6, none⟩ = some (.slice s.view.A s.view.n s.view.c) := K1.out.cell 6
  have k7 : w1.cell? ⟨w.heap.size + 1, 7, none⟩ = some (.slice s.sc.A s.sc.n s.sc.c) := K1.out.cell 7
  have k8 : w1.cell? ⟨w.heap.size + 1, 8, none⟩ = some (.int .i64 s.next) := K1.out.cell 8
  have g0 : w1.cell? ⟨w.heap.size, 0, none⟩ = some (.slice A1 p.init.length c1) := G1.out.cell 0
  have g1 : w1.cell? ⟨w.heap.size, 1, none⟩ = some (.slice A2 p.ts.length c2) := G1.out.cell 1
  clear hok hb1 hb0 G0 K0 hs0 ht0
  go_wp2_with fail
  refine (kindOf_0 A1 A2 s.pc.A s.F.A s.mem.A s.bufs.A s.H.A s.view.A s.sc.A _ _ s.pc.n s.F.n s.mem.n s.bufs.n s.H.n s.view.n s.sc.n c1 c2 s.pc.c s.F.c s.mem.c s.bufs.c s.H.c s.view.c s.sc.c s.next w1).mono ?_
  rintro e w2 ⟨T, rfl, hKT, hT, hb2⟩
  have B2 := hide (below_then B1.out hb2)
  have hs2 := hide (hs1.out.next hb2)
  have ht2 := hide (ht1.out.below hb2 hs1.out.lts)
  have hTl := hKT.lt
  replace hKT := hide hKT
  clear G1 K1 hs1 ht1 B1 hb2 hT k0 k1 k2 k3 k4 k5 k6 k7 k8 g0 g1 hz1
  have t0 : ∀ w, (Instr.typeAssert (Value.iface 133 (.pointer (some ⟨T, 0, none⟩))) 20 133 true).run Try.prog w = .ok (.tuple #[.pointer (some ⟨T, 0, none⟩), .bool true]) w := fun _ => by kernel_rfl
  have ke : Calls Try.prog 110 #[.agg #[.slice A1 p.init.length c1, .slice A2 p.ts.length c2, .slice s.pc.A s.pc.n s.pc.c, .slice s.F.A s.F.n s.F.c]] w2 fun e w' => e = .returned (.bool (endedB p.ts s.pc.zs)) ∧ Below w2.heap.size w2 w' := by
    have h := ended_any A1 A2 s.pc.A s.F.A p.init.length s.F.n c1 c2 s.pc.c s.F.c p.ts s.pc.zs (Old n) w2 y1.out hs2.out.lts ht2.out hs2.out.pc
    have e : s.pc.n = p.ts.length := hlp.out.symm.trans y1.out
    rw [e]
    exact h
  replace ke := hide ke
  have x0 : w2.cell? ⟨T, 0, none⟩ = some (.slice A1 p.init.length c1) := hKT.out.cell 0
  have x1 : w2.cell? ⟨T, 1, none⟩ = some (.slice A2 p.ts.length c2) := hKT.out.cell 1
  have x2 : w2.cell? ⟨T, 2, none⟩ = some (.slice s.pc.A s.pc.n s.pc.c) := hKT.out.cell 2
  have x3 : w2.cell? ⟨T, 3, none⟩ = some (.slice s.F.A s.F.n s.F.c) := hKT.out.cell 3
  have x4 : w2.cell? ⟨T, 4, none⟩ = some (.slice s.mem.A s.mem.n s.mem.c) := hKT.out.cell 4
  go_wp2_with fail
  refine ke.out.mono ?_
  rintro e w3 ⟨rfl, hb3⟩
  have B3 := hide (below_then B2.out hb3)
  go_wp2_with fail
  go_ret
  exact ⟨ret_bool (hE.out.trans rfl).symm, B3.out⟩

set_option maxRecDepth 100000 in
set_option maxHeartbeats 12800000 in
theorem done_1 (p : ProgD) (s : StD) (A1 A2 : Option Addr) (c1 c2 n : Nat) (w : World) (hcc : p.init.length ≤ c1 ∧ p.ts.length ≤ c2) (hi : IntsAt w (Old n) A1 p.init) (ht : ThreadsAt w (Old n) A2 p.ts) (hs : StAt w n s) (hl : StLen s) (hB : stateB p s = true) (hk : s.kind = 1) :
    Calls Try.prog 37 #[.agg #[.slice A1 p.init.length c1, .slice A2 p.ts.length c2], .agg s.cells] w fun e w' => e = .returned (.bool (endB p s)) ∧ Below w.heap.size w w' := by
  have hS : ∀ b, Old n b → b < w.heap.size := hs.lts
  have hb0 := hide (below2 w (Obj.cells #[.slice A1 p.init.length c1, .slice A2 p.ts.length c2] 31) (Obj.cells s.cells 48))
  have G0 := hide ((Blk.new w 31 #[.slice A1 p.init.length c1, .slice A2 p.ts.length c2]).alloc (Obj.cells s.cells 48))
  have K0 := Blk.new (w.alloc (Obj.cells #[.slice A1 p.init.length c1, .slice A2 p.ts.length c2] 31)) 48 s.cells
  simp only [World.size_alloc] at K0
  replace K0 := hide K0
  have hok := hide (stateOk_any (n := n) (v := .agg #[.slice A1 p.init.length c1, .slice A2 p.ts.length c2]) (w := (w.alloc (Obj.cells #[.slice A1 p.init.length c1, .slice A2 p.ts.length c2] 31)).alloc (Obj.cells s.cells 48)) (p := p) (s := s) ⟨A1, c1, A2, c2, rfl, hcc, hi.below hb0.out hS, ht.below hb0.out hS⟩ (hs.next hb0.out) hl)
  have hs0 := hide (hs.next hb0.out)
  have ht0 := hide (ht.below hb0.out hS)
  clear hs ht hi
  rw [hB] at hok
  have hcs : s.cells = #[.int .i64 1, .slice s.pc.A s.pc.n s.pc.c, .slice s.F.A s.F.n s.F.c, .slice s.mem.A s.mem.n s.mem.c, .slice s.bufs.A s.bufs.n s.bufs.c, .slice s.H.A s.H.n s.H.c, .slice s.view.A s.view.n s.view.c, .slice s.sc.A s.sc.n s.sc.c, .int .i64 s.next] := by unfold StD.cells; rw [hk]
  rw [hcs] at hok hb0 G0 K0 hs0 ht0 ⊢
  obtain ⟨y1, -, y2, -⟩ := stateB_yes hB
  obtain ⟨res, hres⟩ : ∃ res, res = endB p s := ⟨_, rfl⟩
  rw [← hres]
  have hE := hide (show res = (endedB p.ts s.pc.zs && emptyB (rns s.bufs.rs)) from by rw [hres]; unfold endB; rw [hk]; rw [if_pos rfl])
  have hlp := hide hl.pc
  have hlf := hide hl.F
  have hlb := hide hl.bufs
  replace y1 := hide y1
  clear hcs hres hl hk y2
  go_enter Try.func37, Try.ntmps37
  go_wp2_with fail
  refine hok.out.mono ?_
  rintro e w1 ⟨rfl, hb1⟩
  have B1 := hide (below_then hb0.out hb1)
  have hz1 := hb1.size
  simp only [World.size_alloc] at hz1
  have G1 := hide (G0.out.below hb1 G0.out.lt)
  have K1 := hide (K0.out.below hb1 K0.out.lt)
  have hs1 := hide (hs0.out.next hb1)
  have ht1 := hide (ht0.out.below hb1 hs0.out.lts)
  have k0 : w1.cell? ⟨w.heap.size + 1, 0, none⟩ = some (.int .i64 1) := K1.out.cell 0
  have k1 : w1.cell? ⟨w.heap.size + 1, 1, none⟩ = some (.slice s.pc.A s.pc.n s.pc.c) := K1.out.cell 1
  have k2 : w1.cell? ⟨w.heap.size + 1, 2, none⟩ = some (.slice s.F.A s.F.n s.F.c) := K1.out.cell 2
  have k3 : w1.cell? ⟨w.heap.size + 1, 3, none⟩ = some (.slice s.mem.A s.mem.n s.mem.c) := K1.out.cell 3
  have k4 : w1.cell? ⟨w.heap.size + 1, 4, none⟩ = some (.slice s.bufs.A s.bufs.n s.bufs.c) := K1.out.cell 4
  have k5 : w1.cell? ⟨w.heap.size + 1, 5, none⟩ = some (.slice s.H.A s.H.n s.H.c) := K1.out.cell 5
  have k6 : w1.cell? ⟨w.heap.size + 1, 6, none⟩ = some (.slice s.view.A s.view.n s.view.c) := K1.out.cell 6
  have k7 : w1.cell? ⟨w.heap.size + 1, 7, none⟩ = some (.slice s.sc.A s.sc.n s.sc.c) := K1.out.cell 7
  have k8 : w1.cell? ⟨w.heap.size + 1, 8, none⟩ = some (.int .i64 s.next) := K1.out.cell 8
  have g0 : w1.cell? ⟨w.heap.size, 0, none⟩ = some (.slice A1 p.init.length c1) := G1.out.cell 0
  have g1 : w1.cell? ⟨w.heap.size, 1, none⟩ = some (.slice A2 p.ts.length c2) := G1.out.cell 1
  clear hok hb1 hb0 G0 K0 hs0 ht0
  go_wp2_with fail
  refine (kindOf_1 A1 A2 s.pc.A s.F.A s.mem.A s.bufs.A s.H.A s.view.A s.sc.A _ _ s.pc.n s.F.n s.mem.n s.bufs.n s.H.n s.view.n s.sc.n c1 c2 s.pc.c s.F.c s.mem.c s.bufs.c s.H.c s.view.c s.sc.c s.next w1).mono ?_
  rintro e w2 ⟨T, rfl, hKT, hT, hb2⟩
  have B2 := hide (below_then B1.out hb2)
  have hs2 := hide (hs1.out.next hb2)
  have ht2 := hide (ht1.out.below hb2 hs1.out.lts)
  have hTl := hKT.lt
  replace hKT := hide hKT
  clear G1 K1 hs1 ht1 B1 hb2 hT k0 k1 k2 k3 k4 k5 k6 k7 k8 g0 g1 hz1
  have t0 : ∀ w, (Instr.typeAssert (Value.iface 139 (.pointer (some ⟨T, 0, none⟩))) 20 133 true).run Try.prog w = .ok (.tuple #[.pointer none, .bool false]) w := fun _ => by kernel_rfl
  have t1 : ∀ w, (Instr.typeAssert (Value.iface 139 (.pointer (some ⟨T, 0, none⟩))) 20 139 true).run Try.prog w = .ok (.tuple #[.pointer (some ⟨T, 0, none⟩), .bool true]) w := fun _ => by kernel_rfl
  have ke : Calls Try.prog 110 #[.agg #[.slice A1 p.init.length c1, .slice A2 p.ts.length c2, .slice s.pc.A s.pc.n s.pc.c, .slice s.F.A s.F.n s.F.c]] w2 fun e w' => e = .returned (.bool (endedB p.ts s.pc.zs)) ∧ Below w2.heap.size w2 w' := by
    have h := ended_any A1 A2 s.pc.A s.F.A p.init.length s.F.n c1 c2 s.pc.c s.F.c p.ts s.pc.zs (Old n) w2 y1.out hs2.out.lts ht2.out hs2.out.pc
    have e : s.pc.n = p.ts.length := hlp.out.symm.trans y1.out
    rw [e]
    exact h
  replace ke := hide ke
  have x0 : w2.cell? ⟨T, 0, none⟩ = some (.slice A1 p.init.length c1) := hKT.out.cell 0
  have x1 : w2.cell? ⟨T, 1, none⟩ = some (.slice A2 p.ts.length c2) := hKT.out.cell 1
  have x2 : w2.cell? ⟨T, 2, none⟩ = some (.slice s.pc.A s.pc.n s.pc.c) := hKT.out.cell 2
  have x3 : w2.cell? ⟨T, 3, none⟩ = some (.slice s.F.A s.F.n s.F.c) := hKT.out.cell 3
  have x4 : w2.cell? ⟨T, 4, none⟩ = some (.slice s.mem.A s.mem.n s.mem.c) := hKT.out.cell 4
  have x5 : w2.cell? ⟨T, 5, none⟩ = some (.slice s.bufs.A s.bufs.n s.bufs.c) := hKT.out.cell 5
  go_wp2_with fail
  refine ke.out.mono ?_
  rintro e w3 ⟨rfl, hb3⟩
  have B3 := hide (below_then B2.out hb3)
  have K3 := hide (hKT.out.below hb3 hTl)
  have hs3 := hide (hs2.out.next hb3)
  clear x0 x1 x2 x3 x4 x5 ke
  cases he : endedB p.ts s.pc.zs
  · have hF := hide (show res = false from by rw [hE.out, he]; rfl)
    go_wp2_with fail
    go_ret
    exact ⟨ret_bool hF.out.symm, B3.out⟩
  · have hF := hide (show res = emptyB (rns s.bufs.rs) from by rw [hE.out, he]; rfl)
    have kn : Calls Try.prog 111 #[.agg #[.slice A1 p.init.length c1, .slice A2 p.ts.length c2, .slice s.pc.A s.pc.n s.pc.c, .slice s.F.A s.F.n s.F.c, .slice s.mem.A s.mem.n s.mem.c, .slice s.bufs.A s.bufs.n s.bufs.c]] w3 fun e w' => e = .returned (.bool (emptyB (rns s.bufs.rs))) ∧ Below w3.heap.size w3 w' := by
      have h := nothing_any A1 A2 s.pc.A s.F.A s.mem.A s.bufs.A p.init.length p.ts.length s.pc.n s.F.n s.mem.n c1 c2 s.pc.c s.F.c s.mem.c s.bufs.c (rns s.bufs.rs) (Old n) w3 hs3.out.lts hs3.out.bufs.lens
      rw [rns_len, hlb.out] at h
      exact h
    replace kn := hide kn
    have x0 : w3.cell? ⟨T, 0, none⟩ = some (.slice A1 p.init.length c1) := K3.out.cell 0
    have x1 : w3.cell? ⟨T, 1, none⟩ = some (.slice A2 p.ts.length c2) := K3.out.cell 1
    have x2 : w3.cell? ⟨T, 2, none⟩ = some (.slice s.pc.A s.pc.n s.pc.c) := K3.out.cell 2
    have x3 : w3.cell? ⟨T, 3, none⟩ = some (.slice s.F.A s.F.n s.F.c) := K3.out.cell 3
    have x4 : w3.cell? ⟨T, 4, none⟩ = some (.slice s.mem.A s.mem.n s.mem.c) := K3.out.cell 4
    have x5 : w3.cell? ⟨T, 5, none⟩ = some (.slice s.bufs.A s.bufs.n s.bufs.c) := K3.out.cell 5
    have hTl3 := K3.out.lt
    go_wp2_with fail
    refine kn.out.mono ?_
    rintro e w4 ⟨rfl, hb4⟩
    go_wp2_with fail
    go_ret
    exact ⟨ret_bool hF.out.symm, below_then B3.out hb4⟩

set_option maxRecDepth 100000 in
set_option maxHeartbeats 12800000 in
theorem done_2 (p : ProgD) (s : StD) (A1 A2 : Option Addr) (c1 c2 n : Nat) (w : World) (hcc : p.init.length ≤ c1 ∧ p.ts.length ≤ c2) (hi : IntsAt w (Old n) A1 p.init) (ht : ThreadsAt w (Old n) A2 p.ts) (hs : StAt w n s) (hl : StLen s) (hB : stateB p s = true) (hk : s.kind = 2) :
    Calls Try.prog 37 #[.agg #[.slice A1 p.init.length c1, .slice A2 p.ts.length c2], .agg s.cells] w fun e w' => e = .returned (.bool (endB p s)) ∧ Below w.heap.size w w' := by
  have hS : ∀ b, Old n b → b < w.heap.size := hs.lts
  have hb0 := hide (below2 w (Obj.cells #[.slice A1 p.init.length c1, .slice A2 p.ts.length c2] 31) (Obj.cells s.cells 48))
  have G0 := hide ((Blk.new w 31 #[.slice A1 p.init.length c1, .slice A2 p.ts.length c2]).alloc (Obj.cells s.cells 48))
  have K0 := Blk.new (w.alloc (Obj.cells #[.slice A1 p.init.length c1, .slice A2 p.ts.length c2] 31)) 48 s.cells
  simp only [World.size_alloc] at K0
  replace K0 := hide K0
  have hok := hide (stateOk_any (n := n) (v := .agg #[.slice A1 p.init.length c1, .slice A2 p.ts.length c2]) (w := (w.alloc (Obj.cells #[.slice A1 p.init.length c1, .slice A2 p.ts.length c2] 31)).alloc (Obj.cells s.cells 48)) (p := p) (s := s) ⟨A1, c1, A2, c2, rfl, hcc, hi.below hb0.out hS, ht.below hb0.out hS⟩ (hs.next hb0.out) hl)
  have hs0 := hide (hs.next hb0.out)
  have ht0 := hide (ht.below hb0.out hS)
  clear hs ht hi
  rw [hB] at hok
  have hcs : s.cells = #[.int .i64 2, .slice s.pc.A s.pc.n s.pc.c, .slice s.F.A s.F.n s.F.c, .slice s.mem.A s.mem.n s.mem.c, .slice s.bufs.A s.bufs.n s.bufs.c, .slice s.H.A s.H.n s.H.c, .slice s.view.A s.view.n s.view.c, .slice s.sc.A s.sc.n s.sc.c, .int .i64 s.next] := by unfold StD.cells; rw [hk]
  rw [hcs] at hok hb0 G0 K0 hs0 ht0 ⊢
  obtain ⟨y1, -, y2, -⟩ := stateB_yes hB
  obtain ⟨res, hres⟩ : ∃ res, res = endB p s := ⟨_, rfl⟩
  rw [← hres]
  have hE := hide (show res = (endedB p.ts s.pc.zs) from by rw [hres]; unfold endB; rw [hk]; rw [if_neg (by decide), Bool.and_true])
  have hlp := hide hl.pc
  have hlf := hide hl.F
  have hlb := hide hl.bufs
  replace y1 := hide y1
  clear hcs hres hl hk y2
  go_enter Try.func37, Try.ntmps37
  go_wp2_with fail
  refine hok.out.mono ?_
  rintro e w1 ⟨rfl, hb1⟩
  have B1 := hide (below_then hb0.out hb1)
  have hz1 := hb1.size
  simp only [World.size_alloc] at hz1
  have G1 := hide (G0.out.below hb1 G0.out.lt)
  have K1 := hide (K0.out.below hb1 K0.out.lt)
  have hs1 := hide (hs0.out.next hb1)
  have ht1 := hide (ht0.out.below hb1 hs0.out.lts)
  have k0 : w1.cell? ⟨w.heap.size + 1, 0, none⟩ = some (.int .i64 2) := K1.out.cell 0
  have k1 : w1.cell? ⟨w.heap.size + 1, 1, none⟩ = some (.slice s.pc.A s.pc.n s.pc.c) := K1.out.cell 1
  have k2 : w1.cell? ⟨w.heap.size + 1, 2, none⟩ = some (.slice s.F.A s.F.n s.F.c) := K1.out.cell 2
  have k3 : w1.cell? ⟨w.heap.size + 1, 3, none⟩ = some (.slice s.mem.A s.mem.n s.mem.c) := K1.out.cell 3
  have k4 : w1.cell? ⟨w.heap.size + 1, 4, none⟩ = some (.slice s.bufs.A s.bufs.n s.bufs.c) := K1.out.cell 4
  have k5 : w1.cell? ⟨w.heap.size + 1, 5, none⟩ = some (.slice s.H.A s.H.n s.H.c) := K1.out.cell 5
  have k6 : w1.cell? ⟨w.heap.size + 1, 6, none⟩ = some (.slice s.view.A s.view.n s.view.c) := K1.out.cell 6
  have k7 : w1.cell? ⟨w.heap.size + 1, 7, none⟩ = some (.slice s.sc.A s.sc.n s.sc.c) := K1.out.cell 7
  have k8 : w1.cell? ⟨w.heap.size + 1, 8, none⟩ = some (.int .i64 s.next) := K1.out.cell 8
  have g0 : w1.cell? ⟨w.heap.size, 0, none⟩ = some (.slice A1 p.init.length c1) := G1.out.cell 0
  have g1 : w1.cell? ⟨w.heap.size, 1, none⟩ = some (.slice A2 p.ts.length c2) := G1.out.cell 1
  clear hok hb1 hb0 G0 K0 hs0 ht0
  go_wp2_with fail
  refine (kindOf_2 A1 A2 s.pc.A s.F.A s.mem.A s.bufs.A s.H.A s.view.A s.sc.A _ _ s.pc.n s.F.n s.mem.n s.bufs.n s.H.n s.view.n s.sc.n c1 c2 s.pc.c s.F.c s.mem.c s.bufs.c s.H.c s.view.c s.sc.c s.next w1).mono ?_
  rintro e w2 ⟨T, rfl, hKT, hT, hb2⟩
  have B2 := hide (below_then B1.out hb2)
  have hs2 := hide (hs1.out.next hb2)
  have ht2 := hide (ht1.out.below hb2 hs1.out.lts)
  have hTl := hKT.lt
  replace hKT := hide hKT
  clear G1 K1 hs1 ht1 B1 hb2 hT k0 k1 k2 k3 k4 k5 k6 k7 k8 g0 g1 hz1
  have t0 : ∀ w, (Instr.typeAssert (Value.iface 142 (.pointer (some ⟨T, 0, none⟩))) 20 133 true).run Try.prog w = .ok (.tuple #[.pointer none, .bool false]) w := fun _ => by kernel_rfl
  have t1 : ∀ w, (Instr.typeAssert (Value.iface 142 (.pointer (some ⟨T, 0, none⟩))) 20 139 true).run Try.prog w = .ok (.tuple #[.pointer none, .bool false]) w := fun _ => by kernel_rfl
  have t2 : ∀ w, (Instr.typeAssert (Value.iface 142 (.pointer (some ⟨T, 0, none⟩))) 20 142 true).run Try.prog w = .ok (.tuple #[.pointer (some ⟨T, 0, none⟩), .bool true]) w := fun _ => by kernel_rfl
  have ke : Calls Try.prog 110 #[.agg #[.slice A1 p.init.length c1, .slice A2 p.ts.length c2, .slice s.pc.A s.pc.n s.pc.c, .slice s.F.A s.F.n s.F.c]] w2 fun e w' => e = .returned (.bool (endedB p.ts s.pc.zs)) ∧ Below w2.heap.size w2 w' := by
    have h := ended_any A1 A2 s.pc.A s.F.A p.init.length s.F.n c1 c2 s.pc.c s.F.c p.ts s.pc.zs (Old n) w2 y1.out hs2.out.lts ht2.out hs2.out.pc
    have e : s.pc.n = p.ts.length := hlp.out.symm.trans y1.out
    rw [e]
    exact h
  replace ke := hide ke
  have x0 : w2.cell? ⟨T, 0, none⟩ = some (.slice A1 p.init.length c1) := hKT.out.cell 0
  have x1 : w2.cell? ⟨T, 1, none⟩ = some (.slice A2 p.ts.length c2) := hKT.out.cell 1
  have x2 : w2.cell? ⟨T, 2, none⟩ = some (.slice s.pc.A s.pc.n s.pc.c) := hKT.out.cell 2
  have x3 : w2.cell? ⟨T, 3, none⟩ = some (.slice s.F.A s.F.n s.F.c) := hKT.out.cell 3
  have x4 : w2.cell? ⟨T, 4, none⟩ = some (.slice s.H.A s.H.n s.H.c) := hKT.out.cell 4
  have x5 : w2.cell? ⟨T, 5, none⟩ = some (.slice s.view.A s.view.n s.view.c) := hKT.out.cell 5
  have x6 : w2.cell? ⟨T, 6, none⟩ = some (.slice s.sc.A s.sc.n s.sc.c) := hKT.out.cell 6
  have x7 : w2.cell? ⟨T, 7, none⟩ = some (.int .i64 s.next) := hKT.out.cell 7
  go_wp2_with fail
  refine ke.out.mono ?_
  rintro e w3 ⟨rfl, hb3⟩
  have B3 := hide (below_then B2.out hb3)
  go_wp2_with fail
  go_ret
  exact ⟨ret_bool (hE.out.trans rfl).symm, B3.out⟩

theorem done_any {p : ProgD} {s : StD} {n : Nat} {v : Value} {w : World} (hp : ProgAt w (Old n) v p) (hs : StAt w n s) (hl : StLen s) :
    Calls Try.prog 37 #[v, .agg s.cells] w fun e w' => e = .returned (.bool (doneB p s)) ∧ Below w.heap.size w w' := by
  obtain ⟨A1, c1, A2, c2, rfl, hcc, hi, ht⟩ := hp
  rw [doneB_eq]
  cases hB : stateB p s
  · exact done_bad p s A1 A2 c1 c2 n w hcc hi ht hs hl hB
  · rcases (stateB_yes hB).2.2.2 with h | h | h
    · exact done_0 p s A1 A2 c1 c2 n w hcc hi ht hs hl hB h
    · exact done_1 p s A1 A2 c1 c2 n w hcc hi ht hs hl hB h
    · exact done_2 p s A1 A2 c1 c2 n w hcc hi ht hs hl hB h
end Go.Proofs.Ytfkaacfeikmabaa

namespace Go.Proofs.Ytfkaacfeikmabaa
open Go.RowKit

theorem IntsAt.drewN {w : World} {S : Nat → Prop} {A : Option Addr} {zs : List Int} (h : IntsAt w S A zs) (k : Nat) : IntsAt (w.drewN k) S A zs := h
structure Fr (w0 : World) (o r a b x n : Int) (A : Option Addr) (c : Nat) (zs : List Int) (w : World) : Prop where
  I : Blk w w0.heap.size 72 #[.int .i64 o, .int .i64 r, .int .i64 a, .int .i64 b, .int .i64 x, .int .i64 n]
  F : Blk w (w0.heap.size + 1) 69 #[.slice A zs.length c]
  row : IntsAt w (Old w0.heap.size) A zs
  below : Below w0.heap.size w0 w

section
variable {w0 w w' : World} {o r a b x n : Int} {A : Option Addr} {c : Nat} {zs : List Int}
theorem Fr.next (h : Fr w0 o r a b x n A c zs w) (hb : Below w.heap.size w w') : Fr w0 o r a b x n A c zs w' :=
  ⟨h.I.below hb h.I.lt, h.F.below hb h.F.lt, h.row.below hb (fun _ hk => Nat.lt_of_lt_of_le hk h.below.size), below_then h.below (hb.mono (Nat.le_refl _))⟩
theorem Fr.drewN (h : Fr w0 o r a b x n A c zs w) (k : Nat) : Fr w0 o r a b x n A c zs (w.drewN k) := h.next (below_drewN (Below.refl _ _) k)
theorem Fr.drew (h : Fr w0 o r a b x n A c zs w) : Fr w0 o r a b x n A c zs w.drew := h.next (Below.refl _ _).drew
theorem Fr.start (h : IntsAt w0 (Old w0.heap.size) A zs) : Fr w0 o r a b x n A c zs ((w0.alloc (Obj.cells #[Value.int .i64 o, Value.int .i64 r, Value.int .i64 a, Value.int .i64 b, Value.int .i64 x, Value.int .i64 n] 72)).alloc (Obj.cells #[Value.slice A zs.length c] 69)) := by
  have hF := Blk.new (w0.alloc (Obj.cells #[Value.int .i64 o, Value.int .i64 r, Value.int .i64 a, Value.int .i64 b, Value.int .i64 x, Value.int .i64 n] 72)) 69 #[Value.slice A zs.length c]
  simp only [World.size_alloc] at hF
  exact ⟨(Blk.new w0 _ _).alloc _, hF, h.below (below2 w0 _ _) (fun _ h => h), below2 w0 _ _⟩
theorem Fr.cells (h : Fr w0 o r a b x n A c zs w) : (w.cell? ⟨w0.heap.size, 0, none⟩ = some (.int .i64 o) ∧ w.cell? ⟨w0.heap.size, 1, none⟩ = some (.int .i64 r) ∧ w.cell? ⟨w0.heap.size, 2, none⟩ = some (.int .i64 a) ∧ w.cell? ⟨w0.heap.size, 3, none⟩ = some (.int .i64 b) ∧ w.cell? ⟨w0.heap.size, 4, none⟩ = some (.int .i64 x) ∧ w.cell? ⟨w0.heap.size, 5, none⟩ = some (.int .i64 n)) ∧ w.cell? ⟨w0.heap.size + 1, 0, none⟩ = some (.slice A zs.length c) :=
  ⟨(ins6 h.I).1, h.F.cell 0⟩
end

theorem news_of_ints {w : World} {S : Nat → Prop} {b off : Nat} {zs : List Int} (h : IntsAt w S (some ⟨b, off, none⟩) zs) : ∀ j u, (zs.map (Value.int .i64))[j]? = some u → w.cell? ((⟨b, off, none⟩ : Addr).add j) = some u := by
  intro j u hj
  rcases Nat.lt_or_ge j zs.length with hl | hl
  · obtain ⟨b', off', e, _, hc⟩ := h.2 (by omega)
    cases e
    rw [add_plain', hc j hl]
    simpa [geti, List.getD_eq_getElem?_getD, List.getElem?_eq_getElem hl] using hj
  · rw [List.getElem?_eq_none (by simpa using hl)] at hj
    cases hj

def RowNew (w w' : World) (e : Ending) (zs : List Int) : Prop := ∃ (q c : Nat), e = .returned (.slice (some ⟨q, 0, none⟩) zs.length c) ∧ w'.ownsRow w.heap.size 3 1 (.slice (some ⟨q, 0, none⟩) zs.length c) zs.length (zs.map (Value.int .i64)) ∧ Below w.heap.size w w'

theorem below_grown {w w' : World} {r : Option Nat} {B : Nat} (hg : w.grownBy w' r) (hr : ∀ k, k < B → some k ≠ r) (hB : B ≤ w.heap.size) : Below B w w' :=
  ⟨hg.os, hg.tape, hg.output, hg.size, fun k hk => hg.block k (Nat.lt_of_lt_of_le hk hB) (hr k hk)⟩

set_option maxRecDepth 100000 in
set_option maxHeartbeats 1600000 in
theorem clone_any (A : Option Addr) (zs : List Int) (c : Nat) (w : World) (hz : 0 < zs.length) (hz2 : zs.length ≤ 100) (hS : IntsAt w (Old w.heap.size) A zs) :
    Calls Try.prog 66 #[.slice A zs.length c] w fun e w' => RowNew w w' e zs := by
  obtain ⟨b, off, rfl, -, -⟩ := hS.2 hz
  obtain ⟨i1, hi1, hy0, hy1, hy2⟩ := info_parts Try.infoInt
  have hb0 := below1 w (Obj.cells #[] 3)
  have hnews := hide (news_of_ints (hS.below hb0 (fun _ h => h)))
  clear hS
  have he : ∀ w : World, (binOp .eql 22 (.slice (some ⟨b, off, none⟩) zs.length c) (.slice none 0 0)).run Try.prog w = .ok (.bool false) w := fun _ => by kernel_rfl
  go_enter Try.func66, Try.ntmps66
  go_wp2_with (at_builtin; refine wpList_append_lies _ rfl _ _ _ rfl w.heap.size 3 i1 _ 1 8 Try.underlying22 hi1 hy0 hy1 hy2 rfl (by omega) (.slice (some ⟨w.heap.size, 0, none⟩) 0 0) 0 [] rfl (own_lit w w.heap.size 3 1 0 #[] (Nat.le_refl _) (by omega) rfl) ⟨b, off, none⟩ zs.length c (zs.map (Value.int .i64)) rfl (by simp) hnews.out (by simp [Value.oneCell']) hz (by have : maxLen = 9223372036854775807 := rfl; omega) (by omega) (by simp) _ rfl ?_)
  intro g cap w2 hown hgr hat hlt
  go_wp2_with fail
  go_ret
  exact ⟨g, cap, rfl, hown, hb0.trans (below_grown hgr (fun k hk => by simp [Value.ownBlock]; omega) (by simp))⟩

section
variable {o r x n : Int} {a b c : Nat} {A : Option Addr} {zs : List Int} {w : World}
set_option maxRecDepth 100000 in
set_option maxHeartbeats 3200000 in
theorem jumps_any (o r x n : Int) (a b c : Nat) (ha : a < 6) (hz : zs.length = 6) (hin : IntsAt w (Old w.heap.size) A zs) :
    Calls Try.prog 123 #[.agg #[.int .i64 o, .int .i64 r, .int .i64 a, .int .i64 b, .int .i64 x, .int .i64 n], .agg #[.slice A zs.length c]] w fun e w' => e = .returned (.bool (jumpsB o (geti zs a))) ∧ Below w.heap.size w w' := by
  have H0 := hide (Fr.start (o := o) (r := r) (a := a) (b := b) (x := x) (n := n) (c := c) hin)
  rw [hz] at H0
  have hx : ∀ {wx : World}, Fr w o r a b x n A c zs wx → ∃ bb off, A = some ⟨bb, off, none⟩ ∧ wx.cell? ⟨bb, off + a, none⟩ = some (.int .i64 (geti zs a)) := fun h => by
    obtain ⟨bb, off, e, _, hc⟩ := h.row.2 (by omega)
    exact ⟨bb, off, e, hc a (by omega)⟩
  have ha' : (a : Int) < 6 := by omega
  have hcases : (o = 14) ∨ (o = 13 ∧ geti zs a = 0) ∨ (o = 13 ∧ ¬ geti zs a = 0) ∨ (¬ o = 14 ∧ ¬ o = 13) := by omega
  rcases hcases with rfl | ⟨rfl, h1⟩ | ⟨rfl, h1⟩ | ⟨h1, h2⟩
  · go_enter Try.func123, Try.ntmps123
    go_wp2_with fail
    refine (kind_any _ _ _ _ _ _ _).mono ?_
    rintro e w1 ⟨rfl, hb1⟩
    go_wp2_with fail
    go_ret
    exact ⟨ret_bool (by simp [jumpsB]), (H0.out.next hb1).below⟩
  · go_enter Try.func123, Try.ntmps123
    go_wp2_with fail
    refine (kind_any _ _ _ _ _ _ _).mono ?_
    rintro e w1 ⟨rfl, hb1⟩
    have H1 := hide (H0.out.next hb1)
    obtain ⟨⟨e0, e1, e2, e3, e4, e5⟩, e6⟩ := H1.out.cells
    go_wp2_with fail
    refine (kind_any _ _ _ _ _ _ _).mono ?_
    rintro e w2 ⟨rfl, hb2⟩
    have H2 := hide (H1.out.next hb2)
    obtain ⟨⟨d0, d1, d2, d3, d4, d5⟩, d6⟩ := H2.out.cells
    obtain ⟨bb, off, rfl, hcl⟩ := hx H2.out
    rw [h1] at hcl
    rw [hz] at d6
    go_wp2_with fail
    go_ret
    exact ⟨ret_bool (by simp [jumpsB, h1]), H2.out.below⟩
  · go_enter Try.func123, Try.ntmps123
    go_wp2_with fail
    refine (kind_any _ _ _ _ _ _ _).mono ?_
    rintro e w1 ⟨rfl, hb1⟩
    have H1 := hide (H0.out.next hb1)
    obtain ⟨⟨e0, e1, e2, e3, e4, e5⟩, e6⟩ := H1.out.cells
    go_wp2_with fail
    refine (kind_any _ _ _ _ _ _ _).mono ?_
    rintro e w2 ⟨rfl, hb2⟩
    have H2 := hide (H1.out.next hb2)
    obtain ⟨⟨d0, d1, d2, d3, d4, d5⟩, d6⟩ := H2.out.cells
    obtain ⟨bb, off, rfl, hcl⟩ := hx H2.out
    rw [hz] at d6
    go_wp2_with fail
    go_ret
    exact ⟨ret_bool (by simp [jumpsB, h1]), H2.out.below⟩
  · go_enter Try.func123, Try.ntmps123
    go_wp2_with fail
    refine (kind_any _ _ _ _ _ _ _).mono ?_
    rintro e w1 ⟨rfl, hb1⟩
    have H1 := hide (H0.out.next hb1)
    obtain ⟨⟨e0, e1, e2, e3, e4, e5⟩, e6⟩ := H1.out.cells
    go_wp2_with fail
    refine (kind_any _ _ _ _ _ _ _).mono ?_
    rintro e w2 ⟨rfl, hb2⟩
    go_wp2_with fail
    go_ret
    exact ⟨ret_bool (by simp [jumpsB, h1, h2]), (H1.out.next hb2).below⟩

set_option maxRecDepth 100000 in
set_option maxHeartbeats 3200000 in
theorem l2calc_any (o r x n : Int) (a b c : Nat) (ho : 1 ≤ o ∧ o ≤ 6) (ha : a < 6) (hb : b < 6) (hz : zs.length = 6) (hin : IntsAt w (Old w.heap.size) A zs) :
    Calls Try.prog 116 #[.agg #[.int .i64 o, .int .i64 r, .int .i64 a, .int .i64 b, .int .i64 x, .int .i64 n], .slice A zs.length c] w fun e w' => e = .returned (.int .i64 (calcV o n (geti zs a) (geti zs b))) ∧ Below w.heap.size w w' := by
  obtain ⟨bb, off, rfl, hlt, hci⟩ := hin.2 (by omega)
  have hlt : bb < w.heap.size := hlt
  have ca := hci a (by omega)
  have cb := hci b (by omega)
  have ha' : (a : Int) < 6 := by omega
  have hb' : (b : Int) < 6 := by omega
  rw [hz]
  clear hci hin hz
  generalize geti zs a = za at *
  generalize geti zs b = zb at *
  have hcases : o = 1 ∨ o = 2 ∨ o = 3 ∨ o = 4 ∨ (o = 5 ∧ za < zb) ∨ (o = 5 ∧ ¬ za < zb) ∨ (o = 6 ∧ za = zb) ∨ (o = 6 ∧ ¬ za = zb) := by omega
  clear ho
  rcases hcases with rfl | rfl | rfl | rfl | ⟨rfl, h1⟩ | ⟨rfl, h1⟩ | ⟨rfl, rfl⟩ | ⟨rfl, h1⟩
  · go_enter Try.func116, Try.ntmps116
    go_wp2_with fail
    go_ret
    exact ⟨ret_int (by simp [calcV]), below1 _ _⟩
  · go_enter Try.func116, Try.ntmps116
    go_wp2_with fail
    go_ret
    exact ⟨ret_int (by simp [calcV]), below1 _ _⟩
  · go_enter Try.func116, Try.ntmps116
    go_wp2_with fail
    go_quiet (fail)
    go_wp2_with fail
    go_ret
    exact ⟨ret_int (by simp [calcV]), below_drewN (below1 _ _) _⟩
  · go_enter Try.func116, Try.ntmps116
    go_wp2_with fail
    go_quiet (fail)
    go_wp2_with fail
    go_ret
    exact ⟨ret_int (by simp [calcV]), below_drewN (below1 _ _) _⟩
  · have hd : decide (za < zb) = true := by simp; omega
    go_enter Try.func116, Try.ntmps116
    go_wp2_with fail
    go_quiet (first | (go_at_call 168; refine Calls.quiet_of_same (l2flag_any _ _)))
    go_wp2_with fail
    go_ret
    exact ⟨ret_int (by simp [calcV]; omega), below_drewN (below1 _ _) _⟩
  · have hd : decide (za < zb) = false := by simp; omega
    go_enter Try.func116, Try.ntmps116
    go_wp2_with fail
    go_quiet (first | (go_at_call 168; refine Calls.quiet_of_same (l2flag_any _ _)))
    go_wp2_with fail
    go_ret
    exact ⟨ret_int (by simp [calcV]; omega), below_drewN (below1 _ _) _⟩
  · go_enter Try.func116, Try.ntmps116
    go_wp2_with fail
    go_quiet (first | (go_at_call 168; refine Calls.quiet_of_same (l2flag_any _ _)))
    go_wp2_with fail
    go_ret
    exact ⟨ret_int (by simp [calcV]), below_drewN (below1 _ _) _⟩
  · have hd : (za == zb) = false := by simpa using h1
    go_enter Try.func116, Try.ntmps116
    go_wp2_with fail
    go_quiet (first | (go_at_call 168; refine Calls.quiet_of_same (l2flag_any _ _)))
    go_wp2_with fail
    go_ret
    exact ⟨ret_int (by simp [calcV, h1]), below_drewN (below1 _ _) _⟩
end
end Go.Proofs.Ytfkaacfeikmabaa
