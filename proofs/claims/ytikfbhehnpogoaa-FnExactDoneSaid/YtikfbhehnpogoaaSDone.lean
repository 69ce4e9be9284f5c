/- Done of any state: the model's and the program's. -/
import Derived.Test.YtikfbhehnpogoaaSSok
import Derived.Test.YtikfbhehnpogoaaSok2
namespace Go.Proofs.Ytikfbhehnpogoaa
open Go.RowKit

theorem stateB_yes {p : ProgD} {s : StD} (h : stateB p s = true) : s.pc.zs.length = p.ts.length ∧ s.F.rs.length = p.ts.length ∧ (s.kind = 1 → s.bufs.rs.length = p.ts.length) ∧ (s.kind = 0 ∨ s.kind = 1 ∨ s.kind = 2) := by
  unfold stateB at h
  simp only [Bool.and_eq_true] at h
  obtain ⟨⟨-, h1⟩, h2⟩ := h
  unfold comB at h1
  simp only [Bool.and_eq_true, decide_eq_true_eq] at h1
  refine ⟨h1.1.1, h1.1.2, fun hk => ?_, ?_⟩
  · unfold restB at h2
    rw [if_neg (by omega), if_pos hk] at h2
    simp only [Bool.and_eq_true] at h2
    have h3 := h2.1.2
    unfold bufsB at h3
    simp only [Bool.and_eq_true, decide_eq_true_eq] at h3
    exact h3.1
  · unfold restB at h2
    by_cases h0 : s.kind = 0
    · exact .inl h0
    · by_cases h1 : s.kind = 1
      · exact .inr (.inl h1)
      · by_cases h3 : s.kind = 2
        · exact .inr (.inr h3)
        · rw [if_neg h0, if_neg h1, if_neg h3] at h2; cases h2
theorem RowsAt.lens {w : World} {S : Nat → Prop} {A : Option Addr} {rs : List RowD} (h : RowsAt w S A rs) : LensAt w S A (rns rs) := by
  refine ⟨by rw [rns_len]; have := h.1; omega, fun hp => ?_⟩
  rw [rns_len] at hp
  obtain ⟨b, off, e, hb, hc⟩ := h.2 hp
  refine ⟨b, off, e, hb, fun k hk => ?_⟩
  rw [rns_len] at hk
  obtain ⟨A', c', h1, -⟩ := hc k hk
  rw [rns_get]
  exact ⟨A', c', h1⟩
def endB (p : ProgD) (s : StD) : Bool := endedB p.ts s.pc.zs && (if s.kind = 1 then emptyB (rns s.bufs.rs) else true)

set_option maxRecDepth 100000 in
set_option maxHeartbeats 12800000 in
theorem sl2done_any (p : ProgD) (s : StD) (A1 A2 : Option Addr) (c1 c2 n g : Nat) (w : World) (ht : ThreadsAt w (Old n) A2 p.ts) (hs : StAt w n s) (hl : StLen s) (hg : Blk w g 33 s.cells) (h1 : s.pc.zs.length = p.ts.length) (h2 : s.kind = 1 → s.bufs.rs.length = p.ts.length) :
    Calls Try.prog 87 #[.agg #[.slice A1 p.init.length c1, .slice A2 p.ts.length c2], .pointer (some ⟨g, 0, none⟩)] w fun e w' => e = .returned (.bool (endB p s)) ∧ Below w.heap.size w w' := by
  have hn : n ≤ w.heap.size := hs.sz
  have hS : ∀ b, Old n b → b < w.heap.size := hs.lts
  have htn := ht.1
  have hb0 := hide (below1 w (Obj.cells #[.slice A1 p.init.length c1, .slice A2 p.ts.length c2] 26))
  have G0 := hide (Blk.new w 26 #[.slice A1 p.init.length c1, .slice A2 p.ts.length c2])
  have K0 := hide (hg.below hb0.out hg.lt)
  have hgl := hg.lt
  obtain ⟨res, hres⟩ : ∃ res, res = endB p s := ⟨_, rfl⟩
  rw [← hres]
  replace hres := hide hres
  have hs0 := hide (hs.next hb0.out)
  have ht0 := hide (ht.below hb0.out hS)
  have hpn : p.ts.length ≤ s.pc.n := by have := hl.pc; omega
  replace hl := hide hl
  replace h1 := hide h1
  replace h2 := hide h2
  clear hs ht hg
  obtain ⟨isb, hisb⟩ : ∃ b, b = (s.kind == 1) := ⟨_, rfl⟩
  unfold StD.cells at K0
  go_enter Try.func87, Try.ntmps87
  go_wp2_with fail
  obtain ⟨w0, hw0⟩ : ∃ wq, wq = w.alloc (Obj.cells #[.slice A1 p.init.length c1, .slice A2 p.ts.length c2] 26) := ⟨_, rfl⟩
  have hz0 : w0.heap.size = w.heap.size + 1 := by rw [hw0]; simp
  rw [← hw0] at hs0 ht0 K0 G0 hb0 ⊢
  clear hw0
  go_loopw [5] (fun i wr => ∃ (k : Nat), k ≤ p.ts.length ∧ i = .int .i64 k ∧ Hid (∀ j, j < k → ((gett p.ts j).length : Int) ≤ geti s.pc.zs j ∧ (s.kind = 1 → (getr s.bufs.rs j).n = 0)) ∧ Hid (Below w0.heap.size w0 wr)) (fun i _ => p.ts.length - (intOf i).toNat)
  case atStart => exact ⟨0, Nat.zero_le _, rfl, hide (fun j hj => by omega), hide (Below.refl _ _)⟩
  case round =>
    obtain ⟨k, hk, rfl, hdone, hbr⟩ := hrel
    have G2 := hide (G0.out.below hbr.out G0.out.lt)
    have K2 := hide (K0.out.below hbr.out K0.out.lt)
    have S2 := hide (hs0.out.next hbr.out)
    have T2 := hide (ht0.out.below hbr.out hs0.out.lts)
    have B2 := hide (below_then hb0.out hbr.out)
    have lg2 := K2.out.lt
    have lg1 := G2.out.lt
    have g1 : wr.cell? ⟨w.heap.size, 1, none⟩ = some (.slice A2 p.ts.length c2) := G2.out.cell 1
    have k0 : wr.cell? ⟨g, 0, none⟩ = some (.int .i64 s.kind) := K2.out.cell 0
    have k1 : wr.cell? ⟨g, 1, none⟩ = some (.slice s.pc.A s.pc.n s.pc.c) := K2.out.cell 1
    have k4 : wr.cell? ⟨g, 4, none⟩ = some (.slice s.bufs.A s.bufs.n s.bufs.c) := K2.out.cell 4
    by_cases hlt : k < p.ts.length
    · obtain ⟨b, off, eA, hSb, hc⟩ := T2.out.2 (by omega)
      obtain ⟨A', c', hcell, _, hth⟩ := hc k hlt
      have hn5 := hth.1
      clear hth hc
      obtain ⟨b2, off2, eA2, hSb2, hc2⟩ := S2.out.pc.2 (by have := h1.out; omega)
      have hcell2 := hc2 k (by have := h1.out; omega)
      clear hc2
      rw [eA] at g1
      rw [eA2] at k1
      clear eA eA2
      have hlt' : (k : Int) < (p.ts.length : Int) := by omega
      have hlt3 : (k : Int) < (s.pc.n : Int) := by omega
      have hk0 : (0 : Int) ≤ (k : Int) := by omega
      obtain ⟨gp, hgp⟩ : ∃ gp, gp = geti s.pc.zs k := ⟨_, rfl⟩
      obtain ⟨gl, hgl2⟩ : ∃ gl, gl = (gett p.ts k).length := ⟨_, rfl⟩
      rw [← hgp] at hcell2
      rw [← hgl2] at hcell hn5
      have hbad := hide (fun (hx : gp < (gl : Int)) => (show res = false from by rw [hres.out]; unfold endB endedB; rw [allB_no hlt (by rw [decide_eq_false]; rw [← hgp, ← hgl2]; omega)]; rfl))
      have hgood := hide (fun (hx : (gl : Int) ≤ gp) => (show ((gett p.ts k).length : Int) ≤ geti s.pc.zs k from by rw [← hgp, ← hgl2]; exact hx))
      clear hgp hgl2
      by_cases hx1 : gp < (gl : Int)
      · have hE := hide (hbad.out hx1)
        have hd1 : decide (gp < (gl : Int)) = true := decide_eq_true hx1
        clear hx1
        go_wp2_with fail
        go_quiet (fail)
        go_wp2_with fail
        go_ret
        exact ⟨ret_bool hE.out.symm, below_drewN B2.out _⟩
      · have hd1 : decide (gp < (gl : Int)) = false := decide_eq_false hx1
        have hok := hide (hgood.out (by omega))
        clear hx1 hbad hgood
        by_cases hkd : s.kind = 1
        · have hkd' : (s.kind == 1) = true := by simp [hkd]
          have hbl := h2.out hkd
          have hlb := hl.out.bufs
          obtain ⟨b3, off3, eA3, hSb3, hc3⟩ := S2.out.bufs.2 (by omega)
          obtain ⟨A'', c'', hcell3, -⟩ := hc3 k (by omega)
          have hlt4 : (k : Int) < (s.bufs.n : Int) := by omega
          rw [eA3] at k4
          clear eA3 hc3
          obtain ⟨gn, hgn⟩ : ∃ gn, gn = (getr s.bufs.rs k).n := ⟨_, rfl⟩
          rw [← hgn] at hcell3
          have hbad := hide (fun (hx : gn ≠ 0) => (show res = false from by
            rw [hres.out]; unfold endB emptyB; rw [if_pos hkd, allB_no (k := k) (by rw [rns_len]; omega) (by rw [rns_get, ← hgn]; simp [hx])]; simp))
          have hgood := hide (fun (hx : gn = 0) => (show (getr s.bufs.rs k).n = 0 from by rw [← hgn]; exact hx))
          clear hgn hbl hlb hkd
          by_cases hx3 : gn = 0
          · have hok2 := hide (hgood.out hx3)
            subst hx3
            clear hbad hgood
            go_wp2_with fail
            go_quiet (fail)
            go_wp2_with fail
            go_roundw
            case rel => exact ⟨k + 1, by omega, by go_num, hide (fun j hj => by
              rcases Nat.lt_succ_iff_lt_or_eq.1 hj with h | rfl
              · exact hdone.out j h
              · exact ⟨hok.out, fun _ => hok2.out⟩), hide (below_drewN hbr.out _)⟩
            case measure => simp [intOf]; omega
          · have hd3 : decide ((0 : Int) < (gn : Int)) = true := decide_eq_true (by omega)
            have hd4 : decide (0 < gn) = true := decide_eq_true (by omega)
            have hE := hide (hbad.out hx3)
            clear hx3
            go_wp2_with fail
            go_quiet (fail)
            go_wp2_with fail
            go_ret
            exact ⟨ret_bool hE.out.symm, below_drewN B2.out _⟩
        · have hkd' : (s.kind == 1) = false := by rw [beq_eq_false_iff_ne]; exact hkd
          have hkh := hide hkd
          clear hkd
          go_wp2_with fail
          go_quiet (fail)
          go_wp2_with fail
          go_roundw
          case rel => exact ⟨k + 1, by omega, by go_num, hide (fun j hj => by
            rcases Nat.lt_succ_iff_lt_or_eq.1 hj with h | rfl
            · exact hdone.out j h
            · exact ⟨hok.out, fun h => absurd h hkh.out⟩), hide (below_drewN hbr.out _)⟩
          case measure => simp [intOf]; omega
    · obtain rfl : k = p.ts.length := by omega
      have hE := hide (show res = true from by
        rw [hres.out]; unfold endB endedB
        rw [allB_yes (fun j hj => decide_eq_true (hdone.out j hj).1)]
        by_cases hkd : s.kind = 1
        · rw [if_pos hkd, emptyB_yes (fun j hj => by rw [rns_len, h2.out hkd] at hj; rw [rns_get]; exact (hdone.out j hj).2 hkd)]; rfl
        · rw [if_neg hkd]; rfl)
      go_wp2_with fail
      go_ret
      exact ⟨ret_bool hE.out.symm, B2.out⟩
theorem doneB_eq (p : ProgD) (s : StD) : doneB p s = (stateB p s && endB p s) := rfl

set_option maxRecDepth 100000 in
set_option maxHeartbeats 3200000 in
theorem sdone_in (p : ProgD) (s : StD) (A1 A2 : Option Addr) (c1 c2 n : Nat) (w : World) (hcc : p.init.length ≤ c1 ∧ p.ts.length ≤ c2) (hi : IntsAt w (Old n) A1 p.init) (ht : ThreadsAt w (Old n) A2 p.ts) (hs : StAt w n s) (hl : StLen s) :
    Calls Try.prog 26 #[.agg #[.slice A1 p.init.length c1, .slice A2 p.ts.length c2], .agg s.cells] w fun e w' => e = .returned (.bool (doneB p s)) ∧ Below w.heap.size w w' := by
  have hS : ∀ b, Old n b → b < w.heap.size := hs.lts
  have hb0 := hide (below2 w (Obj.cells #[.slice A1 p.init.length c1, .slice A2 p.ts.length c2] 26) (Obj.cells s.cells 33))
  have G0 := hide ((Blk.new w 26 #[.slice A1 p.init.length c1, .slice A2 p.ts.length c2]).alloc (Obj.cells s.cells 33))
  have K0 := Blk.new (w.alloc (Obj.cells #[.slice A1 p.init.length c1, .slice A2 p.ts.length c2] 26)) 33 s.cells
  simp only [World.size_alloc] at K0
  replace K0 := hide K0
  have hok := hide (sstateOk_in p s A1 A2 c1 c2 n _ hcc (hi.below hb0.out hS) (ht.below hb0.out hS) (hs.next hb0.out) hl)
  have hs0 := hide (hs.next hb0.out)
  have ht0 := hide (ht.below hb0.out hS)
  obtain ⟨res, hres⟩ : ∃ res, res = doneB p s := ⟨_, rfl⟩
  rw [← hres]
  rw [doneB_eq] at hres
  replace hres := hide hres
  replace hl := hide hl
  clear hs ht hi
  have hcs := hide (show s.cells = #[.int .i64 s.kind, .slice s.pc.A s.pc.n s.pc.c, .slice s.F.A s.F.n s.F.c, .slice s.mem.A s.mem.n s.mem.c, .slice s.bufs.A s.bufs.n s.bufs.c, .slice s.H.A s.H.n s.H.c, .slice s.view.A s.view.n s.view.c, .slice s.sc.A s.sc.n s.sc.c, .int .i64 s.next] from rfl)
  rw [hcs.out] at hb0 G0 hok hs0 ht0 ⊢
  rw [show s.cells = #[.int .i64 s.kind, .slice s.pc.A s.pc.n s.pc.c, .slice s.F.A s.F.n s.F.c, .slice s.mem.A s.mem.n s.mem.c, .slice s.bufs.A s.bufs.n s.bufs.c, .slice s.H.A s.H.n s.H.c, .slice s.view.A s.view.n s.view.c, .slice s.sc.A s.sc.n s.sc.c, .int .i64 s.next] from rfl] at K0
  go_enter Try.func26, Try.ntmps26
  go_wp2_with fail
  refine hok.out.mono ?_
  rintro e w1 ⟨rfl, hb1⟩
  have B1 := hide (below_then hb0.out hb1)
  have G1 := hide (G0.out.below hb1 G0.out.lt)
  have K1 := hide (K0.out.below hb1 K0.out.lt)
  have hs1 := hide (hs0.out.next hb1)
  have ht1 := hide (ht0.out.below hb1 hs0.out.lts)
  clear hok hb1 hb0 G0 K0 hs0 ht0
  cases hB : stateB p s
  · have hE := hide (show res = false from by rw [hres.out, hB]; rfl)
    go_wp2_with fail
    go_ret
    exact ⟨ret_bool hE.out.symm, B1.out⟩
  · have hE := hide (show res = endB p s from by rw [hres.out, hB]; rfl)
    obtain ⟨y1, -, y2, -⟩ := stateB_yes hB
    have kd := hide (sl2done_any p s A1 A2 c1 c2 n (w.heap.size + 1) w1 ht1.out hs1.out hl.out (by rw [hcs.out]; exact K1.out) y1 y2)
    clear y1 y2 hres
    have g0 : w1.cell? ⟨w.heap.size, 0, none⟩ = some (.slice A1 p.init.length c1) := G1.out.cell 0
    have g1 : w1.cell? ⟨w.heap.size, 1, none⟩ = some (.slice A2 p.ts.length c2) := G1.out.cell 1
    have lg := G1.out.lt
    go_wp2_with fail
    refine kd.out.mono ?_
    rintro e w2 ⟨rfl, hb2⟩
    go_wp2_with fail
    go_ret
    exact ⟨ret_bool hE.out.symm, below_then B1.out hb2⟩
theorem sdone_any {p : ProgD} {s : StD} {n : Nat} {v : Value} {w : World} (hp : ProgAt w (Old n) v p) (hs : StAt w n s) (hl : StLen s) :
    Calls Try.prog 26 #[v, .agg s.cells] w fun e w' => e = .returned (.bool (doneB p s)) ∧ Below w.heap.size w w' := by
  obtain ⟨A1, c1, A2, c2, rfl, hcc, hi, ht⟩ := hp
  exact sdone_in p s A1 A2 c1 c2 n w hcc hi ht hs hl

set_option maxRecDepth 100000 in
set_option maxHeartbeats 3200000 in
theorem done_bad (p : ProgD) (s : StD) (A1 A2 : Option Addr) (c1 c2 n : Nat) (w : World) (hcc : p.init.length ≤ c1 ∧ p.ts.length ≤ c2) (hi : IntsAt w (Old n) A1 p.init) (ht : ThreadsAt w (Old n) A2 p.ts) (hs : StAt w n s) (hl : StLen s) (hB : stateB p s = false) :
    Calls Try.prog 27 #[.agg #[.slice A1 p.init.length c1, .slice A2 p.ts.length c2], .agg s.cells] w fun e w' => e = .returned (.bool false) ∧ Below w.heap.size w w' := by
  have hS : ∀ b, Old n b → b < w.heap.size := hs.lts
  have hb0 := hide (below2 w (Obj.cells #[.slice A1 p.init.length c1, .slice A2 p.ts.length c2] 26) (Obj.cells s.cells 33))
  have G0 := hide ((Blk.new w 26 #[.slice A1 p.init.length c1, .slice A2 p.ts.length c2]).alloc (Obj.cells s.cells 33))
  have K0 := Blk.new (w.alloc (Obj.cells #[.slice A1 p.init.length c1, .slice A2 p.ts.length c2] 26)) 33 s.cells
  simp only [World.size_alloc] at K0
  replace K0 := hide K0
  have hok := hide (stateOk_any (n := n) (v := .agg #[.slice A1 p.init.length c1, .slice A2 p.ts.length c2]) (w := (w.alloc (Obj.cells #[.slice A1 p.init.length c1, .slice A2 p.ts.length c2] 26)).alloc (Obj.cells s.cells 33)) (p := p) (s := s) ⟨A1, c1, A2, c2, rfl, hcc, hi.below hb0.out hS, ht.below hb0.out hS⟩ (hs.next hb0.out) hl)
  have hs0 := hide (hs.next hb0.out)
  have ht0 := hide (ht.below hb0.out hS)
  clear hs ht hi
  rw [hB] at hok
  unfold StD.cells at hok hb0 ⊢
  go_enter Try.func27, Try.ntmps27
  go_wp2_with fail
  refine hok.out.mono ?_
  rintro e w1 ⟨rfl, hb1⟩
  have B1 := hide (below_then hb0.out hb1)
  clear hok hb1
  go_wp2_with fail
  go_ret
  exact ⟨rfl, B1.out⟩

set_option maxRecDepth 100000 in
set_option maxHeartbeats 12800000 in
theorem done_0 (p : ProgD) (s : StD) (A1 A2 : Option Addr) (c1 c2 n : Nat) (w : World) (hcc : p.init.length ≤ c1 ∧ p.ts.length ≤ c2) (hi : IntsAt w (Old n) A1 p.init) (ht : ThreadsAt w (Old n) A2 p.ts) (hs : StAt w n s) (hl : StLen s) (hB : stateB p s = true) (hk : s.kind = 0) :
    Calls Try.prog 27 #[.agg #[.slice A1 p.init.length c1, .slice A2 p.ts.length c2], .agg s.cells] w fun e w' => e = .returned (.bool (endB p s)) ∧ Below w.heap.size w w' := by
  have hS : ∀ b, Old n b → b < w.heap.size := hs.lts
  have hb0 := hide (below2 w (Obj.cells #[.slice A1 p.init.length c1, .slice A2 p.ts.length c2] 26) (Obj.cells s.cells 33))
  have G0 := hide ((Blk.new w 26 #[.slice A1 p.init.length c1, .slice A2 p.ts.length c2]).alloc (Obj.cells s.cells 33))
  have K0 := Blk.new (w.alloc (Obj.cells #[.slice A1 p.init.length c1, .slice A2 p.ts.length c2] 26)) 33 s.cells
  simp only [World.size_alloc] at K0
  replace K0 := hide K0
  have hok := hide (stateOk_any (n := n) (v := .agg #[.slice A1 p.init.length c1, .slice A2 p.ts.length c2]) (w := (w.alloc (Obj.cells #[.slice A1 p.init.length c1, .slice A2 p.ts.length c2] 26)).alloc (Obj.cells s.cells 33)) (p := p) (s := s) ⟨A1, c1, A2, c2, rfl, hcc, hi.below hb0.out hS, ht.below hb0.out hS⟩ (hs.next hb0.out) hl)
  have hs0 := hide (hs.next hb0.out)
  have ht0 := hide (ht.below hb0.out hS)
  clear hs ht hi
  rw [hB] at hok
  have hcs : s.cells = #[.int .i64 0, .slice s.pc.A s.pc.n s.pc.c, .slice s.F.A s.F.n s.F.c, .slice s.mem.A s.mem.n s.mem.c, .slice s.bufs.A s.bufs.n s.bufs.c, .slice s.H.A s.H.n s.H.c, .slice s.view.A s.view.n s.view.c, .slice s.sc.A s.sc.n s.sc.c, .int .i64 s.next] := by unfold StD.cells; rw [hk]
  rw [hcs] at hok hb0 G0 K0 hs0 ht0 ⊢
  obtain ⟨y1, -, y2, -⟩ := stateB_yes hB
  obtain ⟨res, hres⟩ : ∃ res, res = endB p s := ⟨_, rfl⟩
  rw [← hres]
  have hE := hide (show res = (endedB p.ts s.pc.zs) from by rw [hres]; unfold endB; rw [hk]; rw [if_neg (by decide), Bool.and_true])
  have hlp := hide hl.pc
  have hlf := hide hl.F
  have hlb := hide hl.bufs
  replace y1 := hide y1
  clear hcs hres hl hk y2
  go_enter Try.func27, Try.ntmps27
  go_wp2_with fail
  refine hok.out.mono ?_
  rintro e w1 ⟨rfl, hb1⟩
  have B1 := hide (below_then hb0.out hb1)
  have hz1 := hb1.size
  simp only [World.size_alloc] at hz1
  have G1 := hide (G0.out.below hb1 G0.out.lt)
  have K1 := hide (K0.out.below hb1 K0.out.lt)
  have hs1 := hide (hs0.out.next hb1)
  have ht1 := hide (ht0.out.below hb1 hs0.out.lts)
  have k0 : w1.cell? ⟨w.heap.size + 1, 0, none⟩ = some (.int .i64 0) := K1.out.cell 0
  have k1 : w1.cell? ⟨w.heap.size + 1, 1, none⟩ = some (.slice s.pc.A s.pc.n s.pc.c) := K1.out.cell 1
  have k2 : w1.cell? ⟨w.heap.size + 1, 2, none⟩ = some (.slice s.F.A s.F.n s.F.c) := K1.out.cell 2
  have k3 : w1.cell? ⟨w.heap.size + 1, 3, none⟩ = some (.slice s.mem.A s.mem.n s.mem.c) := K1.out.cell 3
  have k4 : w1.cell? ⟨w.heap.size + 1, 4, none⟩ = some (.slice s.bufs.A s.bufs.n s.bufs.c) := K1.out.cell 4
  have k5 : w1.cell? ⟨w.heap.size + 1, 5, none⟩ = some (.slice s.H.A s.H.n s.H.c) := K1.out.cell 5
  have k6 : w1.cell? ⟨w.heap.size + 1, 6, none⟩ = some (.slice s.view.A s.view.n s.view.c) := K1.out.cell 6
  have k7 : w1.cell? ⟨w.heap.size + 1, 7, none⟩ = some (.slice s.sc.A s.sc.n s.sc.c) := K1.out.cell 7
  have k8 : w1.cell? ⟨w.heap.size + 1, 8, none⟩ = some (.int .i64 s.next) := K1.out.cell 8
  have g0 : w1.cell? ⟨w.heap.size, 0, none⟩ = some (.slice A1 p.init.length c1) := G1.out.cell 0
  have g1 : w1.cell? ⟨w.heap.size, 1, none⟩ = some (.slice A2 p.ts.length c2) := G1.out.cell 1
  clear hok hb1 hb0 G0 K0 hs0 ht0
  go_wp2_with fail
  refine (kindOf_0 A1 A2 s.pc.A s.F.A s.mem.A s.bufs.A s.H.A s.view.A s.sc.A _ _ s.pc.n s.F.n s.mem.n s.bufs.n s.H.n s.view.n s.sc.n c1 c2 s.pc.c s.F.c s.mem.c s.bufs.c s.H.c s.view.c s.sc.c s.next w1).mono ?_
  rintro e w2 ⟨T, rfl, hKT, hT, hb2⟩
  have B2 := hide (below_then B1.out hb2)
  have hs2 := hide (hs1.out.next hb2)
  have ht2 := hide (ht1.out.below hb2 hs1.out.lts)
  have hTl := hKT.lt
  replace hKT := hide hKT
  clear G1 K1 hs1 ht1 B1 hb2 hT k0 k1 k2 k3 k4 k5 k6 k7 k8 g0 g1 hz1
  have t0 : ∀ w, (Instr.typeAssert (Value.iface 97 (.pointer (some ⟨T, 0, none⟩))) 20 97 true).run Try.prog w = .ok (.tuple #[.pointer (some ⟨T, 0, none⟩), .bool true]) w := fun _ => by kernel_rfl
  have ke : Calls Try.prog 88 #[.agg #[.slice A1 p.init.length c1, .slice A2 p.ts.length c2, .slice s.pc.A s.pc.n s.pc.c, .slice s.F.A s.F.n s.F.c]] w2 fun e w' => e = .returned (.bool (endedB p.ts s.pc.zs)) ∧ Below w2.heap.size w2 w' := by
    have h := ended_any A1 A2 s.pc.A s.F.A p.init.length s.F.n c1 c2 s.pc.c s.F.c p.ts s.pc.zs (Old n) w2 y1.out hs2.out.lts ht2.out hs2.out.pc
    have e : s.pc.n = p.ts.length := hlp.out.symm.trans y1.out
    rw [e]
    exact h
  replace ke := hide ke
  have x0 : w2.cell? ⟨T, 0, none⟩ = some (.slice A1 p.init.length c1) := hKT.out.cell 0
  have x1 : w2.cell? ⟨T, 1, none⟩ = some (.slice A2 p.ts.length c2) := hKT.out.cell 1
  have x2 : w2.cell? ⟨T, 2, none⟩ = some (.slice s.pc.A s.pc.n s.pc.c) := hKT.out.cell 2
  have x3 : w2.cell? ⟨T, 3, none⟩ = some (.slice s.F.A s.F.n s.F.c) := hKT.out.cell 3
  have x4 : w2.cell? ⟨T, 4, none⟩ = some (.slice s.mem.A s.mem.n s.mem.c) := hKT.out.cell 4
  go_wp2_with fail
  refine ke.out.mono ?_
  rintro e w3 ⟨rfl, hb3⟩
  have B3 := hide (below_then B2.out hb3)
  go_wp2_with fail
  go_ret
  exact ⟨ret_bool (hE.out.trans rfl).symm, B3.out⟩

set_option maxRecDepth 100000 in
set_option maxHeartbeats 12800000 in
theorem done_1 (p : ProgD) (s : StD) (A1 A2 : Option Addr) (c1 c2 n : Nat) (w : World) (hcc : p.init.length ≤ c1 ∧ p.ts.length ≤ c2) (hi : IntsAt w (Old n) A1 p.init) (ht : ThreadsAt w (Old n) A2 p.ts) (hs : StAt w n s) (hl : StLen s) (hB : stateB p s = true) (hk : s.kind = 1) :
    Calls Try.prog 27 #[.agg #[.slice A1 p.init.length c1, .slice A2 p.ts.length c2], .agg s.cells] w fun e w' => e = .returned (.bool (endB p s)) ∧ Below w.heap.size w w' := by
  have hS : ∀ b, Old n b → b < w.heap.size := hs.lts
  have hb0 := hide (below2 w (Obj.cells #[.slice A1 p.init.length c1, .slice A2 p.ts.length c2] 26) (Obj.cells s.cells 33))
  have G0 := hide ((Blk.new w 26 #[.slice A1 p.init.length c1, .slice A2 p.ts.length c2]).alloc (Obj.cells s.cells 33))
  have K0 := Blk.new (w.alloc (Obj.cells #[.slice A1 p.init.length c1, .slice A2 p.ts.length c2] 26)) 33 s.cells
  simp only [World.size_alloc] at K0
  replace K0 := hide K0
  have hok := hide (stateOk_any (n := n) (v := .agg #[.slice A1 p.init.length c1, .slice A2 p.ts.length c2]) (w := (w.alloc (Obj.cells #[.slice A1 p.init.length c1, .slice A2 p.ts.length c2] 26)).alloc (Obj.cells s.cells 33)) (p := p) (s := s) ⟨A1, c1, A2, c2, rfl, hcc, hi.below hb0.out hS, ht.below hb0.out hS⟩ (hs.next hb0.out) hl)
  have hs0 := hide (hs.next hb0.out)
  have ht0 := hide (ht.below hb0.out hS)
  clear hs ht hi
  rw [hB] at hok
  have hcs : s.cells = #[.int .i64 1, .slice s.pc.A s.pc.n s.pc.c, .slice s.F.A s.F.n s.F.c, .slice s.mem.A s.mem.n s.mem.c, .slice s.bufs.A s.bufs.n s.bufs.c, .slice s.H.A s.H.n s.H.c, .slice s.view.A s.view.n s.view.c, .slice s.sc.A s.sc.n s.sc.c, .int .i64 s.next] := by unfold StD.cells; rw [hk]
  rw [hcs] at hok hb0 G0 K0 hs0 ht0 ⊢
  obtain ⟨y1, -, y2, -⟩ := stateB_yes hB
  obtain ⟨res, hres⟩ : ∃ res, res = endB p s := ⟨_, rfl⟩
  rw [← hres]
  have hE := hide (show res = (endedB p.ts s.pc.zs && emptyB (rns s.bufs.rs)) from by rw [hres]; unfold endB; rw [hk]; rw [if_pos rfl])
  have hlp := hide hl.pc
  have hlf := hide hl.F
  have hlb := hide hl.bufs
  replace y1 := hide y1
  clear hcs hres hl hk y2
  go_enter Try.func27, Try.ntmps27
  go_wp2_with fail
  refine hok.out.mono ?_
  rintro e w1 ⟨rfl, hb1⟩
  have B1 := hide (below_then hb0.out hb1)
  have hz1 := hb1.size
  simp only [World.size_alloc] at hz1
  have G1 := hide (G0.out.below hb1 G0.out.lt)
  have K1 := hide (K0.out.below hb1 K0.out.lt)
  have hs1 := hide (hs0.out.next hb1)
  have ht1 := hide (ht0.out.below hb1 hs0.out.lts)
  have k0 : w1.cell? ⟨w.heap.size + 1, 0, none⟩ = some (.int .i64 1) := K1.out.cell 0
  have k1 : w1.cell? ⟨w.heap.size + 1, 1, none⟩ = some (.slice s.pc.A s.pc.n s.pc.c) := K1.out.cell 1
  have k2 : w1.cell? ⟨w.heap.size + 1, 2, none⟩ = some (.slice s.F.A s.F.n s.F.c) := K1.out.cell 2
  have k3 : w1.cell? ⟨w.heap.size + 1, 3, none⟩ = some (.slice s.mem.A s.mem.n s.mem.c) := K1.out.cell 3
  have k4 : w1.cell? ⟨w.heap.size + 1, 4, none⟩ = some (.slice s.bufs.A s.bufs.n s.bufs.c) := K1.out.cell 4
  have k5 : w1.cell? ⟨w.heap.size + 1, 5, none⟩ = some (.slice s.H.A s.H.n s.H.c) := K1.out.cell 5
  have k6 : w1.cell? ⟨w.heap.size + 1, 6, none⟩ = some (.slice s.view.A s.view.n s.view.c) := K1.out.cell 6
  have k7 : w1.cell? ⟨w.heap.size + 1, 7, none⟩ = some (.slice s.sc.A s.sc.n s.sc.c) := K1.out.cell 7
  have k8 : w1.cell? ⟨w.heap.size + 1, 8, none⟩ = some (.int .i64 s.next) := K1.out.cell 8
  have g0 : w1.cell? ⟨w.heap.size, 0, none⟩ = some (.slice A1 p.init.length c1) := G1.out.cell 0
  have g1 : w1.cell? ⟨w.heap.size, 1, none⟩ = some (.slice A2 p.ts.length c2) := G1.out.cell 1
  clear hok hb1 hb0 G0 K0 hs0 ht0
  go_wp2_with fail
  refine (kindOf_1 A1 A2 s.pc.A s.F.A s.mem.A s.bufs.A s.H.A s.view.A s.sc.A _ _ s.pc.n s.F.n s.mem.n s.bufs.n s.H.n s.view.n s.sc.n c1 c2 s.pc.c s.F.c s.mem.c s.bufs.c s.H.c s.view.c s.sc.c s.next w1).mono ?_
  rintro e w2 ⟨T, rfl, hKT, hT, hb2⟩
  have B2 := hide (below_then B1.out hb2)
  have hs2 := hide (hs1.out.next hb2)
  have ht2 := hide (ht1.out.below hb2 hs1.out.lts)
  have hTl := hKT.lt
  replace hKT := hide hKT
  clear G1 K1 hs1 ht1 B1 hb2 hT k0 k1 k2 k3 k4 k5 k6 k7 k8 g0 g1 hz1
  have t0 : ∀ w, (Instr.typeAssert (Value.iface 103 (.pointer (some ⟨T, 0, none⟩))) 20 97 true).run Try.prog w = .ok (.tuple #[.pointer none, .bool false]) w := fun _ => by kernel_rfl
  have t1 : ∀ w, (Instr.typeAssert (Value.iface 103 (.pointer (some ⟨T, 0, none⟩))) 20 103 true).run Try.prog w = .ok (.tuple #[.pointer (some ⟨T, 0, none⟩), .bool true]) w := fun _ => by kernel_rfl
  have ke : Calls Try.prog 88 #[.agg #[.slice A1 p.init.length c1, .slice A2 p.ts.length c2, .slice s.pc.A s.pc.n s.pc.c, .slice s.F.A s.F.n s.F.c]] w2 fun e w' => e = .returned (.bool (endedB p.ts s.pc.zs)) ∧ Below w2.heap.size w2 w' := by
    have h := ended_any A1 A2 s.pc.A s.F.A p.init.length s.F.n c1 c2 s.pc.c s.F.c p.ts s.pc.zs (Old n) w2 y1.out hs2.out.lts ht2.out hs2.out.pc
    have e : s.pc.n = p.ts.length := hlp.out.symm.trans y1.out
    rw [e]
    exact h
  replace ke := hide ke
  have x0 : w2.cell? ⟨T, 0, none⟩ = some (.slice A1 p.init.length c1) := hKT.out.cell 0
  have x1 : w2.cell? ⟨T, 1, none⟩ = some (.slice A2 p.ts.length c2) := hKT.out.cell 1
  have x2 : w2.cell? ⟨T, 2, none⟩ = some (.slice s.pc.A s.pc.n s.pc.c) := hKT.out.cell 2
  have x3 : w2.cell? ⟨T, 3, none⟩ = some (.slice s.F.A s.F.n s.F.c) := hKT.out.cell 3
  have x4 : w2.cell? ⟨T, 4, none⟩ = some (.slice s.mem.A s.mem.n s.mem.c) := hKT.out.cell 4
  have x5 : w2.cell? ⟨T, 5, none⟩ = some (.slice s.bufs.A s.bufs.n s.bufs.c) := hKT.out.cell 5
  go_wp2_with fail
  refine ke.out.mono ?_
  rintro e w3 ⟨rfl, hb3⟩
  have B3 := hide (below_then B2.out hb3)
  have K3 := hide (hKT.out.below hb3 hTl)
  have hs3 := hide (hs2.out.next hb3)
  clear x0 x1 x2 x3 x4 x5 ke
  cases he : endedB p.ts s.pc.zs
  · have hF := hide (show res = false from by rw [hE.out, he]; rfl)
    go_wp2_with fail
    go_ret
    exact ⟨ret_bool hF.out.symm, B3.out⟩
  · have hF := hide (show res = emptyB (rns s.bufs.rs) from by rw [hE.out, he]; rfl)
    have kn : Calls Try.prog 89 #[.agg #[.slice A1 p.init.length c1, .slice A2 p.ts.length c2, .slice s.pc.A s.pc.n s.pc.c, .slice s.F.A s.F.n s.F.c, .slice s.mem.A s.mem.n s.mem.c, .slice s.bufs.A s.bufs.n s.bufs.c]] w3 fun e w' => e = .returned (.bool (emptyB (rns s.bufs.rs))) ∧ Below w3.heap.size w3 w' := by
      have h := nothing_any A1 A2 s.pc.A s.F.A s.mem.A s.bufs.A p.init.length p.ts.length s.pc.n s.F.n s.mem.n c1 c2 s.pc.c s.F.c s.mem.c s.bufs.c (rns s.bufs.rs) (Old n) w3 hs3.out.lts hs3.out.bufs.lens
      rw [rns_len, hlb.out] at h
      exact h
    replace kn := hide kn
    have x0 : w3.cell? ⟨T, 0, none⟩ = some (.slice A1 p.init.length c1) := K3.out.cell 0
    have x1 : w3.cell? ⟨T, 1, none⟩ = some (.slice A2 p.ts.length c2) := K3.out.cell 1
    have x2 : w3.cell? ⟨T, 2, none⟩ = some (.slice s.pc.A s.pc.n s.pc.c) := K3.out.cell 2
    have x3 : w3.cell? ⟨T, 3, none⟩ = some (.slice s.F.A s.F.n s.F.c) := K3.out.cell 3
    have x4 : w3.cell? ⟨T, 4, none⟩ = some (.slice s.mem.A s.mem.n s.mem.c) := K3.out.cell 4
    have x5 : w3.cell? ⟨T, 5, none⟩ = some (.slice s.bufs.A s.bufs.n s.bufs.c) := K3.out.cell 5
    have hTl3 := K3.out.lt
    go_wp2_with fail
    refine kn.out.mono ?_
    rintro e w4 ⟨rfl, hb4⟩
    go_wp2_with fail
    go_ret
    exact ⟨ret_bool hF.out.symm, below_then B3.out hb4⟩

set_option maxRecDepth 100000 in
set_option maxHeartbeats 12800000 in
theorem done_2 (p : ProgD) (s : StD) (A1 A2 : Option Addr) (c1 c2 n : Nat) (w : World) (hcc : p.init.length ≤ c1 ∧ p.ts.length ≤ c2) (hi : IntsAt w (Old n) A1 p.init) (ht : ThreadsAt w (Old n) A2 p.ts) (hs : StAt w n s) (hl : StLen s) (hB : stateB p s = true) (hk : s.kind = 2) :
    Calls Try.prog 27 #[.agg #[.slice A1 p.init.length c1, .slice A2 p.ts.length c2], .agg s.cells] w fun e w' => e = .returned (.bool (endB p s)) ∧ Below w.heap.size w w' := by
  have hS : ∀ b, Old n b → b < w.heap.size := hs.lts
  have hb0 := hide (below2 w (Obj.cells #[.slice A1 p.init.length c1, .slice A2 p.ts.length c2] 26) (Obj.cells s.cells 33))
  have G0 := hide ((Blk.new w 26 #[.slice A1 p.init.length c1, .slice A2 p.ts.length c2]).alloc (Obj.cells s.cells 33))
  have K0 := Blk.new (w.alloc (Obj.cells #[.slice A1 p.init.length c1, .slice A2 p.ts.length c2] 26)) 33 s.cells
  simp only [World.size_alloc] at K0
  replace K0 := hide K0
  have hok := hide (stateOk_any (n := n) (v := .agg #[.slice A1 p.init.length c1, .slice A2 p.ts.length c2]) (w := (w.alloc (Obj.cells #[.slice A1 p.init.length c1, .slice A2 p.ts.length c2] 26)).alloc (Obj.cells s.cells 33)) (p := p) (s := s) ⟨A1, c1, A2, c2, rfl, hcc, hi.below hb0.out hS, ht.below hb0.out hS⟩ (hs.next hb0.out) hl)
  have hs0 := hide (hs.next hb0.out)
  have ht0 := hide (ht.below hb0.out hS)
  clear hs ht hi
  rw [hB] at hok
  have hcs : s.cells = #[.int .i64 2, .slice s.pc.A s.pc.n s.pc.c, .slice s.F.A s.F.n s.F.c, .slice s.mem.A s.mem.n s.mem.c, .slice s.bufs.A s.bufs.n s.bufs.c, .slice s.H.A s.H.n s.H.c, .slice s.view.A s.view.n s.view.c, .slice s.sc.A s.sc.n s.sc.c, .int .i64 s.next] := by unfold StD.cells; rw [hk]
  rw [hcs] at hok hb0 G0 K0 hs0 ht0 ⊢
  obtain ⟨y1, -, y2, -⟩ := stateB_yes hB
  obtain ⟨res, hres⟩ : ∃ res, res = endB p s := ⟨_, rfl⟩
  rw [← hres]
  have hE := hide (show res = (endedB p.ts s.pc.zs) from by rw [hres]; unfold endB; rw [hk]; rw [if_neg (by decide), Bool.and_true])
  have hlp := hide hl.pc
  have hlf := hide hl.F
  have hlb := hide hl.bufs
  replace y1 := hide y1
  clear hcs hres hl hk y2
  go_enter Try.func27, Try.ntmps27
  go_wp2_with fail
  refine hok.out.mono ?_
  rintro e w1 ⟨rfl, hb1⟩
  have B1 := hide (below_then hb0.out hb1)
  have hz1 := hb1.size
  simp only [World.size_alloc] at hz1
  have G1 := hide (G0.out.below hb1 G0.out.lt)
  have K1 := hide (K0.out.below hb1 K0.out.lt)
  have hs1 := hide (hs0.out.next hb1)
  have ht1 := hide (ht0.out.below hb1 hs0.out.lts)
  have k0 : w1.cell? ⟨w.heap.size + 1, 0, none⟩ = some (.int .i64 2) := K1.out.cell 0
  have k1 : w1.cell? ⟨w.heap.size + 1, 1, none⟩ = some (.slice s.pc.A s.pc.n s.pc.c) := K1.out.cell 1
  have k2 : w1.cell? ⟨w.heap.size + 1, 2, none⟩ = some (.slice s.F.A s.F.n s.F.c) := K1.out.cell 2
  have k3 : w1.cell? ⟨w.heap.size + 1, 3, none⟩ = some (.slice s.mem.A s.mem.n s.mem.c) := K1.out.cell 3
  have k4 : w1.cell? ⟨w.heap.size + 1, 4, none⟩ = some (.slice s.bufs.A s.bufs.n s.bufs.c) := K1.out.cell 4
  have k5 : w1.cell? ⟨w.heap.size + 1, 5, none⟩ = some (.slice s.H.A s.H.n s.H.c) := K1.out.cell 5
  have k6 : w1.cell? ⟨w.heap.size + 1, 6, none⟩ = some (.slice s.view.A s.view.n s.view.c) := K1.out.cell 6
  have k7 : w1.cell? ⟨w.heap.size + 1, 7, none⟩ = some (.slice s.sc.A s.sc.n s.sc.c) := K1.out.cell 7
  have k8 : w1.cell? ⟨w.heap.size + 1, 8, none⟩ = some (.int .i64 s.next) := K1.out.cell 8
  have g0 : w1.cell? ⟨w.heap.size, 0, none⟩ = some (.slice A1 p.init.length c1) := G1.out.cell 0
  have g1 : w1.cell? ⟨w.heap.size, 1, none⟩ = some (.slice A2 p.ts.length c2) := G1.out.cell 1
  clear hok hb1 hb0 G0 K0 hs0 ht0
  go_wp2_with fail
  refine (kindOf_2 A1 A2 s.pc.A s.F.A s.mem.A s.bufs.A s.H.A s.view.A s.sc.A _ _ s.pc.n s.F.n s.mem.n s.bufs.n s.H.n s.view.n s.sc.n c1 c2 s.pc.c s.F.c s.mem.c s.bufs.c s.H.c s.view.c s.sc.c s.next w1).mono ?_
  rintro e w2 ⟨T, rfl, hKT, hT, hb2⟩
  have B2 := hide (below_then B1.out hb2)
  have hs2 := hide (hs1.out.next hb2)
  have ht2 := hide (ht1.out.below hb2 hs1.out.lts)
  have hTl := hKT.lt
  replace hKT := hide hKT
  clear G1 K1 hs1 ht1 B1 hb2 hT k0 k1 k2 k3 k4 k5 k6 k7 k8 g0 g1 hz1
  have t0 : ∀ w, (Instr.typeAssert (Value.iface 106 (.pointer (some ⟨T, 0, none⟩))) 20 97 true).run Try.prog w = .ok (.tuple #[.pointer none, .bool false]) w := fun _ => by kernel_rfl
  have t1 : ∀ w, (Instr.typeAssert (Value.iface 106 (.pointer (some ⟨T, 0, none⟩))) 20 103 true).run Try.prog w = .ok (.tuple #[.pointer none, .bool false]) w := fun _ => by kernel_rfl
  have t2 : ∀ w, (Instr.typeAssert (Value.iface 106 (.pointer (some ⟨T, 0, none⟩))) 20 106 true).run Try.prog w = .ok (.tuple #[.pointer (some ⟨T, 0, none⟩), .bool true]) w := fun _ => by kernel_rfl
  have ke : Calls Try.prog 88 #[.agg #[.slice A1 p.init.length c1, .slice A2 p.ts.length c2, .slice s.pc.A s.pc.n s.pc.c, .slice s.F.A s.F.n s.F.c]] w2 fun e w' => e = .returned (.bool (endedB p.ts s.pc.zs)) ∧ Below w2.heap.size w2 w' := by
    have h := ended_any A1 A2 s.pc.A s.F.A p.init.length s.F.n c1 c2 s.pc.c s.F.c p.ts s.pc.zs (Old n) w2 y1.out hs2.out.lts ht2.out hs2.out.pc
    have e : s.pc.n = p.ts.length := hlp.out.symm.trans y1.out
    rw [e]
    exact h
  replace ke := hide ke
  have x0 : w2.cell? ⟨T, 0, none⟩ = some (.slice A1 p.init.length c1) := hKT.out.cell 0
  have x1 : w2.cell? ⟨T, 1, none⟩ = some (.slice A2 p.ts.length c2) := hKT.out.cell 1
  have x2 : w2.cell? ⟨T, 2, none⟩ = some (.slice s.pc.A s.pc.n s.pc.c) := hKT.out.cell 2
  have x3 : w2.cell? ⟨T, 3, none⟩ = some (.slice s.F.A s.F.n s.F.c) := hKT.out.cell 3
  have x4 : w2.cell? ⟨T, 4, none⟩ = some (.slice s.H.A s.H.n s.H.c) := hKT.out.cell 4
  have x5 : w2.cell? ⟨T, 5, none⟩ = some (.slice s.view.A s.view.n s.view.c) := hKT.out.cell 5
  have x6 : w2.cell? ⟨T, 6, none⟩ = some (.slice s.sc.A s.sc.n s.sc.c) := hKT.out.cell 6
  have x7 : w2.cell? ⟨T, 7, none⟩ = some (.int .i64 s.next) := hKT.out.cell 7
  go_wp2_with fail
  refine ke.out.mono ?_
  rintro e w3 ⟨rfl, hb3⟩
  have B3 := hide (below_then B2.out hb3)
  go_wp2_with fail
  go_ret
  exact ⟨ret_bool (hE.out.trans rfl).symm, B3.out⟩

theorem done_any {p : ProgD} {s : StD} {n : Nat} {v : Value} {w : World} (hp : ProgAt w (Old n) v p) (hs : StAt w n s) (hl : StLen s) :
    Calls Try.prog 27 #[v, .agg s.cells] w fun e w' => e = .returned (.bool (doneB p s)) ∧ Below w.heap.size w w' := by
  obtain ⟨A1, c1, A2, c2, rfl, hcc, hi, ht⟩ := hp
  rw [doneB_eq]
  cases hB : stateB p s
  · exact done_bad p s A1 A2 c1 c2 n w hcc hi ht hs hl hB
  · rcases (stateB_yes hB).2.2.2 with h | h | h
    · exact done_0 p s A1 A2 c1 c2 n w hcc hi ht hs hl hB h
    · exact done_1 p s A1 A2 c1 c2 n w hcc hi ht hs hl hB h
    · exact done_2 p s A1 A2 c1 c2 n w hcc hi ht hs hl hB h
end Go.Proofs.Ytikfbhehnpogoaa
