/- The walk of FnExactDone: it answers true and leaves its arguments. -/
import Derived.Test.YtikfbhehnpogoaaEsR
import Derived.Test.YtikfbhehnpogoaaSDone
import Derived.Deep.RegionHeld3
import Derived.Deep.DeepCutAuto
namespace Go.Proofs.Ytikfbhehnpogoaa
open Go.RowKit

set_option maxRecDepth 100000 in
set_option maxHeartbeats 12800000 in
theorem exDone_in (p : ProgD) (s : StD) (A1 A2 : Option Addr) (c1 c2 : Nat) (w : World) (hp : ProgAt w (Old w.heap.size) (.agg #[.slice A1 p.init.length c1, .slice A2 p.ts.length c2]) p) (hs : StArg w w.heap.size s) :
    Calls Try.prog 6 #[.agg #[.slice A1 p.init.length c1, .slice A2 p.ts.length c2], .agg s.cells] w fun e w' => e = .returned (.bool true) ∧ Below w.heap.size w w' := by
  obtain ⟨n, hn⟩ : ∃ n, n = w.heap.size := ⟨_, rfl⟩
  have hb0 := hide (below2 w (Obj.cells #[.slice A1 p.init.length c1, .slice A2 p.ts.length c2] 46) (Obj.cells s.cells 58))
  have hE0 := hide (show EsR n A1 A2 c1 c2 p s ((w.alloc (Obj.cells #[.slice A1 p.init.length c1, .slice A2 p.ts.length c2] 46)).alloc (Obj.cells s.cells 58)) from by
    subst hn
    have K0 := Blk.new (w.alloc (Obj.cells #[.slice A1 p.init.length c1, .slice A2 p.ts.length c2] 46)) 58 s.cells
    simp only [World.size_alloc] at K0
    exact ⟨(Blk.new w 46 #[.slice A1 p.init.length c1, .slice A2 p.ts.length c2]).alloc _, K0, hp.below hb0.out (fun _ h => h), hs.next hb0.out⟩)
  rw [← hn] at hb0
  have kcs := hide (show s.cells = #[.int .i64 s.kind, .slice s.pc.A s.pc.n s.pc.c, .slice s.F.A s.F.n s.F.c, .slice s.mem.A s.mem.n s.mem.c, .slice s.bufs.A s.bufs.n s.bufs.c, .slice s.H.A s.H.n s.H.c, .slice s.view.A s.view.n s.view.c, .slice s.sc.A s.sc.n s.sc.c, .int .i64 s.next] from rfl)
  clear hp hs
  obtain ⟨w0, hw0⟩ : ∃ wq, wq = (w.alloc (Obj.cells #[.slice A1 p.init.length c1, .slice A2 p.ts.length c2] 46)).alloc (Obj.cells s.cells 58) := ⟨_, rfl⟩
  rw [← hw0] at hE0 hb0
  rw [kcs.out] at hw0 ⊢
  go_enter Try.func6, Try.ntmps6
  go_wp2_with fail
  try rw [← hw0]
  rw [← hn]
  replace hn := hide hn
  clear hw0
  refine (szProg_any p _ (Old n) 1048576 w0 (by omega) (by omega) hE0.out.lts hE0.out.pr).mono ?_
  rintro e w1 ⟨rfl, hb1⟩
  have E1 := hide (hE0.out.next hb1)
  have B1 := hide (hb0.out.trans (hb1.mono hE0.out.st.sz))
  clear hE0 hb1 hb0
  by_cases hz : (1048576 : Int) < progSize p
  · rw [szR_neg hz]
    clear hz
    go_wp2_with fail
    go_ret
    rw [← hn.out]
    exact ⟨rfl, B1.out⟩
  · rw [szR_pos hz]
    obtain ⟨left, hleft⟩ : ∃ l : Int, l = 1048576 - (progSize p : Int) := ⟨_, rfl⟩
    rw [← hleft]
    have hl0 : 0 ≤ left := by omega
    have hl1 : left ≤ 1048576 := by omega
    have hlt0 : decide (left < 0) = false := decide_eq_false (by omega)
    have hzp : progSize p ≤ 1048576 := by omega
    replace hzp := hide hzp
    clear hz hleft
    obtain ⟨⟨x0, x1⟩, y0, y1, y2, y3, y4, y5, y6, y7, y8⟩ := E1.out.cells
    obtain ⟨l0, l1⟩ := E1.out.lt
    go_wp2_with fail
    clear x0 x1 y0 y1 y2 y3 y4 y5 y6 y7 y8
    rw [← kcs.out]
    refine (szStateI E1.out.st left hl0 hl1).mono ?_
    rintro e w2 ⟨rfl, hb2⟩
    have E2 := hide (E1.out.next hb2)
    have B2 := hide (B1.out.trans (hb2.mono E1.out.st.sz))
    clear E1 hb2 B1 l0 l1
    by_cases hz : left < (stSize s : Int)
    · rw [szR_neg hz]
      clear hz
      go_wp2_with fail
      go_ret
      rw [← hn.out]
      exact ⟨rfl, B2.out⟩
    · rw [szR_pos hz]
      obtain ⟨left2, hleft2⟩ : ∃ l : Int, l = left - (stSize s : Int) := ⟨_, rfl⟩
      rw [← hleft2]
      have hlt2 : decide (left2 < 0) = false := decide_eq_false (by omega)
      have hzs : stSize s ≤ 1048576 := by omega
      replace hzs := hide hzs
      clear hz hleft2 hl0 hl1 hlt0
      obtain ⟨⟨x0, x1⟩, y0, y1, y2, y3, y4, y5, y6, y7, y8⟩ := E2.out.cells
      obtain ⟨l0, l1⟩ := E2.out.lt
      go_wp2_with fail
      clear x0 x1 y0 y1 y2 y3 y4 y5 y6 y7 y8 l0 l1
      obtain ⟨res, hres⟩ : ∃ res, res = doneB p s := ⟨_, rfl⟩
      have hval := hide (fun (d : StD) (h : SameSt s d) => (show doneB p d = res from by rw [hres, doneB_same h]))
      clear hres
      replace E2 := hide (E2.out.next (Below.refl _ _).drew)
      replace B2 := hide B2.out.drew
      have kS := hide (fun (m : Nat) (B1 B2 : Option Addr) (d1 d2 : Nat) (d : StD) (wX : World) (h : PcR m B1 B2 d1 d2 p wX) (hd : StIn wX d) (hq : SameSt s d) => (show Calls Try.prog 26 #[.agg #[.slice B1 p.init.length d1, .slice B2 p.ts.length d2], .agg d.cells] wX fun e w' => e = .returned (.bool res) ∧ Below wX.heap.size wX w' from by
        have h1 := sdone_any (n := wX.heap.size) (h.at_.more (fun _ k => Nat.lt_of_lt_of_le k h.sz)) hd.at_ hd.len
        rw [hval.out d hq] at h1
        exact h1))
      have kP := hide (fun (m : Nat) (B1 B2 : Option Addr) (d1 d2 : Nat) (d : StD) (wX : World) (h : PcR m B1 B2 d1 d2 p wX) (hd : StIn wX d) (hq : SameSt s d) => (show Calls Try.prog 27 #[.agg #[.slice B1 p.init.length d1, .slice B2 p.ts.length d2], .agg d.cells] wX fun e w' => e = .returned (.bool res) ∧ Below wX.heap.size wX w' from by
        have h1 := done_any (n := wX.heap.size) (h.at_.more (fun _ k => Nat.lt_of_lt_of_le k h.sz)) hd.at_ hd.len
        rw [hval.out d hq] at h1
        exact h1))
      clear hval
      refine wp_region_held_drew (S := (fun w' => (w'.cell? ⟨n, 0, none⟩ = some (.slice A1 p.init.length c1) ∧ w'.cell? ⟨n, 1, none⟩ = some (.slice A2 p.ts.length c2)) ∧ w'.cell? ⟨(n + 1), 0, none⟩ = some (.int .i64 s.kind) ∧ w'.cell? ⟨(n + 1), 1, none⟩ = some (.slice s.pc.A s.pc.n s.pc.c) ∧ w'.cell? ⟨(n + 1), 2, none⟩ = some (.slice s.F.A s.F.n s.F.c) ∧ w'.cell? ⟨(n + 1), 3, none⟩ = some (.slice s.mem.A s.mem.n s.mem.c) ∧ w'.cell? ⟨(n + 1), 4, none⟩ = some (.slice s.bufs.A s.bufs.n s.bufs.c) ∧ w'.cell? ⟨(n + 1), 5, none⟩ = some (.slice s.H.A s.H.n s.H.c) ∧ w'.cell? ⟨(n + 1), 6, none⟩ = some (.slice s.view.A s.view.n s.view.c) ∧ w'.cell? ⟨(n + 1), 7, none⟩ = some (.slice s.sc.A s.sc.n s.sc.c) ∧ w'.cell? ⟨(n + 1), 8, none⟩ = some (.int .i64 s.next))) (by kernel_rfl) ?_ (fun hHeld => ?_)
      · exact E2.out.cells
      refine wpAnyH_take (i := 0) (oi := { dst := some 20, op := Op.load 46 (Operand.tmp 2), type := 46, pos := "exact.go:1870", after := #[], guard := none }) (v := ?_) rfl (by kernel_rfl) (by kernel_rfl) (by kernel_rfl) (fun _ _ _ h => h) (Or.inl ⟨by rfl, ?_⟩) hHeld ?_
      rotate_left
      · (intro wq hSw; (try dsimp only at hSw); first | (go_simp; done) | (go_simp; with_reducible rfl))
      try simp only [Act.put, List.setIfInBounds_toArray, List.set_cons_zero, List.set_cons_succ]
      refine wpAnyH_take (i := 2) (oi := { dst := some 22, op := Op.load 58 (Operand.tmp 3), type := 58, pos := "exact.go:1870", after := #[], guard := none }) (v := ?_) rfl (by kernel_rfl) (by kernel_rfl) (by kernel_rfl) (fun _ _ _ h => h) (Or.inl ⟨by rfl, ?_⟩) hHeld ?_
      rotate_left
      · (intro wq hSw; (try dsimp only at hSw); first | (go_simp; done) | (go_simp; with_reducible rfl))
      try simp only [Act.put, List.setIfInBounds_toArray, List.set_cons_zero, List.set_cons_succ]
      refine wpAnyH_ready (rs := [1]) (by kernel_rfl) (by simp) ?_
      refine AllReadyH.cons (o := { dst := some 21, op := Op.call { callee := Callee.value (Operand.func 17), args := #[Operand.tmp 20], argTypes := #[46] }, type := 26, pos := "exact.go:1870", after := #[{ on := 0, ground := Ground.data }], guard := none }) rfl (fun K hK => ?_) AllReadyH.nil
      go_simp
      go_at_call 17; refine (E2.out.toProg hzp.out).mono ?_; rintro e w3 ⟨C1, C2, d1, d2, rfl, hp3, hb3⟩; have P3 := hide (PcR.of hp3); have E3 := hide (E2.out.next hb3); have B3 := hide (B2.out.trans (hb3.mono E2.out.st.sz)); clear hp3 hb3
      refine hK.out _ _ ?_ (fun hHeldN => ?_)
      · exact E3.out.cells
      clear hK K hHeld
      have hHeld := hHeldN
      clear hHeldN
      try simp only [Act.put, List.setIfInBounds_toArray, List.set_cons_zero, List.set_cons_succ]
      refine wpAnyH_ready (rs := [3]) (by kernel_rfl) (by simp) ?_
      refine AllReadyH.cons (o := { dst := some 23, op := Op.call { callee := Callee.value (Operand.func 25), args := #[Operand.tmp 22], argTypes := #[58] }, type := 33, pos := "exact.go:1870", after := #[{ on := 2, ground := Ground.data }, { on := 1, ground := Ground.chain }], guard := none }) rfl (fun K hK => ?_) AllReadyH.nil
      go_simp
      go_at_call 25; (try rw [← kcs.out]); refine (toStateI E3.out.st hzs.out).mono ?_; rintro e w4 ⟨d4, rfl, hi4, hl4, hs4, hb4⟩; have S4 := hide hi4; have Q4 := hide hs4; have P4 := hide (P3.out.next hb4); have E4 := hide (E3.out.next hb4); have B4 := hide (B3.out.trans (hb4.mono E3.out.st.sz)); clear hi4 hl4 hs4 hb4
      refine hK.out _ _ ?_ (fun hHeldN => ?_)
      · exact E4.out.cells
      clear hK K hHeld
      have hHeld := hHeldN
      clear hHeldN
      try simp only [Act.put, List.setIfInBounds_toArray, List.set_cons_zero, List.set_cons_succ]
      refine wpAnyH_ready (rs := [4]) (by kernel_rfl) (by simp) ?_
      refine AllReadyH.cons (o := { dst := some 24, op := Op.call { callee := Callee.value (Operand.func 26), args := #[Operand.tmp 21, Operand.tmp 23], argTypes := #[26, 33] }, type := 4, pos := "exact.go:1870", after := #[{ on := 1, ground := Ground.data }, { on := 3, ground := Ground.data }, { on := 3, ground := Ground.chain }], guard := none }) rfl (fun K hK => ?_) AllReadyH.nil
      go_simp
      go_at_call 26; refine (kS.out _ _ _ _ _ _ _ P4.out S4.out Q4.out).mono ?_; rintro e w5 ⟨rfl, hb5⟩; have E5 := hide (E4.out.next hb5); have B5 := hide (B4.out.trans (hb5.mono E4.out.st.sz)); clear hb5
      refine hK.out _ _ ?_ (fun hHeldN => ?_)
      · exact E5.out.cells
      clear hK K hHeld
      have hHeld := hHeldN
      clear hHeldN
      try simp only [Act.put, List.setIfInBounds_toArray, List.set_cons_zero, List.set_cons_succ]
      refine wpAnyH_take (i := 5) (oi := { dst := some 6, op := Op.assign (Operand.tmp 24), type := 4, pos := "exact.go:1870", after := #[{ on := 4, ground := Ground.data }, { on := 4, ground := Ground.chain }, { on := 0, ground := Ground.phase }, { on := 1, ground := Ground.phase }, { on := 2, ground := Ground.phase }, { on := 3, ground := Ground.phase }, { on := 4, ground := Ground.phase }], guard := none }) (v := ?_) rfl (by kernel_rfl) (by kernel_rfl) (by kernel_rfl) (fun _ _ _ h => h) (Or.inl ⟨by rfl, ?_⟩) hHeld ?_
      rotate_left
      · (intro wq hSw; (try dsimp only at hSw); first | (go_simp; done) | (go_simp; with_reducible rfl))
      try simp only [Act.put, List.setIfInBounds_toArray, List.set_cons_zero, List.set_cons_succ]
      refine wpAnyH_done (by kernel_rfl) ?_ _
      clear hHeld P3 P4 S4 Q4 E2 E3 E4 B2 B3 B4
      obtain ⟨⟨x0, x1⟩, y0, y1, y2, y3, y4, y5, y6, y7, y8⟩ := E5.out.cells
      obtain ⟨l0, l1⟩ := E5.out.lt
      go_wp2_with fail
      clear x0 x1 y0 y1 y2 y3 y4 y5 y6 y7 y8 l0 l1
      refine (E5.out.toProg hzp.out).mono ?_
      rintro e w6 ⟨D1, D2, f1, f2, rfl, hp6, hb6⟩
      have P6 := hide (PcR.of hp6)
      have E6 := hide (E5.out.next hb6)
      have B6 := hide (B5.out.trans (hb6.mono E5.out.st.sz))
      clear hp6 hb6 E5 B5
      have hb7 : Below w6.heap.size w6 (w6.alloc (Obj.cells #[.slice D1 p.init.length f1, .slice D2 p.ts.length f2] 26)) := below1 _ _
      have X7 := hide (Blk.new w6 26 #[.slice D1 p.init.length f1, .slice D2 p.ts.length f2])
      have P7 := hide (P6.out.next hb7)
      have E7 := hide (E6.out.next hb7)
      have B7 := hide (B6.out.trans (hb7.mono E6.out.st.sz))
      obtain ⟨⟨x0, x1⟩, y0, y1, y2, y3, y4, y5, y6, y7, y8⟩ := E7.out.cells
      obtain ⟨l0, l1⟩ := E6.out.lt
      clear hb7
      go_wp2_with fail
      clear x0 x1 y0 y1 y2 y3 y4 y5 y6 y7 y8 l0 l1 P6 E6 B6
      obtain ⟨w7, hw7⟩ : ∃ wq, wq = w6.alloc (Obj.cells #[.slice D1 p.init.length f1, .slice D2 p.ts.length f2] 26) := ⟨_, rfl⟩
      rw [← hw7] at X7 P7 E7 B7 ⊢
      obtain ⟨U, hU⟩ : ∃ U, U = w6.heap.size := ⟨_, rfl⟩
      rw [← hU] at X7 ⊢
      clear hw7 hU
      (try rw [← kcs.out])
      refine (toStateI E7.out.st hzs.out).mono ?_
      rintro e w8 ⟨d, rfl, hi8, hl8, hs8, hb8⟩
      have S8 := hide hi8
      have Q8 := hide hs8
      have P8 := hide (P7.out.next hb8)
      have E8 := hide (E7.out.next hb8)
      have X8 := hide (X7.out.below hb8 X7.out.lt)
      have B8 := hide (B7.out.trans (hb8.mono E7.out.st.sz))
      clear hi8 hl8 hs8 hb8 X7 P7 E7 B7
      have hb9 : Below w8.heap.size w8 (w8.alloc (Obj.cells d.cells 33)) := below1 _ _
      have Y9 := hide (Blk.new w8 33 d.cells)
      have X9 := hide (X8.out.below hb9 X8.out.lt)
      have S9 := hide (S8.out.next hb9)
      have P9 := hide (P8.out.next hb9)
      have E9 := hide (E8.out.next hb9)
      have B9 := hide (B8.out.trans (hb9.mono E8.out.st.sz))
      have dcs := hide (show d.cells = #[.int .i64 d.kind, .slice d.pc.A d.pc.n d.pc.c, .slice d.F.A d.F.n d.F.c, .slice d.mem.A d.mem.n d.mem.c, .slice d.bufs.A d.bufs.n d.bufs.c, .slice d.H.A d.H.n d.H.c, .slice d.view.A d.view.n d.view.c, .slice d.sc.A d.sc.n d.sc.c, .int .i64 d.next] from rfl)
      obtain ⟨z0, z1⟩ := prog2 X9.out
      obtain ⟨y0, y1, y2, y3, y4, y5, y6, y7, y8⟩ := state9 Y9.out
      have l0 := X8.out.lt
      rw [dcs.out] at z0 z1 y0 y1 y2 y3 y4 y5 y6 y7 y8 ⊢
      clear hb9
      go_wp2_with fail
      clear y0 y1 y2 y3 y4 y5 y6 y7 y8 z0 z1 l0 X8 S8 P8 E8 B8
      (try rw [← dcs.out])
      obtain ⟨w9, hw9⟩ : ∃ wq, wq = w8.alloc (Obj.cells d.cells 33) := ⟨_, rfl⟩
      rw [← hw9] at X9 Y9 S9 P9 E9 B9 ⊢
      obtain ⟨U2, hU2⟩ : ∃ U2, U2 = w8.heap.size := ⟨_, rfl⟩
      rw [← hU2] at Y9 ⊢
      clear hw9 hU2
      (try rw [← dcs.out])
      refine (kP.out _ _ _ _ _ _ _ P9.out S9.out Q8.out).mono ?_
      rintro e w10 ⟨rfl, hb10⟩
      have Y10 := hide (Y9.out.below hb10 Y9.out.lt)
      have X10 := hide (X9.out.below hb10 X9.out.lt)
      have S10 := hide (S9.out.next hb10)
      have P10 := hide (P9.out.next hb10)
      have E10 := hide (E9.out.next hb10)
      have B10 := hide (B9.out.trans (hb10.mono E9.out.st.sz))
      clear hb10 X9 Y9 S9 P9 E9 B9 kP kS
      have hrr : (res != res) = false := by simp
      go_wp2_with fail
      clear hrr
      replace Y10 := hide (Y10.out.below (Below.refl _ _).drew Y10.out.lt)
      replace X10 := hide (X10.out.below (Below.refl _ _).drew X10.out.lt)
      replace S10 := hide (S10.out.next (Below.refl _ _).drew)
      replace P10 := hide (P10.out.next (Below.refl _ _).drew)
      replace E10 := hide (E10.out.next (Below.refl _ _).drew)
      replace B10 := hide B10.out.drew
      refine wp_region_held_drew (S := (fun w' => (w'.cell? ⟨U, 0, none⟩ = some (.slice D1 p.init.length f1) ∧ w'.cell? ⟨U, 1, none⟩ = some (.slice D2 p.ts.length f2)) ∧ (w'.cell? ⟨n, 0, none⟩ = some (.slice A1 p.init.length c1) ∧ w'.cell? ⟨n, 1, none⟩ = some (.slice A2 p.ts.length c2)) ∧ w'.cell? ⟨(n + 1), 0, none⟩ = some (.int .i64 s.kind) ∧ w'.cell? ⟨(n + 1), 1, none⟩ = some (.slice s.pc.A s.pc.n s.pc.c) ∧ w'.cell? ⟨(n + 1), 2, none⟩ = some (.slice s.F.A s.F.n s.F.c) ∧ w'.cell? ⟨(n + 1), 3, none⟩ = some (.slice s.mem.A s.mem.n s.mem.c) ∧ w'.cell? ⟨(n + 1), 4, none⟩ = some (.slice s.bufs.A s.bufs.n s.bufs.c) ∧ w'.cell? ⟨(n + 1), 5, none⟩ = some (.slice s.H.A s.H.n s.H.c) ∧ w'.cell? ⟨(n + 1), 6, none⟩ = some (.slice s.view.A s.view.n s.view.c) ∧ w'.cell? ⟨(n + 1), 7, none⟩ = some (.slice s.sc.A s.sc.n s.sc.c) ∧ w'.cell? ⟨(n + 1), 8, none⟩ = some (.int .i64 s.next))) (by kernel_rfl) ?_ (fun hHeld => ?_)
      · exact ⟨prog2 X10.out, E10.out.cells⟩
      refine wpAnyH_take (i := 0) (oi := { dst := some 35, op := Op.load 26 (Operand.tmp 7), type := 26, pos := "exact.go:1877", after := #[], guard := none }) (v := ?_) rfl (by kernel_rfl) (by kernel_rfl) (by kernel_rfl) (fun _ _ _ h => h) (Or.inl ⟨by rfl, ?_⟩) hHeld ?_
      rotate_left
      · (intro wq hSw; (try dsimp only at hSw); first | (go_simp; done) | (go_simp; with_reducible rfl))
      try simp only [Act.put, List.setIfInBounds_toArray, List.set_cons_zero, List.set_cons_succ]
      refine wpAnyH_take (i := 1) (oi := { dst := some 36, op := Op.load 46 (Operand.tmp 2), type := 46, pos := "exact.go:1877", after := #[], guard := none }) (v := ?_) rfl (by kernel_rfl) (by kernel_rfl) (by kernel_rfl) (fun _ _ _ h => h) (Or.inl ⟨by rfl, ?_⟩) hHeld ?_
      rotate_left
      · (intro wq hSw; (try dsimp only at hSw); first | (go_simp; done) | (go_simp; with_reducible rfl))
      try simp only [Act.put, List.setIfInBounds_toArray, List.set_cons_zero, List.set_cons_succ]
      refine wpAnyH_ready (rs := [2]) (by kernel_rfl) (by simp) ?_
      refine AllReadyH.cons (o := { dst := some 37, op := Op.call { callee := Callee.value (Operand.func 17), args := #[Operand.tmp 36], argTypes := #[46] }, type := 26, pos := "exact.go:1877", after := #[{ on := 1, ground := Ground.data }], guard := none }) rfl (fun K hK => ?_) AllReadyH.nil
      go_simp
      go_at_call 17; refine (E10.out.toProg hzp.out).mono ?_; rintro e w11 ⟨G1, G2, h1, h2, rfl, hp11, hb11⟩; have R11 := hide (PcR.of hp11); have P11 := hide (P10.out.next hb11); have X11 := hide (X10.out.below hb11 X10.out.lt); have Y11 := hide (Y10.out.below hb11 Y10.out.lt); have S11 := hide (S10.out.next hb11); have E11 := hide (E10.out.next hb11); have B11 := hide (B10.out.trans (hb11.mono E10.out.st.sz)); clear hp11 hb11
      refine hK.out _ _ ?_ (fun hHeldN => ?_)
      · exact ⟨prog2 X11.out, E11.out.cells⟩
      clear hK K hHeld
      have hHeld := hHeldN
      clear hHeldN
      try simp only [Act.put, List.setIfInBounds_toArray, List.set_cons_zero, List.set_cons_succ]
      refine wpAnyH_ready (rs := [3]) (by kernel_rfl) (by simp) ?_
      refine AllReadyH.cons (o := { dst := some 38, op := Op.call { callee := Callee.value (Operand.func 19), args := #[Operand.tmp 35, Operand.tmp 37], argTypes := #[26, 26] }, type := 4, pos := "exact.go:1877", after := #[{ on := 0, ground := Ground.data }, { on := 2, ground := Ground.data }, { on := 2, ground := Ground.chain }], guard := none }) rfl (fun K hK => ?_) AllReadyH.nil
      go_simp
      go_at_call 19; refine (P11.out.same R11.out).mono ?_; rintro e w12 ⟨rfl, hb12⟩; have X12 := hide (X11.out.below hb12 X11.out.lt); have Y12 := hide (Y11.out.below hb12 Y11.out.lt); have S12 := hide (S11.out.next hb12); have E12 := hide (E11.out.next hb12); have B12 := hide (B11.out.trans (hb12.mono E11.out.st.sz)); clear hb12
      refine hK.out _ _ ?_ (fun hHeldN => ?_)
      · exact ⟨prog2 X12.out, E12.out.cells⟩
      clear hK K hHeld
      have hHeld := hHeldN
      clear hHeldN
      try simp only [Act.put, List.setIfInBounds_toArray, List.set_cons_zero, List.set_cons_succ]
      refine wpAnyH_take (i := 4) (oi := { dst := some 39, op := Op.unOp UnOp.not 4 (Operand.tmp 38), type := 4, pos := "exact.go:1877", after := #[{ on := 3, ground := Ground.data }], guard := none }) (v := ?_) rfl (by kernel_rfl) (by kernel_rfl) (by kernel_rfl) (fun _ _ _ h => h) (Or.inl ⟨by rfl, ?_⟩) hHeld ?_
      rotate_left
      · (intro wq hSw; (try dsimp only at hSw); first | (go_simp; done) | (go_simp; with_reducible rfl))
      try simp only [Act.put, List.setIfInBounds_toArray, List.set_cons_zero, List.set_cons_succ]
      refine wpAnyH_done (by kernel_rfl) ?_ _
      clear hHeld X10 Y10 S10 E10 B10 P10 P11 R11 X11 Y11 S11 E11 B11 X12
      go_wp2_with fail
      replace Y12 := hide (Y12.out.below (Below.refl _ _).drew Y12.out.lt)
      replace S12 := hide (S12.out.next (Below.refl _ _).drew)
      replace E12 := hide (E12.out.next (Below.refl _ _).drew)
      replace B12 := hide B12.out.drew
      refine wp_region_held_drew (S := (fun w' => (w'.cell? ⟨U2, 0, none⟩ = some (.int .i64 d.kind) ∧ w'.cell? ⟨U2, 1, none⟩ = some (.slice d.pc.A d.pc.n d.pc.c) ∧ w'.cell? ⟨U2, 2, none⟩ = some (.slice d.F.A d.F.n d.F.c) ∧ w'.cell? ⟨U2, 3, none⟩ = some (.slice d.mem.A d.mem.n d.mem.c) ∧ w'.cell? ⟨U2, 4, none⟩ = some (.slice d.bufs.A d.bufs.n d.bufs.c) ∧ w'.cell? ⟨U2, 5, none⟩ = some (.slice d.H.A d.H.n d.H.c) ∧ w'.cell? ⟨U2, 6, none⟩ = some (.slice d.view.A d.view.n d.view.c) ∧ w'.cell? ⟨U2, 7, none⟩ = some (.slice d.sc.A d.sc.n d.sc.c) ∧ w'.cell? ⟨U2, 8, none⟩ = some (.int .i64 d.next)) ∧ (w'.cell? ⟨n, 0, none⟩ = some (.slice A1 p.init.length c1) ∧ w'.cell? ⟨n, 1, none⟩ = some (.slice A2 p.ts.length c2)) ∧ w'.cell? ⟨(n + 1), 0, none⟩ = some (.int .i64 s.kind) ∧ w'.cell? ⟨(n + 1), 1, none⟩ = some (.slice s.pc.A s.pc.n s.pc.c) ∧ w'.cell? ⟨(n + 1), 2, none⟩ = some (.slice s.F.A s.F.n s.F.c) ∧ w'.cell? ⟨(n + 1), 3, none⟩ = some (.slice s.mem.A s.mem.n s.mem.c) ∧ w'.cell? ⟨(n + 1), 4, none⟩ = some (.slice s.bufs.A s.bufs.n s.bufs.c) ∧ w'.cell? ⟨(n + 1), 5, none⟩ = some (.slice s.H.A s.H.n s.H.c) ∧ w'.cell? ⟨(n + 1), 6, none⟩ = some (.slice s.view.A s.view.n s.view.c) ∧ w'.cell? ⟨(n + 1), 7, none⟩ = some (.slice s.sc.A s.sc.n s.sc.c) ∧ w'.cell? ⟨(n + 1), 8, none⟩ = some (.int .i64 s.next))) (by kernel_rfl) ?_ (fun hHeld => ?_)
      · exact ⟨state9 Y12.out, E12.out.cells⟩
      refine wpAnyH_take (i := 0) (oi := { dst := some 40, op := Op.load 33 (Operand.tmp 8), type := 33, pos := "exact.go:1880", after := #[], guard := none }) (v := ?_) rfl (by kernel_rfl) (by kernel_rfl) (by kernel_rfl) (fun _ _ _ h => h) (Or.inl ⟨by rfl, ?_⟩) hHeld ?_
      rotate_left
      · (intro wq hSw; (try dsimp only at hSw); first | (go_simp; done) | (go_simp; with_reducible rfl))
      try simp only [Act.put, List.setIfInBounds_toArray, List.set_cons_zero, List.set_cons_succ]
      refine wpAnyH_take (i := 1) (oi := { dst := some 41, op := Op.load 58 (Operand.tmp 3), type := 58, pos := "exact.go:1880", after := #[], guard := none }) (v := ?_) rfl (by kernel_rfl) (by kernel_rfl) (by kernel_rfl) (fun _ _ _ h => h) (Or.inl ⟨by rfl, ?_⟩) hHeld ?_
      rotate_left
      · (intro wq hSw; (try dsimp only at hSw); first | (go_simp; done) | (go_simp; with_reducible rfl))
      try simp only [Act.put, List.setIfInBounds_toArray, List.set_cons_zero, List.set_cons_succ]
      refine wpAnyH_ready (rs := [2]) (by kernel_rfl) (by simp) ?_
      refine AllReadyH.cons (o := { dst := some 42, op := Op.call { callee := Callee.value (Operand.func 25), args := #[Operand.tmp 41], argTypes := #[58] }, type := 33, pos := "exact.go:1880", after := #[{ on := 1, ground := Ground.data }], guard := none }) rfl (fun K hK => ?_) AllReadyH.nil
      go_simp
      go_at_call 25; (try rw [← kcs.out]); refine (toStateI E12.out.st hzs.out).mono ?_; rintro e w13 ⟨d13, rfl, hi13, hl13, hs13, hb13⟩; have T13 := hide hi13; have Q13 := hide hs13; have Y13 := hide (Y12.out.below hb13 Y12.out.lt); have S13 := hide (S12.out.next hb13); have E13 := hide (E12.out.next hb13); have B13 := hide (B12.out.trans (hb13.mono E12.out.st.sz)); clear hi13 hl13 hs13 hb13
      refine hK.out _ _ ?_ (fun hHeldN => ?_)
      · exact ⟨state9 Y13.out, E13.out.cells⟩
      clear hK K hHeld
      have hHeld := hHeldN
      clear hHeldN
      try simp only [Act.put, List.setIfInBounds_toArray, List.set_cons_zero, List.set_cons_succ]
      refine wpAnyH_ready (rs := [3]) (by kernel_rfl) (by simp) ?_
      refine AllReadyH.cons (o := { dst := some 43, op := Op.call { callee := Callee.value (Operand.func 18), args := #[Operand.tmp 40, Operand.tmp 42], argTypes := #[33, 33] }, type := 4, pos := "exact.go:1880", after := #[{ on := 0, ground := Ground.data }, { on := 2, ground := Ground.data }, { on := 2, ground := Ground.chain }], guard := none }) rfl (fun K hK => ?_) AllReadyH.nil
      go_simp
      go_at_call 18; (try rw [← dcs.out]); refine (eqState_to (Q8.out.symm.trans Q13.out) S13.out T13.out).mono ?_; rintro e w14 ⟨rfl, hb14⟩; have Y14 := hide (Y13.out.below hb14 Y13.out.lt); have E14 := hide (E13.out.next hb14); have B14 := hide (B13.out.trans (hb14.mono E13.out.st.sz)); clear hb14
      refine hK.out _ _ ?_ (fun hHeldN => ?_)
      · exact ⟨state9 Y14.out, E14.out.cells⟩
      clear hK K hHeld
      have hHeld := hHeldN
      clear hHeldN
      try simp only [Act.put, List.setIfInBounds_toArray, List.set_cons_zero, List.set_cons_succ]
      refine wpAnyH_take (i := 4) (oi := { dst := some 44, op := Op.unOp UnOp.not 4 (Operand.tmp 43), type := 4, pos := "exact.go:1880", after := #[{ on := 3, ground := Ground.data }], guard := none }) (v := ?_) rfl (by kernel_rfl) (by kernel_rfl) (by kernel_rfl) (fun _ _ _ h => h) (Or.inl ⟨by rfl, ?_⟩) hHeld ?_
      rotate_left
      · (intro wq hSw; (try dsimp only at hSw); first | (go_simp; done) | (go_simp; with_reducible rfl))
      try simp only [Act.put, List.setIfInBounds_toArray, List.set_cons_zero, List.set_cons_succ]
      refine wpAnyH_done (by kernel_rfl) ?_ _
      clear hHeld
      go_wp2_with fail
      go_ret
      rw [← hn.out]
      exact ⟨rfl, B14.out⟩

theorem exDone_walk (v : Value) (p : ProgD) (s : StD) (w : World) (hp : ProgAt w (Old w.heap.size) v p) (hs : StArg w w.heap.size s) :
    Calls Try.prog 6 #[v, .agg s.cells] w fun e w' => e = .returned (.bool true) ∧ Below w.heap.size w w' := by
  obtain ⟨A1, c1, A2, c2, rfl, hcc, hi, ht⟩ := hp
  exact exDone_in p s A1 A2 c1 c2 w ⟨A1, c1, A2, c2, rfl, hcc, hi, ht⟩ hs
end Go.Proofs.Ytikfbhehnpogoaa
