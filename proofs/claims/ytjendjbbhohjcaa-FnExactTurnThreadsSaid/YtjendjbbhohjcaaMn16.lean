/- How long the program in another order is. -/
import Derived.Test.YtjendjbbhohjcaaMn0
import Derived.Test.YtjendjbbhohjcaaMn7
import Derived.Test.YtjendjbbhohjcaaMn11
import Derived.Test.YtjendjbbhohjcaaMn12
namespace Go.Proofs.Ytjendjbbhohjcaa
open Go.RowKit

set_option maxRecDepth 100000 in
set_option maxHeartbeats 6400000 in
theorem pturn_any (v : Value) (p : ProgD) (AO : Option Addr) (zs : List Int) (n cO : Nat) (w : World) (hp : ProgAt w (Old w.heap.size) v p) (ho : IntsAt w (Old w.heap.size) AO zs) (hz : zs.length = n) :
    Calls Try.prog 43 #[v, .slice AO n cO] w fun e w' => FenR w w' e (turnQ p zs) (turnB p zs) := by
  have hn63 : n ≤ 9223372036854775807 := by rw [← hz]; exact ho.1
  obtain ⟨A, c, A', c', rfl, hcc, hi, ht⟩ := hp
  obtain ⟨W0, hW0⟩ : ∃ x, x = w.alloc (Obj.cells #[.slice A p.init.length c, .slice A' p.ts.length c'] 37) := ⟨_, rfl⟩
  obtain ⟨W, hW⟩ : ∃ x, x = W0.alloc (Obj.cells #[.slice none 0 0, .slice none 0 0] 37) := ⟨_, rfl⟩
  have hbW0 : Below w.heap.size w W0 := by rw [hW0]; exact below1 _ _
  have hsz0 : w.heap.size + 1 = W0.heap.size := by rw [hW0]; simp
  have hbW : Below w.heap.size w W := by rw [hW]; exact hbW0.alloc hbW0.size _
  have hsW : w.heap.size + 1 + 1 ≤ W.heap.size := by rw [hW]; simp; omega
  have X0 := hide (show Blk W w.heap.size 37 #[.slice A p.init.length c, .slice A' p.ts.length c'] from by rw [hW, hW0]; exact (Blk.new _ _ _).alloc _)
  have R0 := hide (show Blk W (w.heap.size + 1) 37 #[.slice none 0 0, .slice none 0 0] from by rw [hW, hsz0]; exact Blk.new _ _ _)
  have Z0 := hide ((hi.below hbW (fun _ h => h)).more (fun b (h : b < w.heap.size) => show b < W.heap.size from Nat.lt_of_lt_of_le h hbW.size))
  have D0 := hide ((ht.below hbW (fun _ h => h)).more (fun b (h : b < w.heap.size) => show b < W.heap.size from Nat.lt_of_lt_of_le h hbW.size))
  have Q0 := hide ((ho.below hbW (fun _ h => h)).more (fun b (h : b < w.heap.size) => show b < W.heap.size from Nat.lt_of_lt_of_le h hbW.size))
  have kP := hide (progOk_any (.agg #[.slice A p.init.length c, .slice A' p.ts.length c']) p (Old W.heap.size) W (fun _ h => h) ⟨A, c, A', c', rfl, hcc, Z0.out, D0.out⟩)
  have BW := hide hbW
  obtain ⟨ok, hok⟩ : ∃ ok, ok = progB p := ⟨_, rfl⟩
  rw [← hok] at kP
  replace hok := hide hok
  have x0 := X0.out.cell 0
  have x1 := X0.out.cell 1
  have lx := X0.out.lt
  simp only [List.getElem?_toArray, List.getElem?_cons_zero, List.getElem?_cons_succ] at x0 x1
  replace hz := hide hz
  clear hbW0 hsz0 hbW hi ht ho hcc
  go_enter Try.func43, Try.ntmps43
  go_upto_region 1 with fail
  rw [← hW0, ← hW]
  clear hW hW0
  go_wp2_with fail
  refine kP.out.mono ?_
  rintro e w1 ⟨rfl, hb1⟩
  have B1 := hide (BW.out.trans (hb1.mono BW.out.size))
  have R1 := hide (R0.out.below hb1 R0.out.lt)
  have X1 := hide (X0.out.below hb1 X0.out.lt)
  have Z1 := hide ((Z0.out.below hb1 (fun _ h => h)).more (fun b (h : b < W.heap.size) => show b < w1.heap.size from Nat.lt_of_lt_of_le h hb1.size))
  have D1 := hide ((D0.out.below hb1 (fun _ h => h)).more (fun b (h : b < W.heap.size) => show b < w1.heap.size from Nat.lt_of_lt_of_le h hb1.size))
  have Q1 := hide ((Q0.out.below hb1 (fun _ h => h)).more (fun b (h : b < W.heap.size) => show b < w1.heap.size from Nat.lt_of_lt_of_le h hb1.size))
  have S1 := hide (Nat.le_trans hsW hb1.size)
  clear x0 x1 lx hb1 BW R0 X0 Z0 D0 Q0 hsW kP
  cases ok
  · have hE := hide (show turnQ p zs = ⟨[], []⟩ ∧ turnB p zs = false from by unfold turnQ turnB; rw [← hok.out]; exact ⟨rfl, rfl⟩)
    obtain ⟨r0, r1⟩ := (show w1.cell? ⟨w.heap.size + 1, 0, none⟩ = some (.slice none 0 0) ∧ w1.cell? ⟨w.heap.size + 1, 1, none⟩ = some (.slice none 0 0) from ⟨R1.out.cell 0, R1.out.cell 1⟩)
    obtain ⟨r2, r3⟩ := (show w1.frozen? ⟨w.heap.size + 1, 0, none⟩ = false ∧ w1.frozen? ⟨w.heap.size + 1, 1, none⟩ = false from ⟨R1.out.frozen 0, R1.out.frozen 1⟩)
    have lR := R1.out.lt
    go_wp2_with fail
    refine bodyPost_ret (v := .tuple #[.agg #[.slice none 0 0, .slice none 0 0], .bool false]) (by simp [results, Try.results43, go_sem, r0, r1]; done) rfl ?_
    rw [hE.out.1, hE.out.2]
    exact FenR.no ((B1.out.setCell (p := ⟨w.heap.size + 1, 0, none⟩) (by show w.heap.size ≤ w.heap.size + 1; omega) _).setCell (p := ⟨w.heap.size + 1, 1, none⟩) (by show w.heap.size ≤ w.heap.size + 1; omega) _)
  · have hIl := hide (prog_thr hok.out.symm).1
    have hTl := (prog_thr hok.out.symm).2.1
    have hl := hide (fun k => Nat.le_trans (prog_rows hok.out.symm k) (show 24 ≤ 1000 by omega))
    have x0 := X1.out.cell 0
    have x1 := X1.out.cell 1
    have lx := X1.out.lt
    simp only [List.getElem?_toArray, List.getElem?_cons_zero, List.getElem?_cons_succ] at x0 x1
    have kT := hide (turnByT_any AO zs n cO p.ts.length 84 (.agg #[.slice A p.init.length c, .slice A' p.ts.length c']) (Old w1.heap.size) w1 hz.out hn63 (by omega) (fun _ h => h) Q1.out)
    go_wp2_with fail
    refine kT.out.mono ?_
    rintro e w2 ⟨v2, rfl, hv2, hb2⟩
    have B2 := hide (B1.out.trans (hb2.mono B1.out.size))
    have R2 := hide (R1.out.below hb2 R1.out.lt)
    have X2 := hide (X1.out.below hb2 X1.out.lt)
    have Z2 := hide ((Z1.out.below hb2 (fun _ h => h)).more (fun b (h : b < w1.heap.size) => show b < w2.heap.size from Nat.lt_of_lt_of_le h hb2.size))
    have D2 := hide ((D1.out.below hb2 (fun _ h => h)).more (fun b (h : b < w1.heap.size) => show b < w2.heap.size from Nat.lt_of_lt_of_le h hb2.size))
    have Q2 := hide ((Q1.out.below hb2 (fun _ h => h)).more (fun b (h : b < w1.heap.size) => show b < w2.heap.size from Nat.lt_of_lt_of_le h hb2.size))
    have S2 := hide (Nat.le_trans S1.out hb2.size)
    clear x0 x1 lx hb2 B1 R1 X1 Z1 D1 Q1 S1 kT hTl
    obtain ⟨od, hod⟩ : ∃ od, od = orderB zs p.ts.length := ⟨_, rfl⟩
    rw [← hod] at hv2 ⊢
    cases od
    · have hE := hide (show turnQ p zs = ⟨[], []⟩ ∧ turnB p zs = false from by unfold turnQ turnB; rw [← hok.out, ← hod]; exact ⟨rfl, rfl⟩)
      have hv3 : v2 = #[.slice none 0 0, .nilFunc] := hv2
      subst hv3
      have b3 := below1 w2 (Obj.cells #[.slice none 0 0, .nilFunc] 101)
      have B3 := hide (B2.out.trans (b3.mono B2.out.size))
      have R3 := hide (R2.out.below b3 R2.out.lt)
      obtain ⟨w3, hw3⟩ : ∃ x, x = w2.alloc (Obj.cells #[.slice none 0 0, .nilFunc] 101) := ⟨_, rfl⟩
      rw [← hw3] at B3 R3
      clear hv2 hod b3 B2 R2 X2 Z2 D2 Q2 S2 hIl hl
      go_upto_region 4 with fail
      rw [← hw3]
      clear hw3
      obtain ⟨r0, r1⟩ := (show w3.cell? ⟨w.heap.size + 1, 0, none⟩ = some (.slice none 0 0) ∧ w3.cell? ⟨w.heap.size + 1, 1, none⟩ = some (.slice none 0 0) from ⟨R3.out.cell 0, R3.out.cell 1⟩)
      obtain ⟨r2, r3⟩ := (show w3.frozen? ⟨w.heap.size + 1, 0, none⟩ = false ∧ w3.frozen? ⟨w.heap.size + 1, 1, none⟩ = false from ⟨R3.out.frozen 0, R3.out.frozen 1⟩)
      have lR := R3.out.lt
      go_wp2_with fail
      refine bodyPost_ret (v := .tuple #[.agg #[.slice none 0 0, .slice none 0 0], .bool false]) (by simp [results, Try.results43, go_sem, r0, r1]; done) rfl ?_
      rw [hE.out.1, hE.out.2]
      exact FenR.no ((B3.out.setCell (p := ⟨w.heap.size + 1, 0, none⟩) (by show w.heap.size ≤ w.heap.size + 1; omega) _).setCell (p := ⟨w.heap.size + 1, 1, none⟩) (by show w.heap.size ≤ w.heap.size + 1; omega) _)
    · have hE := hide (show turnQ p zs = ⟨p.init, turnTs p.ts zs zs.length⟩ ∧ turnB p zs = true from by unfold turnQ turnB; rw [← hok.out, ← hod]; exact ⟨rfl, rfl⟩)
      have hord := order_get hod.symm
      have hn := hide (show n ≤ 1000 from by have := hord.1; have := hz.out; have := (prog_thr hok.out.symm).2.1; omega)
      have hin := hide (show ∀ k, k < n → 0 ≤ geti zs k ∧ geti zs k < p.ts.length from fun k hk => hord.2 k (by have := hord.1; have := hz.out; omega))
      have hv3 : v2 = #[.slice AO n cO, .func (.func 84) #[.agg #[.slice A p.init.length c, .slice A' p.ts.length c']] #[]] := hv2
      subst hv3
      have b3 := below1 w2 (Obj.cells #[.slice AO n cO, .func (.func 84) #[.agg #[.slice A p.init.length c, .slice A' p.ts.length c']] #[]] 101)
      have B3 := hide (B2.out.trans (b3.mono B2.out.size))
      have R3 := hide (R2.out.below b3 R2.out.lt)
      have X3 := hide (X2.out.below b3 X2.out.lt)
      have Y3 := hide (Blk.new w2 101 #[.slice AO n cO, .func (.func 84) #[.agg #[.slice A p.init.length c, .slice A' p.ts.length c']] #[]])
      have Z3 := hide ((Z2.out.below b3 (fun _ h => h)).more (fun b (h : b < w2.heap.size) => show b < (w2.alloc (Obj.cells #[.slice AO n cO, .func (.func 84) #[.agg #[.slice A p.init.length c, .slice A' p.ts.length c']] #[]] 101)).heap.size from Nat.lt_of_lt_of_le h b3.size))
      have D3 := hide ((D2.out.below b3 (fun _ h => h)).more (fun b (h : b < w2.heap.size) => show b < (w2.alloc (Obj.cells #[.slice AO n cO, .func (.func 84) #[.agg #[.slice A p.init.length c, .slice A' p.ts.length c']] #[]] 101)).heap.size from Nat.lt_of_lt_of_le h b3.size))
      have Q3 := hide ((Q2.out.below b3 (fun _ h => h)).more (fun b (h : b < w2.heap.size) => show b < (w2.alloc (Obj.cells #[.slice AO n cO, .func (.func 84) #[.agg #[.slice A p.init.length c, .slice A' p.ts.length c']] #[]] 101)).heap.size from Nat.lt_of_lt_of_le h b3.size))
      have S3 := hide (Nat.le_trans S2.out b3.size)
      have hb6 := hide (show w.heap.size + 1 + 1 ≤ w2.heap.size from S2.out)
      obtain ⟨w3, hw3⟩ : ∃ x, x = w2.alloc (Obj.cells #[.slice AO n cO, .func (.func 84) #[.agg #[.slice A p.init.length c, .slice A' p.ts.length c']] #[]] 101) := ⟨_, rfl⟩
      rw [← hw3] at B3 R3 X3 Y3 Z3 D3 Q3 S3
      clear hv2 hod hord b3 B2 R2 X2 Z2 D2 Q2 S2
      go_upto_region 4 with fail
      rw [← hw3]
      obtain ⟨b6, hb6'⟩ : ∃ x, x = w2.heap.size := ⟨_, rfl⟩
      rw [← hb6'] at Y3 hb6 ⊢
      clear hw3 hb6'
      go_upto_region 6 with fail
      refine wp_region_held_drew (S := (fun w' => w'.cell? ⟨w.heap.size, 0, none⟩ = some (.slice A p.init.length c) ∧ w'.cell? ⟨b6, 0, none⟩ = some (.slice AO n cO) ∧ w'.cell? ⟨b6, 1, none⟩ = some (.func (.func 84) #[.agg #[.slice A p.init.length c, .slice A' p.ts.length c']] #[]))) (by kernel_rfl) ?_ (fun hHeld => ?_)
      · exact ⟨X3.out.cell 0, Y3.out.cell 0, Y3.out.cell 1⟩
      refine wpAnyH_take (i := 0) (oi := { dst := some 25, op := Op.fieldAddr 37 (.tmp 2) 0, type := 0, pos := "l11_lock.go:62", after := #[], guard := none }) (v := ?_) rfl (by kernel_rfl) (by kernel_rfl) (by kernel_rfl) (fun _ _ _ h => h) (Or.inl ⟨by rfl, ?_⟩) hHeld ?_
      rotate_left
      · (intro wq hSw; (try dsimp only at hSw); first | (go_simp; done) | (go_simp; with_reducible rfl))
      try simp only [Act.put, qa, qb, qc]
      refine wpAnyH_take (i := 1) (oi := { dst := some 26, op := Op.load 23 (.tmp 25), type := 23, pos := "l11_lock.go:62", after := #[⟨0, .data⟩], guard := none }) (v := ?_) rfl (by kernel_rfl) (by kernel_rfl) (by kernel_rfl) (fun _ _ _ h => h) (Or.inl ⟨by rfl, ?_⟩) hHeld ?_
      rotate_left
      · (intro wq hSw; (try dsimp only at hSw); first | (go_simp; done) | (go_simp; with_reducible rfl))
      try simp only [Act.put, qa, qb, qc]
      refine wpAnyH_take (i := 3) (oi := { dst := some 28, op := Op.load 101 (.tmp 6), type := 101, pos := "l11_lock.go:62", after := #[], guard := none }) (v := ?_) rfl (by kernel_rfl) (by kernel_rfl) (by kernel_rfl) (fun _ _ _ h => h) (Or.inl ⟨by rfl, ?_⟩) hHeld ?_
      rotate_left
      · (intro wq hSw; (try dsimp only at hSw); first | (go_simp; done) | (go_simp; with_reducible rfl))
      try simp only [Act.put, qa, qb, qc]
      refine wpAnyH_ready (rs := [2]) (by kernel_rfl) (by simp) ?_
      refine AllReadyH.cons (o := { dst := some 27, op := Op.call { callee := Callee.value (.func 85), args := #[.tmp 26], argTypes := #[23] }, type := 23, pos := "l11_lock.go:62", after := #[⟨1, .data⟩], guard := none }) rfl (fun K hK => ?_) AllReadyH.nil
      go_simp
      go_at_call 85
      refine (cloneInts_any A p.init p.init.length c w3.drew rfl (by have := hIl.out; omega) Z3.out).mono ?_
      rintro e w4 ⟨A4, c4, rfl, ho4, hb4'⟩
      have hb4 : Below w3.heap.size w3 w4 := (Below.refl _ _).drew.trans hb4'
      have O4 := hide (own_base ho4 (show w.heap.size + 1 + 1 ≤ w3.drew.heap.size from S3.out))
      have D4 := hide ((D3.out.below hb4 (fun _ h => h)).more (fun b (h : b < w3.heap.size) => show b < w4.heap.size from Nat.lt_of_lt_of_le h hb4.size))
      have Q4 := hide ((Q3.out.below hb4 (fun _ h => h)).more (fun b (h : b < w3.heap.size) => show b < w4.heap.size from Nat.lt_of_lt_of_le h hb4.size))
      have B4 := hide (B3.out.trans (hb4.mono B3.out.size))
      have R4 := hide (R3.out.below hb4 R3.out.lt)
      have X4 := hide (X3.out.below hb4 X3.out.lt)
      have Y4 := hide (Y3.out.below hb4 Y3.out.lt)
      have S4 := hide (show w.heap.size + 1 + 1 ≤ w4.heap.size from Nat.le_trans S3.out hb4.size)
      clear ho4 hb4 hb4'
      refine hK.out _ _ ?_ (fun hHeldN => ?_)
      · exact ⟨X4.out.cell 0, Y4.out.cell 0, Y4.out.cell 1⟩
      clear hK K hHeld
      have hHeld := hHeldN
      clear hHeldN
      try simp only [Act.put, qa, qb, qc]
      refine wpAnyH_ready (rs := [4]) (by kernel_rfl) (by simp) ?_
      refine AllReadyH.cons (o := { dst := some 29, op := Op.call { callee := Callee.value (.func 86), args := #[.tmp 28], argTypes := #[101] }, type := 35, pos := "l11_lock.go:62", after := #[⟨3, .data⟩, ⟨2, .chain⟩], guard := none }) rfl (fun K hK => ?_) AllReadyH.nil
      go_simp
      go_at_call 86
      refine (fetchedT_any AO A A' zs n cO c c' p (Old w4.heap.size) w4 hz.out hn.out (fun _ h => h) Q4.out D4.out hin.out hl.out).mono ?_
      rintro e w5 ⟨A5, c5, vs5, rfl, hr5', ht5', ha5', hb5'⟩
      rw [turnTs_len] at hr5' ht5' ha5'
      have hr5 := hide hr5'
      have ht5 := hide ht5'
      have ha5 := hide ha5'
      have hb5 := hide hb5'
      have B5 := hide (B4.out.trans (hb5'.mono B4.out.size))
      have R5 := hide (R4.out.below hb5' R4.out.lt)
      have X5 := hide (X4.out.below hb5' X4.out.lt)
      have Y5 := hide (Y4.out.below hb5' Y4.out.lt)
      have e4 : (turnTs p.ts zs n).length = n := turnTs_len _ _ _
      obtain ⟨q0, q1⟩ := (show w5.cell? ⟨w.heap.size + 1, 0, none⟩ = some (.slice none 0 0) ∧ w5.cell? ⟨w.heap.size + 1, 1, none⟩ = some (.slice none 0 0) from ⟨R5.out.cell 0, R5.out.cell 1⟩)
      obtain ⟨q2, q3⟩ := (show w5.frozen? ⟨w.heap.size + 1, 0, none⟩ = false ∧ w5.frozen? ⟨w.heap.size + 1, 1, none⟩ = false from ⟨R5.out.frozen 0, R5.out.frozen 1⟩)
      have lR := R5.out.lt
      rw [e4]
      clear e4 hr5' ht5' ha5' hb5'
      refine hK.out _ _ ?_ (fun hHeldN => ?_)
      · exact ⟨X5.out.cell 0, Y5.out.cell 0, Y5.out.cell 1⟩
      clear hK K hHeld
      have hHeld := hHeldN
      clear hHeldN
      try simp only [Act.put, qa, qb, qc]
      refine wpAnyH_take (i := 5) (oi := { dst := some 30, op := Op.build 37 #[(0, .tmp 27), (1, .tmp 29)], type := 37, pos := "l11_lock.go:62", after := #[⟨2, .data⟩, ⟨4, .data⟩], guard := none }) (v := ?_) rfl (by kernel_rfl) (by kernel_rfl) (by kernel_rfl) (fun _ _ _ h => h) (Or.inl ⟨by rfl, ?_⟩) hHeld ?_
      rotate_left
      · (intro wq hSw; (try dsimp only at hSw); first | (go_simp; done) | (go_simp; with_reducible rfl))
      try simp only [Act.put, qa, qb, qc]
      refine wpAnyH_ready (rs := [6]) (by kernel_rfl) (by simp) ?_
      refine AllReadyH.cons (o := { dst := none, op := Op.store 37 (.tmp 4) (.tmp 30), type := 0, pos := "l11_lock.go:62", after := #[⟨5, .data⟩, ⟨4, .chain⟩, ⟨0, .phase⟩, ⟨1, .phase⟩, ⟨2, .phase⟩, ⟨3, .phase⟩, ⟨4, .phase⟩, ⟨5, .phase⟩], guard := none }) rfl (fun K hK => ?_) AllReadyH.nil
      go_simp

      refine hK.out _ _ ?_ (fun hHeldN => ?_)
      · exact ⟨((X5.out.far (p := ⟨w.heap.size + 1, 0, none⟩) (by show w.heap.size ≠ w.heap.size + 1; omega) (.slice A4 p.init.length c4)).far (p := ⟨w.heap.size + 1, 1, none⟩) (by show w.heap.size ≠ w.heap.size + 1; omega) (.slice A5 n c5)).cell 0, ((Y5.out.far (p := ⟨w.heap.size + 1, 0, none⟩) (by have := hb6.out; show b6 ≠ w.heap.size + 1; omega) (.slice A4 p.init.length c4)).far (p := ⟨w.heap.size + 1, 1, none⟩) (by have := hb6.out; show b6 ≠ w.heap.size + 1; omega) (.slice A5 n c5)).cell 0, ((Y5.out.far (p := ⟨w.heap.size + 1, 0, none⟩) (by have := hb6.out; show b6 ≠ w.heap.size + 1; omega) (.slice A4 p.init.length c4)).far (p := ⟨w.heap.size + 1, 1, none⟩) (by have := hb6.out; show b6 ≠ w.heap.size + 1; omega) (.slice A5 n c5)).cell 1⟩
      clear hK K hHeld
      have hHeld := hHeldN
      clear hHeldN
      try simp only [Act.put, qa, qb, qc]
      refine wpAnyH_take (i := 7) (oi := { dst := some 5, op := Op.assign (.const (Value.bool true)), type := 4, pos := "l11_lock.go:62", after := #[⟨6, .chain⟩, ⟨0, .phase⟩, ⟨1, .phase⟩, ⟨2, .phase⟩, ⟨3, .phase⟩, ⟨4, .phase⟩, ⟨5, .phase⟩, ⟨6, .phase⟩], guard := none }) (v := ?_) rfl (by kernel_rfl) (by kernel_rfl) (by kernel_rfl) (fun _ _ _ h => h) (Or.inl ⟨by rfl, ?_⟩) hHeld ?_
      rotate_left
      · (intro wq hSw; (try dsimp only at hSw); first | (go_simp; done) | (go_simp; with_reducible rfl))
      try simp only [Act.put, qa, qb, qc]
      refine wpAnyH_done (by kernel_rfl) ?_ _
      clear hHeld
      go_wp2_with fail
      have r0 : True := trivial
      refine bodyPost_ret (v := .tuple #[.agg #[.slice A4 p.init.length c4, .slice A5 n c5], .bool true]) (by simp [results, Try.results43, go_sem, q0, q1]; done) rfl ?_
      rw [hE.out.1, hE.out.2]
      have e5 : (turnTs p.ts zs zs.length).length = n := by rw [turnTs_len]; exact hz.out
      have h6 := FenR.of_parts (w := w) (w1 := w4) (w2 := w5) (w' := (w5.setCell ⟨w.heap.size + 1, 0, none⟩ (.slice A4 p.init.length c4)).setCell ⟨w.heap.size + 1, 1, none⟩ (.slice A5 n c5)) (p := ⟨p.init, turnTs p.ts zs zs.length⟩) (v := .slice A4 p.init.length c4) (A := A5) (c := c5) (vs := vs5) hb5.out (by rw [e5]; exact hr5.out) (by rw [e5, hz.out]; exact ht5.out) (by rw [e5]; exact ha5.out) (B := w.heap.size + 1 + 1) (fun b hb _ => (Below.heap_setCell _ _ _ b (by show b ≠ w.heap.size + 1; omega)).trans (Below.heap_setCell _ _ _ b (by show b ≠ w.heap.size + 1; omega))) ((B5.out.setCell (p := ⟨w.heap.size + 1, 0, none⟩) (by show w.heap.size ≤ w.heap.size + 1; omega) _).setCell (p := ⟨w.heap.size + 1, 1, none⟩) (by show w.heap.size ≤ w.heap.size + 1; omega) _) (by omega) S4.out O4.out
      rw [show (⟨p.init, turnTs p.ts zs zs.length⟩ : ProgD).ts.length = n from e5] at h6
      exact h6
end Go.Proofs.Ytjendjbbhohjcaa

namespace Go.Proofs.Ytjendjbbhohjcaa
open Go.RowKit

theorem size_of_small {p : ProgD} (h1 : p.init.length ≤ 6) (h2 : p.ts.length ≤ 3) (h3 : ∀ j, j < p.ts.length → (gett p.ts j).length ≤ 24) : progSize p ≤ 1048576 := by
  have h4 := insTo_bound p.ts 24 p.ts.length h3 (Nat.le_refl _)
  have h5 := insTo_all p.ts
  unfold progSize
  omega
theorem turnQ_size (p : ProgD) (zs : List Int) : progSize (turnQ p zs) ≤ 1048576 := by
  unfold turnQ
  cases h : turnB p zs
  · rw [if_neg (by decide)]; decide
  · rw [if_pos rfl]
    unfold turnB orderB at h
    simp only [Bool.and_eq_true, decide_eq_true_eq] at h
    have h3 := prog_thr h.1
    refine size_of_small h3.1 (by show (turnTs _ _ _).length ≤ 3; rw [turnTs_len]; omega) fun j hj => ?_
    show (gett (turnTs p.ts zs zs.length) j).length ≤ 24
    have hj' : j < (turnTs p.ts zs zs.length).length := hj
    rw [turnTs_len] at hj'
    rw [turnTs_get p.ts zs _ j hj']
    exact prog_rows h.1 _
end Go.Proofs.Ytjendjbbhohjcaa
