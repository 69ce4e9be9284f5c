/- The model's TurnCells. -/
import Derived.Test.YtjendjbbhohjcaaMc0
import Derived.Test.YtjendjbbhohjcaaMc10
import Derived.Test.YtjendjbbhohjcaaMc11
import Derived.Test.YtjendjbbhohjcaaMc13
import Derived.Test.YtjendjbbhohjcaaMc14
import Derived.Deep.RegionHeld3
namespace Go.Proofs.Ytjendjbbhohjcaa
open Go.RowKit

theorem prog_onec {p : ProgD} (h : progB p = true) : 1 ≤ p.ts.length ∧ 1 ≤ p.init.length := by
  unfold progB sizesB at h
  simp only [Bool.and_eq_true, decide_eq_true_eq] at h
  exact ⟨h.1.2.2.1, h.1.1⟩
theorem set_gett (ts : List (List InsD)) (k : Nat) (h : k < ts.length) : ts.set k (gett ts k) = ts := by
  apply List.ext_getElem?
  intro i
  rw [List.getElem?_set]
  by_cases e : k = i
  · subst e
    rw [if_pos rfl, if_pos h]
    unfold gett
    rw [List.getD_eq_getElem?_getD, List.getElem?_eq_getElem h]
    rfl
  · rw [if_neg e]
set_option maxRecDepth 100000 in
set_option maxHeartbeats 25600000 in
theorem scells_any (v : Value) (p : ProgD) (AO : Option Addr) (zs : List Int) (n cO : Nat) (w : World) (hp : ProgAt w (Old w.heap.size) v p) (ho : IntsAt w (Old w.heap.size) AO zs) (hz : zs.length = n) :
    Calls Try.prog 47 #[v, .slice AO n cO] w fun e w' => FenR w w' e (tcQ p zs) (tcB p zs) := by
  obtain ⟨i0, hi0, hz0, hz1, hz2⟩ := info_parts Try.infoIns
  replace hi0 := hide hi0
  obtain ⟨A, c, A', c', rfl, hcc, hi, ht⟩ := hp
  obtain ⟨W0, hW0⟩ : ∃ x, x = w.alloc (Obj.cells #[.slice A p.init.length c, .slice A' p.ts.length c'] 37) := ⟨_, rfl⟩
  obtain ⟨W, hW⟩ : ∃ x, x = W0.alloc (Obj.cells #[.slice none 0 0, .slice none 0 0] 37) := ⟨_, rfl⟩
  have hbW0 : Below w.heap.size w W0 := by rw [hW0]; exact below1 _ _
  have hsz0 := hide (show w.heap.size + 1 = W0.heap.size from by rw [hW0]; simp)
  have hb1 : Below W0.heap.size W0 W := by rw [hW]; exact below1 _ _
  have hbW := hbW0.trans (hb1.mono hbW0.size)
  have X00 := hide (show Blk W0 w.heap.size 37 #[.slice A p.init.length c, .slice A' p.ts.length c'] from by rw [hW0]; exact Blk.new _ _ _)
  have X0 := hide (X00.out.below hb1 X00.out.lt)
  have R0 := hide (show Blk W W0.heap.size 37 #[.slice none 0 0, .slice none 0 0] from by rw [hW]; exact Blk.new _ _ _)
  have hsW := hide R0.out.lt
  have Z0 := hide ((hi.below hbW (fun _ h => h)).more (fun b (h : b < w.heap.size) => show b < W.heap.size from Nat.lt_of_lt_of_le h hbW.size))
  have D0 := hide ((ht.below hbW (fun _ h => h)).more (fun b (h : b < w.heap.size) => show b < W.heap.size from Nat.lt_of_lt_of_le h hbW.size))
  have Q0 := hide ((ho.below hbW (fun _ h => h)).more (fun b (h : b < w.heap.size) => show b < W.heap.size from Nat.lt_of_lt_of_le h hbW.size))
  have IW := hide ((hi.below hbW0 (fun _ h => h)).more (fun b (h : b < w.heap.size) => show b < W0.heap.size from Nat.lt_of_lt_of_le h hbW0.size))
  have DW := hide ((ht.below hbW0 (fun _ h => h)).more (fun b (h : b < w.heap.size) => show b < W0.heap.size from Nat.lt_of_lt_of_le h hbW0.size))
  have QW := hide ((ho.below hbW0 (fun _ h => h)).more (fun b (h : b < w.heap.size) => show b < W0.heap.size from Nat.lt_of_lt_of_le h hbW0.size))
  have kP := hide (sprogOk_any (.agg #[.slice A p.init.length c, .slice A' p.ts.length c']) p (Old W.heap.size) W (fun _ h => h) ⟨A, c, A', c', rfl, hcc, Z0.out, D0.out⟩)
  have BW := hide hb1
  have B0 := hide hbW0
  obtain ⟨ok, hok⟩ : ∃ ok, ok = progB p := ⟨_, rfl⟩
  rw [← hok] at kP
  replace hok := hide hok
  have x0 := X0.out.cell 0
  have x1 := X0.out.cell 1
  have lx := X0.out.lt
  simp only [List.getElem?_toArray, List.getElem?_cons_zero, List.getElem?_cons_succ] at x0 x1
  replace hz := hide hz
  replace hcc := hide hcc
  clear hbW0 hb1 hbW hi ht ho
  go_enter Try.func47, Try.ntmps47
  go_upto_region 1 with fail
  rw [← hW0, ← hW, hsz0.out]
  clear hW hW0
  go_wp2_with fail
  refine kP.out.mono ?_
  rintro e w1 ⟨rfl, hb1⟩
  have B1 := hide (BW.out.trans (hb1.mono BW.out.size))
  have BZ := hide (B0.out.trans (B1.out.mono B0.out.size))
  have R1 := hide (R0.out.below hb1 R0.out.lt)
  have X1 := hide (X0.out.below hb1 X0.out.lt)
  have Z1 := hide ((Z0.out.below hb1 (fun _ h => h)).more (fun b (h : b < W.heap.size) => show b < w1.heap.size from Nat.lt_of_lt_of_le h hb1.size))
  have D1 := hide ((D0.out.below hb1 (fun _ h => h)).more (fun b (h : b < W.heap.size) => show b < w1.heap.size from Nat.lt_of_lt_of_le h hb1.size))
  have Q1 := hide ((Q0.out.below hb1 (fun _ h => h)).more (fun b (h : b < W.heap.size) => show b < w1.heap.size from Nat.lt_of_lt_of_le h hb1.size))
  have S1 := hide (Nat.lt_of_lt_of_le hsW.out hb1.size)
  clear x0 x1 lx hb1 BW R0 X0 Z0 D0 Q0 hsW kP
  cases ok
  · have hE := hide (show tcQ p zs = ⟨[], []⟩ ∧ tcB p zs = false from by unfold tcQ tcB; rw [← hok.out]; exact ⟨rfl, rfl⟩)
    obtain ⟨r0, r1⟩ := (show w1.cell? ⟨W0.heap.size, 0, none⟩ = some (.slice none 0 0) ∧ w1.cell? ⟨W0.heap.size, 1, none⟩ = some (.slice none 0 0) from ⟨R1.out.cell 0, R1.out.cell 1⟩)
    obtain ⟨r2, r3⟩ := (show w1.frozen? ⟨W0.heap.size, 0, none⟩ = false ∧ w1.frozen? ⟨W0.heap.size, 1, none⟩ = false from ⟨R1.out.frozen 0, R1.out.frozen 1⟩)
    have lR := R1.out.lt
    go_wp2_with fail
    refine bodyPost_ret (v := .tuple #[.agg #[.slice none 0 0, .slice none 0 0], .bool false]) (by simp [results, Try.results47, go_sem, r0, r1]; done) rfl ?_
    rw [hE.out.1, hE.out.2]
    exact FenR.no ((BZ.out.setCell (p := ⟨W0.heap.size, 0, none⟩) (by have := hsz0.out; show w.heap.size ≤ W0.heap.size; omega) _).setCell (p := ⟨W0.heap.size, 1, none⟩) (by have := hsz0.out; show w.heap.size ≤ W0.heap.size; omega) _)
  · have hT1 := hide (prog_onec hok.out.symm)
    have hT3 := hide (prog_thr hok.out.symm).2.1
    have hl := hide (fun k => Nat.le_trans (prog_rows hok.out.symm k) (show 24 ≤ 1000 by omega))
    have x0 := X1.out.cell 0
    have x1 := X1.out.cell 1
    have lx := X1.out.lt
    simp only [List.getElem?_toArray, List.getElem?_cons_zero, List.getElem?_cons_succ] at x0 x1
    have kT := hide (l11order_any AO zs n cO p.init.length (Old w1.heap.size) w1 hz.out Q1.out)
    have kO := hide (l1own_any (.agg #[.slice A p.init.length c, .slice A' p.ts.length c']) p w1 ⟨A, c, A', c', rfl, hcc.out, Z1.out, D1.out⟩ (Nat.le_trans (prog_thr hok.out.symm).1 (by omega)) hT3.out hl.out)
    obtain ⟨od, hod⟩ : ∃ od, od = orderB zs p.init.length := ⟨_, rfl⟩
    rw [← hod] at kT
    replace hod := hide hod
    go_wp2_with fail
    refine kT.out.mono ?_
    rintro e w2 ⟨rfl, rfl⟩
    clear kT
    cases od
    · have hE := hide (show tcQ p zs = ⟨[], []⟩ ∧ tcB p zs = false from by unfold tcQ tcB; rw [← hok.out, ← hod.out, Bool.and_false]; exact ⟨rfl, rfl⟩)
      clear x0 x1 lx
      obtain ⟨r0, r1⟩ := (show w1.cell? ⟨W0.heap.size, 0, none⟩ = some (.slice none 0 0) ∧ w1.cell? ⟨W0.heap.size, 1, none⟩ = some (.slice none 0 0) from ⟨R1.out.cell 0, R1.out.cell 1⟩)
      obtain ⟨r2, r3⟩ := (show w1.frozen? ⟨W0.heap.size, 0, none⟩ = false ∧ w1.frozen? ⟨W0.heap.size, 1, none⟩ = false from ⟨R1.out.frozen 0, R1.out.frozen 1⟩)
      have lR := R1.out.lt
      go_wp2_with fail
      refine bodyPost_ret (v := .tuple #[.agg #[.slice none 0 0, .slice none 0 0], .bool false]) (by simp [results, Try.results47, go_sem, r0, r1]; done) rfl ?_
      rw [hE.out.1, hE.out.2]
      exact FenR.no ((BZ.out.setCell (p := ⟨W0.heap.size, 0, none⟩) (by have := hsz0.out; show w.heap.size ≤ W0.heap.size; omega) _).setCell (p := ⟨W0.heap.size, 1, none⟩) (by have := hsz0.out; show w.heap.size ≤ W0.heap.size; omega) _)
    · have hEy := hide (show oneP p = true → tcQ p zs = ⟨sentI p.init p.init zs p.init.length, p.ts.map (List.map (turnD zs))⟩ ∧ tcB p zs = true from fun h => by unfold tcQ tcB; rw [← hok.out, ← hod.out, h]; exact ⟨rfl, rfl⟩)
      have hEn := hide (show oneP p = false → tcQ p zs = ⟨[], []⟩ ∧ tcB p zs = false from fun h => by unfold tcQ tcB; rw [← hok.out, h]; exact ⟨rfl, rfl⟩)
      have hord := order_get hod.out.symm
      have hnP := hide (show n = p.init.length from by rw [← hz.out]; exact hord.1)
      have hin := hide (show ∀ k, k < n → 0 ≤ geti zs k ∧ geti zs k < p.init.length from fun k hk => hord.2 k (by have := hnP.out; omega))
      have h6 := hide (prog_thr hok.out.symm).1
      have hcell := hide (fun k j (hk : k < p.ts.length) (hj : j < (gett p.ts k).length) => prog_cell hok.out.symm hk hj)
      clear hord
      go_wp2_with fail
      refine kO.out.mono ?_
      rintro e w2 ⟨v, tv, vs, rfl, hPO, hb2⟩
      obtain ⟨b, c2, rfl, hbl, hbh, hbc⟩ := rows_at hPO.rows (by have := hT1.out.1; omega)
      obtain ⟨bi, c1, rfl⟩ : ∃ bi c1, v = .slice (some ⟨bi, 0, none⟩) p.init.length c1 := by
        rcases hPO.ints.2 with ⟨_, h0⟩ | ⟨q, cap, cur, rfl, _⟩
        · have := hT1.out.2; omega
        · exact ⟨_, _, rfl⟩
      have hC := CrAt.start2 (W0 := W0) B1.out S1.out R1.out hb2 hPO
      obtain ⟨W3, hW3⟩ : ∃ x, x = w2.alloc (Obj.cells #[(.slice (some ⟨bi, 0, none⟩) p.init.length c1), (.slice (some ⟨b, 0, none⟩) p.ts.length c2)] 37) := ⟨_, rfl⟩
      rw [← hW3] at hC
      go_upto_region 4 with fail
      rw [← hW3]
      obtain ⟨T, hT⟩ : ∃ x, x = w2.heap.size := ⟨_, rfl⟩
      rw [← hT] at hC ⊢
      replace hC := hide hC
      clear hW3 hT x0 x1 lx hPO hb2 hbl hbh hbc kO
      go_wp2_with fail
      go_loopw [7] (fun i wr => ∃ (k : Nat), k ≤ n ∧ i = .int .i64 k ∧ Hid (CrAt W0 T (sentI p.init p.init zs k) (.slice (some ⟨bi, 0, none⟩) p.init.length c1) p.ts vs (.slice (some ⟨b, 0, none⟩) p.ts.length c2) wr)) (fun i _ => n - (intOf i).toNat)
      case atStart => exact ⟨0, Nat.zero_le _, rfl, hC⟩
      case round =>
        clear hC
        obtain ⟨k, hk, rfl, C0⟩ := hrel
        have hn6 : n ≤ 6 := by have := h6.out; have := hnP.out; omega
        by_cases hlt : k < n
        · have hlt' : decide ((k : Int) < (n : Int)) = true := decide_eq_true (by omega)
          have hkn : k < n := hlt
          have hkP : k < p.init.length := by have := hnP.out; omega
          obtain ⟨bo, oo, rfl, hbo, hco⟩ := QW.out.2 (by have := hz.out; omega)
          have hco := hco k (by have := hz.out; omega)
          obtain ⟨bp, op, rfl, hbp, hcp⟩ := IW.out.2 (by omega)
          have hcp := hcp k hkP
          have hgk := hin.out k hlt
          obtain ⟨kk, hkk⟩ := Int.eq_ofNat_of_zero_le hgk.1
          rw [hkk] at hco hgk
          have hkk2 : kk < p.init.length := by omega
          obtain ⟨z, hz9⟩ : ∃ z, z = geti p.init k := ⟨_, rfl⟩
          rw [← hz9] at hcp
          obtain ⟨⟨s0, s1, s2⟩, hC7⟩ := C0.out.drew.putInt (by rw [sentI_len]) kk hkk2 z
          have C7 := hide (show CrAt W0 T (sentI p.init p.init zs (k + 1)) (.slice (some ⟨bi, 0, none⟩) p.init.length c1) p.ts vs (.slice (some ⟨b, 0, none⟩) p.ts.length c2) _ from by
            rw [sentI, hkk, Int.toNat_natCast, ← hz9]
            exact hC7)
          have kS := hide (show ∀ w', Below W0.heap.size W0 w' → w'.cell? ⟨w.heap.size, 0, none⟩ = some (.slice (some ⟨bp, op, none⟩) p.init.length c) ∧ w'.cell? ⟨bo, oo + k, none⟩ = some (.int .i64 (kk : Int)) ∧ w'.cell? ⟨bp, op + k, none⟩ = some (.int .i64 z) from fun w' hb => ⟨(X00.out.below hb X00.out.lt).cell 0, (hb.cell (p := ⟨bo, oo + k, none⟩) hbo).trans hco, (hb.cell (p := ⟨bp, op + k, none⟩) hbp).trans hcp⟩)
          have BD := hide (show Below W0.heap.size W0 wr.drew from C0.out.below.trans ((Below.refl _ _).drew.mono C0.out.below.size))
          obtain ⟨z0, hz0'⟩ : ∃ z0, z0 = geti (sentI p.init p.init zs k) kk := ⟨_, rfl⟩
          rw [← hz0'] at s0
          clear hC7 hkk hgk hco hcp hz9 hz0'
          go_upto_region 7 with fail
          refine wp_region_held_drew (S := (fun w' => w'.cell? ⟨T, 0, none⟩ = some (.slice (some ⟨bi, 0, none⟩) p.init.length c1) ∧ w'.cell? ⟨w.heap.size, 0, none⟩ = some (.slice (some ⟨bp, op, none⟩) p.init.length c) ∧ w'.cell? ⟨bo, oo + k, none⟩ = some (.int .i64 (kk : Int)) ∧ w'.cell? ⟨bp, op + k, none⟩ = some (.int .i64 z))) (by kernel_rfl) ?_ (fun hHeld => ?_)
          · exact ⟨C0.out.drew.blk.cell 0, kS.out _ BD.out⟩
          refine wpAnyH_take (i := 0) (oi := { dst := some 31, op := Op.fieldAddr 37 (.tmp 6) 0, type := 0, pos := "l11_lock.go:41", after := #[], guard := none }) (v := ?_) rfl (by kernel_rfl) (by kernel_rfl) (by kernel_rfl) (fun _ _ _ h => h) (Or.inl ⟨by rfl, ?_⟩) hHeld ?_
          rotate_left
          · (intro wq hSw; (try dsimp only at hSw); first | (go_simp; done) | (go_simp; with_reducible rfl))
          try simp only [Act.put, qa, qb, qc]
          refine wpAnyH_take (i := 1) (oi := { dst := some 32, op := Op.load 23 (.tmp 31), type := 23, pos := "l11_lock.go:41", after := #[⟨0, .data⟩], guard := none }) (v := ?_) rfl (by kernel_rfl) (by kernel_rfl) (by kernel_rfl) (fun _ _ _ h => h) (Or.inl ⟨by rfl, ?_⟩) hHeld ?_
          rotate_left
          · (intro wq hSw; (try dsimp only at hSw); first | (go_simp; done) | (go_simp; with_reducible rfl))
          try simp only [Act.put, qa, qb, qc]
          refine wpAnyH_take (i := 2) (oi := { dst := some 33, op := Op.move (.tmp 1), type := 23, pos := "l11_lock.go:41", after := #[], guard := none }) (v := ?_) rfl (by kernel_rfl) (by kernel_rfl) (by kernel_rfl) (fun _ _ _ h => h) (Or.inl ⟨by rfl, ?_⟩) hHeld ?_
          rotate_left
          · (intro wq hSw; (try dsimp only at hSw); first | (go_simp; done) | (go_simp; with_reducible rfl))
          try simp only [Act.put, qa, qb, qc]
          refine wpAnyH_take (i := 3) (oi := { dst := some 34, op := Op.move (.tmp 7), type := 3, pos := "l11_lock.go:41", after := #[], guard := none }) (v := ?_) rfl (by kernel_rfl) (by kernel_rfl) (by kernel_rfl) (fun _ _ _ h => h) (Or.inl ⟨by rfl, ?_⟩) hHeld ?_
          rotate_left
          · (intro wq hSw; (try dsimp only at hSw); first | (go_simp; done) | (go_simp; with_reducible rfl))
          try simp only [Act.put, qa, qb, qc]
          refine wpAnyH_take (i := 4) (oi := { dst := some 35, op := Op.indexAddr 23 (.tmp 33) (.tmp 34), type := 0, pos := "l11_lock.go:41", after := #[⟨2, .data⟩, ⟨3, .data⟩], guard := none }) (v := ?_) rfl (by kernel_rfl) (by kernel_rfl) (by kernel_rfl) (fun _ _ _ h => h) (Or.inl ⟨by rfl, ?_⟩) hHeld ?_
          rotate_left
          · (intro wq hSw; (try dsimp only at hSw); first | (go_simp; done) | (go_simp; with_reducible rfl))
          try simp only [Act.put, qa, qb, qc]
          refine wpAnyH_take (i := 5) (oi := { dst := some 36, op := Op.load 3 (.tmp 35), type := 3, pos := "l11_lock.go:41", after := #[⟨4, .data⟩], guard := none }) (v := ?_) rfl (by kernel_rfl) (by kernel_rfl) (by kernel_rfl) (fun _ _ _ h => h) (Or.inl ⟨by rfl, ?_⟩) hHeld ?_
          rotate_left
          · (intro wq hSw; (try dsimp only at hSw); first | (go_simp; done) | (go_simp; with_reducible rfl))
          try simp only [Act.put, qa, qb, qc]
          refine wpAnyH_take (i := 6) (oi := { dst := some 37, op := Op.fieldAddr 37 (.tmp 2) 0, type := 0, pos := "l11_lock.go:41", after := #[], guard := none }) (v := ?_) rfl (by kernel_rfl) (by kernel_rfl) (by kernel_rfl) (fun _ _ _ h => h) (Or.inl ⟨by rfl, ?_⟩) hHeld ?_
          rotate_left
          · (intro wq hSw; (try dsimp only at hSw); first | (go_simp; done) | (go_simp; with_reducible rfl))
          try simp only [Act.put, qa, qb, qc]
          refine wpAnyH_take (i := 7) (oi := { dst := some 38, op := Op.load 23 (.tmp 37), type := 23, pos := "l11_lock.go:41", after := #[⟨6, .data⟩], guard := none }) (v := ?_) rfl (by kernel_rfl) (by kernel_rfl) (by kernel_rfl) (fun _ _ _ h => h) (Or.inl ⟨by rfl, ?_⟩) hHeld ?_
          rotate_left
          · (intro wq hSw; (try dsimp only at hSw); first | (go_simp; done) | (go_simp; with_reducible rfl))
          try simp only [Act.put, qa, qb, qc]
          refine wpAnyH_take (i := 8) (oi := { dst := some 39, op := Op.move (.tmp 7), type := 3, pos := "l11_lock.go:41", after := #[], guard := none }) (v := ?_) rfl (by kernel_rfl) (by kernel_rfl) (by kernel_rfl) (fun _ _ _ h => h) (Or.inl ⟨by rfl, ?_⟩) hHeld ?_
          rotate_left
          · (intro wq hSw; (try dsimp only at hSw); first | (go_simp; done) | (go_simp; with_reducible rfl))
          try simp only [Act.put, qa, qb, qc]
          refine wpAnyH_take (i := 9) (oi := { dst := some 40, op := Op.indexAddr 23 (.tmp 38) (.tmp 39), type := 0, pos := "l11_lock.go:41", after := #[⟨7, .data⟩, ⟨8, .data⟩], guard := none }) (v := ?_) rfl (by kernel_rfl) (by kernel_rfl) (by kernel_rfl) (fun _ _ _ h => h) (Or.inl ⟨by rfl, ?_⟩) hHeld ?_
          rotate_left
          · (intro wq hSw; (try dsimp only at hSw); first | (go_simp; done) | (go_simp; with_reducible rfl))
          try simp only [Act.put, qa, qb, qc]
          refine wpAnyH_take (i := 10) (oi := { dst := some 41, op := Op.load 3 (.tmp 40), type := 3, pos := "l11_lock.go:41", after := #[⟨9, .data⟩], guard := none }) (v := ?_) rfl (by kernel_rfl) (by kernel_rfl) (by kernel_rfl) (fun _ _ _ h => h) (Or.inl ⟨by rfl, ?_⟩) hHeld ?_
          rotate_left
          · (intro wq hSw; (try dsimp only at hSw); first | (go_simp; done) | (go_simp; with_reducible rfl))
          try simp only [Act.put, qa, qb, qc]
          refine wpAnyH_take (i := 11) (oi := { dst := some 42, op := Op.indexAddr 23 (.tmp 32) (.tmp 36), type := 0, pos := "l11_lock.go:41", after := #[⟨1, .data⟩, ⟨5, .data⟩, ⟨0, .phase⟩, ⟨1, .phase⟩, ⟨2, .phase⟩, ⟨3, .phase⟩, ⟨4, .phase⟩, ⟨5, .phase⟩, ⟨6, .phase⟩, ⟨7, .phase⟩, ⟨8, .phase⟩, ⟨9, .phase⟩, ⟨10, .phase⟩], guard := none }) (v := ?_) rfl (by kernel_rfl) (by kernel_rfl) (by kernel_rfl) (fun _ _ _ h => h) (Or.inl ⟨by rfl, ?_⟩) hHeld ?_
          rotate_left
          · (intro wq hSw; (try dsimp only at hSw); first | (go_simp; done) | (go_simp; with_reducible rfl))
          try simp only [Act.put, qa, qb, qc]
          refine wpAnyH_ready (rs := [12]) (by kernel_rfl) (by simp) ?_
          refine AllReadyH.cons (o := { dst := none, op := Op.store 3 (.tmp 42) (.tmp 41), type := 0, pos := "l11_lock.go:41", after := #[⟨11, .data⟩, ⟨10, .data⟩, ⟨0, .phase⟩, ⟨1, .phase⟩, ⟨2, .phase⟩, ⟨3, .phase⟩, ⟨4, .phase⟩, ⟨5, .phase⟩, ⟨6, .phase⟩, ⟨7, .phase⟩, ⟨8, .phase⟩, ⟨9, .phase⟩, ⟨10, .phase⟩], guard := none }) rfl (fun K hK => ?_) (AllReadyH.nil)
          · go_simp
            refine hK.out _ _ ?_ (fun hHeldN => ?_)
            · exact ⟨C7.out.blk.cell 0, kS.out _ C7.out.below⟩
            clear hK K hHeld
            have hHeld := hHeldN
            clear hHeldN
            try simp only [Act.put, qa, qb, qc]
            refine wpAnyH_done (by kernel_rfl) ?_ _
            clear hHeld
            go_wp2_with fail
            go_roundw
            case rel => exact ⟨k + 1, by omega, by go_num, hide C7.out⟩
            case measure => simp [intOf]; omega
        · obtain rfl : n = k := by omega
          have hlt' : decide ((n : Int) < (n : Int)) = false := decide_eq_false (by omega)
          have C1 := C0.out
          rw [show sentI p.init p.init zs n = sentI p.init p.init zs p.init.length from by rw [← hnP.out]] at C1
          obtain ⟨q0, hq0⟩ : ∃ q0, q0 = sentI p.init p.init zs p.init.length := ⟨_, rfl⟩
          rw [← hq0] at C1 hEy
          have C1 := hide (show CrAt W0 T q0 (.slice (some ⟨bi, 0, none⟩) p.init.length c1) (tcTs zs p.ts 0) vs (.slice (some ⟨b, 0, none⟩) p.ts.length c2) wr from C1)
          clear C0 hq0
          go_wp2_with fail
          go_loopw [8] (fun i wr => ∃ (k : Nat), k ≤ p.ts.length ∧ i = .int .i64 k ∧ Hid (∀ j, j < k → oneL (gett p.ts j) = true) ∧ Hid (CrAt W0 T q0 (.slice (some ⟨bi, 0, none⟩) p.init.length c1) (tcTs zs p.ts k) vs (.slice (some ⟨b, 0, none⟩) p.ts.length c2) wr)) (fun i _ => p.ts.length - (intOf i).toNat)
          case atStart => exact ⟨0, Nat.zero_le _, rfl, hide (fun j hj => by omega), C1⟩
          case round =>
            clear C1
            obtain ⟨k, hk, rfl, hj, C0⟩ := hrel
            have h33 := hT3.out
            obtain ⟨⟨t0, t1⟩, t2, t3⟩ := C0.out.cells
            have lT := C0.out.blk.lt
            by_cases hlt : k < p.ts.length
            · have hlt' : decide ((k : Int) < (p.ts.length : Int)) = true := decide_eq_true (by omega)
              go_wp2_with fail
              clear t0 t1 t2 t3 lT
              have C1 := hide (show CrAt W0 T q0 (.slice (some ⟨bi, 0, none⟩) p.init.length c1) (tcIn zs p.ts k 0) vs (.slice (some ⟨b, 0, none⟩) p.ts.length c2) wr from by rw [tcIn_0 zs p.ts k hlt]; exact C0.out)
              have hxx := hcell.out k
              have hlk := hide (hl.out k)
              have hjps := hide (fun j (h : j < (gett p.ts k).length) => h)
              have hsts := hide (tcIn_all zs p.ts k hlt)
              obtain ⟨l, hll⟩ : ∃ l, l = gett p.ts k := ⟨_, rfl⟩
              rw [← hll] at hlk hsts
              have hll := hide hll
              clear C0
              go_loopw [9] (fun i wr => ∃ (j : Nat), j ≤ l.length ∧ i = .int .i64 j ∧ Hid (∀ i, i < j → oneD (getd l i) = true) ∧ Hid (CrAt W0 T q0 (.slice (some ⟨bi, 0, none⟩) p.init.length c1) (tcIn zs p.ts k j) vs (.slice (some ⟨b, 0, none⟩) p.ts.length c2) wr)) (fun i _ => l.length - (intOf i).toNat)
              case atStart => exact ⟨0, Nat.zero_le _, rfl, hide (fun j hj => by omega), C1⟩
              case round =>
                clear C1
                obtain ⟨j, hjl, rfl, hi, C0⟩ := hrel
                have hl1000 := hlk.out
                have hlg := hide (show (gett (tcIn zs p.ts k j) k).length = l.length from by rw [tcIn_get zs p.ts k j hlt, turnL_len, hll.out])
                obtain ⟨⟨t0, t1⟩, t2, t3⟩ := C0.out.cells
                have lT := C0.out.blk.lt
                have hrow := (show _ from C0.out.own.rows)
                rw [tcIn_len] at hrow
                have hrc := rows_cell hrow hlt
                have hbl := (own_lt hrow (b := b) rfl).2.1
                obtain ⟨A3, c3, hv3, -⟩ := own_form (C0.out.own.thr k (by rw [tcIn_len]; exact hlt))
                rw [hlg.out] at hv3
                rw [hv3] at hrc
                clear hrow
                by_cases hlj : j < l.length
                · have hlj' : decide ((j : Int) < (l.length : Int)) = true := decide_eq_true (by omega)
                  have hjp := hide (show j < (gett p.ts k).length from by rw [← hll.out]; exact hlj)
                  obtain ⟨q3, c4, hvq, hq3, hq3l, hins, hfr⟩ := C0.out.own.read (t := k) (j := j) (by rw [tcIn_len]; exact hlt) (by rw [hlg.out]; exact hlj)
                  have hv4 := hvq
                  rw [hlg.out, hv3] at hv4
                  cases hv4
                  have hdg := hide (show getd (gett (tcIn zs p.ts k j) k) j = getd l j from by rw [tcIn_get zs p.ts k j hlt, turnL_get zs _ j hjp.out, hll.out])
                  have hdp := hide (show getd (gett p.ts k) j = getd l j from by rw [hll.out])
                  have hxj := hxx j hlt hjp.out
                  rw [hdp.out] at hxj
                  rw [hdg.out] at hins
                  obtain ⟨d, hd⟩ : ∃ d, d = getd l j := ⟨_, rfl⟩
                  rw [← hd] at hins hdg hdp hxj
                  replace hd := hide hd
                  obtain ⟨o, r, a, bb, x, m⟩ := d
                  obtain ⟨i0', i1', i2', i3', i4', i5'⟩ := hins
                  simp only at i0' i1' i2' i3' i4' i5' hxj
                  have f4 := hfr (j * 6 + 4)
                  have hbo' := True.intro
                  by_cases h7 : o = 7
                  · subst h7
                    obtain ⟨hm1, hx0, hx1⟩ := hxj (by decide)
                    obtain ⟨y, rfl⟩ : ∃ y : Nat, x = (y : Int) := ⟨x.toNat, by omega⟩
                    have hyn : y < n := by have := hnP.out; omega
                    obtain ⟨bo, oo, rfl, hbo, hco⟩ := (QW.out.below C0.out.below (fun _ h => h)).2 (by have := hz.out; omega)
                    have hoc := hco y (by have := hz.out; omega)
                    have hbol := Nat.lt_of_lt_of_le hbo C0.out.below.size
                    obtain ⟨z, hzz⟩ : ∃ z, z = geti zs y := ⟨_, rfl⟩
                    rw [← hzz] at hoc
                    have hst := hide (show tcIn zs p.ts k (j + 1) = (tcIn zs p.ts k j).set k ((gett (tcIn zs p.ts k j) k).set j (upd (getd (gett (tcIn zs p.ts k j) k) j) 4 z)) from by
                      rw [tcIn_succ zs p.ts k j hlt hjp.out, hdg.out, hdp.out, turnD, if_neg (show _ from (by decide : ¬ touchN 7 = 0)), hzz]
                      rfl)
                    have C7 := hide (C0.out.setIns (t := k) (j := j) (f := 4) z (by rw [tcIn_len]; exact hlt) hvq (by rw [hlg.out]; exact hlj) (by omega))
                    clear hzz hco hbo
                    have hi2 := hide (show ∀ i, i < j + 1 → oneD (getd l i) = true from fun i hij => by
                      rcases Nat.lt_or_ge i j with h | h
                      · exact hi.out i h
                      · obtain rfl : i = j := by omega
                        rw [← hd.out]
                        rfl)
                    go_wp2_with fail
                    go_roundw
                    case rel => exact ⟨j + 1, by omega, by go_num, hi2, hide (by rw [hst.out]; exact C7.out)⟩
                    case measure => simp [intOf]; omega
                  by_cases h8 : o = 8
                  · subst h8
                    obtain ⟨hm1, hx0, hx1⟩ := hxj (by decide)
                    obtain ⟨y, rfl⟩ : ∃ y : Nat, x = (y : Int) := ⟨x.toNat, by omega⟩
                    have hyn : y < n := by have := hnP.out; omega
                    obtain ⟨bo, oo, rfl, hbo, hco⟩ := (QW.out.below C0.out.below (fun _ h => h)).2 (by have := hz.out; omega)
                    have hoc := hco y (by have := hz.out; omega)
                    have hbol := Nat.lt_of_lt_of_le hbo C0.out.below.size
                    obtain ⟨z, hzz⟩ : ∃ z, z = geti zs y := ⟨_, rfl⟩
                    rw [← hzz] at hoc
                    have hst := hide (show tcIn zs p.ts k (j + 1) = (tcIn zs p.ts k j).set k ((gett (tcIn zs p.ts k j) k).set j (upd (getd (gett (tcIn zs p.ts k j) k) j) 4 z)) from by
                      rw [tcIn_succ zs p.ts k j hlt hjp.out, hdg.out, hdp.out, turnD, if_neg (show _ from (by decide : ¬ touchN 8 = 0)), hzz]
                      rfl)
                    have C7 := hide (C0.out.setIns (t := k) (j := j) (f := 4) z (by rw [tcIn_len]; exact hlt) hvq (by rw [hlg.out]; exact hlj) (by omega))
                    clear hzz hco hbo
                    have hi2 := hide (show ∀ i, i < j + 1 → oneD (getd l i) = true from fun i hij => by
                      rcases Nat.lt_or_ge i j with h | h
                      · exact hi.out i h
                      · obtain rfl : i = j := by omega
                        rw [← hd.out]
                        rfl)
                    go_wp2_with fail
                    go_roundw
                    case rel => exact ⟨j + 1, by omega, by go_num, hi2, hide (by rw [hst.out]; exact C7.out)⟩
                    case measure => simp [intOf]; omega
                  by_cases h9 : o = 9
                  · subst h9
                    obtain ⟨hm1, hx0, hx1⟩ := hxj (by decide)
                    obtain ⟨y, rfl⟩ : ∃ y : Nat, x = (y : Int) := ⟨x.toNat, by omega⟩
                    have hyn : y < n := by have := hnP.out; omega
                    obtain ⟨bo, oo, rfl, hbo, hco⟩ := (QW.out.below C0.out.below (fun _ h => h)).2 (by have := hz.out; omega)
                    have hoc := hco y (by have := hz.out; omega)
                    have hbol := Nat.lt_of_lt_of_le hbo C0.out.below.size
                    obtain ⟨z, hzz⟩ : ∃ z, z = geti zs y := ⟨_, rfl⟩
                    rw [← hzz] at hoc
                    have hst := hide (show tcIn zs p.ts k (j + 1) = (tcIn zs p.ts k j).set k ((gett (tcIn zs p.ts k j) k).set j (upd (getd (gett (tcIn zs p.ts k j) k) j) 4 z)) from by
                      rw [tcIn_succ zs p.ts k j hlt hjp.out, hdg.out, hdp.out, turnD, if_neg (show _ from (by decide : ¬ touchN 9 = 0)), hzz]
                      rfl)
                    have C7 := hide (C0.out.setIns (t := k) (j := j) (f := 4) z (by rw [tcIn_len]; exact hlt) hvq (by rw [hlg.out]; exact hlj) (by omega))
                    clear hzz hco hbo
                    have hm1 : 1 ≤ m := hm1
                    by_cases hm : m = 1
                    · subst hm
                      have hi2 := hide (show ∀ i, i < j + 1 → oneD (getd l i) = true from fun i hij => by
                        rcases Nat.lt_or_ge i j with h | h
                        · exact hi.out i h
                        · obtain rfl : i = j := by omega
                          rw [← hd.out]
                          rfl)
                      go_wp2_with fail
                      go_roundw
                      case rel => exact ⟨j + 1, by omega, by go_num, hi2, hide (by rw [hst.out]; exact C7.out)⟩
                      case measure => simp [intOf]; omega
                    · have hm2 : (m != 1) = true := by simpa using hm
                      have hNo := hide (hEn.out (by
                        unfold oneP
                        refine allB_no hlt ?_
                        rw [← hll.out]
                        unfold oneL
                        refine allB_no hlj ?_
                        rw [← hd.out]
                        exact decide_eq_false (by show ¬ m ≤ 1; omega)))
                      obtain ⟨u, u', hR⟩ := C0.out.out
                      obtain ⟨r0, r1⟩ := (show wr.cell? ⟨W0.heap.size, 0, none⟩ = some u ∧ wr.cell? ⟨W0.heap.size, 1, none⟩ = some u' from ⟨hR.cell 0, hR.cell 1⟩)
                      obtain ⟨r2, r3⟩ := (show wr.frozen? ⟨W0.heap.size, 0, none⟩ = false ∧ wr.frozen? ⟨W0.heap.size, 1, none⟩ = false from ⟨hR.frozen 0, hR.frozen 1⟩)
                      have lR := hR.lt
                      clear hR
                      go_wp2_with fail
                      refine bodyPost_ret (v := .tuple #[.agg #[.slice none 0 0, .slice none 0 0], .bool false]) (by simp [results, Try.results47, go_sem, r0, r1]; done) rfl ?_
                      rw [hNo.out.1, hNo.out.2]
                      exact FenR.no (((B0.out.trans (C0.out.below.mono B0.out.size)).setCell (p := ⟨W0.heap.size, 0, none⟩) (by have := hsz0.out; show w.heap.size ≤ W0.heap.size; omega) _).setCell (p := ⟨W0.heap.size, 1, none⟩) (by have := hsz0.out; show w.heap.size ≤ W0.heap.size; omega) _)
                  by_cases h10 : o = 10
                  · subst h10
                    obtain ⟨hm1, hx0, hx1⟩ := hxj (by decide)
                    obtain ⟨y, rfl⟩ : ∃ y : Nat, x = (y : Int) := ⟨x.toNat, by omega⟩
                    have hyn : y < n := by have := hnP.out; omega
                    obtain ⟨bo, oo, rfl, hbo, hco⟩ := (QW.out.below C0.out.below (fun _ h => h)).2 (by have := hz.out; omega)
                    have hoc := hco y (by have := hz.out; omega)
                    have hbol := Nat.lt_of_lt_of_le hbo C0.out.below.size
                    obtain ⟨z, hzz⟩ : ∃ z, z = geti zs y := ⟨_, rfl⟩
                    rw [← hzz] at hoc
                    have hst := hide (show tcIn zs p.ts k (j + 1) = (tcIn zs p.ts k j).set k ((gett (tcIn zs p.ts k j) k).set j (upd (getd (gett (tcIn zs p.ts k j) k) j) 4 z)) from by
                      rw [tcIn_succ zs p.ts k j hlt hjp.out, hdg.out, hdp.out, turnD, if_neg (show _ from (by decide : ¬ touchN 10 = 0)), hzz]
                      rfl)
                    have C7 := hide (C0.out.setIns (t := k) (j := j) (f := 4) z (by rw [tcIn_len]; exact hlt) hvq (by rw [hlg.out]; exact hlj) (by omega))
                    clear hzz hco hbo
                    have hm1 : 1 ≤ m := hm1
                    by_cases hm : m = 1
                    · subst hm
                      have hi2 := hide (show ∀ i, i < j + 1 → oneD (getd l i) = true from fun i hij => by
                        rcases Nat.lt_or_ge i j with h | h
                        · exact hi.out i h
                        · obtain rfl : i = j := by omega
                          rw [← hd.out]
                          rfl)
                      go_wp2_with fail
                      go_roundw
                      case rel => exact ⟨j + 1, by omega, by go_num, hi2, hide (by rw [hst.out]; exact C7.out)⟩
                      case measure => simp [intOf]; omega
                    · have hm2 : (m != 1) = true := by simpa using hm
                      have hNo := hide (hEn.out (by
                        unfold oneP
                        refine allB_no hlt ?_
                        rw [← hll.out]
                        unfold oneL
                        refine allB_no hlj ?_
                        rw [← hd.out]
                        exact decide_eq_false (by show ¬ m ≤ 1; omega)))
                      obtain ⟨u, u', hR⟩ := C0.out.out
                      obtain ⟨r0, r1⟩ := (show wr.cell? ⟨W0.heap.size, 0, none⟩ = some u ∧ wr.cell? ⟨W0.heap.size, 1, none⟩ = some u' from ⟨hR.cell 0, hR.cell 1⟩)
                      obtain ⟨r2, r3⟩ := (show wr.frozen? ⟨W0.heap.size, 0, none⟩ = false ∧ wr.frozen? ⟨W0.heap.size, 1, none⟩ = false from ⟨hR.frozen 0, hR.frozen 1⟩)
                      have lR := hR.lt
                      clear hR
                      go_wp2_with fail
                      refine bodyPost_ret (v := .tuple #[.agg #[.slice none 0 0, .slice none 0 0], .bool false]) (by simp [results, Try.results47, go_sem, r0, r1]; done) rfl ?_
                      rw [hNo.out.1, hNo.out.2]
                      exact FenR.no (((B0.out.trans (C0.out.below.mono B0.out.size)).setCell (p := ⟨W0.heap.size, 0, none⟩) (by have := hsz0.out; show w.heap.size ≤ W0.heap.size; omega) _).setCell (p := ⟨W0.heap.size, 1, none⟩) (by have := hsz0.out; show w.heap.size ≤ W0.heap.size; omega) _)
                  by_cases h11 : o = 11
                  · subst h11
                    obtain ⟨hm1, hx0, hx1⟩ := hxj (by decide)
                    obtain ⟨y, rfl⟩ : ∃ y : Nat, x = (y : Int) := ⟨x.toNat, by omega⟩
                    have hyn : y < n := by have := hnP.out; omega
                    obtain ⟨bo, oo, rfl, hbo, hco⟩ := (QW.out.below C0.out.below (fun _ h => h)).2 (by have := hz.out; omega)
                    have hoc := hco y (by have := hz.out; omega)
                    have hbol := Nat.lt_of_lt_of_le hbo C0.out.below.size
                    obtain ⟨z, hzz⟩ : ∃ z, z = geti zs y := ⟨_, rfl⟩
                    rw [← hzz] at hoc
                    have hst := hide (show tcIn zs p.ts k (j + 1) = (tcIn zs p.ts k j).set k ((gett (tcIn zs p.ts k j) k).set j (upd (getd (gett (tcIn zs p.ts k j) k) j) 4 z)) from by
                      rw [tcIn_succ zs p.ts k j hlt hjp.out, hdg.out, hdp.out, turnD, if_neg (show _ from (by decide : ¬ touchN 11 = 0)), hzz]
                      rfl)
                    have C7 := hide (C0.out.setIns (t := k) (j := j) (f := 4) z (by rw [tcIn_len]; exact hlt) hvq (by rw [hlg.out]; exact hlj) (by omega))
                    clear hzz hco hbo
                    have hi2 := hide (show ∀ i, i < j + 1 → oneD (getd l i) = true from fun i hij => by
                      rcases Nat.lt_or_ge i j with h | h
                      · exact hi.out i h
                      · obtain rfl : i = j := by omega
                        rw [← hd.out]
                        rfl)
                    go_wp2_with fail
                    go_roundw
                    case rel => exact ⟨j + 1, by omega, by go_num, hi2, hide (by rw [hst.out]; exact C7.out)⟩
                    case measure => simp [intOf]; omega
                  · have ht0 : touchN o = 0 := by unfold touchN; rw [if_neg (by omega), if_neg (by omega), if_neg h11]
                    have hc0 : countN o m = 0 := by unfold countN; rw [if_neg (by omega), if_neg (by omega)]
                    have hst := hide (show tcIn zs p.ts k (j + 1) = tcIn zs p.ts k j from by
                      rw [tcIn_succ zs p.ts k j hlt hjp.out, hdp.out, turnD, if_pos ht0, ← hdg.out, set_getd _ j (by rw [hlg.out]; exact hlj)]
                      exact set_gett _ k (by rw [tcIn_len]; exact hlt))
                    have hi2 := hide (show ∀ i, i < j + 1 → oneD (getd l i) = true from fun i hij => by
                      rcases Nat.lt_or_ge i j with h | h
                      · exact hi.out i h
                      · obtain rfl : i = j := by omega
                        rw [← hd.out]
                        unfold oneD
                        rw [show countN (InsD.mk o r a bb x m).o (InsD.mk o r a bb x m).n = 0 from hc0]
                        rfl)
                    have e7 : (o == 7) = false := by simpa using h7
                    have e8 : (o == 8) = false := by simpa using h8
                    have e9 : (o == 9) = false := by simpa using h9
                    have e10 : (o == 10) = false := by simpa using h10
                    have e11 : (o == 11) = false := by simpa using h11
                    clear ht0 hc0 h7 h8 h9 h10 h11
                    go_wp2_with fail
                    go_roundw
                    case rel => exact ⟨j + 1, by omega, by go_num, hi2, hide (by rw [hst.out]; exact C0.out)⟩
                    case measure => simp [intOf]; omega
                · obtain rfl : j = l.length := by omega
                  have hlj' : decide ((l.length : Int) < (l.length : Int)) = false := decide_eq_false (by omega)
                  have hj2 := hide (show ∀ j, j < k + 1 → oneL (gett p.ts j) = true from fun j hjk => by
                    rcases Nat.lt_or_ge j k with h | h
                    · exact hj.out j h
                    · obtain rfl : j = k := by omega
                      rw [← hll.out]
                      exact allB_yes hi.out)
                  have C2 := C0.out
                  rw [hsts.out] at C2
                  replace C2 := hide C2
                  go_wp2_with fail
                  go_roundw
                  case rel => exact ⟨k + 1, by omega, by go_num, hj2, C2⟩
                  case measure => simp [intOf]; omega
            · obtain rfl : k = p.ts.length := by omega
              have hlt' : decide ((p.ts.length : Int) < (p.ts.length : Int)) = false := decide_eq_false (by omega)
              have hYes := hide (hEy.out (by unfold oneP; exact allB_yes hj.out))
              obtain ⟨u, u', hR⟩ := C0.out.out
              obtain ⟨r0, r1⟩ := (show wr.cell? ⟨W0.heap.size, 0, none⟩ = some u ∧ wr.cell? ⟨W0.heap.size, 1, none⟩ = some u' from ⟨hR.cell 0, hR.cell 1⟩)
              obtain ⟨r2, r3⟩ := (show wr.frozen? ⟨W0.heap.size, 0, none⟩ = false ∧ wr.frozen? ⟨W0.heap.size, 1, none⟩ = false from ⟨hR.frozen 0, hR.frozen 1⟩)
              have lR := hR.lt
              have hTR := hide (show W0.heap.size ≠ T from by have := C0.out.lo; omega)
              have hTR2 : (T = W0.heap.size) = False := by simp; have := hTR.out; omega
              have hsz1 := hsz0.out
              clear hR
              go_wp2_with fail
              refine bodyPost_ret (v := .tuple #[.agg #[(.slice (some ⟨bi, 0, none⟩) p.init.length c1), (.slice (some ⟨b, 0, none⟩) p.ts.length c2)], .bool true]) (by simp [results, Try.results47, go_sem, r0, r1]; done) rfl ?_
              rw [hYes.out.1, hYes.out.2]
              have hC9 := C0.out
              rw [tcTs_all] at hC9
              refine ⟨_, _, vs, rfl, ?_, B0.out.trans (((C0.out.below.setCell (p := ⟨W0.heap.size, 0, none⟩) (Nat.le_refl _) _).setCell (p := ⟨W0.heap.size, 1, none⟩) (Nat.le_refl _) _).mono B0.out.size)⟩
              have h1 := hC9.own.keep (w1 := (wr.setCell ⟨W0.heap.size, 0, none⟩ (.slice (some ⟨bi, 0, none⟩) p.init.length c1)).setCell ⟨W0.heap.size, 1, none⟩ (.slice (some ⟨b, 0, none⟩) p.ts.length c2)) (fun b hb _ => (Below.heap_setCell _ _ _ b (by show b ≠ W0.heap.size; omega)).trans (Below.heap_setCell _ _ _ b (by show b ≠ W0.heap.size; omega)))
              exact h1.base (by omega)
end Go.Proofs.Ytjendjbbhohjcaa
