/- The model's TurnThreads. -/
import Derived.Test.YtjendjbbhohjcaaMn0
import Derived.Test.YtjendjbbhohjcaaMn10
import Derived.Test.YtjendjbbhohjcaaMn11
import Derived.Test.YtjendjbbhohjcaaMn12
import Derived.Test.YtjendjbbhohjcaaMn13
import Derived.Test.YtjendjbbhohjcaaMn14
import Derived.Deep.RegionHeld3
namespace Go.Proofs.Ytjendjbbhohjcaa
open Go.RowKit

theorem prog_one {p : ProgD} (h : progB p = true) : 1 ≤ p.ts.length := by
  unfold progB sizesB at h
  simp only [Bool.and_eq_true, decide_eq_true_eq] at h
  exact h.1.2.2.1
set_option maxRecDepth 100000 in
set_option maxHeartbeats 12800000 in
theorem sturn_any (v : Value) (p : ProgD) (AO : Option Addr) (zs : List Int) (n cO : Nat) (w : World) (hp : ProgAt w (Old w.heap.size) v p) (ho : IntsAt w (Old w.heap.size) AO zs) (hz : zs.length = n) :
    Calls Try.prog 40 #[v, .slice AO n cO] w fun e w' => FenR w w' e (turnQ p zs) (turnB p zs) := by
  obtain ⟨i0, hi0, hz0, hz1, hz2⟩ := info_parts Try.infoIns
  replace hi0 := hide hi0
  obtain ⟨A, c, A', c', rfl, hcc, hi, ht⟩ := hp
  obtain ⟨W0, hW0⟩ : ∃ x, x = w.alloc (Obj.cells #[.slice A p.init.length c, .slice A' p.ts.length c'] 37) := ⟨_, rfl⟩
  obtain ⟨W, hW⟩ : ∃ x, x = W0.alloc (Obj.cells #[.slice none 0 0, .slice none 0 0] 37) := ⟨_, rfl⟩
  have hbW0 : Below w.heap.size w W0 := by rw [hW0]; exact below1 _ _
  have hsz0 := hide (show w.heap.size + 1 = W0.heap.size from by rw [hW0]; simp)
  have hb1 : Below W0.heap.size W0 W := by rw [hW]; exact below1 _ _
  have hbW := hbW0.trans (hb1.mono hbW0.size)
  have X00 := hide (show Blk W0 w.heap.size 37 #[.slice A p.init.length c, .slice A' p.ts.length c'] from by rw [hW0]; exact Blk.new _ _ _)
  have X0 := hide (X00.out.below hb1 X00.out.lt)
  have R0 := hide (show Blk W W0.heap.size 37 #[.slice none 0 0, .slice none 0 0] from by rw [hW]; exact Blk.new _ _ _)
  have hsW := hide R0.out.lt
  have Z0 := hide ((hi.below hbW (fun _ h => h)).more (fun b (h : b < w.heap.size) => show b < W.heap.size from Nat.lt_of_lt_of_le h hbW.size))
  have D0 := hide ((ht.below hbW (fun _ h => h)).more (fun b (h : b < w.heap.size) => show b < W.heap.size from Nat.lt_of_lt_of_le h hbW.size))
  have Q0 := hide ((ho.below hbW (fun _ h => h)).more (fun b (h : b < w.heap.size) => show b < W.heap.size from Nat.lt_of_lt_of_le h hbW.size))
  have DW := hide ((ht.below hbW0 (fun _ h => h)).more (fun b (h : b < w.heap.size) => show b < W0.heap.size from Nat.lt_of_lt_of_le h hbW0.size))
  have QW := hide ((ho.below hbW0 (fun _ h => h)).more (fun b (h : b < w.heap.size) => show b < W0.heap.size from Nat.lt_of_lt_of_le h hbW0.size))
  have kP := hide (sprogOk_any (.agg #[.slice A p.init.length c, .slice A' p.ts.length c']) p (Old W.heap.size) W (fun _ h => h) ⟨A, c, A', c', rfl, hcc, Z0.out, D0.out⟩)
  have BW := hide hb1
  have B0 := hide hbW0
  obtain ⟨ok, hok⟩ : ∃ ok, ok = progB p := ⟨_, rfl⟩
  rw [← hok] at kP
  replace hok := hide hok
  have x0 := X0.out.cell 0
  have x1 := X0.out.cell 1
  have lx := X0.out.lt
  simp only [List.getElem?_toArray, List.getElem?_cons_zero, List.getElem?_cons_succ] at x0 x1
  replace hz := hide hz
  replace hcc := hide hcc
  clear hbW0 hb1 hbW hi ht ho
  go_enter Try.func40, Try.ntmps40
  go_upto_region 1 with fail
  rw [← hW0, ← hW, hsz0.out]
  clear hW hW0
  go_wp2_with fail
  refine kP.out.mono ?_
  rintro e w1 ⟨rfl, hb1⟩
  have B1 := hide (BW.out.trans (hb1.mono BW.out.size))
  have BZ := hide (B0.out.trans (B1.out.mono B0.out.size))
  have R1 := hide (R0.out.below hb1 R0.out.lt)
  have X1 := hide (X0.out.below hb1 X0.out.lt)
  have Z1 := hide ((Z0.out.below hb1 (fun _ h => h)).more (fun b (h : b < W.heap.size) => show b < w1.heap.size from Nat.lt_of_lt_of_le h hb1.size))
  have D1 := hide ((D0.out.below hb1 (fun _ h => h)).more (fun b (h : b < W.heap.size) => show b < w1.heap.size from Nat.lt_of_lt_of_le h hb1.size))
  have Q1 := hide ((Q0.out.below hb1 (fun _ h => h)).more (fun b (h : b < W.heap.size) => show b < w1.heap.size from Nat.lt_of_lt_of_le h hb1.size))
  have S1 := hide (Nat.lt_of_lt_of_le hsW.out hb1.size)
  clear x0 x1 lx hb1 BW R0 X0 Z0 D0 Q0 hsW kP
  cases ok
  · have hE := hide (show turnQ p zs = ⟨[], []⟩ ∧ turnB p zs = false from by unfold turnQ turnB; rw [← hok.out]; exact ⟨rfl, rfl⟩)
    obtain ⟨r0, r1⟩ := (show w1.cell? ⟨W0.heap.size, 0, none⟩ = some (.slice none 0 0) ∧ w1.cell? ⟨W0.heap.size, 1, none⟩ = some (.slice none 0 0) from ⟨R1.out.cell 0, R1.out.cell 1⟩)
    obtain ⟨r2, r3⟩ := (show w1.frozen? ⟨W0.heap.size, 0, none⟩ = false ∧ w1.frozen? ⟨W0.heap.size, 1, none⟩ = false from ⟨R1.out.frozen 0, R1.out.frozen 1⟩)
    have lR := R1.out.lt
    go_wp2_with fail
    refine bodyPost_ret (v := .tuple #[.agg #[.slice none 0 0, .slice none 0 0], .bool false]) (by simp [results, Try.results40, go_sem, r0, r1]; done) rfl ?_
    rw [hE.out.1, hE.out.2]
    exact FenR.no ((BZ.out.setCell (p := ⟨W0.heap.size, 0, none⟩) (by have := hsz0.out; show w.heap.size ≤ W0.heap.size; omega) _).setCell (p := ⟨W0.heap.size, 1, none⟩) (by have := hsz0.out; show w.heap.size ≤ W0.heap.size; omega) _)
  · have hT1 := hide (prog_one hok.out.symm)
    have hT3 := hide (prog_thr hok.out.symm).2.1
    have hl := hide (fun k => Nat.le_trans (prog_rows hok.out.symm k) (show 24 ≤ 1000 by omega))
    have x0 := X1.out.cell 0
    have x1 := X1.out.cell 1
    have lx := X1.out.lt
    simp only [List.getElem?_toArray, List.getElem?_cons_zero, List.getElem?_cons_succ] at x0 x1
    have kT := hide (l11order_any AO zs n cO p.ts.length (Old w1.heap.size) w1 hz.out Q1.out)
    have kO := hide (l1own_any (.agg #[.slice A p.init.length c, .slice A' p.ts.length c']) p w1 ⟨A, c, A', c', rfl, hcc.out, Z1.out, D1.out⟩ (Nat.le_trans (prog_thr hok.out.symm).1 (by omega)) hT3.out hl.out)
    obtain ⟨od, hod⟩ : ∃ od, od = orderB zs p.ts.length := ⟨_, rfl⟩
    rw [← hod] at kT
    replace hod := hide hod
    go_wp2_with fail
    refine kT.out.mono ?_
    rintro e w2 ⟨rfl, rfl⟩
    clear kT
    cases od
    · have hE := hide (show turnQ p zs = ⟨[], []⟩ ∧ turnB p zs = false from by unfold turnQ turnB; rw [← hok.out, ← hod.out]; exact ⟨rfl, rfl⟩)
      clear x0 x1 lx
      obtain ⟨r0, r1⟩ := (show w1.cell? ⟨W0.heap.size, 0, none⟩ = some (.slice none 0 0) ∧ w1.cell? ⟨W0.heap.size, 1, none⟩ = some (.slice none 0 0) from ⟨R1.out.cell 0, R1.out.cell 1⟩)
      obtain ⟨r2, r3⟩ := (show w1.frozen? ⟨W0.heap.size, 0, none⟩ = false ∧ w1.frozen? ⟨W0.heap.size, 1, none⟩ = false from ⟨R1.out.frozen 0, R1.out.frozen 1⟩)
      have lR := R1.out.lt
      go_wp2_with fail
      refine bodyPost_ret (v := .tuple #[.agg #[.slice none 0 0, .slice none 0 0], .bool false]) (by simp [results, Try.results40, go_sem, r0, r1]; done) rfl ?_
      rw [hE.out.1, hE.out.2]
      exact FenR.no ((BZ.out.setCell (p := ⟨W0.heap.size, 0, none⟩) (by have := hsz0.out; show w.heap.size ≤ W0.heap.size; omega) _).setCell (p := ⟨W0.heap.size, 1, none⟩) (by have := hsz0.out; show w.heap.size ≤ W0.heap.size; omega) _)
    · have hE := hide (show turnQ p zs = ⟨p.init, turnTs p.ts zs zs.length⟩ ∧ turnB p zs = true from by unfold turnQ turnB; rw [← hok.out, ← hod.out]; exact ⟨rfl, rfl⟩)
      have hnl := hod.out.symm
      unfold orderB at hnl
      rw [Bool.and_eq_true, Bool.and_eq_true, decide_eq_true_eq, inB_iff] at hnl
      obtain ⟨hlen, hin', -⟩ := hnl
      have hin := hide hin'
      have hnT := hide (show n = p.ts.length from by rw [← hz.out]; exact hlen)
      clear hlen hin'
      go_wp2_with fail
      refine kO.out.mono ?_
      rintro e w2 ⟨v, tv, vs, rfl, hPO, hb2⟩
      obtain ⟨b, c2, rfl, hbl, hbh, hbc⟩ := rows_at hPO.rows (by have := hT1.out; omega)
      obtain ⟨A1, c1, rfl, -⟩ := own_form hPO.ints
      have hC := CrAt.start2 (W0 := W0) B1.out S1.out R1.out hb2 hPO
      obtain ⟨W3, hW3⟩ : ∃ x, x = w2.alloc (Obj.cells #[.slice A1 p.init.length c1, .slice (some ⟨b, 0, none⟩) p.ts.length c2] 37) := ⟨_, rfl⟩
      rw [← hW3] at hC
      go_upto_region 4 with fail
      rw [← hW3]
      obtain ⟨T, hT⟩ : ∃ x, x = w2.heap.size := ⟨_, rfl⟩
      rw [← hT] at hC ⊢
      replace hC := hide hC
      clear hW3 hT x0 x1 lx hPO hb2 hbl hbh hbc kO
      go_wp2_with fail
      go_loopw [7] (fun i wr => ∃ (k : Nat) (vs : List Value), k ≤ p.ts.length ∧ i = .int .i64 k ∧ Hid (CrAt W0 T p.init (.slice A1 p.init.length c1) (mixTs p.ts zs k) vs (.slice (some ⟨b, 0, none⟩) p.ts.length c2) wr)) (fun i _ => p.ts.length - (intOf i).toNat)
      case atStart => exact ⟨0, _, Nat.zero_le _, rfl, hC⟩
      case round =>
        clear hC
        obtain ⟨k, vs, hk, rfl, C0⟩ := hrel
        by_cases hlt : k < n
        · have hlt' : decide ((k : Int) < (n : Int)) = true := decide_eq_true (by omega)
          have hkn : k < n := hlt
          have hk3 : p.ts.length ≤ 3 := hT3.out
          have hkT : k < p.ts.length := by have := hnT.out; omega
          obtain ⟨bo, oo, rfl, hbo, hco⟩ := QW.out.2 (by have := hz.out; omega)
          have hco := hco k (by have := hz.out; omega)
          have hgk := hin.out _ (geti_mem zs k (by have := hz.out; omega))
          have hstep := mixTs_succ p.ts zs k hkT
          have hml := hide (mixTs_len p.ts zs k hk)
          obtain ⟨kk, hkk⟩ := Int.eq_ofNat_of_zero_le hgk.1
          rw [hkk] at hco hgk hstep
          have hkk2 : kk < p.ts.length := by omega
          rw [Int.toNat_natCast] at hstep
          obtain ⟨bt, ot, rfl, hbS, hc⟩ := DW.out.2 (by omega)
          obtain ⟨A3, c3, hcell, -, hin3⟩ := hc kk hkk2
          have hl24 := hide (hl.out kk)
          obtain ⟨l, hll⟩ : ∃ l, l = gett p.ts kk := ⟨_, rfl⟩
          rw [← hll] at hcell hin3 hstep hl24
          have hstep := hide hstep
          have kS := hide (show ∀ w', Below W0.heap.size W0 w' → w'.cell? ⟨w.heap.size, 1, none⟩ = some (.slice (some ⟨bt, ot, none⟩) p.ts.length c') ∧ w'.cell? ⟨bo, oo + k, none⟩ = some (.int .i64 (kk : Int)) ∧ w'.cell? ⟨bt, ot + kk, none⟩ = some (.slice A3 l.length c3) from fun w' hb => ⟨(X00.out.below hb X00.out.lt).cell 1, (hb.cell (p := ⟨bo, oo + k, none⟩) hbo).trans hco, (hb.cell (p := ⟨bt, ot + kk, none⟩) hbS).trans hcell⟩)
          have BD := hide (show Below W0.heap.size W0 wr.drew from C0.out.below.trans ((Below.refl _ _).drew.mono C0.out.below.size))
          have B2 := hide (show Below wr.heap.size wr (wr.drew.alloc (Obj.cells #[] 89)) from (Below.refl _ _).drew.trans (below1 wr.drew _))
          have BA := hide (show Below W0.heap.size W0 (wr.drew.alloc (Obj.cells #[] 89)) from C0.out.below.trans (B2.out.mono C0.out.below.size))
          have hown0 := hide (show (wr.drew.alloc (Obj.cells #[] 89)).ownsRow wr.heap.size 89 6 (.slice (some ⟨wr.heap.size, 0, none⟩) 0 0) 0 [] from own_row (w := wr.drew) (cs := #[]) (Nat.le_refl _) (by omega) rfl)
          have hI0 := hide (show IntsAt (wr.drew.alloc (Obj.cells #[] 89)) (Old wr.heap.size) A3 (flatZ l) from ((hin3.below BA.out (fun _ h => h)).more (fun b (h : b < W0.heap.size) => show b < wr.heap.size from Nat.lt_of_lt_of_le h C0.out.below.size)).ints hl24.out)
          have hlb := hide (show ∀ w5, Below wr.heap.size wr w5 → b < w5.heap.size from fun w5 hb => by
            have h1 := C0.out.own.rows
            have := (own_lt (b := b) h1 rfl).2.1
            exact Nat.lt_of_lt_of_le this hb.size)
          clear hc hll hin3 hkk hgk hcell hco
          go_upto_region 7 with fail
          refine wp_region_held_drew (S := (fun w' => w'.cell? ⟨T, 1, none⟩ = some (.slice (some ⟨b, 0, none⟩) p.ts.length c2) ∧ w'.cell? ⟨w.heap.size, 1, none⟩ = some (.slice (some ⟨bt, ot, none⟩) p.ts.length c') ∧ w'.cell? ⟨bo, oo + k, none⟩ = some (.int .i64 (kk : Int)) ∧ w'.cell? ⟨bt, ot + kk, none⟩ = some (.slice A3 l.length c3))) (by kernel_rfl) ?_ (fun hHeld => ?_)
          · exact ⟨C0.out.drew.blk.cell 1, kS.out _ BD.out⟩
          refine wpAnyH_take (i := 0) (oi := { dst := some 28, op := Op.fieldAddr 37 (.tmp 6) 1, type := 0, pos := "l11_lock.go:29", after := #[], guard := none }) (v := ?_) rfl (by kernel_rfl) (by kernel_rfl) (by kernel_rfl) (fun _ _ _ h => h) (Or.inl ⟨by rfl, ?_⟩) hHeld ?_
          rotate_left
          · (intro wq hSw; (try dsimp only at hSw); first | (go_simp; done) | (go_simp; with_reducible rfl))
          try simp only [Act.put, qa, qb, qc]
          refine wpAnyH_take (i := 1) (oi := { dst := some 29, op := Op.load 35 (.tmp 28), type := 35, pos := "l11_lock.go:29", after := #[⟨0, .data⟩], guard := none }) (v := ?_) rfl (by kernel_rfl) (by kernel_rfl) (by kernel_rfl) (fun _ _ _ h => h) (Or.inl ⟨by rfl, ?_⟩) hHeld ?_
          rotate_left
          · (intro wq hSw; (try dsimp only at hSw); first | (go_simp; done) | (go_simp; with_reducible rfl))
          try simp only [Act.put, qa, qb, qc]
          refine wpAnyH_take (i := 2) (oi := { dst := some 30, op := Op.move (.tmp 7), type := 3, pos := "l11_lock.go:29", after := #[], guard := none }) (v := ?_) rfl (by kernel_rfl) (by kernel_rfl) (by kernel_rfl) (fun _ _ _ h => h) (Or.inl ⟨by rfl, ?_⟩) hHeld ?_
          rotate_left
          · (intro wq hSw; (try dsimp only at hSw); first | (go_simp; done) | (go_simp; with_reducible rfl))
          try simp only [Act.put, qa, qb, qc]
          refine wpAnyH_take (i := 4) (oi := { dst := some 32, op := Op.fieldAddr 37 (.tmp 2) 1, type := 0, pos := "l11_lock.go:29", after := #[], guard := none }) (v := ?_) rfl (by kernel_rfl) (by kernel_rfl) (by kernel_rfl) (fun _ _ _ h => h) (Or.inl ⟨by rfl, ?_⟩) hHeld ?_
          rotate_left
          · (intro wq hSw; (try dsimp only at hSw); first | (go_simp; done) | (go_simp; with_reducible rfl))
          try simp only [Act.put, qa, qb, qc]
          refine wpAnyH_take (i := 5) (oi := { dst := some 33, op := Op.load 35 (.tmp 32), type := 35, pos := "l11_lock.go:29", after := #[⟨4, .data⟩], guard := none }) (v := ?_) rfl (by kernel_rfl) (by kernel_rfl) (by kernel_rfl) (fun _ _ _ h => h) (Or.inl ⟨by rfl, ?_⟩) hHeld ?_
          rotate_left
          · (intro wq hSw; (try dsimp only at hSw); first | (go_simp; done) | (go_simp; with_reducible rfl))
          try simp only [Act.put, qa, qb, qc]
          refine wpAnyH_take (i := 6) (oi := { dst := some 34, op := Op.move (.tmp 1), type := 23, pos := "l11_lock.go:29", after := #[], guard := none }) (v := ?_) rfl (by kernel_rfl) (by kernel_rfl) (by kernel_rfl) (fun _ _ _ h => h) (Or.inl ⟨by rfl, ?_⟩) hHeld ?_
          rotate_left
          · (intro wq hSw; (try dsimp only at hSw); first | (go_simp; done) | (go_simp; with_reducible rfl))
          try simp only [Act.put, qa, qb, qc]
          refine wpAnyH_take (i := 7) (oi := { dst := some 35, op := Op.move (.tmp 7), type := 3, pos := "l11_lock.go:29", after := #[], guard := none }) (v := ?_) rfl (by kernel_rfl) (by kernel_rfl) (by kernel_rfl) (fun _ _ _ h => h) (Or.inl ⟨by rfl, ?_⟩) hHeld ?_
          rotate_left
          · (intro wq hSw; (try dsimp only at hSw); first | (go_simp; done) | (go_simp; with_reducible rfl))
          try simp only [Act.put, qa, qb, qc]
          refine wpAnyH_take (i := 8) (oi := { dst := some 36, op := Op.indexAddr 23 (.tmp 34) (.tmp 35), type := 0, pos := "l11_lock.go:29", after := #[⟨6, .data⟩, ⟨7, .data⟩], guard := none }) (v := ?_) rfl (by kernel_rfl) (by kernel_rfl) (by kernel_rfl) (fun _ _ _ h => h) (Or.inl ⟨by rfl, ?_⟩) hHeld ?_
          rotate_left
          · (intro wq hSw; (try dsimp only at hSw); first | (go_simp; done) | (go_simp; with_reducible rfl))
          try simp only [Act.put, qa, qb, qc]
          refine wpAnyH_take (i := 9) (oi := { dst := some 37, op := Op.load 3 (.tmp 36), type := 3, pos := "l11_lock.go:29", after := #[⟨8, .data⟩], guard := none }) (v := ?_) rfl (by kernel_rfl) (by kernel_rfl) (by kernel_rfl) (fun _ _ _ h => h) (Or.inl ⟨by rfl, ?_⟩) hHeld ?_
          rotate_left
          · (intro wq hSw; (try dsimp only at hSw); first | (go_simp; done) | (go_simp; with_reducible rfl))
          try simp only [Act.put, qa, qb, qc]
          refine wpAnyH_take (i := 10) (oi := { dst := some 38, op := Op.indexAddr 35 (.tmp 33) (.tmp 37), type := 0, pos := "l11_lock.go:29", after := #[⟨5, .data⟩, ⟨9, .data⟩], guard := none }) (v := ?_) rfl (by kernel_rfl) (by kernel_rfl) (by kernel_rfl) (fun _ _ _ h => h) (Or.inl ⟨by rfl, ?_⟩) hHeld ?_
          rotate_left
          · (intro wq hSw; (try dsimp only at hSw); first | (go_simp; done) | (go_simp; with_reducible rfl))
          try simp only [Act.put, qa, qb, qc]
          refine wpAnyH_take (i := 11) (oi := { dst := some 39, op := Op.fieldAddr 45 (.tmp 38) 0, type := 0, pos := "l11_lock.go:29", after := #[⟨10, .data⟩], guard := none }) (v := ?_) rfl (by kernel_rfl) (by kernel_rfl) (by kernel_rfl) (fun _ _ _ h => h) (Or.inl ⟨by rfl, ?_⟩) hHeld ?_
          rotate_left
          · (intro wq hSw; (try dsimp only at hSw); first | (go_simp; done) | (go_simp; with_reducible rfl))
          try simp only [Act.put, qa, qb, qc]
          refine wpAnyH_take (i := 12) (oi := { dst := some 40, op := Op.load 43 (.tmp 39), type := 43, pos := "l11_lock.go:29", after := #[⟨11, .data⟩], guard := none }) (v := ?_) rfl (by kernel_rfl) (by kernel_rfl) (by kernel_rfl) (fun _ _ _ h => h) (Or.inl ⟨by rfl, ?_⟩) hHeld ?_
          rotate_left
          · (intro wq hSw; (try dsimp only at hSw); first | (go_simp; done) | (go_simp; with_reducible rfl))
          try simp only [Act.put, qa, qb, qc]
          refine wpAnyH_ready (rs := [3]) (by kernel_rfl) (by simp) ?_
          refine AllReadyH.cons (o := { dst := some 31, op := Op.buildSlice 43 0 #[], type := 43, pos := "l11_lock.go:29", after := #[], guard := none }) rfl (fun K hK => ?_) (AllReadyH.nil)
          · go_simp
            refine hK.out _ _ ?_ (fun hHeldN => ?_)
            · exact ⟨(C0.out.next B2.out).blk.cell 1, kS.out _ BA.out⟩
            clear hK K hHeld
            have hHeld := hHeldN
            clear hHeldN
            try simp only [Act.put, qa, qb, qc]
            refine wpAnyH_ready (rs := [13]) (by kernel_rfl) (by simp) ?_
            refine AllReadyH.cons (o := { dst := some 41, op := Op.call { callee := Callee.builtin Builtin.append, args := #[.tmp 31, .tmp 40], argTypes := #[43, 43] }, type := 43, pos := "l11_lock.go:29", after := #[⟨3, .data⟩, ⟨12, .data⟩], guard := none }) rfl (fun K hK => ?_) (AllReadyH.nil)
            · rw [if_pos (by rfl)]
              refine wp_append_src _ _ _ _ (by rfl) wr.heap.size 89 i0 _ 6 48 Try.underlying43 hi0.out hz0 hz1 hz2 rfl (by omega) (.slice (some ⟨wr.heap.size, 0, none⟩) 0 0) 0 [] (by rfl) hown0.out (Old wr.heap.size) A3 l.length c3 (flatZ l) (by rfl) (flatZ_len l) hI0.out (by have : maxLen = 9223372036854775807 := rfl; have := hl24.out; omega) (by have := hl24.out; omega) (by simp) ?_
              intro A5 c5 w5 hown5 hgr5 hat5
              simp only [Nat.zero_add, List.nil_append, flatZ_map] at hown5
              have hb5 := hide (show Below wr.heap.size wr w5 from B2.out.trans (below_own hgr5 (fun j hj => by simp [Value.ownBlock]; omega) (by simp)))
              obtain ⟨⟨s0, s1⟩, hC7⟩ := C0.out.putThr hml.out hkT hb5.out hown5
              have C7 := hide hC7
              clear hC7
              have L5 := hide (C0.out.next hb5.out)
              have lb5 := hlb.out w5 hb5.out
              clear hown5 hgr5 hat5
              refine hK.out _ _ ?_ (fun hHeldN => ?_)
              · exact ⟨L5.out.blk.cell 1, kS.out _ L5.out.below⟩
              clear hK K hHeld
              have hHeld := hHeldN
              clear hHeldN
              try simp only [Act.put, qa, qb, qc]
              refine wpAnyH_take (i := 14) (oi := { dst := some 42, op := Op.indexAddr 35 (.tmp 29) (.tmp 30), type := 0, pos := "l11_lock.go:29", after := #[⟨1, .data⟩, ⟨2, .data⟩, ⟨0, .phase⟩, ⟨1, .phase⟩, ⟨2, .phase⟩, ⟨3, .phase⟩, ⟨4, .phase⟩, ⟨5, .phase⟩, ⟨6, .phase⟩, ⟨7, .phase⟩, ⟨8, .phase⟩, ⟨9, .phase⟩, ⟨10, .phase⟩, ⟨11, .phase⟩, ⟨12, .phase⟩, ⟨13, .phase⟩], guard := none }) (v := ?_) rfl (by kernel_rfl) (by kernel_rfl) (by kernel_rfl) (fun _ _ _ h => h) (Or.inl ⟨by rfl, ?_⟩) hHeld ?_
              rotate_left
              · (intro wq hSw; (try dsimp only at hSw); first | (go_simp; done) | (go_simp; with_reducible rfl))
              try simp only [Act.put, qa, qb, qc]
              refine wpAnyH_take (i := 15) (oi := { dst := some 43, op := Op.fieldAddr 45 (.tmp 42) 0, type := 0, pos := "l11_lock.go:29", after := #[⟨14, .data⟩, ⟨0, .phase⟩, ⟨1, .phase⟩, ⟨2, .phase⟩, ⟨3, .phase⟩, ⟨4, .phase⟩, ⟨5, .phase⟩, ⟨6, .phase⟩, ⟨7, .phase⟩, ⟨8, .phase⟩, ⟨9, .phase⟩, ⟨10, .phase⟩, ⟨11, .phase⟩, ⟨12, .phase⟩, ⟨13, .phase⟩], guard := none }) (v := ?_) rfl (by kernel_rfl) (by kernel_rfl) (by kernel_rfl) (fun _ _ _ h => h) (Or.inl ⟨by rfl, ?_⟩) hHeld ?_
              rotate_left
              · (intro wq hSw; (try dsimp only at hSw); first | (go_simp; done) | (go_simp; with_reducible rfl))
              try simp only [Act.put, qa, qb, qc]
              refine wpAnyH_ready (rs := [16]) (by kernel_rfl) (by simp) ?_
              refine AllReadyH.cons (o := { dst := none, op := Op.store 43 (.tmp 43) (.tmp 41), type := 0, pos := "l11_lock.go:29", after := #[⟨15, .data⟩, ⟨13, .data⟩, ⟨13, .chain⟩, ⟨0, .phase⟩, ⟨1, .phase⟩, ⟨2, .phase⟩, ⟨3, .phase⟩, ⟨4, .phase⟩, ⟨5, .phase⟩, ⟨6, .phase⟩, ⟨7, .phase⟩, ⟨8, .phase⟩, ⟨9, .phase⟩, ⟨10, .phase⟩, ⟨11, .phase⟩, ⟨12, .phase⟩, ⟨13, .phase⟩], guard := none }) rfl (fun K hK => ?_) (AllReadyH.nil)
              · go_simp
                refine hK.out _ _ ?_ (fun hHeldN => ?_)
                · exact ⟨C7.out.blk.cell 1, kS.out _ C7.out.below⟩
                clear hK K hHeld
                have hHeld := hHeldN
                clear hHeldN
                try simp only [Act.put, qa, qb, qc]
                refine wpAnyH_done (by kernel_rfl) ?_ _
                clear hHeld
                go_wp2_with fail
                go_roundw
                case rel => exact ⟨k + 1, _, by omega, by go_num, hide (by rw [hstep.out]; exact C7.out)⟩
                case measure => simp [intOf]; omega
        · have hkn : n = k := by have := hnT.out; omega
          have hkT : k = p.ts.length := by have := hnT.out; omega
          have hlt' : decide ((k : Int) < (n : Int)) = false := decide_eq_false (by omega)
          obtain ⟨⟨t0, t1⟩, t2, t3⟩ := C0.out.cells
          have lT := C0.out.blk.lt
          obtain ⟨u, u', hR⟩ := C0.out.out
          obtain ⟨r0, r1⟩ := (show wr.cell? ⟨W0.heap.size, 0, none⟩ = some u ∧ wr.cell? ⟨W0.heap.size, 1, none⟩ = some u' from ⟨hR.cell 0, hR.cell 1⟩)
          obtain ⟨r2, r3⟩ := (show wr.frozen? ⟨W0.heap.size, 0, none⟩ = false ∧ wr.frozen? ⟨W0.heap.size, 1, none⟩ = false from ⟨hR.frozen 0, hR.frozen 1⟩)
          have lR := hR.lt
          have hTR := hide (show W0.heap.size ≠ T from by have := C0.out.lo; omega)
          have hTR2 : (T = W0.heap.size) = False := by simp; have := hTR.out; omega
          have hkn := hide hkn
          have hkT := hide hkT
          have hsz1 := hsz0.out
          clear hR
          go_wp2_with fail
          refine bodyPost_ret (v := .tuple #[.agg #[.slice A1 p.init.length c1, .slice (some ⟨b, 0, none⟩) p.ts.length c2], .bool true]) (by simp [results, Try.results40, go_sem, r0, r1]; done) rfl ?_
          rw [hE.out.1, hE.out.2]
          have hml := mixTs_all p.ts zs
          have hC9 := C0.out
          rw [hkT.out, hml] at hC9
          have hzl : zs.length = p.ts.length := by have := hz.out; have := hnT.out; omega
          refine ⟨_, _, vs, rfl, ?_, B0.out.trans (((C0.out.below.setCell (p := ⟨W0.heap.size, 0, none⟩) (Nat.le_refl _) _).setCell (p := ⟨W0.heap.size, 1, none⟩) (Nat.le_refl _) _).mono B0.out.size)⟩
          have h1 := hC9.own.keep (w1 := (wr.setCell ⟨W0.heap.size, 0, none⟩ (.slice A1 p.init.length c1)).setCell ⟨W0.heap.size, 1, none⟩ (.slice (some ⟨b, 0, none⟩) p.ts.length c2)) (fun b hb _ => (Below.heap_setCell _ _ _ b (by show b ≠ W0.heap.size; omega)).trans (Below.heap_setCell _ _ _ b (by show b ≠ W0.heap.size; omega)))
          rw [hzl]
          exact h1.base (by omega)
end Go.Proofs.Ytjendjbbhohjcaa
