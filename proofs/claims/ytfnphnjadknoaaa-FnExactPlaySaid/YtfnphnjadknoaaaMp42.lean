/- The model's Play. -/
import Derived.Test.YtfnphnjadknoaaaMp0
import Derived.Test.YtfnphnjadknoaaaMp41
import Derived.Deep.RegionHeld3
namespace Go.Proofs.Ytfnphnjadknoaaa
open Go.RowKit

theorem isWk_len {p q : PoolD} (h : p.dq.length = q.dq.length) (W : Int) : isWk p W = isWk q W := by unfold isWk; rw [h]
theorem playK_dq {p : PoolD} (zs : List Int) : ∀ (k : Nat), PInv p (-1) → (∀ k, (getj p.js k).ks.length ≤ 1048576) → (playK p zs k).1.dq.length = p.dq.length
  | 0, _, _ => rfl
  | k + 1, h, hsz => by
    obtain ⟨h1, h2⟩ := playK_inv zs k h hsz
    rw [playK_succ]
    exact (h1.pick _ _ (by rw [h2]; exact hsz)).2.2.trans (playK_dq zs k h hsz)
set_option maxRecDepth 100000 in
set_option maxHeartbeats 25600000 in
theorem sPlay_any (a : PA) (p : PoolD) (AL : Option Addr) (zs : List Int) (n cL : Nat) (w : World) (hz : poolSize p ≤ 1048576) (hzs : zs.length = n * 2) (hn : n ≤ 1048576) (ha : Hid (PoolAt w (Old w.heap.size) a p)) (hL : Hid (IntsAt w (Old w.heap.size) AL zs)) :
    Calls Try.prog 47 #[.agg (a.cells p), .slice AL n cL] w fun e w' => ∃ x f, e = .returned (.tuple #[.agg x.cells, .int .i64 ((playR p zs n).2 : Nat)]) ∧ PoolO w' f w.heap.size x (playR p zs n).1 ∧ Below w.heap.size w w' := by
  unfold PA.cells
  obtain ⟨hsz, hzQ⟩ := poolSize_parts hz
  replace hsz := hide hsz
  replace hzQ := hide hzQ
  have hb0 := below2 w (Obj.cells #[.slice a.A0 p.js.length a.c0, .slice a.A1 p.dq.length a.c1, .slice a.A2 p.ran.length a.c2, .slice a.A3 p.dn.length a.c3, .slice a.A4 p.lf.length a.c4, .slice a.A5 p.sm.length a.c5, .slice a.A6 p.vl.length a.c6] 28) (Obj.cells #[.slice none 0 0, .slice none 0 0, .slice none 0 0, .slice none 0 0, .slice none 0 0, .slice none 0 0, .slice none 0 0] 28)
  have X0 := (Blk.new w 28 #[.slice a.A0 p.js.length a.c0, .slice a.A1 p.dq.length a.c1, .slice a.A2 p.ran.length a.c2, .slice a.A3 p.dn.length a.c3, .slice a.A4 p.lf.length a.c4, .slice a.A5 p.sm.length a.c5, .slice a.A6 p.vl.length a.c6]).alloc (Obj.cells #[.slice none 0 0, .slice none 0 0, .slice none 0 0, .slice none 0 0, .slice none 0 0, .slice none 0 0, .slice none 0 0] 28)
  have R0 := Blk.new (w.alloc (Obj.cells #[.slice a.A0 p.js.length a.c0, .slice a.A1 p.dq.length a.c1, .slice a.A2 p.ran.length a.c2, .slice a.A3 p.dn.length a.c3, .slice a.A4 p.lf.length a.c4, .slice a.A5 p.sm.length a.c5, .slice a.A6 p.vl.length a.c6] 28)) 28 #[.slice none 0 0, .slice none 0 0, .slice none 0 0, .slice none 0 0, .slice none 0 0, .slice none 0 0, .slice none 0 0]
  simp only [World.size_alloc] at R0
  obtain ⟨w0, hw0⟩ : ∃ w0, w0 = (w.alloc (Obj.cells #[.slice a.A0 p.js.length a.c0, .slice a.A1 p.dq.length a.c1, .slice a.A2 p.ran.length a.c2, .slice a.A3 p.dn.length a.c3, .slice a.A4 p.lf.length a.c4, .slice a.A5 p.sm.length a.c5, .slice a.A6 p.vl.length a.c6] 28)).alloc (Obj.cells #[.slice none 0 0, .slice none 0 0, .slice none 0 0, .slice none 0 0, .slice none 0 0, .slice none 0 0, .slice none 0 0] 28) := ⟨_, rfl⟩
  rw [← hw0] at hb0 X0 R0
  obtain ⟨q, hq⟩ : ∃ q, q = w.heap.size := ⟨_, rfl⟩
  rw [← hq] at X0 R0
  have ha0 := (ha.out.below hb0 (fun _ h => h)).more (fun b (h : b < w.heap.size) => show b < w0.heap.size from Nat.lt_of_lt_of_le h hb0.size)
  have kP := hide (spoolOk_any a p (Old w0.heap.size) w0 hsz hzQ (fun _ h => h) ha0)
  unfold PA.cells at kP
  have hs := hide (show q + 1 < w0.heap.size ∧ w.heap.size ≤ w0.heap.size from ⟨R0.lt, hb0.size⟩)
  have hR := hide R0
  have hX := hide X0
  have hbb := hide hb0
  have haa := hide ha0
  clear hb0 ha0 X0 R0
  go_enter Try.func47, Try.ntmps47
  go_upto_region 1 with fail
  rw [← hw0, ← hq]
  clear hw0
  replace hq := hide hq
  obtain ⟨⟨x0, x1, x2, x3, x4, x5, x6⟩, xl⟩ := box7 hX.out
  go_wp2_with fail
  refine kP.out.mono ?_
  rintro e w1 ⟨rfl, hb1⟩
  clear x0 x1 x2 x3 x4 x5 x6 xl
  have B1 := hide (below_then hbb.out hb1)
  have X1 := hide (hX.out.below hb1 hX.out.lt)
  have R1 := hide (hR.out.below hb1 hR.out.lt)
  have a1 := hide ((haa.out.below hb1 (fun _ h => h)).more (fun b (h : b < w0.heap.size) => show b < w1.heap.size from Nat.lt_of_lt_of_le h hb1.size))
  have S1 := hide (show q + 1 < w1.heap.size ∧ w.heap.size ≤ w1.heap.size from ⟨Nat.lt_of_lt_of_le hs.out.1 hb1.size, Nat.le_trans hs.out.2 hb1.size⟩)
  clear hb1 hbb hX hR haa hs kP
  obtain ⟨ok, hok⟩ : ∃ ok, ok = poolB p := ⟨_, rfl⟩
  rw [← hok]
  replace hok := hide hok
  cases ok
  · obtain ⟨z0, z1, z2, z3, z4, z5, z6⟩ := froz7 R1.out
    obtain ⟨⟨r0, r1, r2, r3, r4, r5, r6⟩, rl⟩ := box7 R1.out
    go_wp2_with fail
    refine bodyPost_ret (v := .tuple #[.agg pv0.cells, .int .i64 0]) (by simp [results, Try.results47, go_sem, pv0, PV.cells, r0, r1, r2, r3, r4, r5, r6]; done) rfl ?_
    rw [(show playR p zs n = (pool0, 0) from playR_no (.inl hok.out.symm))]
    refine ⟨pv0, fun _ => 0, rfl, PoolO.zero _ _ _, ?_⟩
    iterate 7 (refine Below.setCell ?_ (by show w.heap.size ≤ q + 1; rw [hq.out]; omega) _)
    exact B1.out
  · by_cases hn2 : n ≤ 2000
    · have hn2' : decide ((2000 : Int) < (n : Int)) = false := decide_eq_false (by omega)
      obtain ⟨⟨x0, x1, x2, x3, x4, x5, x6⟩, xl⟩ := box7 X1.out
      have kO := hide (sown_any a p (Old w1.heap.size) w1 hz (fun _ h => h) a1)
      unfold PA.cells at kO
      go_wp2_with fail
      clear x0 x1 x2 x3 x4 x5 x6 xl
      refine kO.out.mono ?_
      rintro e w5 ⟨x, f, rfl, hP, hb5, hf5⟩
      obtain ⟨A0', A1', A2', A3', A4', A5', A6', c0', c1', c2', c3', c4', c5', c6', hx⟩ := hP.slices
      obtain ⟨kv, hkv⟩ : ∃ kv, kv = x.kv := ⟨_, rfl⟩
      obtain ⟨rv, hrv⟩ : ∃ rv, rv = x.rv := ⟨_, rfl⟩
      rw [← hkv, ← hrv] at hx
      subst hx
      clear hkv hrv kO
      have G6 := BoxO.made hP
      have hb6 := below_then hb5 (below1 w5 (Obj.cells #[.slice A0' p.js.length c0', .slice A1' p.dq.length c1', .slice A2' p.ran.length c2', .slice A3' p.dn.length c3', .slice A4' p.lf.length c4', .slice A5' p.sm.length c5', .slice A6' p.vl.length c6'] 28))
      obtain ⟨w6, hw6⟩ : ∃ w6, w6 = w5.alloc (Obj.cells #[.slice A0' p.js.length c0', .slice A1' p.dq.length c1', .slice A2' p.ran.length c2', .slice A3' p.dn.length c3', .slice A4' p.lf.length c4', .slice A5' p.sm.length c5', .slice A6' p.vl.length c6'] 28) := ⟨_, rfl⟩
      have hg5 : w5.heap.size < w6.heap.size := by rw [hw6]; simp
      obtain ⟨f6, hf6⟩ : ∃ f6 : Nat → Nat, f6 = fun b => if b < w5.heap.size then f b else 0 := ⟨_, rfl⟩
      dsimp only at G6
      rw [← hw6, ← hf6] at G6
      rw [← hw6] at hb6
      have L6 := hide (show ∀ b, b < w1.heap.size → f6 b = 0 from fun b hb => by
        have h5 := hb5.size
        rw [hf6]
        show (if b < w5.heap.size then f b else 0) = 0
        rw [if_pos (by omega)]
        exact hf5 b hb)
      unfold PV.cells
      dsimp only
      go_upto_region 4 with fail
      rw [← hw6]
      obtain ⟨g, hg⟩ : ∃ g, g = w5.heap.size := ⟨_, rfl⟩
      rw [← hg] at G6 hg5
      try rw [← hg]
      have B6 := hide (B1.out.trans (hb6.mono S1.out.2))
      have R6 := hide (R1.out.below hb6 R1.out.lt)
      have S6 := hide (show q + 1 < w1.heap.size ∧ w.heap.size ≤ w1.heap.size ∧ w1.heap.size ≤ w6.heap.size from ⟨S1.out.1, S1.out.2, hb6.size⟩)
      replace G6 := hide G6
      clear hw6 hf6 hb6 hb5 hP hf5 hg hg5 B1 X1 R1 a1 S1
      go_wp2_with fail
      have Z0 := hide (show w.heap.size ≤ w1.heap.size from S6.out.2.1)
      have M6 := hide S6.out.2.2
      go_loopw [7, 8] (fun c i wr => ∃ (k m : Nat) (f : Nat → Nat) (rv : Nat → Value), k ≤ n ∧ m ≤ k ∧ i = .int .i64 k ∧ c = .int .i64 m ∧ Hid (m = (playK p zs k).2) ∧ Hid (BoxO wr f w1.heap.size g ⟨.slice A0' p.js.length c0', .slice A1' p.dq.length c1', .slice A2' p.ran.length c2', .slice A3' p.dn.length c3', .slice A4' p.lf.length c4', .slice A5' p.sm.length c5', .slice A6' p.vl.length c6', kv, rv⟩ (playK p zs k).1) ∧ Hid (∀ b, b < w1.heap.size → f b = 0) ∧ Hid (Below w.heap.size w wr) ∧ Hid (Blk wr (q + 1) 28 #[.slice none 0 0, .slice none 0 0, .slice none 0 0, .slice none 0 0, .slice none 0 0, .slice none 0 0, .slice none 0 0]) ∧ Hid (w1.heap.size ≤ wr.heap.size)) (fun _ i _ => n - (intOf i).toNat)
      case atStart => exact ⟨0, 0, f6, rv, by omega, by omega, rfl, rfl, hide rfl, G6, L6, B6, R6, M6⟩
      case round =>
        clear G6 L6 B6 R6 M6
        obtain ⟨k, m, f, rv, hk, hmk, rfl, rfl, hm, G0, hF, B0, R0, Zr⟩ := hrel
        by_cases hlt : k < n
        · obtain ⟨b, off, rfl, hbS, d0, d1⟩ := (hL.out.below B0.out (fun _ h => h)).two hzs hlt
          obtain ⟨W, hW⟩ : ∃ x, x = geti zs (k * 2) := ⟨_, rfl⟩
          obtain ⟨V, hV⟩ : ∃ x, x = geti zs (k * 2 + 1) := ⟨_, rfl⟩
          have hst := playK_succ p zs k
          rw [← hW] at d0 hst
          rw [← hV] at d1 hst
          have hInv := playK_inv zs k (poolB_inv hok.out.symm) hsz.out
          have hIk := hide hInv.1
          have hdq := hide (playK_dq zs k (poolB_inv hok.out.symm) hsz.out)
          have hkid := hide (show ∀ j, (getj (playK p zs k).1.js j).ks.length ≤ 1048576 from by rw [hInv.2]; exact hsz.out)
          rw [← hm.out] at hst
          obtain ⟨pk, hpk⟩ : ∃ pk, pk = (playK p zs k).1 := ⟨_, rfl⟩
          rw [← hpk] at hst hIk hdq hkid G0
          replace hst := hide hst
          clear hInv hpk hW hV hm
          have hbl := Nat.lt_of_lt_of_le hbS B0.out.size
          have hkn : k < n := hlt
          have hlt' : decide ((k : Int) < (n : Int)) = true := decide_eq_true (by omega)
          obtain ⟨w0r, hw0r⟩ : ∃ x, x = wr := ⟨_, rfl⟩
          subst hw0r
          have x1 := (box7 G0.out.box).1.2.1
          dsimp only at x1
          go_wp2_with fail
          refine (lworker_any g p.dq.length c1' A1' W w0r x1).mono ?_
          clear x1
          rintro e w2 ⟨rfl, hb2⟩
          have G2 := hide (G0.out.next hb2)
          have B2 := hide (B0.out.trans (hb2.mono B0.out.size))
          have R2 := hide (R0.out.below hb2 R0.out.lt)
          have Z2 := hide (Nat.le_trans Zr.out hb2.size)
          replace d0 := (hb2.cell (p := ⟨b, off + k * 2, none⟩) (Nat.lt_of_lt_of_le hbS B0.out.size)).trans d0
          replace d1 := (hb2.cell (p := ⟨b, off + k * 2 + 1, none⟩) (Nat.lt_of_lt_of_le hbS B0.out.size)).trans d1
          have hbl := Nat.lt_of_lt_of_le hbS B2.out.size
          clear hb2 G0 B0 R0 Zr
          obtain ⟨m2, hm2⟩ : ∃ m, m = isWk p W := ⟨_, rfl⟩
          rw [show decide (0 ≤ W ∧ W < ((p.dq.length : Nat) : Int)) = m2 from by rw [hm2]; rfl]
          replace hm2 := hide hm2
          cases m2
          · have hE := hide (show playK p zs (k + 1) = (pk, m) from by
              have hmay : mayP pk W V = false := by rw [mayP_eq, isWk_len hdq.out W, isWk_len hdq.out V, ← hm2.out]; rfl
              rw [hst.out, hmay]
              unfold pickP
              rw [hmay]
              rfl)
            go_wp2_with fail
            go_roundw
            case rel => exact ⟨k + 1, m, f, rv, by omega, by omega, by go_num, rfl, hide (by rw [hE.out]), hide (by rw [hE.out]; exact G2.out), hF, B2, R2, Z2⟩
            case measure => simp [intOf]; omega
          · have x1 := (box7 G2.out.box).1.2.1
            dsimp only at x1
            go_wp2_with fail
            refine (lworker_any g p.dq.length c1' A1' V w2 x1).mono ?_
            clear x1
            rintro e w3 ⟨rfl, hb3⟩
            have G3 := hide (G2.out.next hb3)
            have B3 := hide (B2.out.trans (hb3.mono B2.out.size))
            have R3 := hide (R2.out.below hb3 R2.out.lt)
            have Z3 := hide (Nat.le_trans Z2.out hb3.size)
            replace d0 := (hb3.cell (p := ⟨b, off + k * 2, none⟩) (Nat.lt_of_lt_of_le hbS B2.out.size)).trans d0
            replace d1 := (hb3.cell (p := ⟨b, off + k * 2 + 1, none⟩) (Nat.lt_of_lt_of_le hbS B2.out.size)).trans d1
            have hbl := Nat.lt_of_lt_of_le hbS B3.out.size
            clear hb3 G2 B2 R2 Z2
            obtain ⟨m3, hm3⟩ : ∃ m, m = isWk p V := ⟨_, rfl⟩
            rw [show decide (0 ≤ V ∧ V < ((p.dq.length : Nat) : Int)) = m3 from by rw [hm3]; rfl]
            replace hm3 := hide hm3
            cases m3
            · have hE := hide (show playK p zs (k + 1) = (pk, m) from by
                have hmay : mayP pk W V = false := by rw [mayP_eq, isWk_len hdq.out W, isWk_len hdq.out V, ← hm2.out, ← hm3.out]; rfl
                rw [hst.out, hmay]
                unfold pickP
                rw [hmay]
                rfl)
              go_wp2_with fail
              go_roundw
              case rel => exact ⟨k + 1, m, f, rv, by omega, by omega, by go_num, rfl, hide (by rw [hE.out]), hide (by rw [hE.out]; exact G3.out), hF, B3, R3, Z3⟩
              case measure => simp [intOf]; omega
            · go_upto_region 9 with fail
              have G4 := hide (G3.out.next (Below.refl _ _).drew)
              have B4 := hide (B3.out.trans ((Below.refl _ _).drew.mono B3.out.size))
              have R4 := hide (R3.out.below (Below.refl _ _).drew R3.out.lt)
              have Z4 := hide (show w1.heap.size ≤ w3.drew.heap.size from Z3.out)
              have Z4z := hide (show w.heap.size ≤ w3.drew.heap.size from Nat.le_trans Z0.out Z3.out)
              have e0 := hide (show w3.drew.cell? ⟨b, off + k * 2, none⟩ = some (.int .i64 W) from d0)
              have e1 := hide (show w3.drew.cell? ⟨b, off + k * 2 + 1, none⟩ = some (.int .i64 V) from d1)
              clear G3 B3 R3 Z3 d0 d1 hbl
              by_cases hWV : W = V
              · subst hWV
                obtain ⟨Wn, hWn⟩ : ∃ x : Nat, x = W.toNat := ⟨_, rfl⟩
                have hWe : W = (Wn : Int) := by have := of_decide_eq_true hm2.out.symm; omega
                have hWl : Wn < pk.dq.length := by have := of_decide_eq_true hm2.out.symm; have := hdq.out; omega
                have hmay : mayP pk W W = busyB pk Wn := by
                  rw [mayP_eq, isWk_len hdq.out, ← hm2.out, ← hWn]
                  rfl
                cases hbz : busyB pk Wn
                · have hE := hide (show playK p zs (k + 1) = (pk, m) from by rw [hst.out]; unfold pickP; rw [hmay, hbz]; rfl)
                  have kC := fun ww (h : BoxO ww f w1.heap.size g ⟨.slice A0' p.js.length c0', .slice A1' p.dq.length c1', .slice A2' p.ran.length c2', .slice A3' p.dn.length c3', .slice A4' p.lf.length c4', .slice A5' p.sm.length c5', .slice A6' p.vl.length c6', kv, rv⟩ pk) (hz2 : w1.heap.size ≤ ww.heap.size) => ltake_all f w1.heap.size g _ pk Wn ww hIk.out hkid hWl hz2 h
                  rw [hbz] at kC
                  rw [if_neg (by simp)] at kC
                  rw [← hWe] at kC
                  replace kC := hide kC
                  clear hmay hbz hst hIk hkid hdq hWe hWn hWl 
                  refine wp_region_held_drew (S := (fun w' => w'.cell? ⟨b, off + k * 2, none⟩ = some (.int .i64 W) ∧ w'.cell? ⟨b, off + k * 2 + 1, none⟩ = some (.int .i64 W))) (by kernel_rfl) ?_ (fun hHeld => ?_)
                  · exact ⟨e0.out, e1.out⟩
                  refine wpAnyH_take (i := 0) (oi := { dst := some 42, op := Op.move (.tmp 1), type := 43, pos := "l09_jobs.go:223", after := #[], guard := none }) (v := ?_) rfl (by kernel_rfl) (by kernel_rfl) (by kernel_rfl) (fun _ _ _ h => h) (Or.inl ⟨by rfl, ?_⟩) hHeld ?_
                  rotate_left
                  · (intro wq hSw; (try dsimp only at hSw); first | (go_simp; done) | (go_simp; with_reducible rfl))
                  try simp only [Act.put, qa, qb, qc]
                  refine wpAnyH_take (i := 1) (oi := { dst := some 43, op := Op.move (.tmp 8), type := 3, pos := "l09_jobs.go:223", after := #[], guard := none }) (v := ?_) rfl (by kernel_rfl) (by kernel_rfl) (by kernel_rfl) (fun _ _ _ h => h) (Or.inl ⟨by rfl, ?_⟩) hHeld ?_
                  rotate_left
                  · (intro wq hSw; (try dsimp only at hSw); first | (go_simp; done) | (go_simp; with_reducible rfl))
                  try simp only [Act.put, qa, qb, qc]
                  refine wpAnyH_take (i := 2) (oi := { dst := some 44, op := Op.indexAddr 43 (.tmp 42) (.tmp 43), type := 0, pos := "l09_jobs.go:223", after := #[⟨0, .data⟩, ⟨1, .data⟩], guard := none }) (v := ?_) rfl (by kernel_rfl) (by kernel_rfl) (by kernel_rfl) (fun _ _ _ h => h) (Or.inl ⟨by rfl, ?_⟩) hHeld ?_
                  rotate_left
                  · (intro wq hSw; (try dsimp only at hSw); first | (go_simp; done) | (go_simp; with_reducible rfl))
                  try simp only [Act.put, qa, qb, qc]
                  refine wpAnyH_take (i := 3) (oi := { dst := some 45, op := Op.fieldAddr 48 (.tmp 44) 0, type := 0, pos := "l09_jobs.go:223", after := #[⟨2, .data⟩], guard := none }) (v := ?_) rfl (by kernel_rfl) (by kernel_rfl) (by kernel_rfl) (fun _ _ _ h => h) (Or.inl ⟨by rfl, ?_⟩) hHeld ?_
                  rotate_left
                  · (intro wq hSw; (try dsimp only at hSw); first | (go_simp; done) | (go_simp; with_reducible rfl))
                  try simp only [Act.put, qa, qb, qc]
                  refine wpAnyH_take (i := 4) (oi := { dst := some 46, op := Op.load 3 (.tmp 45), type := 3, pos := "l09_jobs.go:223", after := #[⟨3, .data⟩], guard := none }) (v := ?_) rfl (by kernel_rfl) (by kernel_rfl) (by kernel_rfl) (fun _ _ _ h => h) (Or.inl ⟨by rfl, ?_⟩) hHeld ?_
                  rotate_left
                  · (intro wq hSw; (try dsimp only at hSw); first | (go_simp; done) | (go_simp; with_reducible rfl))
                  try simp only [Act.put, qa, qb, qc]
                  refine wpAnyH_take (i := 5) (oi := { dst := some 47, op := Op.move (.tmp 1), type := 43, pos := "l09_jobs.go:223", after := #[], guard := none }) (v := ?_) rfl (by kernel_rfl) (by kernel_rfl) (by kernel_rfl) (fun _ _ _ h => h) (Or.inl ⟨by rfl, ?_⟩) hHeld ?_
                  rotate_left
                  · (intro wq hSw; (try dsimp only at hSw); first | (go_simp; done) | (go_simp; with_reducible rfl))
                  try simp only [Act.put, qa, qb, qc]
                  refine wpAnyH_take (i := 6) (oi := { dst := some 48, op := Op.move (.tmp 8), type := 3, pos := "l09_jobs.go:223", after := #[], guard := none }) (v := ?_) rfl (by kernel_rfl) (by kernel_rfl) (by kernel_rfl) (fun _ _ _ h => h) (Or.inl ⟨by rfl, ?_⟩) hHeld ?_
                  rotate_left
                  · (intro wq hSw; (try dsimp only at hSw); first | (go_simp; done) | (go_simp; with_reducible rfl))
                  try simp only [Act.put, qa, qb, qc]
                  refine wpAnyH_take (i := 7) (oi := { dst := some 49, op := Op.indexAddr 43 (.tmp 47) (.tmp 48), type := 0, pos := "l09_jobs.go:223", after := #[⟨5, .data⟩, ⟨6, .data⟩], guard := none }) (v := ?_) rfl (by kernel_rfl) (by kernel_rfl) (by kernel_rfl) (fun _ _ _ h => h) (Or.inl ⟨by rfl, ?_⟩) hHeld ?_
                  rotate_left
                  · (intro wq hSw; (try dsimp only at hSw); first | (go_simp; done) | (go_simp; with_reducible rfl))
                  try simp only [Act.put, qa, qb, qc]
                  refine wpAnyH_take (i := 8) (oi := { dst := some 50, op := Op.fieldAddr 48 (.tmp 49) 1, type := 0, pos := "l09_jobs.go:223", after := #[⟨7, .data⟩], guard := none }) (v := ?_) rfl (by kernel_rfl) (by kernel_rfl) (by kernel_rfl) (fun _ _ _ h => h) (Or.inl ⟨by rfl, ?_⟩) hHeld ?_
                  rotate_left
                  · (intro wq hSw; (try dsimp only at hSw); first | (go_simp; done) | (go_simp; with_reducible rfl))
                  try simp only [Act.put, qa, qb, qc]
                  refine wpAnyH_take (i := 9) (oi := { dst := some 51, op := Op.load 3 (.tmp 50), type := 3, pos := "l09_jobs.go:223", after := #[⟨8, .data⟩], guard := none }) (v := ?_) rfl (by kernel_rfl) (by kernel_rfl) (by kernel_rfl) (fun _ _ _ h => h) (Or.inl ⟨by rfl, ?_⟩) hHeld ?_
                  rotate_left
                  · (intro wq hSw; (try dsimp only at hSw); first | (go_simp; done) | (go_simp; with_reducible rfl))
                  try simp only [Act.put, qa, qb, qc]
                  refine wpAnyH_take (i := 10) (oi := { dst := some 52, op := Op.binOp BinOp.eql 3 (.tmp 46) (.tmp 51) 3, type := 4, pos := "l09_jobs.go:223", after := #[⟨4, .data⟩, ⟨9, .data⟩], guard := none }) (v := ?_) rfl (by kernel_rfl) (by kernel_rfl) (by kernel_rfl) (fun _ _ _ h => h) (Or.inl ⟨by rfl, ?_⟩) hHeld ?_
                  rotate_left
                  · (intro wq hSw; (try dsimp only at hSw); first | (go_simp; done) | (go_simp; with_reducible rfl))
                  try simp only [Act.put, qa, qb, qc]
                  refine wpAnyH_take (i := 11) (oi := { dst := some 53, op := Op.move (.tmp 52), type := 4, pos := "l09_jobs.go:223", after := #[⟨10, .data⟩], guard := none }) (v := ?_) rfl (by kernel_rfl) (by kernel_rfl) (by kernel_rfl) (fun _ _ _ h => h) (Or.inl ⟨by rfl, ?_⟩) hHeld ?_
                  rotate_left
                  · (intro wq hSw; (try dsimp only at hSw); first | (go_simp; done) | (go_simp; with_reducible rfl))
                  try simp only [Act.put, qa, qb, qc]
                  refine wpAnyH_take (i := 12) (oi := { dst := some 54, op := Op.move (.tmp 1), type := 43, pos := "l09_jobs.go:223", after := #[⟨11, .guard⟩], guard := some (11, true) }) (v := ?_) rfl (by kernel_rfl) (by kernel_rfl) (by kernel_rfl) (fun _ _ _ h => h) (Or.inl ⟨by rfl, ?_⟩) hHeld ?_
                  rotate_left
                  · (intro wq hSw; (try dsimp only at hSw); first | (go_simp; done) | (go_simp; with_reducible rfl))
                  try simp only [Act.put, qa, qb, qc]
                  refine wpAnyH_take (i := 13) (oi := { dst := some 55, op := Op.move (.tmp 8), type := 3, pos := "l09_jobs.go:223", after := #[⟨11, .guard⟩], guard := some (11, true) }) (v := ?_) rfl (by kernel_rfl) (by kernel_rfl) (by kernel_rfl) (fun _ _ _ h => h) (Or.inl ⟨by rfl, ?_⟩) hHeld ?_
                  rotate_left
                  · (intro wq hSw; (try dsimp only at hSw); first | (go_simp; done) | (go_simp; with_reducible rfl))
                  try simp only [Act.put, qa, qb, qc]
                  refine wpAnyH_take (i := 14) (oi := { dst := some 56, op := Op.indexAddr 43 (.tmp 54) (.tmp 55), type := 0, pos := "l09_jobs.go:223", after := #[⟨12, .data⟩, ⟨13, .data⟩, ⟨11, .guard⟩], guard := some (11, true) }) (v := ?_) rfl (by kernel_rfl) (by kernel_rfl) (by kernel_rfl) (fun _ _ _ h => h) (Or.inl ⟨by rfl, ?_⟩) hHeld ?_
                  rotate_left
                  · (intro wq hSw; (try dsimp only at hSw); first | (go_simp; done) | (go_simp; with_reducible rfl))
                  try simp only [Act.put, qa, qb, qc]
                  refine wpAnyH_take (i := 15) (oi := { dst := some 57, op := Op.fieldAddr 48 (.tmp 56) 0, type := 0, pos := "l09_jobs.go:223", after := #[⟨14, .data⟩, ⟨11, .guard⟩], guard := some (11, true) }) (v := ?_) rfl (by kernel_rfl) (by kernel_rfl) (by kernel_rfl) (fun _ _ _ h => h) (Or.inl ⟨by rfl, ?_⟩) hHeld ?_
                  rotate_left
                  · (intro wq hSw; (try dsimp only at hSw); first | (go_simp; done) | (go_simp; with_reducible rfl))
                  try simp only [Act.put, qa, qb, qc]
                  refine wpAnyH_take (i := 16) (oi := { dst := some 58, op := Op.load 3 (.tmp 57), type := 3, pos := "l09_jobs.go:223", after := #[⟨15, .data⟩, ⟨11, .guard⟩], guard := some (11, true) }) (v := ?_) rfl (by kernel_rfl) (by kernel_rfl) (by kernel_rfl) (fun _ _ _ h => h) (Or.inl ⟨by rfl, ?_⟩) hHeld ?_
                  rotate_left
                  · (intro wq hSw; (try dsimp only at hSw); first | (go_simp; done) | (go_simp; with_reducible rfl))
                  try simp only [Act.put, qa, qb, qc]
                  refine wpAnyH_ready (rs := [17]) (by kernel_rfl) (by simp) ?_
                  refine AllReadyH.cons (o := { dst := some 59, op := Op.call { callee := Callee.value (.func 64), args := #[.tmp 6, .tmp 58], argTypes := #[85, 3] }, type := 4, pos := "l09_jobs.go:223", after := #[⟨16, .data⟩, ⟨11, .chain⟩, ⟨11, .guard⟩], guard := some (11, true) }) rfl (fun K hK => ?_) AllReadyH.nil
                  go_simp
                  go_at_call 64
                  refine (kC.out _ G4.out Z4.out).mono ?_
                  rintro e w5 ⟨rfl, f5, rv5, G5, C5, hf5⟩
                  have G5 := hide G5
                  have hbC := hide (C5.below Z0.out Z4z.out)
                  have B5 := hide (B4.out.trans hbC.out)
                  have R5 := hide (show Blk w5 (q + 1) 28 #[.slice none 0 0, .slice none 0 0, .slice none 0 0, .slice none 0 0, .slice none 0 0, .slice none 0 0, .slice none 0 0] from (C5.block (q + 1) R4.out.lt (fun e => e.1 (hF.out _ S6.out.1))).trans R4.out)
                  have Z5 := hide (Nat.le_trans Z4.out C5.size)
                  have F5 := hide (show ∀ x, x < w1.heap.size → f5 x = 0 from fun x hx => (hf5 x (Nat.lt_of_lt_of_le hx Z4.out)).trans (hF.out x hx))
                  clear C5 hf5
                  refine hK.out _ _ ?_ (fun hHeldN => ?_)
                  · exact ⟨(hbC.out.cell (p := ⟨b, off + k * 2, none⟩) hbS).trans e0.out, (hbC.out.cell (p := ⟨b, off + k * 2 + 1, none⟩) hbS).trans e1.out⟩
                  clear hK K hHeld
                  have hHeld := hHeldN
                  clear hHeldN
                  try simp only [Act.put, qa, qb, qc]
                  refine wpAnyH_take (i := 18) (oi := { dst := some 60, op := Op.pick (.tmp 53) (.tmp 59) (.const (Value.bool false)), type := 4, pos := "l09_jobs.go:223", after := #[⟨11, .data⟩, ⟨17, .data⟩], guard := none }) (v := ?_) rfl (by kernel_rfl) (by kernel_rfl) (by kernel_rfl) (fun _ _ _ h => h) (Or.inl ⟨by rfl, ?_⟩) hHeld ?_
                  rotate_left
                  · (intro wq hSw; (try dsimp only at hSw); first | (go_simp; done) | (go_simp; with_reducible rfl))
                  try simp only [Act.put, qa, qb, qc]
                  refine wpAnyH_take (i := 19) (oi := { dst := some 61, op := Op.move (.tmp 60), type := 4, pos := "l09_jobs.go:223", after := #[⟨18, .data⟩, ⟨17, .chain⟩], guard := none }) (v := ?_) rfl (by kernel_rfl) (by kernel_rfl) (by kernel_rfl) (fun _ _ _ h => h) (Or.inl ⟨by rfl, ?_⟩) hHeld ?_
                  rotate_left
                  · (intro wq hSw; (try dsimp only at hSw); first | (go_simp; done) | (go_simp; with_reducible rfl))
                  try simp only [Act.put, qa, qb, qc]
                  refine wpAnyH_take (i := 20) (oi := { dst := some 62, op := Op.move (.tmp 1), type := 43, pos := "l09_jobs.go:223", after := #[⟨19, .guard⟩], guard := some (19, false) }) (v := ?_) rfl (by kernel_rfl) (by kernel_rfl) (by kernel_rfl) (fun _ _ _ h => h) (Or.inl ⟨by rfl, ?_⟩) hHeld ?_
                  rotate_left
                  · (intro wq hSw; (try dsimp only at hSw); first | (go_simp; done) | (go_simp; with_reducible rfl))
                  try simp only [Act.put, qa, qb, qc]
                  refine wpAnyH_take (i := 21) (oi := { dst := some 63, op := Op.move (.tmp 8), type := 3, pos := "l09_jobs.go:223", after := #[⟨19, .guard⟩], guard := some (19, false) }) (v := ?_) rfl (by kernel_rfl) (by kernel_rfl) (by kernel_rfl) (fun _ _ _ h => h) (Or.inl ⟨by rfl, ?_⟩) hHeld ?_
                  rotate_left
                  · (intro wq hSw; (try dsimp only at hSw); first | (go_simp; done) | (go_simp; with_reducible rfl))
                  try simp only [Act.put, qa, qb, qc]
                  refine wpAnyH_take (i := 22) (oi := { dst := some 64, op := Op.indexAddr 43 (.tmp 62) (.tmp 63), type := 0, pos := "l09_jobs.go:223", after := #[⟨20, .data⟩, ⟨21, .data⟩, ⟨19, .guard⟩], guard := some (19, false) }) (v := ?_) rfl (by kernel_rfl) (by kernel_rfl) (by kernel_rfl) (fun _ _ _ h => h) (Or.inl ⟨by rfl, ?_⟩) hHeld ?_
                  rotate_left
                  · (intro wq hSw; (try dsimp only at hSw); first | (go_simp; done) | (go_simp; with_reducible rfl))
                  try simp only [Act.put, qa, qb, qc]
                  refine wpAnyH_take (i := 23) (oi := { dst := some 65, op := Op.fieldAddr 48 (.tmp 64) 0, type := 0, pos := "l09_jobs.go:223", after := #[⟨22, .data⟩, ⟨19, .guard⟩], guard := some (19, false) }) (v := ?_) rfl (by kernel_rfl) (by kernel_rfl) (by kernel_rfl) (fun _ _ _ h => h) (Or.inl ⟨by rfl, ?_⟩) hHeld ?_
                  rotate_left
                  · (intro wq hSw; (try dsimp only at hSw); first | (go_simp; done) | (go_simp; with_reducible rfl))
                  try simp only [Act.put, qa, qb, qc]
                  refine wpAnyH_take (i := 24) (oi := { dst := some 66, op := Op.load 3 (.tmp 65), type := 3, pos := "l09_jobs.go:223", after := #[⟨23, .data⟩, ⟨19, .guard⟩], guard := some (19, false) }) (v := ?_) rfl (by kernel_rfl) (by kernel_rfl) (by kernel_rfl) (fun _ _ _ h => h) (Or.inl ⟨by rfl, ?_⟩) hHeld ?_
                  rotate_left
                  · (intro wq hSw; (try dsimp only at hSw); first | (go_simp; done) | (go_simp; with_reducible rfl))
                  try simp only [Act.put, qa, qb, qc]
                  refine wpAnyH_take (i := 25) (oi := { dst := some 67, op := Op.move (.tmp 1), type := 43, pos := "l09_jobs.go:223", after := #[⟨19, .guard⟩], guard := some (19, false) }) (v := ?_) rfl (by kernel_rfl) (by kernel_rfl) (by kernel_rfl) (fun _ _ _ h => h) (Or.inl ⟨by rfl, ?_⟩) hHeld ?_
                  rotate_left
                  · (intro wq hSw; (try dsimp only at hSw); first | (go_simp; done) | (go_simp; with_reducible rfl))
                  try simp only [Act.put, qa, qb, qc]
                  refine wpAnyH_take (i := 26) (oi := { dst := some 68, op := Op.move (.tmp 8), type := 3, pos := "l09_jobs.go:223", after := #[⟨19, .guard⟩], guard := some (19, false) }) (v := ?_) rfl (by kernel_rfl) (by kernel_rfl) (by kernel_rfl) (fun _ _ _ h => h) (Or.inl ⟨by rfl, ?_⟩) hHeld ?_
                  rotate_left
                  · (intro wq hSw; (try dsimp only at hSw); first | (go_simp; done) | (go_simp; with_reducible rfl))
                  try simp only [Act.put, qa, qb, qc]
                  refine wpAnyH_take (i := 27) (oi := { dst := some 69, op := Op.indexAddr 43 (.tmp 67) (.tmp 68), type := 0, pos := "l09_jobs.go:223", after := #[⟨25, .data⟩, ⟨26, .data⟩, ⟨19, .guard⟩], guard := some (19, false) }) (v := ?_) rfl (by kernel_rfl) (by kernel_rfl) (by kernel_rfl) (fun _ _ _ h => h) (Or.inl ⟨by rfl, ?_⟩) hHeld ?_
                  rotate_left
                  · (intro wq hSw; (try dsimp only at hSw); first | (go_simp; done) | (go_simp; with_reducible rfl))
                  try simp only [Act.put, qa, qb, qc]
                  refine wpAnyH_take (i := 28) (oi := { dst := some 70, op := Op.fieldAddr 48 (.tmp 69) 1, type := 0, pos := "l09_jobs.go:223", after := #[⟨27, .data⟩, ⟨19, .guard⟩], guard := some (19, false) }) (v := ?_) rfl (by kernel_rfl) (by kernel_rfl) (by kernel_rfl) (fun _ _ _ h => h) (Or.inl ⟨by rfl, ?_⟩) hHeld ?_
                  rotate_left
                  · (intro wq hSw; (try dsimp only at hSw); first | (go_simp; done) | (go_simp; with_reducible rfl))
                  try simp only [Act.put, qa, qb, qc]
                  refine wpAnyH_take (i := 29) (oi := { dst := some 71, op := Op.load 3 (.tmp 70), type := 3, pos := "l09_jobs.go:223", after := #[⟨28, .data⟩, ⟨19, .guard⟩], guard := some (19, false) }) (v := ?_) rfl (by kernel_rfl) (by kernel_rfl) (by kernel_rfl) (fun _ _ _ h => h) (Or.inl ⟨by rfl, ?_⟩) hHeld ?_
                  rotate_left
                  · (intro wq hSw; (try dsimp only at hSw); first | (go_simp; done) | (go_simp; with_reducible rfl))
                  try simp only [Act.put, qa, qb, qc]
                  refine wpAnyH_take (i := 30) (oi := { dst := some 72, op := Op.binOp BinOp.neq 3 (.tmp 66) (.tmp 71) 3, type := 4, pos := "l09_jobs.go:223", after := #[⟨24, .data⟩, ⟨29, .data⟩, ⟨19, .guard⟩], guard := some (19, false) }) (v := ?_) rfl (by kernel_rfl) (by kernel_rfl) (by kernel_rfl) (fun _ _ _ h => h) (Or.inl ⟨by rfl, ?_⟩) hHeld ?_
                  rotate_left
                  · (intro wq hSw; (try dsimp only at hSw); first | (go_simp; done) | (go_simp; with_reducible rfl))
                  try simp only [Act.put, qa, qb, qc]
                  refine wpAnyH_take (i := 31) (oi := { dst := some 73, op := Op.move (.tmp 72), type := 4, pos := "l09_jobs.go:223", after := #[⟨30, .data⟩, ⟨19, .chain⟩, ⟨19, .guard⟩], guard := some (19, false) }) (v := ?_) rfl (by kernel_rfl) (by kernel_rfl) (by kernel_rfl) (fun _ _ _ h => h) (Or.inl ⟨by rfl, ?_⟩) hHeld ?_
                  rotate_left
                  · (intro wq hSw; (try dsimp only at hSw); first | (go_simp; done) | (go_simp; with_reducible rfl))
                  try simp only [Act.put, qa, qb, qc]
                  refine wpAnyH_take (i := 32) (oi := { dst := some 74, op := Op.move (.tmp 1), type := 43, pos := "l09_jobs.go:223", after := #[⟨31, .guard⟩], guard := some (31, true) }) (v := undef) rfl (by kernel_rfl) (by kernel_rfl) (by kernel_rfl) (fun _ _ _ h => h) (Or.inr ⟨by rfl, rfl⟩) hHeld ?_
                  try simp only [Act.put, qa, qb, qc]
                  refine wpAnyH_take (i := 33) (oi := { dst := some 75, op := Op.move (.tmp 8), type := 3, pos := "l09_jobs.go:223", after := #[⟨31, .guard⟩], guard := some (31, true) }) (v := undef) rfl (by kernel_rfl) (by kernel_rfl) (by kernel_rfl) (fun _ _ _ h => h) (Or.inr ⟨by rfl, rfl⟩) hHeld ?_
                  try simp only [Act.put, qa, qb, qc]
                  refine wpAnyH_take (i := 34) (oi := { dst := some 76, op := Op.indexAddr 43 (.tmp 74) (.tmp 75), type := 0, pos := "l09_jobs.go:223", after := #[⟨32, .data⟩, ⟨33, .data⟩, ⟨31, .guard⟩], guard := some (31, true) }) (v := undef) rfl (by kernel_rfl) (by kernel_rfl) (by kernel_rfl) (fun _ _ _ h => h) (Or.inr ⟨by rfl, rfl⟩) hHeld ?_
                  try simp only [Act.put, qa, qb, qc]
                  refine wpAnyH_take (i := 35) (oi := { dst := some 77, op := Op.fieldAddr 48 (.tmp 76) 0, type := 0, pos := "l09_jobs.go:223", after := #[⟨34, .data⟩, ⟨31, .guard⟩], guard := some (31, true) }) (v := undef) rfl (by kernel_rfl) (by kernel_rfl) (by kernel_rfl) (fun _ _ _ h => h) (Or.inr ⟨by rfl, rfl⟩) hHeld ?_
                  try simp only [Act.put, qa, qb, qc]
                  refine wpAnyH_take (i := 36) (oi := { dst := some 78, op := Op.load 3 (.tmp 77), type := 3, pos := "l09_jobs.go:223", after := #[⟨35, .data⟩, ⟨31, .guard⟩], guard := some (31, true) }) (v := undef) rfl (by kernel_rfl) (by kernel_rfl) (by kernel_rfl) (fun _ _ _ h => h) (Or.inr ⟨by rfl, rfl⟩) hHeld ?_
                  try simp only [Act.put, qa, qb, qc]
                  refine wpAnyH_take (i := 37) (oi := { dst := some 79, op := Op.move (.tmp 1), type := 43, pos := "l09_jobs.go:223", after := #[⟨31, .guard⟩], guard := some (31, true) }) (v := undef) rfl (by kernel_rfl) (by kernel_rfl) (by kernel_rfl) (fun _ _ _ h => h) (Or.inr ⟨by rfl, rfl⟩) hHeld ?_
                  try simp only [Act.put, qa, qb, qc]
                  refine wpAnyH_take (i := 38) (oi := { dst := some 80, op := Op.move (.tmp 8), type := 3, pos := "l09_jobs.go:223", after := #[⟨31, .guard⟩], guard := some (31, true) }) (v := undef) rfl (by kernel_rfl) (by kernel_rfl) (by kernel_rfl) (fun _ _ _ h => h) (Or.inr ⟨by rfl, rfl⟩) hHeld ?_
                  try simp only [Act.put, qa, qb, qc]
                  refine wpAnyH_take (i := 39) (oi := { dst := some 81, op := Op.indexAddr 43 (.tmp 79) (.tmp 80), type := 0, pos := "l09_jobs.go:223", after := #[⟨37, .data⟩, ⟨38, .data⟩, ⟨31, .guard⟩], guard := some (31, true) }) (v := undef) rfl (by kernel_rfl) (by kernel_rfl) (by kernel_rfl) (fun _ _ _ h => h) (Or.inr ⟨by rfl, rfl⟩) hHeld ?_
                  try simp only [Act.put, qa, qb, qc]
                  refine wpAnyH_take (i := 40) (oi := { dst := some 82, op := Op.fieldAddr 48 (.tmp 81) 1, type := 0, pos := "l09_jobs.go:223", after := #[⟨39, .data⟩, ⟨31, .guard⟩], guard := some (31, true) }) (v := undef) rfl (by kernel_rfl) (by kernel_rfl) (by kernel_rfl) (fun _ _ _ h => h) (Or.inr ⟨by rfl, rfl⟩) hHeld ?_
                  try simp only [Act.put, qa, qb, qc]
                  refine wpAnyH_take (i := 41) (oi := { dst := some 83, op := Op.load 3 (.tmp 82), type := 3, pos := "l09_jobs.go:223", after := #[⟨40, .data⟩, ⟨31, .guard⟩], guard := some (31, true) }) (v := undef) rfl (by kernel_rfl) (by kernel_rfl) (by kernel_rfl) (fun _ _ _ h => h) (Or.inr ⟨by rfl, rfl⟩) hHeld ?_
                  try simp only [Act.put, qa, qb, qc]
                  refine wpAnyH_take (i := 42) (oi := { dst := some 84, op := Op.call { callee := Callee.value (.func 57), args := #[.tmp 6, .tmp 78, .tmp 83], argTypes := #[85, 3, 3] }, type := 4, pos := "l09_jobs.go:223", after := #[⟨36, .data⟩, ⟨41, .data⟩, ⟨31, .chain⟩, ⟨31, .guard⟩], guard := some (31, true) }) (v := undef) rfl (by kernel_rfl) (by kernel_rfl) (by kernel_rfl) (fun _ _ _ h => h) (Or.inr ⟨by rfl, rfl⟩) hHeld ?_
                  try simp only [Act.put, qa, qb, qc]
                  refine wpAnyH_take (i := 43) (oi := { dst := some 85, op := Op.pick (.tmp 73) (.tmp 84) (.const (Value.bool false)), type := 4, pos := "l09_jobs.go:223", after := #[⟨31, .data⟩, ⟨42, .data⟩, ⟨19, .guard⟩], guard := some (19, false) }) (v := ?_) rfl (by kernel_rfl) (by kernel_rfl) (by kernel_rfl) (fun _ _ _ h => h) (Or.inl ⟨by rfl, ?_⟩) hHeld ?_
                  rotate_left
                  · (intro wq hSw; (try dsimp only at hSw); first | (go_simp; done) | (go_simp; with_reducible rfl))
                  try simp only [Act.put, qa, qb, qc]
                  refine wpAnyH_take (i := 44) (oi := { dst := some 86, op := Op.pick (.tmp 61) (.const (Value.bool true)) (.tmp 85), type := 4, pos := "l09_jobs.go:223", after := #[⟨19, .data⟩, ⟨43, .data⟩], guard := none }) (v := ?_) rfl (by kernel_rfl) (by kernel_rfl) (by kernel_rfl) (fun _ _ _ h => h) (Or.inl ⟨by rfl, ?_⟩) hHeld ?_
                  rotate_left
                  · (intro wq hSw; (try dsimp only at hSw); first | (go_simp; done) | (go_simp; with_reducible rfl))
                  try simp only [Act.put, qa, qb, qc]
                  refine wpAnyH_done (by kernel_rfl) ?_ _
                  clear hHeld
                  go_wp2_with fail
                  go_roundw
                  case rel => exact ⟨k + 1, m, f5, rv5, by omega, by omega, by go_num, rfl, hide (by rw [hE.out]), hide (by rw [hE.out]; exact G5.out), F5, B5, R5, Z5⟩
                  case measure => simp [intOf]; omega
                · have hE := hide (show playK p zs (k + 1) = (takeP pk Wn, m + 1) from by rw [hst.out, hmay, hbz]; rw [pickP_take (by rw [isWk_len hdq.out]; exact hm2.out.symm) (by rw [← hWn]; exact hbz), ← hWn]; rfl)
                  have kC := fun ww (h : BoxO ww f w1.heap.size g ⟨.slice A0' p.js.length c0', .slice A1' p.dq.length c1', .slice A2' p.ran.length c2', .slice A3' p.dn.length c3', .slice A4' p.lf.length c4', .slice A5' p.sm.length c5', .slice A6' p.vl.length c6', kv, rv⟩ pk) (hz2 : w1.heap.size ≤ ww.heap.size) => ltake_all f w1.heap.size g _ pk Wn ww hIk.out hkid hWl hz2 h
                  rw [hbz] at kC
                  rw [if_pos rfl] at kC
                  rw [← hWe] at kC
                  replace kC := hide kC
                  clear hmay hbz hst hIk hkid hdq hWe hWn hWl 
                  refine wp_region_held_drew (S := (fun w' => w'.cell? ⟨b, off + k * 2, none⟩ = some (.int .i64 W) ∧ w'.cell? ⟨b, off + k * 2 + 1, none⟩ = some (.int .i64 W))) (by kernel_rfl) ?_ (fun hHeld => ?_)
                  · exact ⟨e0.out, e1.out⟩
                  refine wpAnyH_take (i := 0) (oi := { dst := some 42, op := Op.move (.tmp 1), type := 43, pos := "l09_jobs.go:223", after := #[], guard := none }) (v := ?_) rfl (by kernel_rfl) (by kernel_rfl) (by kernel_rfl) (fun _ _ _ h => h) (Or.inl ⟨by rfl, ?_⟩) hHeld ?_
                  rotate_left
                  · (intro wq hSw; (try dsimp only at hSw); first | (go_simp; done) | (go_simp; with_reducible rfl))
                  try simp only [Act.put, qa, qb, qc]
                  refine wpAnyH_take (i := 1) (oi := { dst := some 43, op := Op.move (.tmp 8), type := 3, pos := "l09_jobs.go:223", after := #[], guard := none }) (v := ?_) rfl (by kernel_rfl) (by kernel_rfl) (by kernel_rfl) (fun _ _ _ h => h) (Or.inl ⟨by rfl, ?_⟩) hHeld ?_
                  rotate_left
                  · (intro wq hSw; (try dsimp only at hSw); first | (go_simp; done) | (go_simp; with_reducible rfl))
                  try simp only [Act.put, qa, qb, qc]
                  refine wpAnyH_take (i := 2) (oi := { dst := some 44, op := Op.indexAddr 43 (.tmp 42) (.tmp 43), type := 0, pos := "l09_jobs.go:223", after := #[⟨0, .data⟩, ⟨1, .data⟩], guard := none }) (v := ?_) rfl (by kernel_rfl) (by kernel_rfl) (by kernel_rfl) (fun _ _ _ h => h) (Or.inl ⟨by rfl, ?_⟩) hHeld ?_
                  rotate_left
                  · (intro wq hSw; (try dsimp only at hSw); first | (go_simp; done) | (go_simp; with_reducible rfl))
                  try simp only [Act.put, qa, qb, qc]
                  refine wpAnyH_take (i := 3) (oi := { dst := some 45, op := Op.fieldAddr 48 (.tmp 44) 0, type := 0, pos := "l09_jobs.go:223", after := #[⟨2, .data⟩], guard := none }) (v := ?_) rfl (by kernel_rfl) (by kernel_rfl) (by kernel_rfl) (fun _ _ _ h => h) (Or.inl ⟨by rfl, ?_⟩) hHeld ?_
                  rotate_left
                  · (intro wq hSw; (try dsimp only at hSw); first | (go_simp; done) | (go_simp; with_reducible rfl))
                  try simp only [Act.put, qa, qb, qc]
                  refine wpAnyH_take (i := 4) (oi := { dst := some 46, op := Op.load 3 (.tmp 45), type := 3, pos := "l09_jobs.go:223", after := #[⟨3, .data⟩], guard := none }) (v := ?_) rfl (by kernel_rfl) (by kernel_rfl) (by kernel_rfl) (fun _ _ _ h => h) (Or.inl ⟨by rfl, ?_⟩) hHeld ?_
                  rotate_left
                  · (intro wq hSw; (try dsimp only at hSw); first | (go_simp; done) | (go_simp; with_reducible rfl))
                  try simp only [Act.put, qa, qb, qc]
                  refine wpAnyH_take (i := 5) (oi := { dst := some 47, op := Op.move (.tmp 1), type := 43, pos := "l09_jobs.go:223", after := #[], guard := none }) (v := ?_) rfl (by kernel_rfl) (by kernel_rfl) (by kernel_rfl) (fun _ _ _ h => h) (Or.inl ⟨by rfl, ?_⟩) hHeld ?_
                  rotate_left
                  · (intro wq hSw; (try dsimp only at hSw); first | (go_simp; done) | (go_simp; with_reducible rfl))
                  try simp only [Act.put, qa, qb, qc]
                  refine wpAnyH_take (i := 6) (oi := { dst := some 48, op := Op.move (.tmp 8), type := 3, pos := "l09_jobs.go:223", after := #[], guard := none }) (v := ?_) rfl (by kernel_rfl) (by kernel_rfl) (by kernel_rfl) (fun _ _ _ h => h) (Or.inl ⟨by rfl, ?_⟩) hHeld ?_
                  rotate_left
                  · (intro wq hSw; (try dsimp only at hSw); first | (go_simp; done) | (go_simp; with_reducible rfl))
                  try simp only [Act.put, qa, qb, qc]
                  refine wpAnyH_take (i := 7) (oi := { dst := some 49, op := Op.indexAddr 43 (.tmp 47) (.tmp 48), type := 0, pos := "l09_jobs.go:223", after := #[⟨5, .data⟩, ⟨6, .data⟩], guard := none }) (v := ?_) rfl (by kernel_rfl) (by kernel_rfl) (by kernel_rfl) (fun _ _ _ h => h) (Or.inl ⟨by rfl, ?_⟩) hHeld ?_
                  rotate_left
                  · (intro wq hSw; (try dsimp only at hSw); first | (go_simp; done) | (go_simp; with_reducible rfl))
                  try simp only [Act.put, qa, qb, qc]
                  refine wpAnyH_take (i := 8) (oi := { dst := some 50, op := Op.fieldAddr 48 (.tmp 49) 1, type := 0, pos := "l09_jobs.go:223", after := #[⟨7, .data⟩], guard := none }) (v := ?_) rfl (by kernel_rfl) (by kernel_rfl) (by kernel_rfl) (fun _ _ _ h => h) (Or.inl ⟨by rfl, ?_⟩) hHeld ?_
                  rotate_left
                  · (intro wq hSw; (try dsimp only at hSw); first | (go_simp; done) | (go_simp; with_reducible rfl))
                  try simp only [Act.put, qa, qb, qc]
                  refine wpAnyH_take (i := 9) (oi := { dst := some 51, op := Op.load 3 (.tmp 50), type := 3, pos := "l09_jobs.go:223", after := #[⟨8, .data⟩], guard := none }) (v := ?_) rfl (by kernel_rfl) (by kernel_rfl) (by kernel_rfl) (fun _ _ _ h => h) (Or.inl ⟨by rfl, ?_⟩) hHeld ?_
                  rotate_left
                  · (intro wq hSw; (try dsimp only at hSw); first | (go_simp; done) | (go_simp; with_reducible rfl))
                  try simp only [Act.put, qa, qb, qc]
                  refine wpAnyH_take (i := 10) (oi := { dst := some 52, op := Op.binOp BinOp.eql 3 (.tmp 46) (.tmp 51) 3, type := 4, pos := "l09_jobs.go:223", after := #[⟨4, .data⟩, ⟨9, .data⟩], guard := none }) (v := ?_) rfl (by kernel_rfl) (by kernel_rfl) (by kernel_rfl) (fun _ _ _ h => h) (Or.inl ⟨by rfl, ?_⟩) hHeld ?_
                  rotate_left
                  · (intro wq hSw; (try dsimp only at hSw); first | (go_simp; done) | (go_simp; with_reducible rfl))
                  try simp only [Act.put, qa, qb, qc]
                  refine wpAnyH_take (i := 11) (oi := { dst := some 53, op := Op.move (.tmp 52), type := 4, pos := "l09_jobs.go:223", after := #[⟨10, .data⟩], guard := none }) (v := ?_) rfl (by kernel_rfl) (by kernel_rfl) (by kernel_rfl) (fun _ _ _ h => h) (Or.inl ⟨by rfl, ?_⟩) hHeld ?_
                  rotate_left
                  · (intro wq hSw; (try dsimp only at hSw); first | (go_simp; done) | (go_simp; with_reducible rfl))
                  try simp only [Act.put, qa, qb, qc]
                  refine wpAnyH_take (i := 12) (oi := { dst := some 54, op := Op.move (.tmp 1), type := 43, pos := "l09_jobs.go:223", after := #[⟨11, .guard⟩], guard := some (11, true) }) (v := ?_) rfl (by kernel_rfl) (by kernel_rfl) (by kernel_rfl) (fun _ _ _ h => h) (Or.inl ⟨by rfl, ?_⟩) hHeld ?_
                  rotate_left
                  · (intro wq hSw; (try dsimp only at hSw); first | (go_simp; done) | (go_simp; with_reducible rfl))
                  try simp only [Act.put, qa, qb, qc]
                  refine wpAnyH_take (i := 13) (oi := { dst := some 55, op := Op.move (.tmp 8), type := 3, pos := "l09_jobs.go:223", after := #[⟨11, .guard⟩], guard := some (11, true) }) (v := ?_) rfl (by kernel_rfl) (by kernel_rfl) (by kernel_rfl) (fun _ _ _ h => h) (Or.inl ⟨by rfl, ?_⟩) hHeld ?_
                  rotate_left
                  · (intro wq hSw; (try dsimp only at hSw); first | (go_simp; done) | (go_simp; with_reducible rfl))
                  try simp only [Act.put, qa, qb, qc]
                  refine wpAnyH_take (i := 14) (oi := { dst := some 56, op := Op.indexAddr 43 (.tmp 54) (.tmp 55), type := 0, pos := "l09_jobs.go:223", after := #[⟨12, .data⟩, ⟨13, .data⟩, ⟨11, .guard⟩], guard := some (11, true) }) (v := ?_) rfl (by kernel_rfl) (by kernel_rfl) (by kernel_rfl) (fun _ _ _ h => h) (Or.inl ⟨by rfl, ?_⟩) hHeld ?_
                  rotate_left
                  · (intro wq hSw; (try dsimp only at hSw); first | (go_simp; done) | (go_simp; with_reducible rfl))
                  try simp only [Act.put, qa, qb, qc]
                  refine wpAnyH_take (i := 15) (oi := { dst := some 57, op := Op.fieldAddr 48 (.tmp 56) 0, type := 0, pos := "l09_jobs.go:223", after := #[⟨14, .data⟩, ⟨11, .guard⟩], guard := some (11, true) }) (v := ?_) rfl (by kernel_rfl) (by kernel_rfl) (by kernel_rfl) (fun _ _ _ h => h) (Or.inl ⟨by rfl, ?_⟩) hHeld ?_
                  rotate_left
                  · (intro wq hSw; (try dsimp only at hSw); first | (go_simp; done) | (go_simp; with_reducible rfl))
                  try simp only [Act.put, qa, qb, qc]
                  refine wpAnyH_take (i := 16) (oi := { dst := some 58, op := Op.load 3 (.tmp 57), type := 3, pos := "l09_jobs.go:223", after := #[⟨15, .data⟩, ⟨11, .guard⟩], guard := some (11, true) }) (v := ?_) rfl (by kernel_rfl) (by kernel_rfl) (by kernel_rfl) (fun _ _ _ h => h) (Or.inl ⟨by rfl, ?_⟩) hHeld ?_
                  rotate_left
                  · (intro wq hSw; (try dsimp only at hSw); first | (go_simp; done) | (go_simp; with_reducible rfl))
                  try simp only [Act.put, qa, qb, qc]
                  refine wpAnyH_ready (rs := [17]) (by kernel_rfl) (by simp) ?_
                  refine AllReadyH.cons (o := { dst := some 59, op := Op.call { callee := Callee.value (.func 64), args := #[.tmp 6, .tmp 58], argTypes := #[85, 3] }, type := 4, pos := "l09_jobs.go:223", after := #[⟨16, .data⟩, ⟨11, .chain⟩, ⟨11, .guard⟩], guard := some (11, true) }) rfl (fun K hK => ?_) AllReadyH.nil
                  go_simp
                  go_at_call 64
                  refine (kC.out _ G4.out Z4.out).mono ?_
                  rintro e w5 ⟨rfl, f5, rv5, G5, C5, hf5⟩
                  have G5 := hide G5
                  have hbC := hide (C5.below Z0.out Z4z.out)
                  have B5 := hide (B4.out.trans hbC.out)
                  have R5 := hide (show Blk w5 (q + 1) 28 #[.slice none 0 0, .slice none 0 0, .slice none 0 0, .slice none 0 0, .slice none 0 0, .slice none 0 0, .slice none 0 0] from (C5.block (q + 1) R4.out.lt (fun e => e.1 (hF.out _ S6.out.1))).trans R4.out)
                  have Z5 := hide (Nat.le_trans Z4.out C5.size)
                  have F5 := hide (show ∀ x, x < w1.heap.size → f5 x = 0 from fun x hx => (hf5 x (Nat.lt_of_lt_of_le hx Z4.out)).trans (hF.out x hx))
                  clear C5 hf5
                  refine hK.out _ _ ?_ (fun hHeldN => ?_)
                  · exact ⟨(hbC.out.cell (p := ⟨b, off + k * 2, none⟩) hbS).trans e0.out, (hbC.out.cell (p := ⟨b, off + k * 2 + 1, none⟩) hbS).trans e1.out⟩
                  clear hK K hHeld
                  have hHeld := hHeldN
                  clear hHeldN
                  try simp only [Act.put, qa, qb, qc]
                  refine wpAnyH_take (i := 18) (oi := { dst := some 60, op := Op.pick (.tmp 53) (.tmp 59) (.const (Value.bool false)), type := 4, pos := "l09_jobs.go:223", after := #[⟨11, .data⟩, ⟨17, .data⟩], guard := none }) (v := ?_) rfl (by kernel_rfl) (by kernel_rfl) (by kernel_rfl) (fun _ _ _ h => h) (Or.inl ⟨by rfl, ?_⟩) hHeld ?_
                  rotate_left
                  · (intro wq hSw; (try dsimp only at hSw); first | (go_simp; done) | (go_simp; with_reducible rfl))
                  try simp only [Act.put, qa, qb, qc]
                  refine wpAnyH_take (i := 19) (oi := { dst := some 61, op := Op.move (.tmp 60), type := 4, pos := "l09_jobs.go:223", after := #[⟨18, .data⟩, ⟨17, .chain⟩], guard := none }) (v := ?_) rfl (by kernel_rfl) (by kernel_rfl) (by kernel_rfl) (fun _ _ _ h => h) (Or.inl ⟨by rfl, ?_⟩) hHeld ?_
                  rotate_left
                  · (intro wq hSw; (try dsimp only at hSw); first | (go_simp; done) | (go_simp; with_reducible rfl))
                  try simp only [Act.put, qa, qb, qc]
                  refine wpAnyH_take (i := 20) (oi := { dst := some 62, op := Op.move (.tmp 1), type := 43, pos := "l09_jobs.go:223", after := #[⟨19, .guard⟩], guard := some (19, false) }) (v := undef) rfl (by kernel_rfl) (by kernel_rfl) (by kernel_rfl) (fun _ _ _ h => h) (Or.inr ⟨by rfl, rfl⟩) hHeld ?_
                  try simp only [Act.put, qa, qb, qc]
                  refine wpAnyH_take (i := 21) (oi := { dst := some 63, op := Op.move (.tmp 8), type := 3, pos := "l09_jobs.go:223", after := #[⟨19, .guard⟩], guard := some (19, false) }) (v := undef) rfl (by kernel_rfl) (by kernel_rfl) (by kernel_rfl) (fun _ _ _ h => h) (Or.inr ⟨by rfl, rfl⟩) hHeld ?_
                  try simp only [Act.put, qa, qb, qc]
                  refine wpAnyH_take (i := 22) (oi := { dst := some 64, op := Op.indexAddr 43 (.tmp 62) (.tmp 63), type := 0, pos := "l09_jobs.go:223", after := #[⟨20, .data⟩, ⟨21, .data⟩, ⟨19, .guard⟩], guard := some (19, false) }) (v := undef) rfl (by kernel_rfl) (by kernel_rfl) (by kernel_rfl) (fun _ _ _ h => h) (Or.inr ⟨by rfl, rfl⟩) hHeld ?_
                  try simp only [Act.put, qa, qb, qc]
                  refine wpAnyH_take (i := 23) (oi := { dst := some 65, op := Op.fieldAddr 48 (.tmp 64) 0, type := 0, pos := "l09_jobs.go:223", after := #[⟨22, .data⟩, ⟨19, .guard⟩], guard := some (19, false) }) (v := undef) rfl (by kernel_rfl) (by kernel_rfl) (by kernel_rfl) (fun _ _ _ h => h) (Or.inr ⟨by rfl, rfl⟩) hHeld ?_
                  try simp only [Act.put, qa, qb, qc]
                  refine wpAnyH_take (i := 24) (oi := { dst := some 66, op := Op.load 3 (.tmp 65), type := 3, pos := "l09_jobs.go:223", after := #[⟨23, .data⟩, ⟨19, .guard⟩], guard := some (19, false) }) (v := undef) rfl (by kernel_rfl) (by kernel_rfl) (by kernel_rfl) (fun _ _ _ h => h) (Or.inr ⟨by rfl, rfl⟩) hHeld ?_
                  try simp only [Act.put, qa, qb, qc]
                  refine wpAnyH_take (i := 25) (oi := { dst := some 67, op := Op.move (.tmp 1), type := 43, pos := "l09_jobs.go:223", after := #[⟨19, .guard⟩], guard := some (19, false) }) (v := undef) rfl (by kernel_rfl) (by kernel_rfl) (by kernel_rfl) (fun _ _ _ h => h) (Or.inr ⟨by rfl, rfl⟩) hHeld ?_
                  try simp only [Act.put, qa, qb, qc]
                  refine wpAnyH_take (i := 26) (oi := { dst := some 68, op := Op.move (.tmp 8), type := 3, pos := "l09_jobs.go:223", after := #[⟨19, .guard⟩], guard := some (19, false) }) (v := undef) rfl (by kernel_rfl) (by kernel_rfl) (by kernel_rfl) (fun _ _ _ h => h) (Or.inr ⟨by rfl, rfl⟩) hHeld ?_
                  try simp only [Act.put, qa, qb, qc]
                  refine wpAnyH_take (i := 27) (oi := { dst := some 69, op := Op.indexAddr 43 (.tmp 67) (.tmp 68), type := 0, pos := "l09_jobs.go:223", after := #[⟨25, .data⟩, ⟨26, .data⟩, ⟨19, .guard⟩], guard := some (19, false) }) (v := undef) rfl (by kernel_rfl) (by kernel_rfl) (by kernel_rfl) (fun _ _ _ h => h) (Or.inr ⟨by rfl, rfl⟩) hHeld ?_
                  try simp only [Act.put, qa, qb, qc]
                  refine wpAnyH_take (i := 28) (oi := { dst := some 70, op := Op.fieldAddr 48 (.tmp 69) 1, type := 0, pos := "l09_jobs.go:223", after := #[⟨27, .data⟩, ⟨19, .guard⟩], guard := some (19, false) }) (v := undef) rfl (by kernel_rfl) (by kernel_rfl) (by kernel_rfl) (fun _ _ _ h => h) (Or.inr ⟨by rfl, rfl⟩) hHeld ?_
                  try simp only [Act.put, qa, qb, qc]
                  refine wpAnyH_take (i := 29) (oi := { dst := some 71, op := Op.load 3 (.tmp 70), type := 3, pos := "l09_jobs.go:223", after := #[⟨28, .data⟩, ⟨19, .guard⟩], guard := some (19, false) }) (v := undef) rfl (by kernel_rfl) (by kernel_rfl) (by kernel_rfl) (fun _ _ _ h => h) (Or.inr ⟨by rfl, rfl⟩) hHeld ?_
                  try simp only [Act.put, qa, qb, qc]
                  refine wpAnyH_take (i := 30) (oi := { dst := some 72, op := Op.binOp BinOp.neq 3 (.tmp 66) (.tmp 71) 3, type := 4, pos := "l09_jobs.go:223", after := #[⟨24, .data⟩, ⟨29, .data⟩, ⟨19, .guard⟩], guard := some (19, false) }) (v := undef) rfl (by kernel_rfl) (by kernel_rfl) (by kernel_rfl) (fun _ _ _ h => h) (Or.inr ⟨by rfl, rfl⟩) hHeld ?_
                  try simp only [Act.put, qa, qb, qc]
                  refine wpAnyH_take (i := 31) (oi := { dst := some 73, op := Op.move (.tmp 72), type := 4, pos := "l09_jobs.go:223", after := #[⟨30, .data⟩, ⟨19, .chain⟩, ⟨19, .guard⟩], guard := some (19, false) }) (v := undef) rfl (by kernel_rfl) (by kernel_rfl) (by kernel_rfl) (fun _ _ _ h => h) (Or.inr ⟨by rfl, rfl⟩) hHeld ?_
                  try simp only [Act.put, qa, qb, qc]
                  refine wpAnyH_take (i := 32) (oi := { dst := some 74, op := Op.move (.tmp 1), type := 43, pos := "l09_jobs.go:223", after := #[⟨31, .guard⟩], guard := some (31, true) }) (v := undef) rfl (by kernel_rfl) (by kernel_rfl) (by kernel_rfl) (fun _ _ _ h => h) (Or.inr ⟨by rfl, rfl⟩) hHeld ?_
                  try simp only [Act.put, qa, qb, qc]
                  refine wpAnyH_take (i := 33) (oi := { dst := some 75, op := Op.move (.tmp 8), type := 3, pos := "l09_jobs.go:223", after := #[⟨31, .guard⟩], guard := some (31, true) }) (v := undef) rfl (by kernel_rfl) (by kernel_rfl) (by kernel_rfl) (fun _ _ _ h => h) (Or.inr ⟨by rfl, rfl⟩) hHeld ?_
                  try simp only [Act.put, qa, qb, qc]
                  refine wpAnyH_take (i := 34) (oi := { dst := some 76, op := Op.indexAddr 43 (.tmp 74) (.tmp 75), type := 0, pos := "l09_jobs.go:223", after := #[⟨32, .data⟩, ⟨33, .data⟩, ⟨31, .guard⟩], guard := some (31, true) }) (v := undef) rfl (by kernel_rfl) (by kernel_rfl) (by kernel_rfl) (fun _ _ _ h => h) (Or.inr ⟨by rfl, rfl⟩) hHeld ?_
                  try simp only [Act.put, qa, qb, qc]
                  refine wpAnyH_take (i := 35) (oi := { dst := some 77, op := Op.fieldAddr 48 (.tmp 76) 0, type := 0, pos := "l09_jobs.go:223", after := #[⟨34, .data⟩, ⟨31, .guard⟩], guard := some (31, true) }) (v := undef) rfl (by kernel_rfl) (by kernel_rfl) (by kernel_rfl) (fun _ _ _ h => h) (Or.inr ⟨by rfl, rfl⟩) hHeld ?_
                  try simp only [Act.put, qa, qb, qc]
                  refine wpAnyH_take (i := 36) (oi := { dst := some 78, op := Op.load 3 (.tmp 77), type := 3, pos := "l09_jobs.go:223", after := #[⟨35, .data⟩, ⟨31, .guard⟩], guard := some (31, true) }) (v := undef) rfl (by kernel_rfl) (by kernel_rfl) (by kernel_rfl) (fun _ _ _ h => h) (Or.inr ⟨by rfl, rfl⟩) hHeld ?_
                  try simp only [Act.put, qa, qb, qc]
                  refine wpAnyH_take (i := 37) (oi := { dst := some 79, op := Op.move (.tmp 1), type := 43, pos := "l09_jobs.go:223", after := #[⟨31, .guard⟩], guard := some (31, true) }) (v := undef) rfl (by kernel_rfl) (by kernel_rfl) (by kernel_rfl) (fun _ _ _ h => h) (Or.inr ⟨by rfl, rfl⟩) hHeld ?_
                  try simp only [Act.put, qa, qb, qc]
                  refine wpAnyH_take (i := 38) (oi := { dst := some 80, op := Op.move (.tmp 8), type := 3, pos := "l09_jobs.go:223", after := #[⟨31, .guard⟩], guard := some (31, true) }) (v := undef) rfl (by kernel_rfl) (by kernel_rfl) (by kernel_rfl) (fun _ _ _ h => h) (Or.inr ⟨by rfl, rfl⟩) hHeld ?_
                  try simp only [Act.put, qa, qb, qc]
                  refine wpAnyH_take (i := 39) (oi := { dst := some 81, op := Op.indexAddr 43 (.tmp 79) (.tmp 80), type := 0, pos := "l09_jobs.go:223", after := #[⟨37, .data⟩, ⟨38, .data⟩, ⟨31, .guard⟩], guard := some (31, true) }) (v := undef) rfl (by kernel_rfl) (by kernel_rfl) (by kernel_rfl) (fun _ _ _ h => h) (Or.inr ⟨by rfl, rfl⟩) hHeld ?_
                  try simp only [Act.put, qa, qb, qc]
                  refine wpAnyH_take (i := 40) (oi := { dst := some 82, op := Op.fieldAddr 48 (.tmp 81) 1, type := 0, pos := "l09_jobs.go:223", after := #[⟨39, .data⟩, ⟨31, .guard⟩], guard := some (31, true) }) (v := undef) rfl (by kernel_rfl) (by kernel_rfl) (by kernel_rfl) (fun _ _ _ h => h) (Or.inr ⟨by rfl, rfl⟩) hHeld ?_
                  try simp only [Act.put, qa, qb, qc]
                  refine wpAnyH_take (i := 41) (oi := { dst := some 83, op := Op.load 3 (.tmp 82), type := 3, pos := "l09_jobs.go:223", after := #[⟨40, .data⟩, ⟨31, .guard⟩], guard := some (31, true) }) (v := undef) rfl (by kernel_rfl) (by kernel_rfl) (by kernel_rfl) (fun _ _ _ h => h) (Or.inr ⟨by rfl, rfl⟩) hHeld ?_
                  try simp only [Act.put, qa, qb, qc]
                  refine wpAnyH_take (i := 42) (oi := { dst := some 84, op := Op.call { callee := Callee.value (.func 57), args := #[.tmp 6, .tmp 78, .tmp 83], argTypes := #[85, 3, 3] }, type := 4, pos := "l09_jobs.go:223", after := #[⟨36, .data⟩, ⟨41, .data⟩, ⟨31, .chain⟩, ⟨31, .guard⟩], guard := some (31, true) }) (v := undef) rfl (by kernel_rfl) (by kernel_rfl) (by kernel_rfl) (fun _ _ _ h => h) (Or.inr ⟨by rfl, rfl⟩) hHeld ?_
                  try simp only [Act.put, qa, qb, qc]
                  refine wpAnyH_take (i := 43) (oi := { dst := some 85, op := Op.pick (.tmp 73) (.tmp 84) (.const (Value.bool false)), type := 4, pos := "l09_jobs.go:223", after := #[⟨31, .data⟩, ⟨42, .data⟩, ⟨19, .guard⟩], guard := some (19, false) }) (v := undef) rfl (by kernel_rfl) (by kernel_rfl) (by kernel_rfl) (fun _ _ _ h => h) (Or.inr ⟨by rfl, rfl⟩) hHeld ?_
                  try simp only [Act.put, qa, qb, qc]
                  refine wpAnyH_take (i := 44) (oi := { dst := some 86, op := Op.pick (.tmp 61) (.const (Value.bool true)) (.tmp 85), type := 4, pos := "l09_jobs.go:223", after := #[⟨19, .data⟩, ⟨43, .data⟩], guard := none }) (v := ?_) rfl (by kernel_rfl) (by kernel_rfl) (by kernel_rfl) (fun _ _ _ h => h) (Or.inl ⟨by rfl, ?_⟩) hHeld ?_
                  rotate_left
                  · (intro wq hSw; (try dsimp only at hSw); first | (go_simp; done) | (go_simp; with_reducible rfl))
                  try simp only [Act.put, qa, qb, qc]
                  refine wpAnyH_done (by kernel_rfl) ?_ _
                  clear hHeld
                  go_wp2_with fail
                  go_roundw
                  case rel => exact ⟨k + 1, m + 1, f5, rv5, by omega, by omega, by go_num, by go_num, hide (by rw [hE.out]), hide (by rw [hE.out]; exact G5.out), F5, B5, R5, Z5⟩
                  case measure => simp [intOf]; omega
              · have hWVb : (W == V) = false := beq_eq_false_iff_ne.2 hWV
                have hWVc : (W != V) = true := by simp [hWV]
                obtain ⟨Wn, hWn⟩ : ∃ x : Nat, x = W.toNat := ⟨_, rfl⟩
                have hWe : W = (Wn : Int) := by have := of_decide_eq_true hm2.out.symm; omega
                have hWl : Wn < pk.dq.length := by have := of_decide_eq_true hm2.out.symm; have := hdq.out; omega
                obtain ⟨Vn, hVn⟩ : ∃ x : Nat, x = V.toNat := ⟨_, rfl⟩
                have hVe : V = (Vn : Int) := by have := of_decide_eq_true hm3.out.symm; omega
                have hVl : Vn < pk.dq.length := by have := of_decide_eq_true hm3.out.symm; have := hdq.out; omega
                have hnk : Wn ≠ Vn := fun e => hWV (by rw [hWe, hVe, e])
                have hmay : mayP pk W V = busyB pk Vn := by
                  rw [mayP_eq, isWk_len hdq.out W, isWk_len hdq.out V, ← hm2.out, ← hm3.out, ← hVn]
                  rfl
                cases hbz : busyB pk Vn
                · have hE := hide (show playK p zs (k + 1) = (pk, m) from by rw [hst.out]; unfold pickP; rw [hmay, hbz]; rfl)
                  have kC := fun ww (h : BoxO ww f w1.heap.size g ⟨.slice A0' p.js.length c0', .slice A1' p.dq.length c1', .slice A2' p.ran.length c2', .slice A3' p.dn.length c3', .slice A4' p.lf.length c4', .slice A5' p.sm.length c5', .slice A6' p.vl.length c6', kv, rv⟩ pk) (hz2 : w1.heap.size ≤ ww.heap.size) => lsteal_all f w1.heap.size g _ pk Wn Vn ww hIk.out hWl hVl hnk hz2 h
                  rw [hbz] at kC
                  rw [if_neg (by simp)] at kC
                  rw [← hWe, ← hVe] at kC
                  replace kC := hide kC
                  clear hmay hbz hst hIk hkid hdq hWe hWn hWl hVe hVn hVl hnk
                  refine wp_region_held_drew (S := (fun w' => w'.cell? ⟨b, off + k * 2, none⟩ = some (.int .i64 W) ∧ w'.cell? ⟨b, off + k * 2 + 1, none⟩ = some (.int .i64 V))) (by kernel_rfl) ?_ (fun hHeld => ?_)
                  · exact ⟨e0.out, e1.out⟩
                  refine wpAnyH_take (i := 0) (oi := { dst := some 42, op := Op.move (.tmp 1), type := 43, pos := "l09_jobs.go:223", after := #[], guard := none }) (v := ?_) rfl (by kernel_rfl) (by kernel_rfl) (by kernel_rfl) (fun _ _ _ h => h) (Or.inl ⟨by rfl, ?_⟩) hHeld ?_
                  rotate_left
                  · (intro wq hSw; (try dsimp only at hSw); first | (go_simp; done) | (go_simp; with_reducible rfl))
                  try simp only [Act.put, qa, qb, qc]
                  refine wpAnyH_take (i := 1) (oi := { dst := some 43, op := Op.move (.tmp 8), type := 3, pos := "l09_jobs.go:223", after := #[], guard := none }) (v := ?_) rfl (by kernel_rfl) (by kernel_rfl) (by kernel_rfl) (fun _ _ _ h => h) (Or.inl ⟨by rfl, ?_⟩) hHeld ?_
                  rotate_left
                  · (intro wq hSw; (try dsimp only at hSw); first | (go_simp; done) | (go_simp; with_reducible rfl))
                  try simp only [Act.put, qa, qb, qc]
                  refine wpAnyH_take (i := 2) (oi := { dst := some 44, op := Op.indexAddr 43 (.tmp 42) (.tmp 43), type := 0, pos := "l09_jobs.go:223", after := #[⟨0, .data⟩, ⟨1, .data⟩], guard := none }) (v := ?_) rfl (by kernel_rfl) (by kernel_rfl) (by kernel_rfl) (fun _ _ _ h => h) (Or.inl ⟨by rfl, ?_⟩) hHeld ?_
                  rotate_left
                  · (intro wq hSw; (try dsimp only at hSw); first | (go_simp; done) | (go_simp; with_reducible rfl))
                  try simp only [Act.put, qa, qb, qc]
                  refine wpAnyH_take (i := 3) (oi := { dst := some 45, op := Op.fieldAddr 48 (.tmp 44) 0, type := 0, pos := "l09_jobs.go:223", after := #[⟨2, .data⟩], guard := none }) (v := ?_) rfl (by kernel_rfl) (by kernel_rfl) (by kernel_rfl) (fun _ _ _ h => h) (Or.inl ⟨by rfl, ?_⟩) hHeld ?_
                  rotate_left
                  · (intro wq hSw; (try dsimp only at hSw); first | (go_simp; done) | (go_simp; with_reducible rfl))
                  try simp only [Act.put, qa, qb, qc]
                  refine wpAnyH_take (i := 4) (oi := { dst := some 46, op := Op.load 3 (.tmp 45), type := 3, pos := "l09_jobs.go:223", after := #[⟨3, .data⟩], guard := none }) (v := ?_) rfl (by kernel_rfl) (by kernel_rfl) (by kernel_rfl) (fun _ _ _ h => h) (Or.inl ⟨by rfl, ?_⟩) hHeld ?_
                  rotate_left
                  · (intro wq hSw; (try dsimp only at hSw); first | (go_simp; done) | (go_simp; with_reducible rfl))
                  try simp only [Act.put, qa, qb, qc]
                  refine wpAnyH_take (i := 5) (oi := { dst := some 47, op := Op.move (.tmp 1), type := 43, pos := "l09_jobs.go:223", after := #[], guard := none }) (v := ?_) rfl (by kernel_rfl) (by kernel_rfl) (by kernel_rfl) (fun _ _ _ h => h) (Or.inl ⟨by rfl, ?_⟩) hHeld ?_
                  rotate_left
                  · (intro wq hSw; (try dsimp only at hSw); first | (go_simp; done) | (go_simp; with_reducible rfl))
                  try simp only [Act.put, qa, qb, qc]
                  refine wpAnyH_take (i := 6) (oi := { dst := some 48, op := Op.move (.tmp 8), type := 3, pos := "l09_jobs.go:223", after := #[], guard := none }) (v := ?_) rfl (by kernel_rfl) (by kernel_rfl) (by kernel_rfl) (fun _ _ _ h => h) (Or.inl ⟨by rfl, ?_⟩) hHeld ?_
                  rotate_left
                  · (intro wq hSw; (try dsimp only at hSw); first | (go_simp; done) | (go_simp; with_reducible rfl))
                  try simp only [Act.put, qa, qb, qc]
                  refine wpAnyH_take (i := 7) (oi := { dst := some 49, op := Op.indexAddr 43 (.tmp 47) (.tmp 48), type := 0, pos := "l09_jobs.go:223", after := #[⟨5, .data⟩, ⟨6, .data⟩], guard := none }) (v := ?_) rfl (by kernel_rfl) (by kernel_rfl) (by kernel_rfl) (fun _ _ _ h => h) (Or.inl ⟨by rfl, ?_⟩) hHeld ?_
                  rotate_left
                  · (intro wq hSw; (try dsimp only at hSw); first | (go_simp; done) | (go_simp; with_reducible rfl))
                  try simp only [Act.put, qa, qb, qc]
                  refine wpAnyH_take (i := 8) (oi := { dst := some 50, op := Op.fieldAddr 48 (.tmp 49) 1, type := 0, pos := "l09_jobs.go:223", after := #[⟨7, .data⟩], guard := none }) (v := ?_) rfl (by kernel_rfl) (by kernel_rfl) (by kernel_rfl) (fun _ _ _ h => h) (Or.inl ⟨by rfl, ?_⟩) hHeld ?_
                  rotate_left
                  · (intro wq hSw; (try dsimp only at hSw); first | (go_simp; done) | (go_simp; with_reducible rfl))
                  try simp only [Act.put, qa, qb, qc]
                  refine wpAnyH_take (i := 9) (oi := { dst := some 51, op := Op.load 3 (.tmp 50), type := 3, pos := "l09_jobs.go:223", after := #[⟨8, .data⟩], guard := none }) (v := ?_) rfl (by kernel_rfl) (by kernel_rfl) (by kernel_rfl) (fun _ _ _ h => h) (Or.inl ⟨by rfl, ?_⟩) hHeld ?_
                  rotate_left
                  · (intro wq hSw; (try dsimp only at hSw); first | (go_simp; done) | (go_simp; with_reducible rfl))
                  try simp only [Act.put, qa, qb, qc]
                  refine wpAnyH_take (i := 10) (oi := { dst := some 52, op := Op.binOp BinOp.eql 3 (.tmp 46) (.tmp 51) 3, type := 4, pos := "l09_jobs.go:223", after := #[⟨4, .data⟩, ⟨9, .data⟩], guard := none }) (v := ?_) rfl (by kernel_rfl) (by kernel_rfl) (by kernel_rfl) (fun _ _ _ h => h) (Or.inl ⟨by rfl, ?_⟩) hHeld ?_
                  rotate_left
                  · (intro wq hSw; (try dsimp only at hSw); first | (go_simp; done) | (go_simp; with_reducible rfl))
                  try simp only [Act.put, qa, qb, qc]
                  refine wpAnyH_take (i := 11) (oi := { dst := some 53, op := Op.move (.tmp 52), type := 4, pos := "l09_jobs.go:223", after := #[⟨10, .data⟩], guard := none }) (v := ?_) rfl (by kernel_rfl) (by kernel_rfl) (by kernel_rfl) (fun _ _ _ h => h) (Or.inl ⟨by rfl, ?_⟩) hHeld ?_
                  rotate_left
                  · (intro wq hSw; (try dsimp only at hSw); first | (go_simp; done) | (go_simp; with_reducible rfl))
                  try simp only [Act.put, qa, qb, qc]
                  refine wpAnyH_take (i := 12) (oi := { dst := some 54, op := Op.move (.tmp 1), type := 43, pos := "l09_jobs.go:223", after := #[⟨11, .guard⟩], guard := some (11, true) }) (v := undef) rfl (by kernel_rfl) (by kernel_rfl) (by kernel_rfl) (fun _ _ _ h => h) (Or.inr ⟨by rfl, rfl⟩) hHeld ?_
                  try simp only [Act.put, qa, qb, qc]
                  refine wpAnyH_take (i := 13) (oi := { dst := some 55, op := Op.move (.tmp 8), type := 3, pos := "l09_jobs.go:223", after := #[⟨11, .guard⟩], guard := some (11, true) }) (v := undef) rfl (by kernel_rfl) (by kernel_rfl) (by kernel_rfl) (fun _ _ _ h => h) (Or.inr ⟨by rfl, rfl⟩) hHeld ?_
                  try simp only [Act.put, qa, qb, qc]
                  refine wpAnyH_take (i := 14) (oi := { dst := some 56, op := Op.indexAddr 43 (.tmp 54) (.tmp 55), type := 0, pos := "l09_jobs.go:223", after := #[⟨12, .data⟩, ⟨13, .data⟩, ⟨11, .guard⟩], guard := some (11, true) }) (v := undef) rfl (by kernel_rfl) (by kernel_rfl) (by kernel_rfl) (fun _ _ _ h => h) (Or.inr ⟨by rfl, rfl⟩) hHeld ?_
                  try simp only [Act.put, qa, qb, qc]
                  refine wpAnyH_take (i := 15) (oi := { dst := some 57, op := Op.fieldAddr 48 (.tmp 56) 0, type := 0, pos := "l09_jobs.go:223", after := #[⟨14, .data⟩, ⟨11, .guard⟩], guard := some (11, true) }) (v := undef) rfl (by kernel_rfl) (by kernel_rfl) (by kernel_rfl) (fun _ _ _ h => h) (Or.inr ⟨by rfl, rfl⟩) hHeld ?_
                  try simp only [Act.put, qa, qb, qc]
                  refine wpAnyH_take (i := 16) (oi := { dst := some 58, op := Op.load 3 (.tmp 57), type := 3, pos := "l09_jobs.go:223", after := #[⟨15, .data⟩, ⟨11, .guard⟩], guard := some (11, true) }) (v := undef) rfl (by kernel_rfl) (by kernel_rfl) (by kernel_rfl) (fun _ _ _ h => h) (Or.inr ⟨by rfl, rfl⟩) hHeld ?_
                  try simp only [Act.put, qa, qb, qc]
                  refine wpAnyH_take (i := 17) (oi := { dst := some 59, op := Op.call { callee := Callee.value (.func 64), args := #[.tmp 6, .tmp 58], argTypes := #[85, 3] }, type := 4, pos := "l09_jobs.go:223", after := #[⟨16, .data⟩, ⟨11, .chain⟩, ⟨11, .guard⟩], guard := some (11, true) }) (v := undef) rfl (by kernel_rfl) (by kernel_rfl) (by kernel_rfl) (fun _ _ _ h => h) (Or.inr ⟨by rfl, rfl⟩) hHeld ?_
                  try simp only [Act.put, qa, qb, qc]
                  refine wpAnyH_take (i := 18) (oi := { dst := some 60, op := Op.pick (.tmp 53) (.tmp 59) (.const (Value.bool false)), type := 4, pos := "l09_jobs.go:223", after := #[⟨11, .data⟩, ⟨17, .data⟩], guard := none }) (v := ?_) rfl (by kernel_rfl) (by kernel_rfl) (by kernel_rfl) (fun _ _ _ h => h) (Or.inl ⟨by rfl, ?_⟩) hHeld ?_
                  rotate_left
                  · (intro wq hSw; (try dsimp only at hSw); first | (go_simp; done) | (go_simp; with_reducible rfl))
                  try simp only [Act.put, qa, qb, qc]
                  refine wpAnyH_take (i := 19) (oi := { dst := some 61, op := Op.move (.tmp 60), type := 4, pos := "l09_jobs.go:223", after := #[⟨18, .data⟩, ⟨17, .chain⟩], guard := none }) (v := ?_) rfl (by kernel_rfl) (by kernel_rfl) (by kernel_rfl) (fun _ _ _ h => h) (Or.inl ⟨by rfl, ?_⟩) hHeld ?_
                  rotate_left
                  · (intro wq hSw; (try dsimp only at hSw); first | (go_simp; done) | (go_simp; with_reducible rfl))
                  try simp only [Act.put, qa, qb, qc]
                  refine wpAnyH_take (i := 20) (oi := { dst := some 62, op := Op.move (.tmp 1), type := 43, pos := "l09_jobs.go:223", after := #[⟨19, .guard⟩], guard := some (19, false) }) (v := ?_) rfl (by kernel_rfl) (by kernel_rfl) (by kernel_rfl) (fun _ _ _ h => h) (Or.inl ⟨by rfl, ?_⟩) hHeld ?_
                  rotate_left
                  · (intro wq hSw; (try dsimp only at hSw); first | (go_simp; done) | (go_simp; with_reducible rfl))
                  try simp only [Act.put, qa, qb, qc]
                  refine wpAnyH_take (i := 21) (oi := { dst := some 63, op := Op.move (.tmp 8), type := 3, pos := "l09_jobs.go:223", after := #[⟨19, .guard⟩], guard := some (19, false) }) (v := ?_) rfl (by kernel_rfl) (by kernel_rfl) (by kernel_rfl) (fun _ _ _ h => h) (Or.inl ⟨by rfl, ?_⟩) hHeld ?_
                  rotate_left
                  · (intro wq hSw; (try dsimp only at hSw); first | (go_simp; done) | (go_simp; with_reducible rfl))
                  try simp only [Act.put, qa, qb, qc]
                  refine wpAnyH_take (i := 22) (oi := { dst := some 64, op := Op.indexAddr 43 (.tmp 62) (.tmp 63), type := 0, pos := "l09_jobs.go:223", after := #[⟨20, .data⟩, ⟨21, .data⟩, ⟨19, .guard⟩], guard := some (19, false) }) (v := ?_) rfl (by kernel_rfl) (by kernel_rfl) (by kernel_rfl) (fun _ _ _ h => h) (Or.inl ⟨by rfl, ?_⟩) hHeld ?_
                  rotate_left
                  · (intro wq hSw; (try dsimp only at hSw); first | (go_simp; done) | (go_simp; with_reducible rfl))
                  try simp only [Act.put, qa, qb, qc]
                  refine wpAnyH_take (i := 23) (oi := { dst := some 65, op := Op.fieldAddr 48 (.tmp 64) 0, type := 0, pos := "l09_jobs.go:223", after := #[⟨22, .data⟩, ⟨19, .guard⟩], guard := some (19, false) }) (v := ?_) rfl (by kernel_rfl) (by kernel_rfl) (by kernel_rfl) (fun _ _ _ h => h) (Or.inl ⟨by rfl, ?_⟩) hHeld ?_
                  rotate_left
                  · (intro wq hSw; (try dsimp only at hSw); first | (go_simp; done) | (go_simp; with_reducible rfl))
                  try simp only [Act.put, qa, qb, qc]
                  refine wpAnyH_take (i := 24) (oi := { dst := some 66, op := Op.load 3 (.tmp 65), type := 3, pos := "l09_jobs.go:223", after := #[⟨23, .data⟩, ⟨19, .guard⟩], guard := some (19, false) }) (v := ?_) rfl (by kernel_rfl) (by kernel_rfl) (by kernel_rfl) (fun _ _ _ h => h) (Or.inl ⟨by rfl, ?_⟩) hHeld ?_
                  rotate_left
                  · (intro wq hSw; (try dsimp only at hSw); first | (go_simp; done) | (go_simp; with_reducible rfl))
                  try simp only [Act.put, qa, qb, qc]
                  refine wpAnyH_take (i := 25) (oi := { dst := some 67, op := Op.move (.tmp 1), type := 43, pos := "l09_jobs.go:223", after := #[⟨19, .guard⟩], guard := some (19, false) }) (v := ?_) rfl (by kernel_rfl) (by kernel_rfl) (by kernel_rfl) (fun _ _ _ h => h) (Or.inl ⟨by rfl, ?_⟩) hHeld ?_
                  rotate_left
                  · (intro wq hSw; (try dsimp only at hSw); first | (go_simp; done) | (go_simp; with_reducible rfl))
                  try simp only [Act.put, qa, qb, qc]
                  refine wpAnyH_take (i := 26) (oi := { dst := some 68, op := Op.move (.tmp 8), type := 3, pos := "l09_jobs.go:223", after := #[⟨19, .guard⟩], guard := some (19, false) }) (v := ?_) rfl (by kernel_rfl) (by kernel_rfl) (by kernel_rfl) (fun _ _ _ h => h) (Or.inl ⟨by rfl, ?_⟩) hHeld ?_
                  rotate_left
                  · (intro wq hSw; (try dsimp only at hSw); first | (go_simp; done) | (go_simp; with_reducible rfl))
                  try simp only [Act.put, qa, qb, qc]
                  refine wpAnyH_take (i := 27) (oi := { dst := some 69, op := Op.indexAddr 43 (.tmp 67) (.tmp 68), type := 0, pos := "l09_jobs.go:223", after := #[⟨25, .data⟩, ⟨26, .data⟩, ⟨19, .guard⟩], guard := some (19, false) }) (v := ?_) rfl (by kernel_rfl) (by kernel_rfl) (by kernel_rfl) (fun _ _ _ h => h) (Or.inl ⟨by rfl, ?_⟩) hHeld ?_
                  rotate_left
                  · (intro wq hSw; (try dsimp only at hSw); first | (go_simp; done) | (go_simp; with_reducible rfl))
                  try simp only [Act.put, qa, qb, qc]
                  refine wpAnyH_take (i := 28) (oi := { dst := some 70, op := Op.fieldAddr 48 (.tmp 69) 1, type := 0, pos := "l09_jobs.go:223", after := #[⟨27, .data⟩, ⟨19, .guard⟩], guard := some (19, false) }) (v := ?_) rfl (by kernel_rfl) (by kernel_rfl) (by kernel_rfl) (fun _ _ _ h => h) (Or.inl ⟨by rfl, ?_⟩) hHeld ?_
                  rotate_left
                  · (intro wq hSw; (try dsimp only at hSw); first | (go_simp; done) | (go_simp; with_reducible rfl))
                  try simp only [Act.put, qa, qb, qc]
                  refine wpAnyH_take (i := 29) (oi := { dst := some 71, op := Op.load 3 (.tmp 70), type := 3, pos := "l09_jobs.go:223", after := #[⟨28, .data⟩, ⟨19, .guard⟩], guard := some (19, false) }) (v := ?_) rfl (by kernel_rfl) (by kernel_rfl) (by kernel_rfl) (fun _ _ _ h => h) (Or.inl ⟨by rfl, ?_⟩) hHeld ?_
                  rotate_left
                  · (intro wq hSw; (try dsimp only at hSw); first | (go_simp; done) | (go_simp; with_reducible rfl))
                  try simp only [Act.put, qa, qb, qc]
                  refine wpAnyH_take (i := 30) (oi := { dst := some 72, op := Op.binOp BinOp.neq 3 (.tmp 66) (.tmp 71) 3, type := 4, pos := "l09_jobs.go:223", after := #[⟨24, .data⟩, ⟨29, .data⟩, ⟨19, .guard⟩], guard := some (19, false) }) (v := ?_) rfl (by kernel_rfl) (by kernel_rfl) (by kernel_rfl) (fun _ _ _ h => h) (Or.inl ⟨by rfl, ?_⟩) hHeld ?_
                  rotate_left
                  · (intro wq hSw; (try dsimp only at hSw); first | (go_simp; done) | (go_simp; with_reducible rfl))
                  try simp only [Act.put, qa, qb, qc]
                  refine wpAnyH_take (i := 31) (oi := { dst := some 73, op := Op.move (.tmp 72), type := 4, pos := "l09_jobs.go:223", after := #[⟨30, .data⟩, ⟨19, .chain⟩, ⟨19, .guard⟩], guard := some (19, false) }) (v := ?_) rfl (by kernel_rfl) (by kernel_rfl) (by kernel_rfl) (fun _ _ _ h => h) (Or.inl ⟨by rfl, ?_⟩) hHeld ?_
                  rotate_left
                  · (intro wq hSw; (try dsimp only at hSw); first | (go_simp; done) | (go_simp; with_reducible rfl))
                  try simp only [Act.put, qa, qb, qc]
                  refine wpAnyH_take (i := 32) (oi := { dst := some 74, op := Op.move (.tmp 1), type := 43, pos := "l09_jobs.go:223", after := #[⟨31, .guard⟩], guard := some (31, true) }) (v := ?_) rfl (by kernel_rfl) (by kernel_rfl) (by kernel_rfl) (fun _ _ _ h => h) (Or.inl ⟨by rfl, ?_⟩) hHeld ?_
                  rotate_left
                  · (intro wq hSw; (try dsimp only at hSw); first | (go_simp; done) | (go_simp; with_reducible rfl))
                  try simp only [Act.put, qa, qb, qc]
                  refine wpAnyH_take (i := 33) (oi := { dst := some 75, op := Op.move (.tmp 8), type := 3, pos := "l09_jobs.go:223", after := #[⟨31, .guard⟩], guard := some (31, true) }) (v := ?_) rfl (by kernel_rfl) (by kernel_rfl) (by kernel_rfl) (fun _ _ _ h => h) (Or.inl ⟨by rfl, ?_⟩) hHeld ?_
                  rotate_left
                  · (intro wq hSw; (try dsimp only at hSw); first | (go_simp; done) | (go_simp; with_reducible rfl))
                  try simp only [Act.put, qa, qb, qc]
                  refine wpAnyH_take (i := 34) (oi := { dst := some 76, op := Op.indexAddr 43 (.tmp 74) (.tmp 75), type := 0, pos := "l09_jobs.go:223", after := #[⟨32, .data⟩, ⟨33, .data⟩, ⟨31, .guard⟩], guard := some (31, true) }) (v := ?_) rfl (by kernel_rfl) (by kernel_rfl) (by kernel_rfl) (fun _ _ _ h => h) (Or.inl ⟨by rfl, ?_⟩) hHeld ?_
                  rotate_left
                  · (intro wq hSw; (try dsimp only at hSw); first | (go_simp; done) | (go_simp; with_reducible rfl))
                  try simp only [Act.put, qa, qb, qc]
                  refine wpAnyH_take (i := 35) (oi := { dst := some 77, op := Op.fieldAddr 48 (.tmp 76) 0, type := 0, pos := "l09_jobs.go:223", after := #[⟨34, .data⟩, ⟨31, .guard⟩], guard := some (31, true) }) (v := ?_) rfl (by kernel_rfl) (by kernel_rfl) (by kernel_rfl) (fun _ _ _ h => h) (Or.inl ⟨by rfl, ?_⟩) hHeld ?_
                  rotate_left
                  · (intro wq hSw; (try dsimp only at hSw); first | (go_simp; done) | (go_simp; with_reducible rfl))
                  try simp only [Act.put, qa, qb, qc]
                  refine wpAnyH_take (i := 36) (oi := { dst := some 78, op := Op.load 3 (.tmp 77), type := 3, pos := "l09_jobs.go:223", after := #[⟨35, .data⟩, ⟨31, .guard⟩], guard := some (31, true) }) (v := ?_) rfl (by kernel_rfl) (by kernel_rfl) (by kernel_rfl) (fun _ _ _ h => h) (Or.inl ⟨by rfl, ?_⟩) hHeld ?_
                  rotate_left
                  · (intro wq hSw; (try dsimp only at hSw); first | (go_simp; done) | (go_simp; with_reducible rfl))
                  try simp only [Act.put, qa, qb, qc]
                  refine wpAnyH_take (i := 37) (oi := { dst := some 79, op := Op.move (.tmp 1), type := 43, pos := "l09_jobs.go:223", after := #[⟨31, .guard⟩], guard := some (31, true) }) (v := ?_) rfl (by kernel_rfl) (by kernel_rfl) (by kernel_rfl) (fun _ _ _ h => h) (Or.inl ⟨by rfl, ?_⟩) hHeld ?_
                  rotate_left
                  · (intro wq hSw; (try dsimp only at hSw); first | (go_simp; done) | (go_simp; with_reducible rfl))
                  try simp only [Act.put, qa, qb, qc]
                  refine wpAnyH_take (i := 38) (oi := { dst := some 80, op := Op.move (.tmp 8), type := 3, pos := "l09_jobs.go:223", after := #[⟨31, .guard⟩], guard := some (31, true) }) (v := ?_) rfl (by kernel_rfl) (by kernel_rfl) (by kernel_rfl) (fun _ _ _ h => h) (Or.inl ⟨by rfl, ?_⟩) hHeld ?_
                  rotate_left
                  · (intro wq hSw; (try dsimp only at hSw); first | (go_simp; done) | (go_simp; with_reducible rfl))
                  try simp only [Act.put, qa, qb, qc]
                  refine wpAnyH_take (i := 39) (oi := { dst := some 81, op := Op.indexAddr 43 (.tmp 79) (.tmp 80), type := 0, pos := "l09_jobs.go:223", after := #[⟨37, .data⟩, ⟨38, .data⟩, ⟨31, .guard⟩], guard := some (31, true) }) (v := ?_) rfl (by kernel_rfl) (by kernel_rfl) (by kernel_rfl) (fun _ _ _ h => h) (Or.inl ⟨by rfl, ?_⟩) hHeld ?_
                  rotate_left
                  · (intro wq hSw; (try dsimp only at hSw); first | (go_simp; done) | (go_simp; with_reducible rfl))
                  try simp only [Act.put, qa, qb, qc]
                  refine wpAnyH_take (i := 40) (oi := { dst := some 82, op := Op.fieldAddr 48 (.tmp 81) 1, type := 0, pos := "l09_jobs.go:223", after := #[⟨39, .data⟩, ⟨31, .guard⟩], guard := some (31, true) }) (v := ?_) rfl (by kernel_rfl) (by kernel_rfl) (by kernel_rfl) (fun _ _ _ h => h) (Or.inl ⟨by rfl, ?_⟩) hHeld ?_
                  rotate_left
                  · (intro wq hSw; (try dsimp only at hSw); first | (go_simp; done) | (go_simp; with_reducible rfl))
                  try simp only [Act.put, qa, qb, qc]
                  refine wpAnyH_take (i := 41) (oi := { dst := some 83, op := Op.load 3 (.tmp 82), type := 3, pos := "l09_jobs.go:223", after := #[⟨40, .data⟩, ⟨31, .guard⟩], guard := some (31, true) }) (v := ?_) rfl (by kernel_rfl) (by kernel_rfl) (by kernel_rfl) (fun _ _ _ h => h) (Or.inl ⟨by rfl, ?_⟩) hHeld ?_
                  rotate_left
                  · (intro wq hSw; (try dsimp only at hSw); first | (go_simp; done) | (go_simp; with_reducible rfl))
                  try simp only [Act.put, qa, qb, qc]
                  refine wpAnyH_ready (rs := [42]) (by kernel_rfl) (by simp) ?_
                  refine AllReadyH.cons (o := { dst := some 84, op := Op.call { callee := Callee.value (.func 57), args := #[.tmp 6, .tmp 78, .tmp 83], argTypes := #[85, 3, 3] }, type := 4, pos := "l09_jobs.go:223", after := #[⟨36, .data⟩, ⟨41, .data⟩, ⟨31, .chain⟩, ⟨31, .guard⟩], guard := some (31, true) }) rfl (fun K hK => ?_) AllReadyH.nil
                  go_simp
                  go_at_call 57
                  refine (kC.out _ G4.out Z4.out).mono ?_
                  rintro e w5 ⟨rfl, f5, rv5, G5, C5, hf5⟩
                  have G5 := hide G5
                  have hbC := hide (C5.below Z0.out Z4z.out)
                  have B5 := hide (B4.out.trans hbC.out)
                  have R5 := hide (show Blk w5 (q + 1) 28 #[.slice none 0 0, .slice none 0 0, .slice none 0 0, .slice none 0 0, .slice none 0 0, .slice none 0 0, .slice none 0 0] from (C5.block (q + 1) R4.out.lt (fun e => e.1 (hF.out _ S6.out.1))).trans R4.out)
                  have Z5 := hide (Nat.le_trans Z4.out C5.size)
                  have F5 := hide (show ∀ x, x < w1.heap.size → f5 x = 0 from fun x hx => (hf5 x (Nat.lt_of_lt_of_le hx Z4.out)).trans (hF.out x hx))
                  clear C5 hf5
                  refine hK.out _ _ ?_ (fun hHeldN => ?_)
                  · exact ⟨(hbC.out.cell (p := ⟨b, off + k * 2, none⟩) hbS).trans e0.out, (hbC.out.cell (p := ⟨b, off + k * 2 + 1, none⟩) hbS).trans e1.out⟩
                  clear hK K hHeld
                  have hHeld := hHeldN
                  clear hHeldN
                  try simp only [Act.put, qa, qb, qc]
                  refine wpAnyH_take (i := 43) (oi := { dst := some 85, op := Op.pick (.tmp 73) (.tmp 84) (.const (Value.bool false)), type := 4, pos := "l09_jobs.go:223", after := #[⟨31, .data⟩, ⟨42, .data⟩, ⟨19, .guard⟩], guard := some (19, false) }) (v := ?_) rfl (by kernel_rfl) (by kernel_rfl) (by kernel_rfl) (fun _ _ _ h => h) (Or.inl ⟨by rfl, ?_⟩) hHeld ?_
                  rotate_left
                  · (intro wq hSw; (try dsimp only at hSw); first | (go_simp; done) | (go_simp; with_reducible rfl))
                  try simp only [Act.put, qa, qb, qc]
                  refine wpAnyH_take (i := 44) (oi := { dst := some 86, op := Op.pick (.tmp 61) (.const (Value.bool true)) (.tmp 85), type := 4, pos := "l09_jobs.go:223", after := #[⟨19, .data⟩, ⟨43, .data⟩], guard := none }) (v := ?_) rfl (by kernel_rfl) (by kernel_rfl) (by kernel_rfl) (fun _ _ _ h => h) (Or.inl ⟨by rfl, ?_⟩) hHeld ?_
                  rotate_left
                  · (intro wq hSw; (try dsimp only at hSw); first | (go_simp; done) | (go_simp; with_reducible rfl))
                  try simp only [Act.put, qa, qb, qc]
                  refine wpAnyH_done (by kernel_rfl) ?_ _
                  clear hHeld
                  go_wp2_with fail
                  go_roundw
                  case rel => exact ⟨k + 1, m, f5, rv5, by omega, by omega, by go_num, rfl, hide (by rw [hE.out]), hide (by rw [hE.out]; exact G5.out), F5, B5, R5, Z5⟩
                  case measure => simp [intOf]; omega
                · have hE := hide (show playK p zs (k + 1) = (stealP pk Wn Vn, m + 1) from by rw [hst.out, hmay, hbz]; rw [pickP_steal (by rw [isWk_len hdq.out]; exact hm2.out.symm) (by rw [isWk_len hdq.out]; exact hm3.out.symm) (by rw [← hVn]; exact hbz) hWV, ← hWn, ← hVn]; rfl)
                  have kC := fun ww (h : BoxO ww f w1.heap.size g ⟨.slice A0' p.js.length c0', .slice A1' p.dq.length c1', .slice A2' p.ran.length c2', .slice A3' p.dn.length c3', .slice A4' p.lf.length c4', .slice A5' p.sm.length c5', .slice A6' p.vl.length c6', kv, rv⟩ pk) (hz2 : w1.heap.size ≤ ww.heap.size) => lsteal_all f w1.heap.size g _ pk Wn Vn ww hIk.out hWl hVl hnk hz2 h
                  rw [hbz] at kC
                  rw [if_pos rfl] at kC
                  rw [← hWe, ← hVe] at kC
                  replace kC := hide kC
                  clear hmay hbz hst hIk hkid hdq hWe hWn hWl hVe hVn hVl hnk
                  refine wp_region_held_drew (S := (fun w' => w'.cell? ⟨b, off + k * 2, none⟩ = some (.int .i64 W) ∧ w'.cell? ⟨b, off + k * 2 + 1, none⟩ = some (.int .i64 V))) (by kernel_rfl) ?_ (fun hHeld => ?_)
                  · exact ⟨e0.out, e1.out⟩
                  refine wpAnyH_take (i := 0) (oi := { dst := some 42, op := Op.move (.tmp 1), type := 43, pos := "l09_jobs.go:223", after := #[], guard := none }) (v := ?_) rfl (by kernel_rfl) (by kernel_rfl) (by kernel_rfl) (fun _ _ _ h => h) (Or.inl ⟨by rfl, ?_⟩) hHeld ?_
                  rotate_left
                  · (intro wq hSw; (try dsimp only at hSw); first | (go_simp; done) | (go_simp; with_reducible rfl))
                  try simp only [Act.put, qa, qb, qc]
                  refine wpAnyH_take (i := 1) (oi := { dst := some 43, op := Op.move (.tmp 8), type := 3, pos := "l09_jobs.go:223", after := #[], guard := none }) (v := ?_) rfl (by kernel_rfl) (by kernel_rfl) (by kernel_rfl) (fun _ _ _ h => h) (Or.inl ⟨by rfl, ?_⟩) hHeld ?_
                  rotate_left
                  · (intro wq hSw; (try dsimp only at hSw); first | (go_simp; done) | (go_simp; with_reducible rfl))
                  try simp only [Act.put, qa, qb, qc]
                  refine wpAnyH_take (i := 2) (oi := { dst := some 44, op := Op.indexAddr 43 (.tmp 42) (.tmp 43), type := 0, pos := "l09_jobs.go:223", after := #[⟨0, .data⟩, ⟨1, .data⟩], guard := none }) (v := ?_) rfl (by kernel_rfl) (by kernel_rfl) (by kernel_rfl) (fun _ _ _ h => h) (Or.inl ⟨by rfl, ?_⟩) hHeld ?_
                  rotate_left
                  · (intro wq hSw; (try dsimp only at hSw); first | (go_simp; done) | (go_simp; with_reducible rfl))
                  try simp only [Act.put, qa, qb, qc]
                  refine wpAnyH_take (i := 3) (oi := { dst := some 45, op := Op.fieldAddr 48 (.tmp 44) 0, type := 0, pos := "l09_jobs.go:223", after := #[⟨2, .data⟩], guard := none }) (v := ?_) rfl (by kernel_rfl) (by kernel_rfl) (by kernel_rfl) (fun _ _ _ h => h) (Or.inl ⟨by rfl, ?_⟩) hHeld ?_
                  rotate_left
                  · (intro wq hSw; (try dsimp only at hSw); first | (go_simp; done) | (go_simp; with_reducible rfl))
                  try simp only [Act.put, qa, qb, qc]
                  refine wpAnyH_take (i := 4) (oi := { dst := some 46, op := Op.load 3 (.tmp 45), type := 3, pos := "l09_jobs.go:223", after := #[⟨3, .data⟩], guard := none }) (v := ?_) rfl (by kernel_rfl) (by kernel_rfl) (by kernel_rfl) (fun _ _ _ h => h) (Or.inl ⟨by rfl, ?_⟩) hHeld ?_
                  rotate_left
                  · (intro wq hSw; (try dsimp only at hSw); first | (go_simp; done) | (go_simp; with_reducible rfl))
                  try simp only [Act.put, qa, qb, qc]
                  refine wpAnyH_take (i := 5) (oi := { dst := some 47, op := Op.move (.tmp 1), type := 43, pos := "l09_jobs.go:223", after := #[], guard := none }) (v := ?_) rfl (by kernel_rfl) (by kernel_rfl) (by kernel_rfl) (fun _ _ _ h => h) (Or.inl ⟨by rfl, ?_⟩) hHeld ?_
                  rotate_left
                  · (intro wq hSw; (try dsimp only at hSw); first | (go_simp; done) | (go_simp; with_reducible rfl))
                  try simp only [Act.put, qa, qb, qc]
                  refine wpAnyH_take (i := 6) (oi := { dst := some 48, op := Op.move (.tmp 8), type := 3, pos := "l09_jobs.go:223", after := #[], guard := none }) (v := ?_) rfl (by kernel_rfl) (by kernel_rfl) (by kernel_rfl) (fun _ _ _ h => h) (Or.inl ⟨by rfl, ?_⟩) hHeld ?_
                  rotate_left
                  · (intro wq hSw; (try dsimp only at hSw); first | (go_simp; done) | (go_simp; with_reducible rfl))
                  try simp only [Act.put, qa, qb, qc]
                  refine wpAnyH_take (i := 7) (oi := { dst := some 49, op := Op.indexAddr 43 (.tmp 47) (.tmp 48), type := 0, pos := "l09_jobs.go:223", after := #[⟨5, .data⟩, ⟨6, .data⟩], guard := none }) (v := ?_) rfl (by kernel_rfl) (by kernel_rfl) (by kernel_rfl) (fun _ _ _ h => h) (Or.inl ⟨by rfl, ?_⟩) hHeld ?_
                  rotate_left
                  · (intro wq hSw; (try dsimp only at hSw); first | (go_simp; done) | (go_simp; with_reducible rfl))
                  try simp only [Act.put, qa, qb, qc]
                  refine wpAnyH_take (i := 8) (oi := { dst := some 50, op := Op.fieldAddr 48 (.tmp 49) 1, type := 0, pos := "l09_jobs.go:223", after := #[⟨7, .data⟩], guard := none }) (v := ?_) rfl (by kernel_rfl) (by kernel_rfl) (by kernel_rfl) (fun _ _ _ h => h) (Or.inl ⟨by rfl, ?_⟩) hHeld ?_
                  rotate_left
                  · (intro wq hSw; (try dsimp only at hSw); first | (go_simp; done) | (go_simp; with_reducible rfl))
                  try simp only [Act.put, qa, qb, qc]
                  refine wpAnyH_take (i := 9) (oi := { dst := some 51, op := Op.load 3 (.tmp 50), type := 3, pos := "l09_jobs.go:223", after := #[⟨8, .data⟩], guard := none }) (v := ?_) rfl (by kernel_rfl) (by kernel_rfl) (by kernel_rfl) (fun _ _ _ h => h) (Or.inl ⟨by rfl, ?_⟩) hHeld ?_
                  rotate_left
                  · (intro wq hSw; (try dsimp only at hSw); first | (go_simp; done) | (go_simp; with_reducible rfl))
                  try simp only [Act.put, qa, qb, qc]
                  refine wpAnyH_take (i := 10) (oi := { dst := some 52, op := Op.binOp BinOp.eql 3 (.tmp 46) (.tmp 51) 3, type := 4, pos := "l09_jobs.go:223", after := #[⟨4, .data⟩, ⟨9, .data⟩], guard := none }) (v := ?_) rfl (by kernel_rfl) (by kernel_rfl) (by kernel_rfl) (fun _ _ _ h => h) (Or.inl ⟨by rfl, ?_⟩) hHeld ?_
                  rotate_left
                  · (intro wq hSw; (try dsimp only at hSw); first | (go_simp; done) | (go_simp; with_reducible rfl))
                  try simp only [Act.put, qa, qb, qc]
                  refine wpAnyH_take (i := 11) (oi := { dst := some 53, op := Op.move (.tmp 52), type := 4, pos := "l09_jobs.go:223", after := #[⟨10, .data⟩], guard := none }) (v := ?_) rfl (by kernel_rfl) (by kernel_rfl) (by kernel_rfl) (fun _ _ _ h => h) (Or.inl ⟨by rfl, ?_⟩) hHeld ?_
                  rotate_left
                  · (intro wq hSw; (try dsimp only at hSw); first | (go_simp; done) | (go_simp; with_reducible rfl))
                  try simp only [Act.put, qa, qb, qc]
                  refine wpAnyH_take (i := 12) (oi := { dst := some 54, op := Op.move (.tmp 1), type := 43, pos := "l09_jobs.go:223", after := #[⟨11, .guard⟩], guard := some (11, true) }) (v := undef) rfl (by kernel_rfl) (by kernel_rfl) (by kernel_rfl) (fun _ _ _ h => h) (Or.inr ⟨by rfl, rfl⟩) hHeld ?_
                  try simp only [Act.put, qa, qb, qc]
                  refine wpAnyH_take (i := 13) (oi := { dst := some 55, op := Op.move (.tmp 8), type := 3, pos := "l09_jobs.go:223", after := #[⟨11, .guard⟩], guard := some (11, true) }) (v := undef) rfl (by kernel_rfl) (by kernel_rfl) (by kernel_rfl) (fun _ _ _ h => h) (Or.inr ⟨by rfl, rfl⟩) hHeld ?_
                  try simp only [Act.put, qa, qb, qc]
                  refine wpAnyH_take (i := 14) (oi := { dst := some 56, op := Op.indexAddr 43 (.tmp 54) (.tmp 55), type := 0, pos := "l09_jobs.go:223", after := #[⟨12, .data⟩, ⟨13, .data⟩, ⟨11, .guard⟩], guard := some (11, true) }) (v := undef) rfl (by kernel_rfl) (by kernel_rfl) (by kernel_rfl) (fun _ _ _ h => h) (Or.inr ⟨by rfl, rfl⟩) hHeld ?_
                  try simp only [Act.put, qa, qb, qc]
                  refine wpAnyH_take (i := 15) (oi := { dst := some 57, op := Op.fieldAddr 48 (.tmp 56) 0, type := 0, pos := "l09_jobs.go:223", after := #[⟨14, .data⟩, ⟨11, .guard⟩], guard := some (11, true) }) (v := undef) rfl (by kernel_rfl) (by kernel_rfl) (by kernel_rfl) (fun _ _ _ h => h) (Or.inr ⟨by rfl, rfl⟩) hHeld ?_
                  try simp only [Act.put, qa, qb, qc]
                  refine wpAnyH_take (i := 16) (oi := { dst := some 58, op := Op.load 3 (.tmp 57), type := 3, pos := "l09_jobs.go:223", after := #[⟨15, .data⟩, ⟨11, .guard⟩], guard := some (11, true) }) (v := undef) rfl (by kernel_rfl) (by kernel_rfl) (by kernel_rfl) (fun _ _ _ h => h) (Or.inr ⟨by rfl, rfl⟩) hHeld ?_
                  try simp only [Act.put, qa, qb, qc]
                  refine wpAnyH_take (i := 17) (oi := { dst := some 59, op := Op.call { callee := Callee.value (.func 64), args := #[.tmp 6, .tmp 58], argTypes := #[85, 3] }, type := 4, pos := "l09_jobs.go:223", after := #[⟨16, .data⟩, ⟨11, .chain⟩, ⟨11, .guard⟩], guard := some (11, true) }) (v := undef) rfl (by kernel_rfl) (by kernel_rfl) (by kernel_rfl) (fun _ _ _ h => h) (Or.inr ⟨by rfl, rfl⟩) hHeld ?_
                  try simp only [Act.put, qa, qb, qc]
                  refine wpAnyH_take (i := 18) (oi := { dst := some 60, op := Op.pick (.tmp 53) (.tmp 59) (.const (Value.bool false)), type := 4, pos := "l09_jobs.go:223", after := #[⟨11, .data⟩, ⟨17, .data⟩], guard := none }) (v := ?_) rfl (by kernel_rfl) (by kernel_rfl) (by kernel_rfl) (fun _ _ _ h => h) (Or.inl ⟨by rfl, ?_⟩) hHeld ?_
                  rotate_left
                  · (intro wq hSw; (try dsimp only at hSw); first | (go_simp; done) | (go_simp; with_reducible rfl))
                  try simp only [Act.put, qa, qb, qc]
                  refine wpAnyH_take (i := 19) (oi := { dst := some 61, op := Op.move (.tmp 60), type := 4, pos := "l09_jobs.go:223", after := #[⟨18, .data⟩, ⟨17, .chain⟩], guard := none }) (v := ?_) rfl (by kernel_rfl) (by kernel_rfl) (by kernel_rfl) (fun _ _ _ h => h) (Or.inl ⟨by rfl, ?_⟩) hHeld ?_
                  rotate_left
                  · (intro wq hSw; (try dsimp only at hSw); first | (go_simp; done) | (go_simp; with_reducible rfl))
                  try simp only [Act.put, qa, qb, qc]
                  refine wpAnyH_take (i := 20) (oi := { dst := some 62, op := Op.move (.tmp 1), type := 43, pos := "l09_jobs.go:223", after := #[⟨19, .guard⟩], guard := some (19, false) }) (v := ?_) rfl (by kernel_rfl) (by kernel_rfl) (by kernel_rfl) (fun _ _ _ h => h) (Or.inl ⟨by rfl, ?_⟩) hHeld ?_
                  rotate_left
                  · (intro wq hSw; (try dsimp only at hSw); first | (go_simp; done) | (go_simp; with_reducible rfl))
                  try simp only [Act.put, qa, qb, qc]
                  refine wpAnyH_take (i := 21) (oi := { dst := some 63, op := Op.move (.tmp 8), type := 3, pos := "l09_jobs.go:223", after := #[⟨19, .guard⟩], guard := some (19, false) }) (v := ?_) rfl (by kernel_rfl) (by kernel_rfl) (by kernel_rfl) (fun _ _ _ h => h) (Or.inl ⟨by rfl, ?_⟩) hHeld ?_
                  rotate_left
                  · (intro wq hSw; (try dsimp only at hSw); first | (go_simp; done) | (go_simp; with_reducible rfl))
                  try simp only [Act.put, qa, qb, qc]
                  refine wpAnyH_take (i := 22) (oi := { dst := some 64, op := Op.indexAddr 43 (.tmp 62) (.tmp 63), type := 0, pos := "l09_jobs.go:223", after := #[⟨20, .data⟩, ⟨21, .data⟩, ⟨19, .guard⟩], guard := some (19, false) }) (v := ?_) rfl (by kernel_rfl) (by kernel_rfl) (by kernel_rfl) (fun _ _ _ h => h) (Or.inl ⟨by rfl, ?_⟩) hHeld ?_
                  rotate_left
                  · (intro wq hSw; (try dsimp only at hSw); first | (go_simp; done) | (go_simp; with_reducible rfl))
                  try simp only [Act.put, qa, qb, qc]
                  refine wpAnyH_take (i := 23) (oi := { dst := some 65, op := Op.fieldAddr 48 (.tmp 64) 0, type := 0, pos := "l09_jobs.go:223", after := #[⟨22, .data⟩, ⟨19, .guard⟩], guard := some (19, false) }) (v := ?_) rfl (by kernel_rfl) (by kernel_rfl) (by kernel_rfl) (fun _ _ _ h => h) (Or.inl ⟨by rfl, ?_⟩) hHeld ?_
                  rotate_left
                  · (intro wq hSw; (try dsimp only at hSw); first | (go_simp; done) | (go_simp; with_reducible rfl))
                  try simp only [Act.put, qa, qb, qc]
                  refine wpAnyH_take (i := 24) (oi := { dst := some 66, op := Op.load 3 (.tmp 65), type := 3, pos := "l09_jobs.go:223", after := #[⟨23, .data⟩, ⟨19, .guard⟩], guard := some (19, false) }) (v := ?_) rfl (by kernel_rfl) (by kernel_rfl) (by kernel_rfl) (fun _ _ _ h => h) (Or.inl ⟨by rfl, ?_⟩) hHeld ?_
                  rotate_left
                  · (intro wq hSw; (try dsimp only at hSw); first | (go_simp; done) | (go_simp; with_reducible rfl))
                  try simp only [Act.put, qa, qb, qc]
                  refine wpAnyH_take (i := 25) (oi := { dst := some 67, op := Op.move (.tmp 1), type := 43, pos := "l09_jobs.go:223", after := #[⟨19, .guard⟩], guard := some (19, false) }) (v := ?_) rfl (by kernel_rfl) (by kernel_rfl) (by kernel_rfl) (fun _ _ _ h => h) (Or.inl ⟨by rfl, ?_⟩) hHeld ?_
                  rotate_left
                  · (intro wq hSw; (try dsimp only at hSw); first | (go_simp; done) | (go_simp; with_reducible rfl))
                  try simp only [Act.put, qa, qb, qc]
                  refine wpAnyH_take (i := 26) (oi := { dst := some 68, op := Op.move (.tmp 8), type := 3, pos := "l09_jobs.go:223", after := #[⟨19, .guard⟩], guard := some (19, false) }) (v := ?_) rfl (by kernel_rfl) (by kernel_rfl) (by kernel_rfl) (fun _ _ _ h => h) (Or.inl ⟨by rfl, ?_⟩) hHeld ?_
                  rotate_left
                  · (intro wq hSw; (try dsimp only at hSw); first | (go_simp; done) | (go_simp; with_reducible rfl))
                  try simp only [Act.put, qa, qb, qc]
                  refine wpAnyH_take (i := 27) (oi := { dst := some 69, op := Op.indexAddr 43 (.tmp 67) (.tmp 68), type := 0, pos := "l09_jobs.go:223", after := #[⟨25, .data⟩, ⟨26, .data⟩, ⟨19, .guard⟩], guard := some (19, false) }) (v := ?_) rfl (by kernel_rfl) (by kernel_rfl) (by kernel_rfl) (fun _ _ _ h => h) (Or.inl ⟨by rfl, ?_⟩) hHeld ?_
                  rotate_left
                  · (intro wq hSw; (try dsimp only at hSw); first | (go_simp; done) | (go_simp; with_reducible rfl))
                  try simp only [Act.put, qa, qb, qc]
                  refine wpAnyH_take (i := 28) (oi := { dst := some 70, op := Op.fieldAddr 48 (.tmp 69) 1, type := 0, pos := "l09_jobs.go:223", after := #[⟨27, .data⟩, ⟨19, .guard⟩], guard := some (19, false) }) (v := ?_) rfl (by kernel_rfl) (by kernel_rfl) (by kernel_rfl) (fun _ _ _ h => h) (Or.inl ⟨by rfl, ?_⟩) hHeld ?_
                  rotate_left
                  · (intro wq hSw; (try dsimp only at hSw); first | (go_simp; done) | (go_simp; with_reducible rfl))
                  try simp only [Act.put, qa, qb, qc]
                  refine wpAnyH_take (i := 29) (oi := { dst := some 71, op := Op.load 3 (.tmp 70), type := 3, pos := "l09_jobs.go:223", after := #[⟨28, .data⟩, ⟨19, .guard⟩], guard := some (19, false) }) (v := ?_) rfl (by kernel_rfl) (by kernel_rfl) (by kernel_rfl) (fun _ _ _ h => h) (Or.inl ⟨by rfl, ?_⟩) hHeld ?_
                  rotate_left
                  · (intro wq hSw; (try dsimp only at hSw); first | (go_simp; done) | (go_simp; with_reducible rfl))
                  try simp only [Act.put, qa, qb, qc]
                  refine wpAnyH_take (i := 30) (oi := { dst := some 72, op := Op.binOp BinOp.neq 3 (.tmp 66) (.tmp 71) 3, type := 4, pos := "l09_jobs.go:223", after := #[⟨24, .data⟩, ⟨29, .data⟩, ⟨19, .guard⟩], guard := some (19, false) }) (v := ?_) rfl (by kernel_rfl) (by kernel_rfl) (by kernel_rfl) (fun _ _ _ h => h) (Or.inl ⟨by rfl, ?_⟩) hHeld ?_
                  rotate_left
                  · (intro wq hSw; (try dsimp only at hSw); first | (go_simp; done) | (go_simp; with_reducible rfl))
                  try simp only [Act.put, qa, qb, qc]
                  refine wpAnyH_take (i := 31) (oi := { dst := some 73, op := Op.move (.tmp 72), type := 4, pos := "l09_jobs.go:223", after := #[⟨30, .data⟩, ⟨19, .chain⟩, ⟨19, .guard⟩], guard := some (19, false) }) (v := ?_) rfl (by kernel_rfl) (by kernel_rfl) (by kernel_rfl) (fun _ _ _ h => h) (Or.inl ⟨by rfl, ?_⟩) hHeld ?_
                  rotate_left
                  · (intro wq hSw; (try dsimp only at hSw); first | (go_simp; done) | (go_simp; with_reducible rfl))
                  try simp only [Act.put, qa, qb, qc]
                  refine wpAnyH_take (i := 32) (oi := { dst := some 74, op := Op.move (.tmp 1), type := 43, pos := "l09_jobs.go:223", after := #[⟨31, .guard⟩], guard := some (31, true) }) (v := ?_) rfl (by kernel_rfl) (by kernel_rfl) (by kernel_rfl) (fun _ _ _ h => h) (Or.inl ⟨by rfl, ?_⟩) hHeld ?_
                  rotate_left
                  · (intro wq hSw; (try dsimp only at hSw); first | (go_simp; done) | (go_simp; with_reducible rfl))
                  try simp only [Act.put, qa, qb, qc]
                  refine wpAnyH_take (i := 33) (oi := { dst := some 75, op := Op.move (.tmp 8), type := 3, pos := "l09_jobs.go:223", after := #[⟨31, .guard⟩], guard := some (31, true) }) (v := ?_) rfl (by kernel_rfl) (by kernel_rfl) (by kernel_rfl) (fun _ _ _ h => h) (Or.inl ⟨by rfl, ?_⟩) hHeld ?_
                  rotate_left
                  · (intro wq hSw; (try dsimp only at hSw); first | (go_simp; done) | (go_simp; with_reducible rfl))
                  try simp only [Act.put, qa, qb, qc]
                  refine wpAnyH_take (i := 34) (oi := { dst := some 76, op := Op.indexAddr 43 (.tmp 74) (.tmp 75), type := 0, pos := "l09_jobs.go:223", after := #[⟨32, .data⟩, ⟨33, .data⟩, ⟨31, .guard⟩], guard := some (31, true) }) (v := ?_) rfl (by kernel_rfl) (by kernel_rfl) (by kernel_rfl) (fun _ _ _ h => h) (Or.inl ⟨by rfl, ?_⟩) hHeld ?_
                  rotate_left
                  · (intro wq hSw; (try dsimp only at hSw); first | (go_simp; done) | (go_simp; with_reducible rfl))
                  try simp only [Act.put, qa, qb, qc]
                  refine wpAnyH_take (i := 35) (oi := { dst := some 77, op := Op.fieldAddr 48 (.tmp 76) 0, type := 0, pos := "l09_jobs.go:223", after := #[⟨34, .data⟩, ⟨31, .guard⟩], guard := some (31, true) }) (v := ?_) rfl (by kernel_rfl) (by kernel_rfl) (by kernel_rfl) (fun _ _ _ h => h) (Or.inl ⟨by rfl, ?_⟩) hHeld ?_
                  rotate_left
                  · (intro wq hSw; (try dsimp only at hSw); first | (go_simp; done) | (go_simp; with_reducible rfl))
                  try simp only [Act.put, qa, qb, qc]
                  refine wpAnyH_take (i := 36) (oi := { dst := some 78, op := Op.load 3 (.tmp 77), type := 3, pos := "l09_jobs.go:223", after := #[⟨35, .data⟩, ⟨31, .guard⟩], guard := some (31, true) }) (v := ?_) rfl (by kernel_rfl) (by kernel_rfl) (by kernel_rfl) (fun _ _ _ h => h) (Or.inl ⟨by rfl, ?_⟩) hHeld ?_
                  rotate_left
                  · (intro wq hSw; (try dsimp only at hSw); first | (go_simp; done) | (go_simp; with_reducible rfl))
                  try simp only [Act.put, qa, qb, qc]
                  refine wpAnyH_take (i := 37) (oi := { dst := some 79, op := Op.move (.tmp 1), type := 43, pos := "l09_jobs.go:223", after := #[⟨31, .guard⟩], guard := some (31, true) }) (v := ?_) rfl (by kernel_rfl) (by kernel_rfl) (by kernel_rfl) (fun _ _ _ h => h) (Or.inl ⟨by rfl, ?_⟩) hHeld ?_
                  rotate_left
                  · (intro wq hSw; (try dsimp only at hSw); first | (go_simp; done) | (go_simp; with_reducible rfl))
                  try simp only [Act.put, qa, qb, qc]
                  refine wpAnyH_take (i := 38) (oi := { dst := some 80, op := Op.move (.tmp 8), type := 3, pos := "l09_jobs.go:223", after := #[⟨31, .guard⟩], guard := some (31, true) }) (v := ?_) rfl (by kernel_rfl) (by kernel_rfl) (by kernel_rfl) (fun _ _ _ h => h) (Or.inl ⟨by rfl, ?_⟩) hHeld ?_
                  rotate_left
                  · (intro wq hSw; (try dsimp only at hSw); first | (go_simp; done) | (go_simp; with_reducible rfl))
                  try simp only [Act.put, qa, qb, qc]
                  refine wpAnyH_take (i := 39) (oi := { dst := some 81, op := Op.indexAddr 43 (.tmp 79) (.tmp 80), type := 0, pos := "l09_jobs.go:223", after := #[⟨37, .data⟩, ⟨38, .data⟩, ⟨31, .guard⟩], guard := some (31, true) }) (v := ?_) rfl (by kernel_rfl) (by kernel_rfl) (by kernel_rfl) (fun _ _ _ h => h) (Or.inl ⟨by rfl, ?_⟩) hHeld ?_
                  rotate_left
                  · (intro wq hSw; (try dsimp only at hSw); first | (go_simp; done) | (go_simp; with_reducible rfl))
                  try simp only [Act.put, qa, qb, qc]
                  refine wpAnyH_take (i := 40) (oi := { dst := some 82, op := Op.fieldAddr 48 (.tmp 81) 1, type := 0, pos := "l09_jobs.go:223", after := #[⟨39, .data⟩, ⟨31, .guard⟩], guard := some (31, true) }) (v := ?_) rfl (by kernel_rfl) (by kernel_rfl) (by kernel_rfl) (fun _ _ _ h => h) (Or.inl ⟨by rfl, ?_⟩) hHeld ?_
                  rotate_left
                  · (intro wq hSw; (try dsimp only at hSw); first | (go_simp; done) | (go_simp; with_reducible rfl))
                  try simp only [Act.put, qa, qb, qc]
                  refine wpAnyH_take (i := 41) (oi := { dst := some 83, op := Op.load 3 (.tmp 82), type := 3, pos := "l09_jobs.go:223", after := #[⟨40, .data⟩, ⟨31, .guard⟩], guard := some (31, true) }) (v := ?_) rfl (by kernel_rfl) (by kernel_rfl) (by kernel_rfl) (fun _ _ _ h => h) (Or.inl ⟨by rfl, ?_⟩) hHeld ?_
                  rotate_left
                  · (intro wq hSw; (try dsimp only at hSw); first | (go_simp; done) | (go_simp; with_reducible rfl))
                  try simp only [Act.put, qa, qb, qc]
                  refine wpAnyH_ready (rs := [42]) (by kernel_rfl) (by simp) ?_
                  refine AllReadyH.cons (o := { dst := some 84, op := Op.call { callee := Callee.value (.func 57), args := #[.tmp 6, .tmp 78, .tmp 83], argTypes := #[85, 3, 3] }, type := 4, pos := "l09_jobs.go:223", after := #[⟨36, .data⟩, ⟨41, .data⟩, ⟨31, .chain⟩, ⟨31, .guard⟩], guard := some (31, true) }) rfl (fun K hK => ?_) AllReadyH.nil
                  go_simp
                  go_at_call 57
                  refine (kC.out _ G4.out Z4.out).mono ?_
                  rintro e w5 ⟨rfl, f5, rv5, G5, C5, hf5⟩
                  have G5 := hide G5
                  have hbC := hide (C5.below Z0.out Z4z.out)
                  have B5 := hide (B4.out.trans hbC.out)
                  have R5 := hide (show Blk w5 (q + 1) 28 #[.slice none 0 0, .slice none 0 0, .slice none 0 0, .slice none 0 0, .slice none 0 0, .slice none 0 0, .slice none 0 0] from (C5.block (q + 1) R4.out.lt (fun e => e.1 (hF.out _ S6.out.1))).trans R4.out)
                  have Z5 := hide (Nat.le_trans Z4.out C5.size)
                  have F5 := hide (show ∀ x, x < w1.heap.size → f5 x = 0 from fun x hx => (hf5 x (Nat.lt_of_lt_of_le hx Z4.out)).trans (hF.out x hx))
                  clear C5 hf5
                  refine hK.out _ _ ?_ (fun hHeldN => ?_)
                  · exact ⟨(hbC.out.cell (p := ⟨b, off + k * 2, none⟩) hbS).trans e0.out, (hbC.out.cell (p := ⟨b, off + k * 2 + 1, none⟩) hbS).trans e1.out⟩
                  clear hK K hHeld
                  have hHeld := hHeldN
                  clear hHeldN
                  try simp only [Act.put, qa, qb, qc]
                  refine wpAnyH_take (i := 43) (oi := { dst := some 85, op := Op.pick (.tmp 73) (.tmp 84) (.const (Value.bool false)), type := 4, pos := "l09_jobs.go:223", after := #[⟨31, .data⟩, ⟨42, .data⟩, ⟨19, .guard⟩], guard := some (19, false) }) (v := ?_) rfl (by kernel_rfl) (by kernel_rfl) (by kernel_rfl) (fun _ _ _ h => h) (Or.inl ⟨by rfl, ?_⟩) hHeld ?_
                  rotate_left
                  · (intro wq hSw; (try dsimp only at hSw); first | (go_simp; done) | (go_simp; with_reducible rfl))
                  try simp only [Act.put, qa, qb, qc]
                  refine wpAnyH_take (i := 44) (oi := { dst := some 86, op := Op.pick (.tmp 61) (.const (Value.bool true)) (.tmp 85), type := 4, pos := "l09_jobs.go:223", after := #[⟨19, .data⟩, ⟨43, .data⟩], guard := none }) (v := ?_) rfl (by kernel_rfl) (by kernel_rfl) (by kernel_rfl) (fun _ _ _ h => h) (Or.inl ⟨by rfl, ?_⟩) hHeld ?_
                  rotate_left
                  · (intro wq hSw; (try dsimp only at hSw); first | (go_simp; done) | (go_simp; with_reducible rfl))
                  try simp only [Act.put, qa, qb, qc]
                  refine wpAnyH_done (by kernel_rfl) ?_ _
                  clear hHeld
                  go_wp2_with fail
                  go_roundw
                  case rel => exact ⟨k + 1, m + 1, f5, rv5, by omega, by omega, by go_num, by go_num, hide (by rw [hE.out]), hide (by rw [hE.out]; exact G5.out), F5, B5, R5, Z5⟩
                  case measure => simp [intOf]; omega
        · obtain rfl : k = n := by omega
          have hlt' : decide ((k : Int) < (k : Int)) = false := decide_eq_false (by omega)
          have hE := hide (show playR p zs k = playK p zs k from playR_yes hok.out.symm hn2)
          obtain ⟨pk, hpk⟩ : ∃ pk, pk = (playK p zs k).1 := ⟨_, rfl⟩
          rw [← hpk] at G0
          replace hpk := hide hpk
          obtain ⟨⟨x0, x1, x2, x3, x4, x5, x6⟩, xl⟩ := box7 G0.out.box
          dsimp only at x0 x1 x2 x3 x4 x5 x6
          obtain ⟨z0, z1, z2, z3, z4, z5, z6⟩ := froz7 R0.out
          obtain ⟨⟨r0, r1, r2, r3, r4, r5, r6⟩, rl⟩ := box7 R0.out
          have hs1 := S6.out.1
          have hs2 := R0.out.lt
          go_wp2_with fail
          refine bodyPost_ret (v := .tuple #[.agg #[.slice A0' p.js.length c0', .slice A1' p.dq.length c1', .slice A2' p.ran.length c2', .slice A3' p.dn.length c3', .slice A4' p.lf.length c4', .slice A5' p.sm.length c5', .slice A6' p.vl.length c6'], .int .i64 m]) (by simp [results, Try.results47, go_sem, r0, r1, r2, r3, r4, r5, r6]; done) rfl ?_
          rw [hE.out, ← hm.out, ← hpk.out]
          refine ⟨⟨.slice A0' p.js.length c0', .slice A1' p.dq.length c1', .slice A2' p.ran.length c2', .slice A3' p.dn.length c3', .slice A4' p.lf.length c4', .slice A5' p.sm.length c5', .slice A6' p.vl.length c6', kv, rv⟩, f, rfl, (G0.out.pool.keep (fun b _ hb _ => ?_)).base Z0.out, ?_⟩
          · iterate 7 (refine (Below.heap_setCell _ _ _ _ (fun e => by have e2 : b = q + 1 := e; omega)).trans ?_)
            rfl
          · iterate 7 (refine Below.setCell ?_ (by show w.heap.size ≤ q + 1; rw [hq.out]; omega) _)
            exact B0.out
    · have hn2' : decide ((2000 : Int) < (n : Int)) = true := decide_eq_true (by omega)
      obtain ⟨z0, z1, z2, z3, z4, z5, z6⟩ := froz7 R1.out
      obtain ⟨⟨r0, r1, r2, r3, r4, r5, r6⟩, rl⟩ := box7 R1.out
      go_wp2_with fail
      refine bodyPost_ret (v := .tuple #[.agg pv0.cells, .int .i64 0]) (by simp [results, Try.results47, go_sem, pv0, PV.cells, r0, r1, r2, r3, r4, r5, r6]; done) rfl ?_
      rw [(show playR p zs n = (pool0, 0) from playR_no (.inr hn2))]
      refine ⟨pv0, fun _ => 0, rfl, PoolO.zero _ _ _, ?_⟩
      iterate 7 (refine Below.setCell ?_ (by show w.heap.size ≤ q + 1; rw [hq.out]; omega) _)
      exact B1.out
end Go.Proofs.Ytfnphnjadknoaaa
