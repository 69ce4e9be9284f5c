/- How long the program with its cells in another order is. -/
import Derived.Test.YtjendjbbhohjcaaMc0
import Derived.Test.YtjendjbbhohjcaaMc7
import Derived.Test.YtjendjbbhohjcaaMc10
import Derived.Test.YtjendjbbhohjcaaMc11
import Derived.Test.YtjendjbbhohjcaaMc13
import Derived.Test.YtjendjbbhohjcaaMc16
import Derived.Test.YtjendjbbhohjcaaMc17
namespace Go.Proofs.Ytjendjbbhohjcaa
open Go.RowKit

set_option maxRecDepth 100000 in
set_option maxHeartbeats 12800000 in
theorem pcells_any (v : Value) (p : ProgD) (AO : Option Addr) (zs : List Int) (n cO : Nat) (w : World) (hp : ProgAt w (Old w.heap.size) v p) (ho : IntsAt w (Old w.heap.size) AO zs) (hz : zs.length = n) :
    Calls Try.prog 48 #[v, .slice AO n cO] w fun e w' => FenR w w' e (tcQ p zs) (tcB p zs) := by
  have hn63 : n ≤ 9223372036854775807 := by rw [← hz]; exact ho.1
  obtain ⟨i2, hi2, hx0, hx1, hx2⟩ := info_parts Try.infoThr
  replace hi2 := hide hi2
  obtain ⟨A, c, A', c', rfl, hcc, hi, ht⟩ := hp
  obtain ⟨W0, hW0⟩ : ∃ x, x = w.alloc (Obj.cells #[.slice A p.init.length c, .slice A' p.ts.length c'] 37) := ⟨_, rfl⟩
  obtain ⟨W, hW⟩ : ∃ x, x = W0.alloc (Obj.cells #[.slice none 0 0, .slice none 0 0] 37) := ⟨_, rfl⟩
  have hbW0 : Below w.heap.size w W0 := by rw [hW0]; exact below1 _ _
  have hsz0 := hide (show w.heap.size + 1 = W0.heap.size from by rw [hW0]; simp)
  have hb1 : Below W0.heap.size W0 W := by rw [hW]; exact below1 _ _
  have X00 := hide (show Blk W0 w.heap.size 37 #[.slice A p.init.length c, .slice A' p.ts.length c'] from by rw [hW0]; exact Blk.new _ _ _)
  have R0 := hide (show Blk W W0.heap.size 37 #[.slice none 0 0, .slice none 0 0] from by rw [hW]; exact Blk.new _ _ _)
  have ZW := hide ((hi.below hbW0 (fun _ h => h)).more (fun b (h : b < w.heap.size) => show b < W0.heap.size from Nat.lt_of_lt_of_le h hbW0.size))
  have DW := hide ((ht.below hbW0 (fun _ h => h)).more (fun b (h : b < w.heap.size) => show b < W0.heap.size from Nat.lt_of_lt_of_le h hbW0.size))
  have QW := hide ((ho.below hbW0 (fun _ h => h)).more (fun b (h : b < w.heap.size) => show b < W0.heap.size from Nat.lt_of_lt_of_le h hbW0.size))
  have BW := hide hb1
  have B0 := hide hbW0
  have kIn := hide (show ∀ w', Below W0.heap.size W0 w' → (IntsAt w' (Old W0.heap.size) A p.init ∧ ThreadsAt w' (Old W0.heap.size) A' p.ts ∧ IntsAt w' (Old W0.heap.size) AO zs) ∧ (∀ b, Old W0.heap.size b → b < w'.heap.size) ∧ Blk w' w.heap.size 37 #[.slice A p.init.length c, .slice A' p.ts.length c'] from fun w' hb => ⟨⟨ZW.out.below hb (fun _ h => h), DW.out.below hb (fun _ h => h), QW.out.below hb (fun _ h => h)⟩, fun b h => Nat.lt_of_lt_of_le h hb.size, X00.out.below hb X00.out.lt⟩)
  have kP := hide (progOk_any (.agg #[.slice A p.init.length c, .slice A' p.ts.length c']) p (Old W0.heap.size) W (kIn.out W hb1).2.1 ⟨A, c, A', c', rfl, hcc, (kIn.out W hb1).1.1, (kIn.out W hb1).1.2.1⟩)
  obtain ⟨ok, hok⟩ : ∃ ok, ok = progB p := ⟨_, rfl⟩
  rw [← hok] at kP
  replace hok := hide hok
  have X0 := (kIn.out W hb1).2.2
  have x0 := X0.cell 0
  have x1 := X0.cell 1
  have lx := X0.lt
  simp only [List.getElem?_toArray, List.getElem?_cons_zero, List.getElem?_cons_succ] at x0 x1
  replace hz := hide hz
  replace hcc := hide hcc
  clear hbW0 hb1 hi ht ho X0
  go_enter Try.func48, Try.ntmps48
  go_upto_region 1 with fail
  rw [← hW0, ← hW, hsz0.out]
  clear hW hW0
  go_wp2_with fail
  refine kP.out.mono ?_
  rintro e w1 ⟨rfl, hb1⟩
  have B1 := hide (BW.out.trans (hb1.mono BW.out.size))
  have R1 := hide (R0.out.below hb1 R0.out.lt)
  clear x0 x1 lx hb1 BW R0 kP
  cases ok
  · have hE := hide (show tcQ p zs = ⟨[], []⟩ ∧ tcB p zs = false from by unfold tcQ tcB; rw [← hok.out]; exact ⟨rfl, rfl⟩)
    obtain ⟨r0, r1⟩ := (show w1.cell? ⟨W0.heap.size, 0, none⟩ = some (.slice none 0 0) ∧ w1.cell? ⟨W0.heap.size, 1, none⟩ = some (.slice none 0 0) from ⟨R1.out.cell 0, R1.out.cell 1⟩)
    obtain ⟨r2, r3⟩ := (show w1.frozen? ⟨W0.heap.size, 0, none⟩ = false ∧ w1.frozen? ⟨W0.heap.size, 1, none⟩ = false from ⟨R1.out.frozen 0, R1.out.frozen 1⟩)
    have lR := R1.out.lt
    go_wp2_with fail
    refine bodyPost_ret (v := .tuple #[.agg #[.slice none 0 0, .slice none 0 0], .bool false]) (by simp [results, Try.results48, go_sem, r0, r1]; done) rfl ?_
    rw [hE.out.1, hE.out.2]
    exact FenR.no (((B0.out.trans (B1.out.mono B0.out.size)).setCell (p := ⟨W0.heap.size, 0, none⟩) (by have := hsz0.out; show w.heap.size ≤ W0.heap.size; omega) _).setCell (p := ⟨W0.heap.size, 1, none⟩) (by have := hsz0.out; show w.heap.size ≤ W0.heap.size; omega) _)
  · have h3 := (prog_thr hok.out.symm).2.1
    have hi6 := hide (prog_thr hok.out.symm).1
    have hl := hide (fun k => Nat.le_trans (prog_rows hok.out.symm k) (show 24 ≤ 1000 by omega))
    have hcell := hide (fun k j (hk : k < p.ts.length) (hj : j < (gett p.ts k).length) => prog_cell hok.out.symm hk hj)
    have kC := hide (chooses_any A A' c c' p (Old W0.heap.size) w1 (kIn.out w1 B1.out).2.1 (kIn.out w1 B1.out).1.2.1 h3 hl.out)
    obtain ⟨one, hone⟩ : ∃ one, one = oneP p := ⟨_, rfl⟩
    rw [← hone] at kC
    replace hone := hide hone
    have h3 := hide h3
    have X0 := (kIn.out w1 B1.out).2.2
    have x0 := X0.cell 0
    have x1 := X0.cell 1
    have lx := X0.lt
    simp only [List.getElem?_toArray, List.getElem?_cons_zero, List.getElem?_cons_succ] at x0 x1
    clear X0
    go_wp2_with fail
    refine kC.out.mono ?_
    rintro e w2 ⟨rfl, hb2⟩
    have B2 := hide (B1.out.trans (hb2.mono B1.out.size))
    have R2 := hide (R1.out.below hb2 R1.out.lt)
    clear x0 x1 lx hb2 B1 R1 kC
    cases one
    · have hE := hide (show tcQ p zs = ⟨[], []⟩ ∧ tcB p zs = false from by unfold tcQ tcB; rw [← hok.out, ← hone.out]; exact ⟨rfl, rfl⟩)
      obtain ⟨r0, r1⟩ := (show w2.cell? ⟨W0.heap.size, 0, none⟩ = some (.slice none 0 0) ∧ w2.cell? ⟨W0.heap.size, 1, none⟩ = some (.slice none 0 0) from ⟨R2.out.cell 0, R2.out.cell 1⟩)
      obtain ⟨r2, r3⟩ := (show w2.frozen? ⟨W0.heap.size, 0, none⟩ = false ∧ w2.frozen? ⟨W0.heap.size, 1, none⟩ = false from ⟨R2.out.frozen 0, R2.out.frozen 1⟩)
      have lR := R2.out.lt
      go_wp2_with fail
      refine bodyPost_ret (v := .tuple #[.agg #[.slice none 0 0, .slice none 0 0], .bool false]) (by simp [results, Try.results48, go_sem, r0, r1]; done) rfl ?_
      rw [hE.out.1, hE.out.2]
      exact FenR.no (((B0.out.trans (B2.out.mono B0.out.size)).setCell (p := ⟨W0.heap.size, 0, none⟩) (by have := hsz0.out; show w.heap.size ≤ W0.heap.size; omega) _).setCell (p := ⟨W0.heap.size, 1, none⟩) (by have := hsz0.out; show w.heap.size ≤ W0.heap.size; omega) _)
    · have kT := hide (turnByI_any AO zs n cO p.init.length 92 (.agg #[.slice A p.init.length c, .slice A' p.ts.length c']) (Old W0.heap.size) w2 hz.out hn63 (by have := hi6.out; omega) (kIn.out w2 B2.out).2.1 (kIn.out w2 B2.out).1.2.2)
      obtain ⟨od, hod⟩ : ∃ od, od = orderB zs p.init.length := ⟨_, rfl⟩
      rw [← hod] at kT
      replace hod := hide hod
      have X0 := (kIn.out w2 B2.out).2.2
      have x0 := X0.cell 0
      have x1 := X0.cell 1
      have lx := X0.lt
      simp only [List.getElem?_toArray, List.getElem?_cons_zero, List.getElem?_cons_succ] at x0 x1
      clear X0
      go_wp2_with fail
      refine kT.out.mono ?_
      rintro e w3 ⟨v3, rfl, hv3, hb3⟩
      have B3 := hide (B2.out.trans (hb3.mono B2.out.size))
      have R3 := hide (R2.out.below hb3 R2.out.lt)
      clear x0 x1 lx hb3 B2 R2 kT
      cases od
      · have hE := hide (show tcQ p zs = ⟨[], []⟩ ∧ tcB p zs = false from by unfold tcQ tcB; rw [← hok.out, ← hone.out, ← hod.out]; exact ⟨rfl, rfl⟩)
        have hv4 : v3 = #[.slice none 0 0, .nilFunc] := hv3
        subst hv4
        have b4 := below1 w3 (Obj.cells #[.slice none 0 0, .nilFunc] 110)
        obtain ⟨w4, hw4⟩ : ∃ x, x = w3.alloc (Obj.cells #[.slice none 0 0, .nilFunc] 110) := ⟨_, rfl⟩
        rw [← hw4] at b4
        have B4 := hide (B3.out.trans (b4.mono B3.out.size))
        have R4 := hide (R3.out.below b4 R3.out.lt)
        clear hv3 b4 B3 R3
        go_upto_region 4 with fail
        rw [← hw4]
        clear hw4
        obtain ⟨r0, r1⟩ := (show w4.cell? ⟨W0.heap.size, 0, none⟩ = some (.slice none 0 0) ∧ w4.cell? ⟨W0.heap.size, 1, none⟩ = some (.slice none 0 0) from ⟨R4.out.cell 0, R4.out.cell 1⟩)
        obtain ⟨r2, r3⟩ := (show w4.frozen? ⟨W0.heap.size, 0, none⟩ = false ∧ w4.frozen? ⟨W0.heap.size, 1, none⟩ = false from ⟨R4.out.frozen 0, R4.out.frozen 1⟩)
        have lR := R4.out.lt
        go_wp2_with fail
        refine bodyPost_ret (v := .tuple #[.agg #[.slice none 0 0, .slice none 0 0], .bool false]) (by simp [results, Try.results48, go_sem, r0, r1]; done) rfl ?_
        rw [hE.out.1, hE.out.2]
        exact FenR.no (((B0.out.trans (B4.out.mono B0.out.size)).setCell (p := ⟨W0.heap.size, 0, none⟩) (by have := hsz0.out; show w.heap.size ≤ W0.heap.size; omega) _).setCell (p := ⟨W0.heap.size, 1, none⟩) (by have := hsz0.out; show w.heap.size ≤ W0.heap.size; omega) _)
      · have hE := hide (show tcQ p zs = ⟨sentI p.init p.init zs p.init.length, p.ts.map (List.map (turnD zs))⟩ ∧ tcB p zs = true from by unfold tcQ tcB; rw [← hok.out, ← hone.out, ← hod.out]; exact ⟨rfl, rfl⟩)
        have hord := order_get hod.out.symm
        have hpn := hide (show p.init.length = n from by have := hord.1; have := hz.out; omega)
        have hin := hide (show ∀ k, k < n → 0 ≤ geti zs k ∧ geti zs k < n from fun k hk => by
          have h1 := hord.2 k (by have := hord.1; have := hz.out; omega)
          have h2 := hpn.out
          omega)
        have hv4 : v3 = #[.slice AO n cO, .func (.func 92) #[.agg #[.slice A p.init.length c, .slice A' p.ts.length c']] #[]] := hv3
        subst hv4
        have b4 := below1 w3 (Obj.cells #[.slice AO n cO, .func (.func 92) #[.agg #[.slice A p.init.length c, .slice A' p.ts.length c']] #[]] 110)
        obtain ⟨w4, hw4⟩ : ∃ x, x = w3.alloc (Obj.cells #[.slice AO n cO, .func (.func 92) #[.agg #[.slice A p.init.length c, .slice A' p.ts.length c']] #[]] 110) := ⟨_, rfl⟩
        have Y4 := hide (show Blk w4 w3.heap.size 110 #[.slice AO n cO, .func (.func 92) #[.agg #[.slice A p.init.length c, .slice A' p.ts.length c']] #[]] from by rw [hw4]; exact Blk.new _ _ _)
        rw [← hw4] at b4
        have B4 := hide (B3.out.trans (b4.mono B3.out.size))
        have R4 := hide (R3.out.below b4 R3.out.lt)
        have hs4 := hide (show W0.heap.size + 1 ≤ w4.heap.size from by have := R4.out.lt; omega)
        clear hv3 b4 B3 R3 hord
        go_upto_region 4 with fail
        rw [← hw4]
        obtain ⟨b6, hb6⟩ : ∃ x, x = w3.heap.size := ⟨_, rfl⟩
        rw [← hb6] at Y4 ⊢
        clear hw4 hb6
        have kS := hide (sentI_any AO A A' zs n cO c c' p (Old W0.heap.size) w4 hz.out (by have := hi6.out; have := hpn.out; omega) (kIn.out w4 B4.out).2.1 (kIn.out w4 B4.out).1.2.2 (kIn.out w4 B4.out).1.1 hpn.out hin.out)
        have y0 := Y4.out.cell 0
        have y1 := Y4.out.cell 1
        have ly := Y4.out.lt
        simp only [List.getElem?_toArray, List.getElem?_cons_zero, List.getElem?_cons_succ] at y0 y1
        go_upto_region 6 with fail
        go_wp2_with fail
        refine kS.out.mono ?_
        rintro e w5 ⟨A5, rfl, ho5, hb5⟩
        obtain ⟨q0, hq0⟩ : ∃ q, q = sentI (List.replicate n 0) p.init zs n := ⟨_, rfl⟩
        rw [← hq0] at ho5
        have hql : q0.length = n := by rw [hq0, sentI_len, List.length_replicate]
        have hqe := hide (show q0 = sentI p.init p.init zs p.init.length from by
          rw [hq0, ← hpn.out]
          exact sentI_all _ _ _ _ _ (by simp) rfl hod.out.symm)
        have B5 := hide (B4.out.trans (hb5.mono B4.out.size))
        have R5 := hide (R4.out.below hb5 R4.out.lt)
        have C6 := CrAt.startO (w0 := W0) (zs := q0) (v := .slice A5 n n) B5.out (Nat.le_trans hs4.out hb5.size) ⟨_, _, R5.out⟩ (by rw [hql]; exact own_base ho5 (by have := hs4.out; omega))
        obtain ⟨w6, hw6⟩ : ∃ x, x = w5.alloc (Obj.cells #[.slice A5 n n, .slice none 0 0] 37) := ⟨_, rfl⟩
        obtain ⟨T, hT⟩ : ∃ x, x = w5.heap.size := ⟨_, rfl⟩
        rw [← hw6, ← hT] at C6
        have C6 := hide (show CrAt W0 T q0 (.slice A5 n n) (tcP zs p.ts 0) [] (.slice none 0 0) w6 from C6)
        clear y0 y1 ly kS B4 R4 Y4 hq0 ho5 hb5 hql hs4
        go_upto_region 7 with fail
        rw [← hw6, ← hT]
        clear hw6 hT B5 R5
        have X0 := (kIn.out w6 C6.out.below).2.2
        have x0 := X0.cell 0
        have x1 := X0.cell 1
        have lx := X0.lt
        simp only [List.getElem?_toArray, List.getElem?_cons_zero, List.getElem?_cons_succ] at x0 x1
        clear X0
        go_wp2_with fail
        clear x0 x1 lx
        go_loopw [38] (fun i wr => ∃ (k : Nat) (vs : List Value) (tv : Value), k ≤ p.ts.length ∧ i = .int .i64 k ∧ Hid (CrAt W0 T q0 (.slice A5 n n) (tcP zs p.ts k) vs tv wr)) (fun i _ => p.ts.length - (intOf i).toNat)
        case atStart => exact ⟨0, _, _, Nat.zero_le _, rfl, C6⟩
        case round =>
          clear C6
          obtain ⟨k, vs, tv, hk, rfl, C0⟩ := hrel
          have h33 := h3.out
          by_cases hlt : k < p.ts.length
          · have hlt' : decide ((k : Int) < (p.ts.length : Int)) = true := decide_eq_true (by omega)
            have hst := hide (tcP_succ zs p.ts k hlt)
            have hx := hcell.out k
            have kc := hide (copyOfThread_any A A' c c' k p (Old W0.heap.size) wr (kIn.out wr C0.out.below).2.1 (kIn.out wr C0.out.below).1.2.1 hlt (hl.out k))
            have hlk := hl.out k
            obtain ⟨l, hll⟩ : ∃ l, l = gett p.ts k := ⟨_, rfl⟩
            rw [← hll] at hst kc hlk
            have hx := hide (show ∀ j, j < l.length → touchN (getd l j).o ≠ 0 → 0 ≤ (getd l j).x ∧ (getd l j).x < n from fun j hj ht => by
              rw [hll] at hj ht ⊢
              have h1 := hx j hlt hj ht
              have h2 := hpn.out
              omega)
            obtain ⟨l2, hl2⟩ : ∃ l2, l2 = l.map (turnD zs) := ⟨_, rfl⟩
            have hlen : l.length = l2.length := by rw [hl2, List.length_map]
            rw [← hl2] at hst
            have X0 := (kIn.out wr C0.out.below).2.2
            have x0 := X0.cell 0
            have x1 := X0.cell 1
            have lx := X0.lt
            simp only [List.getElem?_toArray, List.getElem?_cons_zero, List.getElem?_cons_succ] at x0 x1
            clear X0 hll
            go_wp2_with fail
            refine kc.out.mono ?_
            rintro e w5 ⟨A6, c6, rfl, ho5, hb5⟩
            rw [hlen] at ho5 ⊢
            rw [hlen] at hx hlk
            obtain ⟨bt, hbt⟩ : ∃ x, x = w5.heap.size := ⟨_, rfl⟩
            have hb6 := below1 w5 (Obj.cells #[(.slice A6 l2.length c6)] 45)
            obtain ⟨w6, hw6⟩ : ∃ x, x = w5.alloc (Obj.cells #[(.slice A6 l2.length c6)] 45) := ⟨_, rfl⟩
            have K6 := hide (show Blk w6 bt 45 #[(.slice A6 l2.length c6)] from by rw [hw6, hbt]; exact Blk.new _ _ _)
            rw [← hw6] at hb6
            have O6 := own_keep ho5 (fun b _ h => hb6.block b h)
            have hb56 := hide (hb5.trans (hb6.mono hb5.size))
            have hbtn := hide (show some bt ≠ (Value.slice A6 l2.length c6).ownBlock from fun e => by
              have := (own_lt ho5 e.symm).2.1
              omega)
            have kt := hide (turnCells_any A6 AO l zs l2.length n c6 cO wr.heap.size (Old W0.heap.size) w6 hb56.out.size hlen hlk hz.out (fun b h => Nat.lt_of_lt_of_le h C0.out.below.size) (kIn.out w6 (C0.out.below.trans (hb56.out.mono C0.out.below.size))).1.2.2 O6 hx.out)
            rw [← hl2] at kt
            have O6 := hide O6
            have hk0 := K6.out.cell 0
            have lk := K6.out.lt
            simp only [List.getElem?_toArray, List.getElem?_cons_zero] at hk0
            clear x0 x1 lx hb6 ho5 hb5 kc hl2 hlen hx
            go_upto_region 11 with fail
            rw [← hw6, ← hbt]
            clear hw6 hbt
            go_wp2_with fail
            refine kt.out.mono ?_
            rintro e w7 ⟨rfl, ho7, hg7⟩
            have hb7 : Below wr.heap.size wr w7 := hb56.out.trans (below_own hg7 (fun j hj e => by have := (own_lt O6.out e.symm).1; omega) hb56.out.size)
            have K7 : Blk w7 bt 45 #[(.slice A6 l2.length c6)] := (hg7.block bt K6.out.lt hbtn.out).trans K6.out
            have L7 := hide (C0.out.lat hb7 ho7)
            have L8 := hide (L7.out.alloc (Obj.cells #[(.slice A6 l2.length c6)] 45))
            have hm := tcP_len zs p.ts k hk
            obtain ⟨A9, c9, htv, -⟩ := own_form C0.out.own.rows
            rw [hm] at htv
            subst htv
            have t8 : w7.cell? ⟨T, 1, none⟩ = some (.slice A9 k c9) := L7.out.cr.blk.cell 1
            have lT7 := L7.out.cr.blk.lt
            have k7 : w7.cell? ⟨bt, 0, none⟩ = some (.slice A6 l2.length c6) := K7.cell 0
            have lk7 := K7.lt
            have t9 : (w7.alloc (Obj.cells #[(.slice A6 l2.length c6)] 45)).cell? ⟨T, 1, none⟩ = some (.slice A9 k c9) := L8.out.cr.blk.cell 1
            have hR := hide (show (w7.alloc (Obj.cells #[(.slice A6 l2.length c6)] 45)).ownsRow (W0.heap.size + 1) 45 1 (.slice A9 k c9) k vs from by have h := L8.out.cr.own.rows; rwa [hm] at h)
            have hszz : W0.heap.size + 1 ≤ w7.heap.size := by have := L7.out.cr.lo; omega
            replace hm := hide hm
            clear hk0 lk hb7 ho7 hg7 K6 K7 O6 kt hb56 hbtn
            go_wp2_with (at_builtin; refine wpList_append_lies _ rfl _ _ _ rfl (W0.heap.size + 1) 45 i2 _ 1 24 Try.underlying35 hi2.out hx0 hx1 hx2 rfl (by omega) (.slice A9 k c9) k vs rfl hR.out ⟨w7.heap.size, 0, none⟩ 1 1 [(.slice A6 l2.length c6)] rfl rfl (World.news_of_block (cs := #[(.slice A6 l2.length c6)]) (heap_alloc_new _ _)) (by simp [Value.oneCell']) (by omega) (by have : maxLen = 9223372036854775807 := rfl; omega) (by omega) (by simp; omega) _ rfl ?_)
            intro g8 cap8 w8 hown8 hgr8 hat8 hlt8
            obtain ⟨⟨⟨s0, s1⟩, s2, s3⟩, hC8⟩ := L8.out.growRows rfl (by rw [hm.out]; exact hown8) hgr8
            have C8 := hide hC8
            have lT8 : T < w8.heap.size := by have := C8.out.blk.lt; simpa using this
            clear hown8 hgr8 hat8 hC8 t8 t9 k7 lk7 lT7 hR L7 L8
            go_wp2_with fail
            go_roundw
            case rel => exact ⟨k + 1, _, _, by omega, by go_num, hide (by rw [hst.out]; exact C8.out)⟩
            case measure => simp [intOf]; omega
          · obtain rfl : k = p.ts.length := by omega
            have hlt' : decide ((p.ts.length : Int) < (p.ts.length : Int)) = false := decide_eq_false (by omega)
            have hm := tcP_len zs p.ts p.ts.length hk
            obtain ⟨A9, c9, htv, -⟩ := own_form C0.out.own.rows
            rw [hm] at htv
            subst htv
            obtain ⟨⟨t0, t1⟩, t2, t3⟩ := C0.out.cells
            have lT := C0.out.blk.lt
            obtain ⟨u, u', hR⟩ := C0.out.out
            obtain ⟨r0, r1⟩ := (show wr.cell? ⟨W0.heap.size, 0, none⟩ = some u ∧ wr.cell? ⟨W0.heap.size, 1, none⟩ = some u' from ⟨hR.cell 0, hR.cell 1⟩)
            obtain ⟨r2, r3⟩ := (show wr.frozen? ⟨W0.heap.size, 0, none⟩ = false ∧ wr.frozen? ⟨W0.heap.size, 1, none⟩ = false from ⟨hR.frozen 0, hR.frozen 1⟩)
            have lR := hR.lt
            have hTR := hide (show W0.heap.size ≠ T from by have := C0.out.lo; omega)
            have hTR2 : (T = W0.heap.size) = False := by simp; have := hTR.out; omega
            have hsz1 := hsz0.out
            replace hm := hide hm
            clear hR hk hlt
            go_wp2_with fail
            refine bodyPost_ret (v := .tuple #[.agg #[.slice A5 n n, .slice A9 p.ts.length c9], .bool true]) (by simp [results, Try.results48, go_sem, r0, r1]; done) rfl ?_
            rw [hE.out.1, hE.out.2, ← hqe.out]
            have hC9 := C0.out
            rw [tcP_all] at hC9
            refine ⟨_, _, vs, rfl, ?_, B0.out.trans (((C0.out.below.setCell (p := ⟨W0.heap.size, 0, none⟩) (Nat.le_refl _) _).setCell (p := ⟨W0.heap.size, 1, none⟩) (Nat.le_refl _) _).mono B0.out.size)⟩
            have h1 := hC9.own.keep (w1 := (wr.setCell ⟨W0.heap.size, 0, none⟩ (.slice A5 n n)).setCell ⟨W0.heap.size, 1, none⟩ (.slice A9 p.ts.length c9)) (fun b hb _ => (Below.heap_setCell _ _ _ b (by show b ≠ W0.heap.size; omega)).trans (Below.heap_setCell _ _ _ b (by show b ≠ W0.heap.size; omega)))
            exact h1.base (by omega)
end Go.Proofs.Ytjendjbbhohjcaa

namespace Go.Proofs.Ytjendjbbhohjcaa
open Go.RowKit

theorem size_of_small {p : ProgD} (h1 : p.init.length ≤ 6) (h2 : p.ts.length ≤ 3) (h3 : ∀ j, j < p.ts.length → (gett p.ts j).length ≤ 24) : progSize p ≤ 1048576 := by
  have h4 := insTo_bound p.ts 24 p.ts.length h3 (Nat.le_refl _)
  have h5 := insTo_all p.ts
  unfold progSize
  omega
theorem turnQ_size (p : ProgD) (zs : List Int) : progSize (turnQ p zs) ≤ 1048576 := by
  unfold turnQ
  cases h : turnB p zs
  · rw [if_neg (by decide)]; decide
  · rw [if_pos rfl]
    unfold turnB orderB at h
    simp only [Bool.and_eq_true, decide_eq_true_eq] at h
    have h3 := prog_thr h.1
    refine size_of_small h3.1 (by show (turnTs _ _ _).length ≤ 3; rw [turnTs_len]; omega) fun j hj => ?_
    show (gett (turnTs p.ts zs zs.length) j).length ≤ 24
    have hj' : j < (turnTs p.ts zs zs.length).length := hj
    rw [turnTs_len] at hj'
    rw [turnTs_get p.ts zs _ j hj']
    exact prog_rows h.1 _
end Go.Proofs.Ytjendjbbhohjcaa

namespace Go.Proofs.Ytjendjbbhohjcaa
open Go.RowKit

theorem tcQ_size (p : ProgD) (zs : List Int) : progSize (tcQ p zs) ≤ 1048576 := by
  unfold tcQ
  cases h : tcB p zs
  · rw [if_neg (by decide)]; decide
  · rw [if_pos rfl]
    unfold tcB at h
    rw [Bool.and_eq_true] at h
    have h3 := prog_thr h.1
    refine size_of_small (by show (sentI _ _ _ _).length ≤ 6; rw [sentI_len]; exact h3.1) (by show (p.ts.map _).length ≤ 3; rw [List.length_map]; exact h3.2.1) fun j hj => ?_
    have hj' : j < p.ts.length := by simpa using hj
    have e : gett (p.ts.map (List.map (turnD zs))) j = (gett p.ts j).map (turnD zs) := by
      unfold gett
      rw [List.getD_eq_getElem?_getD, List.getElem?_map, List.getD_eq_getElem?_getD, List.getElem?_eq_getElem hj']
      rfl
    show (gett (p.ts.map (List.map (turnD zs))) j).length ≤ 24
    rw [e, List.length_map]
    exact prog_rows h.1 j
end Go.Proofs.Ytjendjbbhohjcaa
