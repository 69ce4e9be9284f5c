/- The model's Fenced. -/
import Derived.Test.YtfkaacfeikmabaaMx0
import Derived.Test.YtfkaacfeikmabaaMx14
import Derived.Test.YtfkaacfeikmabaaMx15
import Derived.Test.YtfkaacfeikmabaaMx16
namespace Go.Proofs.Ytfkaacfeikmabaa
open Go.RowKit

attribute [local go_sem ↓] Go.wp_at_zero Go.wp_at_succ

set_option maxRecDepth 100000 in
set_option maxHeartbeats 12800000 in
theorem fencedS_no (p : ProgD) (A1 A2 A : Option Addr) (c1 c2 n c : Nat) (zs : List Int) (S : Nat → Prop) (w : World) (hz : zs.length = n * 2) (hn : n ≤ 1048576) (hS : ∀ b, S b → b < w.heap.size) (hcc : p.init.length ≤ c1 ∧ p.ts.length ≤ c2) (hi : IntsAt w S A1 p.init) (ht : ThreadsAt w S A2 p.ts) (ha : IntsAt w S A zs) (hno : (progB p && spotsB p.ts zs n) = false) :
    Calls Try.prog 15 #[.agg #[.slice A1 p.init.length c1, .slice A2 p.ts.length c2], .slice A n c] w fun e w' => FenR w w' e ⟨[], []⟩ false := by
  have hb0 := below2 w (Obj.cells #[.slice A1 p.init.length c1, .slice A2 p.ts.length c2] 31) (Obj.cells #[.slice none 0 0, .slice none 0 0] 31)
  have hok := hide (sprogOk_any (.agg #[.slice A1 p.init.length c1, .slice A2 p.ts.length c2]) p S _ (fun b h => Nat.lt_of_lt_of_le (hS b h) hb0.size) ⟨A1, c1, A2, c2, rfl, hcc, hi.below hb0 hS, ht.below hb0 hS⟩)
  have X0 := hide ((Blk.new w 31 #[.slice A1 p.init.length c1, .slice A2 p.ts.length c2]).alloc (Obj.cells #[.slice none 0 0, .slice none 0 0] 31))
  have R0 := Blk.new (w.alloc (Obj.cells #[.slice A1 p.init.length c1, .slice A2 p.ts.length c2] 31)) 31 #[.slice none 0 0, .slice none 0 0]
  simp only [World.size_alloc] at R0
  replace R0 := hide R0
  have T0 := hide (ht.below hb0 hS)
  have Z0 := hide (ha.below hb0 hS)
  have hS1 := hide (fun b (h : S b) => (show b < ((w.alloc (Obj.cells #[.slice A1 p.init.length c1, .slice A2 p.ts.length c2] 31)).alloc (Obj.cells #[.slice none 0 0, .slice none 0 0] 31)).heap.size from Nat.lt_of_lt_of_le (hS b h) hb0.size))
  replace hb0 := hide hb0
  clear hi ht ha
  go_enter Try.func15, Try.ntmps15
  go_wp2_with fail
  refine hok.out.mono ?_
  rintro e w1 ⟨rfl, hb1⟩
  have X1 := hide (X0.out.below hb1 X0.out.lt)
  have R1 := hide (R0.out.below hb1 R0.out.lt)
  have T1 := hide (T0.out.below hb1 (fun b h => hS1.out b h))
  have Z1 := hide (Z0.out.below hb1 (fun b h => hS1.out b h))
  have B1 := hide (below_then hb0.out hb1)
  have hS2 := hide (fun b (h : S b) => (show b < w1.heap.size from Nat.lt_of_lt_of_le (hS1.out b h) hb1.size))
  clear hok hb1 X0 R0 T0 Z0 hb0 hS1
  cases hB : progB p
  · obtain ⟨r0, r1⟩ := (show w1.cell? ⟨w.heap.size + 1, 0, none⟩ = some (.slice none 0 0) ∧ w1.cell? ⟨w.heap.size + 1, 1, none⟩ = some (.slice none 0 0) from ⟨R1.out.cell 0, R1.out.cell 1⟩)
    obtain ⟨r2, r3⟩ := (show w1.frozen? ⟨w.heap.size + 1, 0, none⟩ = false ∧ w1.frozen? ⟨w.heap.size + 1, 1, none⟩ = false from ⟨R1.out.frozen 0, R1.out.frozen 1⟩)
    have lR := R1.out.lt
    clear hno hB
    go_wp2_with fail
    refine bodyPost_ret (v := .tuple #[.agg #[.slice none 0 0, .slice none 0 0], .bool false]) (by simp [results, Try.results15, go_sem, r0, r1]; done) rfl (FenR.no ?_)
    exact (B1.out.setCell (p := ⟨w.heap.size + 1, 0, none⟩) (by show w.heap.size ≤ w.heap.size + 1; omega) _).setCell (p := ⟨w.heap.size + 1, 1, none⟩) (by show w.heap.size ≤ w.heap.size + 1; omega) _
  · rw [hB, Bool.true_and] at hno
    have kS := fun w h1 h2 h3 => l7spots_any A A1 A2 p.init.length n c c1 c2 zs p.ts S w hz hn h1 h2 h3
    rw [hno] at kS
    replace kS := hide kS
    obtain ⟨x0, x1⟩ := (show w1.cell? ⟨w.heap.size, 0, none⟩ = some (.slice A1 p.init.length c1) ∧ w1.cell? ⟨w.heap.size, 1, none⟩ = some (.slice A2 p.ts.length c2) from ⟨X1.out.cell 0, X1.out.cell 1⟩)
    have lX := X1.out.lt
    clear hno hB
    go_wp2_with fail
    refine (kS.out _ hS2.out T1.out Z1.out).mono ?_
    rintro e w2 ⟨rfl, hb2⟩
    have R2 := hide (R1.out.below hb2 R1.out.lt)
    have B2 := hide (below_then B1.out hb2)
    obtain ⟨r0, r1⟩ := (show w2.cell? ⟨w.heap.size + 1, 0, none⟩ = some (.slice none 0 0) ∧ w2.cell? ⟨w.heap.size + 1, 1, none⟩ = some (.slice none 0 0) from ⟨R2.out.cell 0, R2.out.cell 1⟩)
    obtain ⟨r2, r3⟩ := (show w2.frozen? ⟨w.heap.size + 1, 0, none⟩ = false ∧ w2.frozen? ⟨w.heap.size + 1, 1, none⟩ = false from ⟨R2.out.frozen 0, R2.out.frozen 1⟩)
    have lR := R2.out.lt
    clear x0 x1 lX hb2 kS
    go_wp2_with fail
    refine bodyPost_ret (v := .tuple #[.agg #[.slice none 0 0, .slice none 0 0], .bool false]) (by simp [results, Try.results15, go_sem, r0, r1]; done) rfl (FenR.no ?_)
    exact (B2.out.setCell (p := ⟨w.heap.size + 1, 0, none⟩) (by show w.heap.size ≤ w.heap.size + 1; omega) _).setCell (p := ⟨w.heap.size + 1, 1, none⟩) (by show w.heap.size ≤ w.heap.size + 1; omega) _
set_option maxRecDepth 100000 in
set_option maxHeartbeats 51200000 in
theorem fencedS_yes (p : ProgD) (A1 A2 A : Option Addr) (c1 c2 n c : Nat) (zs : List Int) (S : Nat → Prop) (w : World) (hz : zs.length = n * 2) (hn : n ≤ 1048576) (hS : ∀ b, S b → b < w.heap.size) (hcc : p.init.length ≤ c1 ∧ p.ts.length ≤ c2) (hi : IntsAt w S A1 p.init) (ht : ThreadsAt w S A2 p.ts) (ha : IntsAt w S A zs) (hB : progB p = true) (hsp : spotsB p.ts zs n = true) (bq : Bool) (q : ProgD) (hbq : Hid (progB (fenP p zs n) = bq)) (hqq : Hid (q = if bq then fenP p zs n else ⟨[], []⟩)) :
    Calls Try.prog 15 #[.agg #[.slice A1 p.init.length c1, .slice A2 p.ts.length c2], .slice A n c] w fun e w' => FenR w w' e q bq := by
  obtain ⟨i2, hi2, hx0, hx1, hx2⟩ := info_parts Try.infoThr
  replace hi2 := hide hi2
  obtain ⟨i1, hi1, hy0, hy1, hy2⟩ := info_parts Try.infoInt
  replace hi1 := hide hi1
  obtain ⟨i0, hi0, hz0, hz1, hz2⟩ := info_parts Try.infoInsT
  replace hi0 := hide hi0
  obtain ⟨h6, h3, h24⟩ := prog_thr hB
  have hup := hide (fun (t : Int) => atsS_up hsp t (Nat.le_refl n))
  have hjm := hide (fun (t : Nat) (ht : t < p.ts.length) k hk hl => prog_jumps hB (t := t) (k := k) ht hk hl)
  replace h24 := hide h24
  have hb0 := below2 w (Obj.cells #[.slice A1 p.init.length c1, .slice A2 p.ts.length c2] 31) (Obj.cells #[.slice none 0 0, .slice none 0 0] 31)
  have hok := sprogOk_any (.agg #[.slice A1 p.init.length c1, .slice A2 p.ts.length c2]) p S _ (fun b h => Nat.lt_of_lt_of_le (hS b h) hb0.size) ⟨A1, c1, A2, c2, rfl, hcc, hi.below hb0 hS, ht.below hb0 hS⟩
  rw [hB] at hok
  replace hok := hide hok
  have X0 := hide ((Blk.new w 31 #[.slice A1 p.init.length c1, .slice A2 p.ts.length c2]).alloc (Obj.cells #[.slice none 0 0, .slice none 0 0] 31))
  have R0 := Blk.new (w.alloc (Obj.cells #[.slice A1 p.init.length c1, .slice A2 p.ts.length c2] 31)) 31 #[.slice none 0 0, .slice none 0 0]
  simp only [World.size_alloc] at R0
  replace R0 := hide R0
  have T0 := hide (ht.below hb0 hS)
  have Z0 := hide (ha.below hb0 hS)
  have I0 := hide (hi.below hb0 hS)
  have hS1 := hide (fun b (h : S b) => (show b < ((w.alloc (Obj.cells #[.slice A1 p.init.length c1, .slice A2 p.ts.length c2] 31)).alloc (Obj.cells #[.slice none 0 0, .slice none 0 0] 31)).heap.size from Nat.lt_of_lt_of_le (hS b h) hb0.size))
  obtain ⟨w0, hw0⟩ : ∃ w0, w0 = w.alloc (Obj.cells #[.slice A1 p.init.length c1, .slice A2 p.ts.length c2] 31) := ⟨_, rfl⟩
  have hw0s : w0.heap.size = w.heap.size + 1 := by rw [hw0, World.size_alloc]
  have hbw := hide (show Below w.heap.size w w0 from by rw [hw0]; exact below1 _ _)
  have hb0' := hide (show Below w0.heap.size w0 ((w.alloc (Obj.cells #[.slice A1 p.init.length c1, .slice A2 p.ts.length c2] 31)).alloc (Obj.cells #[.slice none 0 0, .slice none 0 0] 31)) from by rw [hw0]; exact below1 _ _)
  have TW := hide (ht.below hbw.out hS)
  have ZW := hide (ha.below hbw.out hS)
  have hSW := hide (fun b (h : S b) => (show b < w0.heap.size from Nat.lt_of_lt_of_le (hS b h) hbw.out.size))
  have hXW := hide (show Blk w0 w.heap.size 31 #[.slice A1 p.init.length c1, .slice A2 p.ts.length c2] from by rw [hw0]; exact Blk.new _ _ _)
  clear hi ht ha hB hb0 hw0
  have kS := fun w h1 h2 h3 => l7spots_any A A1 A2 p.init.length n c c1 c2 zs p.ts S w hz hn h1 h2 h3
  rw [hsp] at kS
  replace kS := hide kS
  clear hsp
  go_enter Try.func15, Try.ntmps15
  go_wp2_with fail
  refine hok.out.mono ?_
  rintro e w1 ⟨rfl, hb1⟩
  have X1 := hide (X0.out.below hb1 X0.out.lt)
  have R1 := hide (R0.out.below hb1 R0.out.lt)
  have T1 := hide (T0.out.below hb1 (fun b h => hS1.out b h))
  have Z1 := hide (Z0.out.below hb1 (fun b h => hS1.out b h))
  have I1 := hide (I0.out.below hb1 (fun b h => hS1.out b h))
  have B1 := hide (hb0'.out.trans (hb1.mono hb0'.out.size))
  have hS2 := hide (fun b (h : S b) => (show b < w1.heap.size from Nat.lt_of_lt_of_le (hS1.out b h) hb1.size))
  clear hok hb1 X0 R0 T0 Z0 I0 hb0' hS1
  obtain ⟨x0, x1⟩ := (show w1.cell? ⟨w.heap.size, 0, none⟩ = some (.slice A1 p.init.length c1) ∧ w1.cell? ⟨w.heap.size, 1, none⟩ = some (.slice A2 p.ts.length c2) from ⟨X1.out.cell 0, X1.out.cell 1⟩)
  have lX := X1.out.lt
  go_wp2_with fail
  refine (kS.out _ hS2.out T1.out Z1.out).mono ?_
  rintro e w2 ⟨rfl, hb2⟩
  have X2 := hide (X1.out.below hb2 X1.out.lt)
  have R2 := hide (R1.out.below hb2 R1.out.lt)
  have T2 := hide (T1.out.below hb2 (fun b h => hS2.out b h))
  have Z2 := hide (Z1.out.below hb2 (fun b h => hS2.out b h))
  have I2 := hide ((I1.out.below hb2 (fun b h => hS2.out b h)).more (fun b h => show Old w2.heap.size b from Nat.lt_of_lt_of_le (hS2.out b h) hb2.size))
  have B2 := hide (B1.out.trans (hb2.mono B1.out.size))
  have hS3 := hide (fun b (h : S b) => (show b < w2.heap.size from Nat.lt_of_lt_of_le (hS2.out b h) hb2.size))
  clear x0 x1 lX hb2 X1 R1 T1 Z1 I1 B1 kS hS2
  obtain ⟨x0, x1⟩ := (show w2.cell? ⟨w.heap.size, 0, none⟩ = some (.slice A1 p.init.length c1) ∧ w2.cell? ⟨w.heap.size, 1, none⟩ = some (.slice A2 p.ts.length c2) from ⟨X2.out.cell 0, X2.out.cell 1⟩)
  have lX := X2.out.lt
  have hbE := below1 w2 (Obj.cells #[] 3)
  have hownE := hide (own_row (w := w2) (B := w2.heap.size) (e := 3) (size := 1) (n := 0) (cs := #[]) (Nat.le_refl _) (by omega) rfl)
  have hsrcE := hide (I2.out.below hbE (fun b h => h))
  go_wp2_with (at_builtin; refine wpList_append_src _ rfl _ _ _ rfl w2.heap.size 3 i1 _ 1 8 Try.underlying22 hi1.out hy0 hy1 hy2 rfl (by omega) (.slice (some ⟨w2.heap.size, 0, none⟩) 0 0) 0 [] rfl hownE.out (Old w2.heap.size) A1 p.init.length c1 p.init rfl (by omega) hsrcE.out (by have : maxLen = 9223372036854775807 := rfl; omega) (by omega) (by simp) ?_)
  intro A3 c3 w3 hown3 hgr3 _
  have hb3 : Below w2.heap.size w2 w3 := hbE.trans (below_own (B := w2.heap.size) hgr3 (fun k hk e => by
    have e2 : w2.heap.size = k := by simpa [Value.ownBlock] using e.symm
    omega) (by simp))
  clear x0 x1 lX hgr3 hbE hownE hsrcE
  have hR3 := R2.out.below hb3 R2.out.lt
  have hRl := R2.out.lt
  have hb4 := below1 w3 (Obj.cells #[.slice A3 p.init.length c3, .slice none 0 0] 31)
  have hb34 := below_then hb3 hb4
  have B4 := B2.out.trans (hb34.mono B2.out.size)
  have C4 := hide (show CrAt w0 w3.heap.size p.init (.slice A3 p.init.length c3) (fenTs p zs n 0) [] (.slice none 0 0) (w3.alloc (Obj.cells #[.slice A3 p.init.length c3, .slice none 0 0] 31)) from
    ⟨B4, Blk.new _ _ _, ⟨own_base (kept hown3 (fun k hk _ => hb4.block k hk)) (by omega), ⟨rfl, .inl ⟨rfl, rfl⟩⟩, fun k hk => by simp [fenTs] at hk, fun j k _ hk => by simp [fenTs] at hk⟩, by have := hb3.size; omega, ⟨_, _, by rw [hw0s]; exact hR3.below hb4 hR3.lt⟩⟩)
  have X4 := hide (X2.out.below hb34 X2.out.lt)
  have T4 := hide (T2.out.below hb34 (fun b h => hS3.out b h))
  have Z4 := hide (Z2.out.below hb34 (fun b h => hS3.out b h))
  have hS4 := hide (fun b (h : S b) => (show b < (w3.alloc (Obj.cells #[.slice A3 p.init.length c3, .slice none 0 0] 31)).heap.size from Nat.lt_of_lt_of_le (hS3.out b h) hb34.size))
  have x1 : (w3.alloc (Obj.cells #[.slice A3 p.init.length c3, .slice none 0 0] 31)).cell? ⟨w.heap.size, 1, none⟩ = some (.slice A2 p.ts.length c2) := X4.out.cell 1
  have lX : w.heap.size < (w3.alloc (Obj.cells #[.slice A3 p.init.length c3, .slice none 0 0] 31)).heap.size := X4.out.lt
  have lX3 := Nat.lt_of_lt_of_le X2.out.lt hb3.size
  clear hR3 hRl hb34 hb4 hown3 hb3 B4 X2 R2 T2 Z2 I2 B2 hS3
  go_wp2_with fail
  clear x1 lX lX3
  obtain ⟨w4, hw4⟩ : ∃ wq, wq = w3.alloc (Obj.cells #[.slice A3 p.init.length c3, .slice none 0 0] 31) := ⟨_, rfl⟩
  rw [← hw4] at C4 X4 T4 Z4 hS4 ⊢
  obtain ⟨T, hT⟩ : ∃ T, T = w3.heap.size := ⟨_, rfl⟩
  rw [← hT] at C4 ⊢
  clear hw4 hT
  obtain ⟨v, hv⟩ : ∃ v, v = Value.slice A3 p.init.length c3 := ⟨_, rfl⟩
  rw [← hv] at C4
  have XW := hide (show Blk w0 w.heap.size 31 #[.slice A1 p.init.length c1, .slice A2 p.ts.length c2] from hXW.out)
  go_loopw [7] (fun i wr => ∃ (k : Nat) (vs : List Value) (tv : Value), k ≤ p.ts.length ∧ i = .int .i64 k ∧ Hid (CrAt w0 T p.init v (fenTs p zs n k) vs tv wr)) (fun i _ => p.ts.length - (intOf i).toNat)
  case atStart => exact ⟨0, [], _, Nat.zero_le _, rfl, C4⟩
  case round =>
    clear C4 X4 T4 Z4 hS4
    obtain ⟨k, vs, tv, hk, rfl, C0⟩ := hrel
    have X0r := XW.out.below C0.out.below XW.out.lt
    have x1 : wr.cell? ⟨w.heap.size, 1, none⟩ = some (.slice A2 p.ts.length c2) := X0r.cell 1
    have lXr := X0r.lt
    by_cases hlt : k < p.ts.length
    · obtain ⟨bT, oT, rfl, hbT, hcT⟩ := (TW.out.below C0.out.below (fun b h => hSW.out b h)).2 (by omega)
      obtain ⟨A6, c6, d0, -, hIn⟩ := hcT k hlt
      have h24k := h24.out k hlt
      have hkl : k < p.ts.length := hlt
      have hlt' : decide ((k : Int) < (p.ts.length : Int)) = true := decide_eq_true (by omega)
      have hbTr := Nat.lt_of_lt_of_le (hSW.out bT hbT) C0.out.below.size
      have hbY := below1 wr (Obj.cells #[.slice none 0 0] 99)
      have G5a := ThG.nil (Blk.new wr 99 #[.slice none 0 0])
      have X5a := X0r.below hbY X0r.lt
      have D5a := (hbY.cell (p := ⟨bT, oT + k, none⟩) hbTr).trans d0
      have I5a := hIn.below hbY (fun b h => Nat.lt_of_lt_of_le (hSW.out b h) C0.out.below.size)
      have Z5a := (ZW.out.below C0.out.below (fun b h => hSW.out b h)).below hbY (fun b h => Nat.lt_of_lt_of_le (hSW.out b h) C0.out.below.size)
      have hS5a := (fun b (h : S b) => (show b < (wr.alloc (Obj.cells #[.slice none 0 0] 99)).heap.size from Nat.lt_of_lt_of_le (Nat.lt_of_lt_of_le (hSW.out b h) C0.out.below.size) hbY.size))
      have hSY := hide (fun b (h : S b) => (show b ≠ wr.heap.size from Nat.ne_of_lt (Nat.lt_of_lt_of_le (hSW.out b h) C0.out.below.size)))
      have hXY0 := hide (Nat.ne_of_lt X0r.lt)
      have hbTY := hide (Nat.ne_of_lt hbTr)
      have hbT5 := Nat.lt_of_lt_of_le hbTr hbY.size
      go_wp2_with fail
      obtain ⟨W5, hW5⟩ : ∃ wq, wq = wr.alloc (Obj.cells #[.slice none 0 0] 99) := ⟨_, rfl⟩
      rw [← hW5] at G5a X5a D5a I5a Z5a hS5a hbT5 hbY ⊢
      have hbW5 := hide hbY
      obtain ⟨Y, hY⟩ : ∃ Y, Y = wr.heap.size := ⟨_, rfl⟩
      rw [← hY] at G5a hSY hXY0 hbTY ⊢
      have hYr := hide hY
      clear hW5 hY d0 hcT hIn hbY hbTr X0r x1 lXr
      have G5 := hide G5a
      have X5 := hide X5a
      have D5 := hide D5a
      have I5 := hide I5a
      have Z5 := hide Z5a
      have hS5 := hide hS5a
      have hbT5 := hide hbT5
      clear G5a X5a D5a I5a Z5a hS5a
      obtain ⟨l, hl⟩ : ∃ l, l = gett p.ts k := ⟨_, rfl⟩
      rw [← hl] at D5 I5 h24k
      have hlr := hide hl
      clear hl
      have kH := hide (fun x w h => l7has_any A zs n c (k : Int) x S w hz hn h)
      go_loopw [9] (fun i wq => ∃ (j : Nat) (A' : Option Addr) (c' : Nat), j ≤ l.length ∧ i = .int .i64 j ∧ Hid (ThG W5 Y (fenI (atsS zs (k : Int) n) l j) A' c' wq)) (fun i _ => l.length - (intOf i).toNat)
      case atStart => exact ⟨0, none, 0, Nat.zero_le _, rfl, G5⟩
      case round =>
        clear G5
        obtain ⟨j, A1i, c1i, hj, rfl, H0⟩ := hrel
        have Xj := X5.out.only H0.out.only (fun e => hXY0.out e)
        have x1 : wr.cell? ⟨w.heap.size, 1, none⟩ = some (.slice (some ⟨bT, oT, none⟩) p.ts.length c2) := Xj.cell 1
        have lXj := Xj.lt
        have D6 := (H0.out.only.cell hbT5.out hbTY.out).trans D5.out
        have lb6 := Nat.lt_of_lt_of_le hbT5.out H0.out.only.size
        by_cases hjl : j < l.length
        · obtain ⟨q, off, rfl, hqS, hc⟩ := (I5.out.keep (S' := S) (fun b o h => H0.out.only.cell (hS5.out b h) (hSY.out b h)) (fun _ h => h)).2 (by omega)
          obtain ⟨d0, d1, d2, d3, d4, d5⟩ := hc j hjl
          have hNj : leapB (getd l j).o = true → 0 ≤ (getd l j).n ∧ (getd l j).n ≤ 24 := by
            have h1 := hjm.out k hkl j
            rw [← hlr.out] at h1
            exact h1 hjl
          obtain ⟨d, hd⟩ : ∃ d, d = getd l j := ⟨_, rfl⟩
          rw [← hd] at d0 d1 d2 d3 d4 d5 hNj
          have hst := hide (show fenI (atsS zs (k : Int) n) l (j + 1) = if hasL (atsS zs (k : Int) n) (j : Int) then fenI (atsS zs (k : Int) n) l j ++ [fence0, movedI (atsS zs (k : Int) n) d] else fenI (atsS zs (k : Int) n) l j ++ [movedI (atsS zs (k : Int) n) d] from by rw [hd]; rfl)
          clear hd hc
          obtain ⟨o, r, a, b, x, n5⟩ := d
          simp only at d0 d1 d2 d3 d4 d5 hNj
          have hlen0 := hide (fenI_len (atsS zs (k : Int) n) l j)
          obtain ⟨l0, hl0⟩ : ∃ l0, l0 = fenI (atsS zs (k : Int) n) l j := ⟨_, rfl⟩
          rw [← hl0] at H0 hst hlen0
          clear hl0
          have hbX := below1 wr (Obj.cells #[.int .i64 o, .int .i64 r, .int .i64 a, .int .i64 b, .int .i64 x, .int .i64 n5] 72)
          have X1a := Blk.new wr 72 #[.int .i64 o, .int .i64 r, .int .i64 a, .int .i64 b, .int .i64 x, .int .i64 n5]
          have H1a := H0.out.next hbX
          have hZ1a := (Z5.out.keep (S' := S) (fun b o h => H0.out.only.cell (hS5.out b h) (hSY.out b h)) (fun _ h => h)).below hbX (fun b h => Nat.lt_of_lt_of_le (hS5.out b h) H0.out.only.size)
          have hqX := Nat.lt_of_lt_of_le (hS5.out q hqS) H0.out.only.size
          have hjl' : decide ((j : Int) < (l.length : Int)) = true := decide_eq_true (by omega)
          have hjl2 : j < l.length := hjl
          cases hlp : leapB o
          · have hmv := hide (show movedI (atsS zs (k : Int) n) ⟨o, r, a, b, x, n5⟩ = ⟨o, r, a, b, x, n5⟩ from by unfold movedI; rw [if_neg (by show ¬ leapB o = true; rw [hlp]; decide)])
            have h13 : (o == 13) = false := by unfold leapB at hlp; simp only [Bool.or_eq_false_iff] at hlp; exact hlp.1
            have h14 : (o == 14) = false := by unfold leapB at hlp; simp only [Bool.or_eq_false_iff] at hlp; exact hlp.2
            clear hlp
            go_wp2_with fail
            obtain ⟨w1, hw1⟩ : ∃ wq, wq = wr.alloc (Obj.cells #[.int .i64 o, .int .i64 r, .int .i64 a, .int .i64 b, .int .i64 x, .int .i64 n5] 72) := ⟨_, rfl⟩
            rw [← hw1] at X1a H1a hZ1a ⊢
            obtain ⟨X, hX⟩ : ∃ X, X = wr.heap.size := ⟨_, rfl⟩
            have hXW : W5.heap.size ≤ X := by rw [hX]; exact H0.out.only.size
            have hXf : some X ≠ (Value.slice A1i l0.length c1i).ownBlock := fun e => by
              have := (own_at H0.out.own e.symm).2
              omega
            have hXS := hide (show ¬ S X from fun h => by have := hS5.out X h; omega)
            rw [← hX] at X1a ⊢
            have X1 := hide X1a
            have H1 := hide H1a
            have hZ1 := hide hZ1a
            clear d0 d1 d2 d3 d4 d5 hw1 hX X1a H1a hZ1a H0 x1 D6 Xj lXj lb6 hbX
            clear h13 h14
            refine (kH.out (j : Int) _ hZ1.out).mono ?_
            rintro e wx ⟨rfl, rfl⟩
            cases hf : hasL (atsS zs (k : Int) n) (j : Int)
            · have hstep := hide (show fenI (atsS zs (k : Int) n) l (j + 1) = l0 ++ [⟨o, r, a, b, x, n5⟩] from by rw [hst.out, hf]; exact congrArg (l0 ++ [·]) hmv.out)
              obtain ⟨l1, hl1⟩ : ∃ l1, l1 = l0 := ⟨_, rfl⟩
              rw [← hl1] at H1 hstep hlen0 hXf
              have hlen1 := hide (show l1.length ≤ 2 * j + 1 from by have := hlen0.out; omega)
              clear hlen0
              have hlen0 := hide hlen1.out
              clear hl1 hst hf hlen1
              obtain ⟨t0, t1⟩ := (show w1.cell? ⟨Y, 0, none⟩ = some (.slice A1i l1.length c1i) ∧ w1.frozen? ⟨Y, 0, none⟩ = false from ⟨H1.out.blk.cell 0, H1.out.blk.frozen 0⟩)
              obtain ⟨y0, y1, y2, y3, y4, y5⟩ := (show (w1.cell? ⟨X, 0, none⟩ = some (.int .i64 o) ∧ w1.cell? ⟨X, 1, none⟩ = some (.int .i64 r) ∧ w1.cell? ⟨X, 2, none⟩ = some (.int .i64 a) ∧ w1.cell? ⟨X, 3, none⟩ = some (.int .i64 b) ∧ w1.cell? ⟨X, 4, none⟩ = some (.int .i64 x) ∧ w1.cell? ⟨X, 5, none⟩ = some (.int .i64 n5)) from ⟨X1.out.cell 0, X1.out.cell 1, X1.out.cell 2, X1.out.cell 3, X1.out.cell 4, X1.out.cell 5⟩)
              have hTl := H1.out.blk.lt
              have hXl := X1.out.lt
              have hW2 := H1.out.only.size
              have hown2 := hide ((H1.out.next (below1 w1 (Obj.cells #[.int .i64 o, .int .i64 r, .int .i64 a, .int .i64 b, .int .i64 x, .int .i64 n5] 72))).own)
              have H2a := hide (H1.out.next (below1 w1 (Obj.cells #[.int .i64 o, .int .i64 r, .int .i64 a, .int .i64 b, .int .i64 x, .int .i64 n5] 72)))
              go_wp2_with (at_builtin; refine wpList_append_lies _ rfl _ _ _ rfl W5.heap.size 72 i0 _ 6 48 Try.underlying97 hi0.out hz0 hz1 hz2 rfl (by omega) (.slice A1i l1.length c1i) l1.length (flat l1) rfl hown2.out ⟨w1.heap.size, 0, none⟩ 1 1 [Value.int .i64 o, Value.int .i64 r, Value.int .i64 a, Value.int .i64 b, Value.int .i64 x, Value.int .i64 n5] rfl rfl (World.news_of_block (cs := #[Value.int .i64 o, Value.int .i64 r, Value.int .i64 a, Value.int .i64 b, Value.int .i64 x, Value.int .i64 n5]) (heap_alloc_new _ _)) (by simp [Value.oneCell']) (by omega) (by have := hlen0.out; have : maxLen = 9223372036854775807 := rfl; omega) (by have := hlen0.out; omega) (by simp; omega) _ rfl ?_)
              intro g3 cap3 w3 hown3 hg3 hat3 hlt3
              obtain ⟨⟨s0, s1⟩, hG3⟩ := H2a.out.grow (d := ⟨o, r, a, b, x, n5⟩) (by simp [insVals]) hown3 hg3
              have H3 := hide hG3
              clear hown3 hg3 hat3 hown2 H2a H1 X1 hG3 y0 y1 y2 y3 y4 y5 t0 t1
              go_wp2_with fail
              go_roundw
              case rel => exact ⟨j + 1, _, _, by omega, by go_num, hide (by rw [hstep.out]; exact H3.out)⟩
              case measure => simp [intOf]; omega
            · have hstep := hide (show fenI (atsS zs (k : Int) n) l (j + 1) = (l0 ++ [fence0]) ++ [⟨o, r, a, b, x, n5⟩] from by rw [hst.out, hf, List.append_assoc]; exact congrArg (fun d => l0 ++ [fence0, d]) hmv.out)
              obtain ⟨t0, t1⟩ := (show w1.cell? ⟨Y, 0, none⟩ = some (.slice A1i l0.length c1i) ∧ w1.frozen? ⟨Y, 0, none⟩ = false from ⟨H1.out.blk.cell 0, H1.out.blk.frozen 0⟩)
              have hTl := H1.out.blk.lt
              have hW1 := H1.out.only.size
              have hown1 := hide ((H1.out.next (below1 w1 (Obj.cells #[Value.int .i64 12, Value.int .i64 0, Value.int .i64 0, Value.int .i64 0, Value.int .i64 0, Value.int .i64 0] 72))).own)
              have H1a := hide (H1.out.next (below1 w1 (Obj.cells #[Value.int .i64 12, Value.int .i64 0, Value.int .i64 0, Value.int .i64 0, Value.int .i64 0, Value.int .i64 0] 72)))
              clear hst hf
              go_wp2_with (at_builtin; refine wpList_append_lies _ rfl _ _ _ rfl W5.heap.size 72 i0 _ 6 48 Try.underlying97 hi0.out hz0 hz1 hz2 rfl (by omega) (.slice A1i l0.length c1i) l0.length (flat l0) rfl hown1.out ⟨w1.heap.size, 0, none⟩ 1 1 [Value.int .i64 12, Value.int .i64 0, Value.int .i64 0, Value.int .i64 0, Value.int .i64 0, Value.int .i64 0] rfl rfl (World.news_of_block (cs := #[Value.int .i64 12, Value.int .i64 0, Value.int .i64 0, Value.int .i64 0, Value.int .i64 0, Value.int .i64 0]) (heap_alloc_new _ _)) (by simp [Value.oneCell']) (by omega) (by have := hlen0.out; have : maxLen = 9223372036854775807 := rfl; omega) (by have := hlen0.out; omega) (by simp; omega) _ rfl ?_)
              intro g4 cap4 w4 hown4 hg4 hat4 hlt4
              obtain ⟨⟨s0, s1⟩, hG4⟩ := H1a.out.grow (d := fence0) (by simp [insVals, fence0]) hown4 hg4
              have hXY : X ≠ Y := by have := H1.out.lt; omega
              have hX4a : Blk w4 X 72 #[.int .i64 o, .int .i64 r, .int .i64 a, .int .i64 b, .int .i64 x, .int .i64 n5] := (hg4.block X (by have := X1.out.lt; simp; omega) hXf).trans (X1.out.below (below1 w1 (Obj.cells #[Value.int .i64 12, Value.int .i64 0, Value.int .i64 0, Value.int .i64 0, Value.int .i64 0, Value.int .i64 0] 72)) X1.out.lt)
              have hX4 := hX4a.far (p := ⟨Y, 0, none⟩) hXY (.slice (some ⟨g4, 0, none⟩) (l0.length + 1) cap4)
              clear t0 t1 hTl hW1 hown1 hown4 hg4 hat4 hX4a
              go_upto_region 16 with fail
              obtain ⟨w5x, hw5⟩ : ∃ wq, wq = w4.setCell ⟨Y, 0, none⟩ (.slice (some ⟨g4, 0, none⟩) (l0.length + 1) cap4) := ⟨_, rfl⟩
              rw [← hw5] at hG4 hX4 ⊢
              clear hw5 s0 s1 hlt4 H1a X1 H1 hXf
              obtain ⟨l1, hl1⟩ : ∃ l1, l1 = l0 ++ [fence0] := ⟨_, rfl⟩
              have hlen1 := hide (show l1.length ≤ 2 * j + 1 from by have := hlen0.out; rw [hl1, List.length_append, List.length_singleton]; omega)
              rw [← hl1] at hG4 hstep
              clear hl1 hlen0
              have hlen0 := hide hlen1.out
              clear hlen1
              obtain ⟨A1i, hA1⟩ : ∃ A1i : Option Addr, A1i = some ⟨g4, 0, none⟩ := ⟨_, rfl⟩
              obtain ⟨c1i, hc1⟩ : ∃ c1i, c1i = cap4 := ⟨_, rfl⟩
              rw [← hA1, ← hc1] at hG4
              clear hA1 hc1
              obtain ⟨w1, hw1⟩ : ∃ wq, wq = w5x := ⟨_, rfl⟩
              rw [← hw1] at hG4 hX4 ⊢
              clear hw1
              have H1 := hide hG4
              have X1 := hide hX4
              clear hG4 hX4
              obtain ⟨t0, t1⟩ := (show w1.cell? ⟨Y, 0, none⟩ = some (.slice A1i l1.length c1i) ∧ w1.frozen? ⟨Y, 0, none⟩ = false from ⟨H1.out.blk.cell 0, H1.out.blk.frozen 0⟩)
              obtain ⟨y0, y1, y2, y3, y4, y5⟩ := (show (w1.cell? ⟨X, 0, none⟩ = some (.int .i64 o) ∧ w1.cell? ⟨X, 1, none⟩ = some (.int .i64 r) ∧ w1.cell? ⟨X, 2, none⟩ = some (.int .i64 a) ∧ w1.cell? ⟨X, 3, none⟩ = some (.int .i64 b) ∧ w1.cell? ⟨X, 4, none⟩ = some (.int .i64 x) ∧ w1.cell? ⟨X, 5, none⟩ = some (.int .i64 n5)) from ⟨X1.out.cell 0, X1.out.cell 1, X1.out.cell 2, X1.out.cell 3, X1.out.cell 4, X1.out.cell 5⟩)
              have hTl := H1.out.blk.lt
              have hXl := X1.out.lt
              have hW2 := H1.out.only.size
              have hown2 := hide ((H1.out.next (below1 w1 (Obj.cells #[.int .i64 o, .int .i64 r, .int .i64 a, .int .i64 b, .int .i64 x, .int .i64 n5] 72))).own)
              have H2a := hide (H1.out.next (below1 w1 (Obj.cells #[.int .i64 o, .int .i64 r, .int .i64 a, .int .i64 b, .int .i64 x, .int .i64 n5] 72)))
              go_wp2_with (at_builtin; refine wpList_append_lies _ rfl _ _ _ rfl W5.heap.size 72 i0 _ 6 48 Try.underlying97 hi0.out hz0 hz1 hz2 rfl (by omega) (.slice A1i l1.length c1i) l1.length (flat l1) rfl hown2.out ⟨w1.heap.size, 0, none⟩ 1 1 [Value.int .i64 o, Value.int .i64 r, Value.int .i64 a, Value.int .i64 b, Value.int .i64 x, Value.int .i64 n5] rfl rfl (World.news_of_block (cs := #[Value.int .i64 o, Value.int .i64 r, Value.int .i64 a, Value.int .i64 b, Value.int .i64 x, Value.int .i64 n5]) (heap_alloc_new _ _)) (by simp [Value.oneCell']) (by omega) (by have := hlen0.out; have : maxLen = 9223372036854775807 := rfl; omega) (by have := hlen0.out; omega) (by simp; omega) _ rfl ?_)
              intro g3 cap3 w3 hown3 hg3 hat3 hlt3
              obtain ⟨⟨s0, s1⟩, hG3⟩ := H2a.out.grow (d := ⟨o, r, a, b, x, n5⟩) (by simp [insVals]) hown3 hg3
              have H3 := hide hG3
              clear hown3 hg3 hat3 hown2 H2a H1 X1 hG3 y0 y1 y2 y3 y4 y5 t0 t1
              go_wp2_with fail
              go_roundw
              case rel => exact ⟨j + 1, _, _, by omega, by go_num, hide (by rw [hstep.out]; exact H3.out)⟩
              case measure => simp [intOf]; omega
          · have hlow := lowN_le n5 (atsS zs (k : Int) n)
            have hlow2 := atsS_len zs (k : Int) n
            obtain ⟨m, hm⟩ : ∃ m, m = lowN n5 (atsS zs (k : Int) n) := ⟨_, rfl⟩
            have hmv := hide (show movedI (atsS zs (k : Int) n) ⟨o, r, a, b, x, n5⟩ = ⟨o, r, a, b, x, n5 + m⟩ from by rw [hm]; unfold movedI; rw [if_pos (by show leapB o = true; exact hlp)])
            have kA0 := fun w h => l7ahead_any A zs n c (k : Int) n5 S w hz hn h
            rw [← hm] at kA0 hlow
            have kA := hide kA0
            have hnn := hNj hlp
            clear hm kA0 hNj
            unfold leapB at hlp
            go_upto_region 12 with fail
            obtain ⟨w1, hw1⟩ : ∃ wq, wq = wr.alloc (Obj.cells #[.int .i64 o, .int .i64 r, .int .i64 a, .int .i64 b, .int .i64 x, .int .i64 n5] 72) := ⟨_, rfl⟩
            rw [← hw1] at X1a H1a hZ1a ⊢
            obtain ⟨X, hX⟩ : ∃ X, X = wr.heap.size := ⟨_, rfl⟩
            have hXW : W5.heap.size ≤ X := by rw [hX]; exact H0.out.only.size
            have hXf : some X ≠ (Value.slice A1i l0.length c1i).ownBlock := fun e => by
              have := (own_at H0.out.own e.symm).2
              omega
            have hXS := hide (show ¬ S X from fun h => by have := hS5.out X h; omega)
            rw [← hX] at X1a ⊢
            have X1 := hide X1a
            have H1 := hide H1a
            have hZ1 := hide hZ1a
            clear d0 d1 d2 d3 d4 d5 hw1 hX X1a H1a hZ1a H0 x1 D6 Xj lXj lb6 hbX
            have hZd := hide (show IntsAt w1.drew S A zs from hZ1.out.keep (S' := S) (fun _ _ _ => rfl) (fun _ h => h))
            obtain ⟨y0, y5, z5⟩ := (show w1.cell? ⟨X, 0, none⟩ = some (.int .i64 o) ∧ w1.cell? ⟨X, 5, none⟩ = some (.int .i64 n5) ∧ w1.frozen? ⟨X, 5, none⟩ = false from ⟨X1.out.cell 0, X1.out.cell 5, X1.out.frozen 5⟩)
            have hXl := X1.out.lt
            have hwm : IntKind.i64.wrap (n5 + (m : Int)) = n5 + (m : Int) := (IntWalk.i64_left _).trans (by unfold RowKit.wrap64; omega)
            go_cut [10, 60] (fun s10 s60 wx => s10 = .pointer (some ⟨X, 0, none⟩) ∧ s60 = .bool true ∧ wx = w1)
            case first =>
              cases h13 : (o == 13)
              · rw [h13, Bool.false_or] at hlp
                go_wp2_with fail
                go_meet
                exact ⟨rfl, rfl, rfl⟩
              · clear hlp
                go_wp2_with fail
                go_meet
                exact ⟨rfl, rfl, rfl⟩
            case rest =>
              obtain ⟨rfl, rfl, hcw⟩ := hcut
              rw [hcw]
              clear hcw hlp y0
              go_upto_region 13 with fail
              go_cut [10] (fun s10 wx => s10 = .pointer (some ⟨X, 0, none⟩) ∧ wx = (w1.setCell ⟨X, 5, none⟩ (.int .i64 (n5 + (m : Int)))).drew)
              case first =>
                refine wp_region_held_drew (S := (fun _ : World => True)) (by kernel_rfl) ?_ (fun hHeld => ?_)
                · exact trivial
                refine wpAnyH_take (i := 0) (oi := { dst := some 61, op := Op.fieldAddr 72 (Operand.tmp 10) 5, type := 0, pos := "l07_fence.go:49", after := #[], guard := none }) (v := ?_) rfl (by kernel_rfl) (by kernel_rfl) (by kernel_rfl) (fun _ _ _ h => h) (Or.inl ⟨by rfl, ?_⟩) hHeld ?_
                rotate_left
                · (intro wq hSw; (try dsimp only at hSw); first | (go_simp; done) | (go_simp; with_reducible rfl))
                try simp only [Act.put, qa, qb, qc]
                refine wpAnyH_take (i := 2) (oi := { dst := some 63, op := Op.move (Operand.tmp 1), type := 35, pos := "l07_fence.go:49", after := #[], guard := none }) (v := ?_) rfl (by kernel_rfl) (by kernel_rfl) (by kernel_rfl) (fun _ _ _ h => h) (Or.inl ⟨by rfl, ?_⟩) hHeld ?_
                rotate_left
                · (intro wq hSw; (try dsimp only at hSw); first | (go_simp; done) | (go_simp; with_reducible rfl))
                try simp only [Act.put, qa, qb, qc]
                refine wpAnyH_take (i := 3) (oi := { dst := some 64, op := Op.move (Operand.tmp 7), type := 3, pos := "l07_fence.go:49", after := #[], guard := none }) (v := ?_) rfl (by kernel_rfl) (by kernel_rfl) (by kernel_rfl) (fun _ _ _ h => h) (Or.inl ⟨by rfl, ?_⟩) hHeld ?_
                rotate_left
                · (intro wq hSw; (try dsimp only at hSw); first | (go_simp; done) | (go_simp; with_reducible rfl))
                try simp only [Act.put, qa, qb, qc]
                refine wpAnyH_take (i := 4) (oi := { dst := some 65, op := Op.fieldAddr 72 (Operand.tmp 10) 5, type := 0, pos := "l07_fence.go:49", after := #[], guard := none }) (v := ?_) rfl (by kernel_rfl) (by kernel_rfl) (by kernel_rfl) (fun _ _ _ h => h) (Or.inl ⟨by rfl, ?_⟩) hHeld ?_
                rotate_left
                · (intro wq hSw; (try dsimp only at hSw); first | (go_simp; done) | (go_simp; with_reducible rfl))
                try simp only [Act.put, qa, qb, qc]
                refine wpAnyH_ready (rs := [1, 5]) (by kernel_rfl) (by simp) ?_
                refine AllReadyH.cons (o := { dst := some 62, op := Op.load 3 (Operand.tmp 61), type := 3, pos := "l07_fence.go:49", after := #[{ on := 0, ground := Ground.data }], guard := none }) rfl (fun K hK => ?_) (AllReadyH.cons (o := { dst := some 66, op := Op.load 3 (Operand.tmp 65), type := 3, pos := "l07_fence.go:49", after := #[{ on := 4, ground := Ground.data }], guard := none }) rfl (fun K hK => ?_) (AllReadyH.nil))
                · go_simp
                  refine hK.out _ _ ?_ (fun hHeldN => ?_)
                  · exact trivial
                  clear hK K hHeld
                  have hHeld := hHeldN
                  clear hHeldN
                  try simp only [Act.put, qa, qb, qc]
                  refine wpAnyH_ready (rs := [5]) (by kernel_rfl) (by simp) ?_
                  refine AllReadyH.cons (o := { dst := some 66, op := Op.load 3 (Operand.tmp 65), type := 3, pos := "l07_fence.go:49", after := #[{ on := 4, ground := Ground.data }], guard := none }) rfl (fun K hK => ?_) (AllReadyH.nil)
                  · go_simp
                    refine hK.out _ _ ?_ (fun hHeldN => ?_)
                    · exact trivial
                    clear hK K hHeld
                    have hHeld := hHeldN
                    clear hHeldN
                    try simp only [Act.put, qa, qb, qc]
                    refine wpAnyH_ready (rs := [6]) (by kernel_rfl) (by simp) ?_
                    refine AllReadyH.cons (o := { dst := some 67, op := Op.call { callee := Callee.value (Operand.func 60), args := #[Operand.tmp 63, Operand.tmp 64, Operand.tmp 66], argTypes := #[35, 3, 3] }, type := 3, pos := "l07_fence.go:49", after := #[{ on := 2, ground := Ground.data }, { on := 3, ground := Ground.data }, { on := 5, ground := Ground.data }], guard := none }) rfl (fun K hK => ?_) (AllReadyH.nil)
                    · go_simp
                      go_at_call 60
                      refine (kA.out _ hZd.out).mono ?_
                      rintro e wx ⟨rfl, rfl⟩
                      refine hK.out _ _ ?_ (fun hHeldN => ?_)
                      · exact trivial
                      clear hK K hHeld
                      have hHeld := hHeldN
                      clear hHeldN
                      try simp only [Act.put, qa, qb, qc]
                      refine wpAnyH_take (i := 7) (oi := { dst := some 68, op := Op.binOp BinOp.add 3 (Operand.tmp 62) (Operand.tmp 67) 3, type := 3, pos := "l07_fence.go:49", after := #[{ on := 1, ground := Ground.data }, { on := 6, ground := Ground.data }], guard := none }) (v := ?_) rfl (by kernel_rfl) (by kernel_rfl) (by kernel_rfl) (fun _ _ _ h => h) (Or.inl ⟨by rfl, ?_⟩) hHeld ?_
                      rotate_left
                      · (intro wq hSw; (try dsimp only at hSw); first | (go_simp; done) | (go_simp; with_reducible rfl))
                      try simp only [Act.put, qa, qb, qc]
                      refine wpAnyH_take (i := 8) (oi := { dst := some 69, op := Op.fieldAddr 72 (Operand.tmp 10) 5, type := 0, pos := "l07_fence.go:49", after := #[{ on := 0, ground := Ground.phase }, { on := 1, ground := Ground.phase }, { on := 2, ground := Ground.phase }, { on := 3, ground := Ground.phase }, { on := 4, ground := Ground.phase }, { on := 5, ground := Ground.phase }, { on := 6, ground := Ground.phase }, { on := 7, ground := Ground.phase }], guard := none }) (v := ?_) rfl (by kernel_rfl) (by kernel_rfl) (by kernel_rfl) (fun _ _ _ h => h) (Or.inl ⟨by rfl, ?_⟩) hHeld ?_
                      rotate_left
                      · (intro wq hSw; (try dsimp only at hSw); first | (go_simp; done) | (go_simp; with_reducible rfl))
                      try simp only [Act.put, qa, qb, qc]
                      refine wpAnyH_ready (rs := [9]) (by kernel_rfl) (by simp) ?_
                      refine AllReadyH.cons (o := { dst := none, op := Op.store 3 (Operand.tmp 69) (Operand.tmp 68), type := 0, pos := "l07_fence.go:49", after := #[{ on := 8, ground := Ground.data }, { on := 7, ground := Ground.data }, { on := 6, ground := Ground.chain }, { on := 0, ground := Ground.phase }, { on := 1, ground := Ground.phase }, { on := 2, ground := Ground.phase }, { on := 3, ground := Ground.phase }, { on := 4, ground := Ground.phase }, { on := 5, ground := Ground.phase }, { on := 6, ground := Ground.phase }, { on := 7, ground := Ground.phase }], guard := none }) rfl (fun K hK => ?_) (AllReadyH.nil)
                      · go_simp
                        refine hK.out _ _ ?_ (fun hHeldN => ?_)
                        · exact trivial
                        clear hK K hHeld
                        have hHeld := hHeldN
                        clear hHeldN
                        try simp only [Act.put, qa, qb, qc]
                        refine wpAnyH_done (by kernel_rfl) ?_ _
                        go_wp2_with fail
                        go_meet
                        exact ⟨rfl, rfl⟩
                · go_simp
                  refine hK.out _ _ ?_ (fun hHeldN => ?_)
                  · exact trivial
                  clear hK K hHeld
                  have hHeld := hHeldN
                  clear hHeldN
                  try simp only [Act.put, qa, qb, qc]
                  refine wpAnyH_ready (rs := [1, 6]) (by kernel_rfl) (by simp) ?_
                  refine AllReadyH.cons (o := { dst := some 62, op := Op.load 3 (Operand.tmp 61), type := 3, pos := "l07_fence.go:49", after := #[{ on := 0, ground := Ground.data }], guard := none }) rfl (fun K hK => ?_) (AllReadyH.cons (o := { dst := some 67, op := Op.call { callee := Callee.value (Operand.func 60), args := #[Operand.tmp 63, Operand.tmp 64, Operand.tmp 66], argTypes := #[35, 3, 3] }, type := 3, pos := "l07_fence.go:49", after := #[{ on := 2, ground := Ground.data }, { on := 3, ground := Ground.data }, { on := 5, ground := Ground.data }], guard := none }) rfl (fun K hK => ?_) (AllReadyH.nil))
                  · go_simp
                    refine hK.out _ _ ?_ (fun hHeldN => ?_)
                    · exact trivial
                    clear hK K hHeld
                    have hHeld := hHeldN
                    clear hHeldN
                    try simp only [Act.put, qa, qb, qc]
                    refine wpAnyH_ready (rs := [6]) (by kernel_rfl) (by simp) ?_
                    refine AllReadyH.cons (o := { dst := some 67, op := Op.call { callee := Callee.value (Operand.func 60), args := #[Operand.tmp 63, Operand.tmp 64, Operand.tmp 66], argTypes := #[35, 3, 3] }, type := 3, pos := "l07_fence.go:49", after := #[{ on := 2, ground := Ground.data }, { on := 3, ground := Ground.data }, { on := 5, ground := Ground.data }], guard := none }) rfl (fun K hK => ?_) (AllReadyH.nil)
                    · go_simp
                      go_at_call 60
                      refine (kA.out _ hZd.out).mono ?_
                      rintro e wx ⟨rfl, rfl⟩
                      refine hK.out _ _ ?_ (fun hHeldN => ?_)
                      · exact trivial
                      clear hK K hHeld
                      have hHeld := hHeldN
                      clear hHeldN
                      try simp only [Act.put, qa, qb, qc]
                      refine wpAnyH_take (i := 7) (oi := { dst := some 68, op := Op.binOp BinOp.add 3 (Operand.tmp 62) (Operand.tmp 67) 3, type := 3, pos := "l07_fence.go:49", after := #[{ on := 1, ground := Ground.data }, { on := 6, ground := Ground.data }], guard := none }) (v := ?_) rfl (by kernel_rfl) (by kernel_rfl) (by kernel_rfl) (fun _ _ _ h => h) (Or.inl ⟨by rfl, ?_⟩) hHeld ?_
                      rotate_left
                      · (intro wq hSw; (try dsimp only at hSw); first | (go_simp; done) | (go_simp; with_reducible rfl))
                      try simp only [Act.put, qa, qb, qc]
                      refine wpAnyH_take (i := 8) (oi := { dst := some 69, op := Op.fieldAddr 72 (Operand.tmp 10) 5, type := 0, pos := "l07_fence.go:49", after := #[{ on := 0, ground := Ground.phase }, { on := 1, ground := Ground.phase }, { on := 2, ground := Ground.phase }, { on := 3, ground := Ground.phase }, { on := 4, ground := Ground.phase }, { on := 5, ground := Ground.phase }, { on := 6, ground := Ground.phase }, { on := 7, ground := Ground.phase }], guard := none }) (v := ?_) rfl (by kernel_rfl) (by kernel_rfl) (by kernel_rfl) (fun _ _ _ h => h) (Or.inl ⟨by rfl, ?_⟩) hHeld ?_
                      rotate_left
                      · (intro wq hSw; (try dsimp only at hSw); first | (go_simp; done) | (go_simp; with_reducible rfl))
                      try simp only [Act.put, qa, qb, qc]
                      refine wpAnyH_ready (rs := [9]) (by kernel_rfl) (by simp) ?_
                      refine AllReadyH.cons (o := { dst := none, op := Op.store 3 (Operand.tmp 69) (Operand.tmp 68), type := 0, pos := "l07_fence.go:49", after := #[{ on := 8, ground := Ground.data }, { on := 7, ground := Ground.data }, { on := 6, ground := Ground.chain }, { on := 0, ground := Ground.phase }, { on := 1, ground := Ground.phase }, { on := 2, ground := Ground.phase }, { on := 3, ground := Ground.phase }, { on := 4, ground := Ground.phase }, { on := 5, ground := Ground.phase }, { on := 6, ground := Ground.phase }, { on := 7, ground := Ground.phase }], guard := none }) rfl (fun K hK => ?_) (AllReadyH.nil)
                      · go_simp
                        refine hK.out _ _ ?_ (fun hHeldN => ?_)
                        · exact trivial
                        clear hK K hHeld
                        have hHeld := hHeldN
                        clear hHeldN
                        try simp only [Act.put, qa, qb, qc]
                        refine wpAnyH_done (by kernel_rfl) ?_ _
                        go_wp2_with fail
                        go_meet
                        exact ⟨rfl, rfl⟩
                  · go_simp
                    go_at_call 60
                    refine (kA.out _ hZd.out).mono ?_
                    rintro e wx ⟨rfl, rfl⟩
                    refine hK.out _ _ ?_ (fun hHeldN => ?_)
                    · exact trivial
                    clear hK K hHeld
                    have hHeld := hHeldN
                    clear hHeldN
                    try simp only [Act.put, qa, qb, qc]
                    refine wpAnyH_ready (rs := [1]) (by kernel_rfl) (by simp) ?_
                    refine AllReadyH.cons (o := { dst := some 62, op := Op.load 3 (Operand.tmp 61), type := 3, pos := "l07_fence.go:49", after := #[{ on := 0, ground := Ground.data }], guard := none }) rfl (fun K hK => ?_) (AllReadyH.nil)
                    · go_simp
                      refine hK.out _ _ ?_ (fun hHeldN => ?_)
                      · exact trivial
                      clear hK K hHeld
                      have hHeld := hHeldN
                      clear hHeldN
                      try simp only [Act.put, qa, qb, qc]
                      refine wpAnyH_take (i := 7) (oi := { dst := some 68, op := Op.binOp BinOp.add 3 (Operand.tmp 62) (Operand.tmp 67) 3, type := 3, pos := "l07_fence.go:49", after := #[{ on := 1, ground := Ground.data }, { on := 6, ground := Ground.data }], guard := none }) (v := ?_) rfl (by kernel_rfl) (by kernel_rfl) (by kernel_rfl) (fun _ _ _ h => h) (Or.inl ⟨by rfl, ?_⟩) hHeld ?_
                      rotate_left
                      · (intro wq hSw; (try dsimp only at hSw); first | (go_simp; done) | (go_simp; with_reducible rfl))
                      try simp only [Act.put, qa, qb, qc]
                      refine wpAnyH_take (i := 8) (oi := { dst := some 69, op := Op.fieldAddr 72 (Operand.tmp 10) 5, type := 0, pos := "l07_fence.go:49", after := #[{ on := 0, ground := Ground.phase }, { on := 1, ground := Ground.phase }, { on := 2, ground := Ground.phase }, { on := 3, ground := Ground.phase }, { on := 4, ground := Ground.phase }, { on := 5, ground := Ground.phase }, { on := 6, ground := Ground.phase }, { on := 7, ground := Ground.phase }], guard := none }) (v := ?_) rfl (by kernel_rfl) (by kernel_rfl) (by kernel_rfl) (fun _ _ _ h => h) (Or.inl ⟨by rfl, ?_⟩) hHeld ?_
                      rotate_left
                      · (intro wq hSw; (try dsimp only at hSw); first | (go_simp; done) | (go_simp; with_reducible rfl))
                      try simp only [Act.put, qa, qb, qc]
                      refine wpAnyH_ready (rs := [9]) (by kernel_rfl) (by simp) ?_
                      refine AllReadyH.cons (o := { dst := none, op := Op.store 3 (Operand.tmp 69) (Operand.tmp 68), type := 0, pos := "l07_fence.go:49", after := #[{ on := 8, ground := Ground.data }, { on := 7, ground := Ground.data }, { on := 6, ground := Ground.chain }, { on := 0, ground := Ground.phase }, { on := 1, ground := Ground.phase }, { on := 2, ground := Ground.phase }, { on := 3, ground := Ground.phase }, { on := 4, ground := Ground.phase }, { on := 5, ground := Ground.phase }, { on := 6, ground := Ground.phase }, { on := 7, ground := Ground.phase }], guard := none }) rfl (fun K hK => ?_) (AllReadyH.nil)
                      · go_simp
                        refine hK.out _ _ ?_ (fun hHeldN => ?_)
                        · exact trivial
                        clear hK K hHeld
                        have hHeld := hHeldN
                        clear hHeldN
                        try simp only [Act.put, qa, qb, qc]
                        refine wpAnyH_done (by kernel_rfl) ?_ _
                        go_wp2_with fail
                        go_meet
                        exact ⟨rfl, rfl⟩
              case rest =>
                clear y5 z5 hXl hwm
                obtain ⟨rfl, hcw⟩ := hcut
                obtain ⟨w2x, hw2x⟩ : ∃ w2x : World, w2x = wc := ⟨_, rfl⟩
                rw [← hw2x] at hcw ⊢
                clear hw2x
                have H2s := (H1.out.setFar (i := 5) hXW hXf (.int .i64 (n5 + (m : Int)))).drew
                have X2s := (show Blk (w1.setCell ⟨X, 5, none⟩ (.int .i64 (n5 + (m : Int)))).drew X 72 _ from X1.out.set_ 5 (.int .i64 (n5 + (m : Int))))
                have Z2s := (show IntsAt (w1.setCell ⟨X, 5, none⟩ (.int .i64 (n5 + (m : Int)))).drew S A zs from (hZ1.out.set (p := ⟨X, 5, none⟩) (.int .i64 (n5 + (m : Int))) hXS.out).keep (S' := S) (fun _ _ _ => rfl) (fun _ h => h))
                rw [← hcw] at H2s X2s Z2s
                clear hcw H1 X1 hZ1 hZd
                obtain ⟨w1, hw1⟩ : ∃ wq, wq = w2x := ⟨_, rfl⟩
                rw [← hw1] at H2s X2s Z2s ⊢
                clear hw1
                have H1 := hide H2s
                have X1 := hide (show Blk w1 X 72 #[.int .i64 o, .int .i64 r, .int .i64 a, .int .i64 b, .int .i64 x, .int .i64 (n5 + (m : Int))] from X2s)
                have hZ1 := hide Z2s
                clear H2s X2s Z2s
                go_wp2_with fail
                refine (kH.out (j : Int) _ hZ1.out).mono ?_
                rintro e wx ⟨rfl, rfl⟩
                cases hf : hasL (atsS zs (k : Int) n) (j : Int)
                · have hstep := hide (show fenI (atsS zs (k : Int) n) l (j + 1) = l0 ++ [⟨o, r, a, b, x, (n5 + (m : Int))⟩] from by rw [hst.out, hf]; exact congrArg (l0 ++ [·]) hmv.out)
                  obtain ⟨l1, hl1⟩ : ∃ l1, l1 = l0 := ⟨_, rfl⟩
                  rw [← hl1] at H1 hstep hlen0 hXf
                  have hlen1 := hide (show l1.length ≤ 2 * j + 1 from by have := hlen0.out; omega)
                  clear hlen0
                  have hlen0 := hide hlen1.out
                  clear hl1 hst hf hlen1
                  obtain ⟨t0, t1⟩ := (show w1.cell? ⟨Y, 0, none⟩ = some (.slice A1i l1.length c1i) ∧ w1.frozen? ⟨Y, 0, none⟩ = false from ⟨H1.out.blk.cell 0, H1.out.blk.frozen 0⟩)
                  obtain ⟨y0, y1, y2, y3, y4, y5⟩ := (show (w1.cell? ⟨X, 0, none⟩ = some (.int .i64 o) ∧ w1.cell? ⟨X, 1, none⟩ = some (.int .i64 r) ∧ w1.cell? ⟨X, 2, none⟩ = some (.int .i64 a) ∧ w1.cell? ⟨X, 3, none⟩ = some (.int .i64 b) ∧ w1.cell? ⟨X, 4, none⟩ = some (.int .i64 x) ∧ w1.cell? ⟨X, 5, none⟩ = some (.int .i64 (n5 + (m : Int)))) from ⟨X1.out.cell 0, X1.out.cell 1, X1.out.cell 2, X1.out.cell 3, X1.out.cell 4, X1.out.cell 5⟩)
                  have hTl := H1.out.blk.lt
                  have hXl := X1.out.lt
                  have hW2 := H1.out.only.size
                  have hown2 := hide ((H1.out.next (below1 w1 (Obj.cells #[.int .i64 o, .int .i64 r, .int .i64 a, .int .i64 b, .int .i64 x, .int .i64 (n5 + (m : Int))] 72))).own)
                  have H2a := hide (H1.out.next (below1 w1 (Obj.cells #[.int .i64 o, .int .i64 r, .int .i64 a, .int .i64 b, .int .i64 x, .int .i64 (n5 + (m : Int))] 72)))
                  go_wp2_with (at_builtin; refine wpList_append_lies _ rfl _ _ _ rfl W5.heap.size 72 i0 _ 6 48 Try.underlying97 hi0.out hz0 hz1 hz2 rfl (by omega) (.slice A1i l1.length c1i) l1.length (flat l1) rfl hown2.out ⟨w1.heap.size, 0, none⟩ 1 1 [Value.int .i64 o, Value.int .i64 r, Value.int .i64 a, Value.int .i64 b, Value.int .i64 x, Value.int .i64 (n5 + (m : Int))] rfl rfl (World.news_of_block (cs := #[Value.int .i64 o, Value.int .i64 r, Value.int .i64 a, Value.int .i64 b, Value.int .i64 x, Value.int .i64 (n5 + (m : Int))]) (heap_alloc_new _ _)) (by simp [Value.oneCell']) (by omega) (by have := hlen0.out; have : maxLen = 9223372036854775807 := rfl; omega) (by have := hlen0.out; omega) (by simp; omega) _ rfl ?_)
                  intro g3 cap3 w3 hown3 hg3 hat3 hlt3
                  obtain ⟨⟨s0, s1⟩, hG3⟩ := H2a.out.grow (d := ⟨o, r, a, b, x, (n5 + (m : Int))⟩) (by simp [insVals]) hown3 hg3
                  have H3 := hide hG3
                  clear hown3 hg3 hat3 hown2 H2a H1 X1 hG3 y0 y1 y2 y3 y4 y5 t0 t1
                  go_wp2_with fail
                  go_roundw
                  case rel => exact ⟨j + 1, _, _, by omega, by go_num, hide (by rw [hstep.out]; exact H3.out)⟩
                  case measure => simp [intOf]; omega
                · have hstep := hide (show fenI (atsS zs (k : Int) n) l (j + 1) = (l0 ++ [fence0]) ++ [⟨o, r, a, b, x, (n5 + (m : Int))⟩] from by rw [hst.out, hf, List.append_assoc]; exact congrArg (fun d => l0 ++ [fence0, d]) hmv.out)
                  obtain ⟨t0, t1⟩ := (show w1.cell? ⟨Y, 0, none⟩ = some (.slice A1i l0.length c1i) ∧ w1.frozen? ⟨Y, 0, none⟩ = false from ⟨H1.out.blk.cell 0, H1.out.blk.frozen 0⟩)
                  have hTl := H1.out.blk.lt
                  have hW1 := H1.out.only.size
                  have hown1 := hide ((H1.out.next (below1 w1 (Obj.cells #[Value.int .i64 12, Value.int .i64 0, Value.int .i64 0, Value.int .i64 0, Value.int .i64 0, Value.int .i64 0] 72))).own)
                  have H1a := hide (H1.out.next (below1 w1 (Obj.cells #[Value.int .i64 12, Value.int .i64 0, Value.int .i64 0, Value.int .i64 0, Value.int .i64 0, Value.int .i64 0] 72)))
                  clear hst hf
                  go_wp2_with (at_builtin; refine wpList_append_lies _ rfl _ _ _ rfl W5.heap.size 72 i0 _ 6 48 Try.underlying97 hi0.out hz0 hz1 hz2 rfl (by omega) (.slice A1i l0.length c1i) l0.length (flat l0) rfl hown1.out ⟨w1.heap.size, 0, none⟩ 1 1 [Value.int .i64 12, Value.int .i64 0, Value.int .i64 0, Value.int .i64 0, Value.int .i64 0, Value.int .i64 0] rfl rfl (World.news_of_block (cs := #[Value.int .i64 12, Value.int .i64 0, Value.int .i64 0, Value.int .i64 0, Value.int .i64 0, Value.int .i64 0]) (heap_alloc_new _ _)) (by simp [Value.oneCell']) (by omega) (by have := hlen0.out; have : maxLen = 9223372036854775807 := rfl; omega) (by have := hlen0.out; omega) (by simp; omega) _ rfl ?_)
                  intro g4 cap4 w4 hown4 hg4 hat4 hlt4
                  obtain ⟨⟨s0, s1⟩, hG4⟩ := H1a.out.grow (d := fence0) (by simp [insVals, fence0]) hown4 hg4
                  have hXY : X ≠ Y := by have := H1.out.lt; omega
                  have hX4a : Blk w4 X 72 #[.int .i64 o, .int .i64 r, .int .i64 a, .int .i64 b, .int .i64 x, .int .i64 (n5 + (m : Int))] := (hg4.block X (by have := X1.out.lt; simp; omega) hXf).trans (X1.out.below (below1 w1 (Obj.cells #[Value.int .i64 12, Value.int .i64 0, Value.int .i64 0, Value.int .i64 0, Value.int .i64 0, Value.int .i64 0] 72)) X1.out.lt)
                  have hX4 := hX4a.far (p := ⟨Y, 0, none⟩) hXY (.slice (some ⟨g4, 0, none⟩) (l0.length + 1) cap4)
                  clear t0 t1 hTl hW1 hown1 hown4 hg4 hat4 hX4a
                  go_upto_region 16 with fail
                  obtain ⟨w5x, hw5⟩ : ∃ wq, wq = w4.setCell ⟨Y, 0, none⟩ (.slice (some ⟨g4, 0, none⟩) (l0.length + 1) cap4) := ⟨_, rfl⟩
                  rw [← hw5] at hG4 hX4 ⊢
                  clear hw5 s0 s1 hlt4 H1a X1 H1 hXf
                  obtain ⟨l1, hl1⟩ : ∃ l1, l1 = l0 ++ [fence0] := ⟨_, rfl⟩
                  have hlen1 := hide (show l1.length ≤ 2 * j + 1 from by have := hlen0.out; rw [hl1, List.length_append, List.length_singleton]; omega)
                  rw [← hl1] at hG4 hstep
                  clear hl1 hlen0
                  have hlen0 := hide hlen1.out
                  clear hlen1
                  obtain ⟨A1i, hA1⟩ : ∃ A1i : Option Addr, A1i = some ⟨g4, 0, none⟩ := ⟨_, rfl⟩
                  obtain ⟨c1i, hc1⟩ : ∃ c1i, c1i = cap4 := ⟨_, rfl⟩
                  rw [← hA1, ← hc1] at hG4
                  clear hA1 hc1
                  obtain ⟨w1, hw1⟩ : ∃ wq, wq = w5x := ⟨_, rfl⟩
                  rw [← hw1] at hG4 hX4 ⊢
                  clear hw1
                  have H1 := hide hG4
                  have X1 := hide hX4
                  clear hG4 hX4
                  obtain ⟨t0, t1⟩ := (show w1.cell? ⟨Y, 0, none⟩ = some (.slice A1i l1.length c1i) ∧ w1.frozen? ⟨Y, 0, none⟩ = false from ⟨H1.out.blk.cell 0, H1.out.blk.frozen 0⟩)
                  obtain ⟨y0, y1, y2, y3, y4, y5⟩ := (show (w1.cell? ⟨X, 0, none⟩ = some (.int .i64 o) ∧ w1.cell? ⟨X, 1, none⟩ = some (.int .i64 r) ∧ w1.cell? ⟨X, 2, none⟩ = some (.int .i64 a) ∧ w1.cell? ⟨X, 3, none⟩ = some (.int .i64 b) ∧ w1.cell? ⟨X, 4, none⟩ = some (.int .i64 x) ∧ w1.cell? ⟨X, 5, none⟩ = some (.int .i64 (n5 + (m : Int)))) from ⟨X1.out.cell 0, X1.out.cell 1, X1.out.cell 2, X1.out.cell 3, X1.out.cell 4, X1.out.cell 5⟩)
                  have hTl := H1.out.blk.lt
                  have hXl := X1.out.lt
                  have hW2 := H1.out.only.size
                  have hown2 := hide ((H1.out.next (below1 w1 (Obj.cells #[.int .i64 o, .int .i64 r, .int .i64 a, .int .i64 b, .int .i64 x, .int .i64 (n5 + (m : Int))] 72))).own)
                  have H2a := hide (H1.out.next (below1 w1 (Obj.cells #[.int .i64 o, .int .i64 r, .int .i64 a, .int .i64 b, .int .i64 x, .int .i64 (n5 + (m : Int))] 72)))
                  go_wp2_with (at_builtin; refine wpList_append_lies _ rfl _ _ _ rfl W5.heap.size 72 i0 _ 6 48 Try.underlying97 hi0.out hz0 hz1 hz2 rfl (by omega) (.slice A1i l1.length c1i) l1.length (flat l1) rfl hown2.out ⟨w1.heap.size, 0, none⟩ 1 1 [Value.int .i64 o, Value.int .i64 r, Value.int .i64 a, Value.int .i64 b, Value.int .i64 x, Value.int .i64 (n5 + (m : Int))] rfl rfl (World.news_of_block (cs := #[Value.int .i64 o, Value.int .i64 r, Value.int .i64 a, Value.int .i64 b, Value.int .i64 x, Value.int .i64 (n5 + (m : Int))]) (heap_alloc_new _ _)) (by simp [Value.oneCell']) (by omega) (by have := hlen0.out; have : maxLen = 9223372036854775807 := rfl; omega) (by have := hlen0.out; omega) (by simp; omega) _ rfl ?_)
                  intro g3 cap3 w3 hown3 hg3 hat3 hlt3
                  obtain ⟨⟨s0, s1⟩, hG3⟩ := H2a.out.grow (d := ⟨o, r, a, b, x, (n5 + (m : Int))⟩) (by simp [insVals]) hown3 hg3
                  have H3 := hide hG3
                  clear hown3 hg3 hat3 hown2 H2a H1 X1 hG3 y0 y1 y2 y3 y4 y5 t0 t1
                  go_wp2_with fail
                  go_roundw
                  case rel => exact ⟨j + 1, _, _, by omega, by go_num, hide (by rw [hstep.out]; exact H3.out)⟩
                  case measure => simp [intOf]; omega
        · obtain rfl : j = l.length := by omega
          have hjl' : decide ((l.length : Int) < (l.length : Int)) = false := decide_eq_false (by omega)
          clear hw0s
          have hYl : Y < W5.heap.size := H0.out.lt
          have hbY := hide ((H0.out.only.toBelow (B := Y) (Nat.le_refl _) (Nat.le_of_lt hYl)).mono (Nat.le_of_eq hYr.out.symm))
          have hbH := hide (hbW5.out.trans hbY.out)
          have C6 := hide (C0.out.next hbH.out)
          have hsz := hide (hbW5.out.size)
          have LA := hide (show LAt w0 T p.init v (fenTs p zs n k) vs tv (fenI (atsS zs (k : Int) n) l l.length) (.slice A1i (fenI (atsS zs (k : Int) n) l l.length).length c1i) wr from ⟨C6.out, own_base H0.out.own (by have := hsz.out; have := C0.out.below.size; have := C0.out.lo; have := C0.out.blk.lt; omega), fun i hi b hu hv => by
            have h1 := (own_at (C0.out.own.thr i hi) hu).2
            have h2 := (own_at H0.out.own hv).1
            have h3 := hsz.out
            omega⟩)
          obtain ⟨t0, t1⟩ := (show wr.cell? ⟨T, 1, none⟩ = some tv ∧ wr.frozen? ⟨T, 1, none⟩ = false from ⟨C6.out.blk.cell 1, C6.out.blk.frozen 1⟩)
          have y0 : wr.cell? ⟨Y, 0, none⟩ = some (.slice A1i (fenI (atsS zs (k : Int) n) l l.length).length c1i) := H0.out.blk.cell 0
          have lT := C6.out.blk.lt
          have lY := H0.out.blk.lt
          have LB := hide (LA.out.alloc (Obj.cells #[.slice A1i (fenI (atsS zs (k : Int) n) l l.length).length c1i] 99))
          have hB0 := hide (show w0.heap.size + 1 ≤ wr.heap.size from by have := C6.out.lo; omega)
          clear hbY hbH hsz LA C0 H0 C6
          go_wp2_with (at_builtin; refine wpList_append_lies _ rfl _ _ _ rfl (w0.heap.size + 1) 99 i2 _ 1 24 Try.underlying29 hi2.out hx0 hx1 hx2 rfl (by omega) tv (fenTs p zs n k).length vs rfl LB.out.cr.own.rows ⟨wr.heap.size, 0, none⟩ 1 1 [(.slice A1i (fenI (atsS zs (k : Int) n) l l.length).length c1i)] rfl rfl (World.news_of_block (cs := #[(.slice A1i (fenI (atsS zs (k : Int) n) l l.length).length c1i)]) (heap_alloc_new _ _)) (by simp [Value.oneCell']) (by omega) (by rw [fenTs_len]; have : maxLen = 9223372036854775807 := rfl; omega) (by rw [fenTs_len]; omega) (by have := hB0.out; simp; omega) _ rfl ?_)
          intro g3 cap3 w3 hown3 hg3 hat3 hlt3
          obtain ⟨⟨⟨s0, s1⟩, s2, s3⟩, hC9⟩ := LB.out.growRows rfl hown3 hg3
          have C9 := hide hC9
          have lT9 : T < w3.heap.size := by have := C9.out.blk.lt; simpa using this
          clear hown3 hg3 hat3 hC9 LB t0 t1 y0
          go_wp2_with fail
          go_roundw
          case rel => exact ⟨k + 1, _, _, by omega, by go_num, hide (by rw [fenTs_succ, ← hlr.out]; exact C9.out)⟩
          case measure => simp [intOf]; omega
    · obtain rfl : k = p.ts.length := by omega
      subst hv
      have hlt' : decide ((p.ts.length : Int) < (p.ts.length : Int)) = false := decide_eq_false (by omega)
      obtain ⟨A9, c9, rfl, -⟩ := own_form C0.out.own.rows
      obtain ⟨t0, t1⟩ := (show wr.cell? ⟨T, 0, none⟩ = some (.slice A3 p.init.length c3) ∧ wr.cell? ⟨T, 1, none⟩ = some (.slice A9 (fenTs p zs n p.ts.length).length c9) from ⟨C0.out.blk.cell 0, C0.out.blk.cell 1⟩)
      have kP := sprogOk_any (.agg #[.slice A3 p.init.length c3, .slice A9 (fenTs p zs n p.ts.length).length c9]) (fenP p zs n) _ wr (fun b h => h.2) C0.out.own.at_
      rw [hbq.out] at kP
      have lT := C0.out.blk.lt
      have hTR := hide (show w.heap.size + 1 ≠ T from by have := C0.out.lo; omega)
      go_wp2_with fail
      refine kP.mono ?_
      rintro e w6 ⟨rfl, hb6⟩
      have C6 := hide (C0.out.next hb6)
      obtain ⟨u, u', hR⟩ := C6.out.out
      rw [hw0s] at hR
      obtain ⟨r0, r1⟩ := (show w6.cell? ⟨w.heap.size + 1, 0, none⟩ = some u ∧ w6.cell? ⟨w.heap.size + 1, 1, none⟩ = some u' from ⟨hR.cell 0, hR.cell 1⟩)
      obtain ⟨r2, r3⟩ := (show w6.frozen? ⟨w.heap.size + 1, 0, none⟩ = false ∧ w6.frozen? ⟨w.heap.size + 1, 1, none⟩ = false from ⟨hR.frozen 0, hR.frozen 1⟩)
      have lR := hR.lt
      have BW := hide (hbw.out.trans (C6.out.below.mono hbw.out.size))
      clear hR t0 t1 lT kP hb6 C0
      cases bq
      · go_wp2_with fail
        refine bodyPost_ret (v := .tuple #[.agg #[.slice none 0 0, .slice none 0 0], .bool false]) (by simp [results, Try.results15, go_sem, r0, r1]; done) rfl ?_
        rw [hqq.out]
        exact FenR.no ((BW.out.setCell (p := ⟨w.heap.size + 1, 0, none⟩) (by show w.heap.size ≤ w.heap.size + 1; omega) _).setCell (p := ⟨w.heap.size + 1, 1, none⟩) (by show w.heap.size ≤ w.heap.size + 1; omega) _)
      · obtain ⟨t0, t1⟩ := (show w6.cell? ⟨T, 0, none⟩ = some (.slice A3 p.init.length c3) ∧ w6.cell? ⟨T, 1, none⟩ = some (.slice A9 (fenTs p zs n p.ts.length).length c9) from ⟨C6.out.blk.cell 0, C6.out.blk.cell 1⟩)
        have lT := C6.out.blk.lt
        go_wp2_with fail
        refine bodyPost_ret (v := .tuple #[.agg #[.slice A3 p.init.length c3, .slice A9 (fenTs p zs n p.ts.length).length c9], .bool true]) (by simp [results, Try.results15, go_sem, r0, r1]; done) rfl ?_
        rw [hqq.out]
        refine ⟨_, _, vs, rfl, ?_, (BW.out.setCell (p := ⟨w.heap.size + 1, 0, none⟩) (by show w.heap.size ≤ w.heap.size + 1; omega) _).setCell (p := ⟨w.heap.size + 1, 1, none⟩) (by show w.heap.size ≤ w.heap.size + 1; omega) _⟩
        have h1 := C6.out.own.keep (w1 := (w6.setCell ⟨w.heap.size + 1, 0, none⟩ (.slice A3 p.init.length c3)).setCell ⟨w.heap.size + 1, 1, none⟩ (.slice A9 (fenTs p zs n p.ts.length).length c9)) (fun b hb _ => (Below.heap_setCell _ _ _ b (by show b ≠ w.heap.size + 1; omega)).trans (Below.heap_setCell _ _ _ b (by show b ≠ w.heap.size + 1; omega)))
        exact ⟨own_base h1.ints (by omega), own_base h1.rows (by omega), fun j hj => own_base (h1.thr j hj) (by omega), h1.apart⟩
theorem fencedS_any (p : ProgD) (A1 A2 A : Option Addr) (c1 c2 n c : Nat) (zs : List Int) (S : Nat → Prop) (w : World) (hz : zs.length = n * 2) (hn : n ≤ 1048576) (hS : ∀ b, S b → b < w.heap.size) (hcc : p.init.length ≤ c1 ∧ p.ts.length ≤ c2) (hi : IntsAt w S A1 p.init) (ht : ThreadsAt w S A2 p.ts) (ha : IntsAt w S A zs) :
    Calls Try.prog 15 #[.agg #[.slice A1 p.init.length c1, .slice A2 p.ts.length c2], .slice A n c] w fun e w' => FenR w w' e (fncP p zs n) (fncB p zs n) := by
  cases h : (progB p && spotsB p.ts zs n)
  · have e1 : fncB p zs n = false := by unfold fncB; rw [h]; rfl
    have e2 : fncP p zs n = ⟨[], []⟩ := by unfold fncP; rw [e1]; rfl
    rw [e1, e2]
    exact fencedS_no p A1 A2 A c1 c2 n c zs S w hz hn hS hcc hi ht ha h
  · have e1 : fncB p zs n = progB (fenP p zs n) := by unfold fncB; rw [h]; rfl
    have e2 : fncP p zs n = if progB (fenP p zs n) then fenP p zs n else ⟨[], []⟩ := by unfold fncP; rw [e1]
    simp only [Bool.and_eq_true] at h
    exact fencedS_yes p A1 A2 A c1 c2 n c zs S w hz hn hS hcc hi ht ha h.1 h.2 _ _ (hide e1.symm) (hide (by rw [e2, e1]))

end Go.Proofs.Ytfkaacfeikmabaa
