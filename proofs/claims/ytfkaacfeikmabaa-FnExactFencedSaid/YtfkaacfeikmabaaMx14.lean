/- The program's Fenced. -/
import Derived.Test.YtfkaacfeikmabaaMx0
import Derived.Test.YtfkaacfeikmabaaMx8
import Derived.Test.YtfkaacfeikmabaaMx9
import Derived.Test.YtfkaacfeikmabaaMx11
import Derived.Test.YtfkaacfeikmabaaMx12
import Derived.Test.YtfkaacfeikmabaaMx13
import Derived.Deep.RegionHeld3
namespace Go.Proofs.Ytfkaacfeikmabaa
open Go.RowKit

attribute [local go_sem ↓] Go.wp_at_zero Go.wp_at_succ

def fenTs (p : ProgD) (zs : List Int) (n k : Nat) : List (List InsD) := (List.range k).map fun (t : Nat) => fenI (atsS zs (t : Int) n) (gett p.ts t) (gett p.ts t).length
theorem fenTs_len (p : ProgD) (zs : List Int) (n k : Nat) : (fenTs p zs n k).length = k := by simp [fenTs]
theorem fenTs_succ (p : ProgD) (zs : List Int) (n k : Nat) : fenTs p zs n (k + 1) = fenTs p zs n k ++ [fenI (atsS zs (k : Int) n) (gett p.ts k) (gett p.ts k).length] := by
  unfold fenTs
  rw [List.range_succ, List.map_append]
  rfl
theorem CrAt.next {w0 w w' : World} {T : Nat} {zs : List Int} {v tv : Value} {ts : List (List InsD)} {vs : List Value} (h : CrAt w0 T zs v ts vs tv w) (hb : Below w.heap.size w w') : CrAt w0 T zs v ts vs tv w' :=
  ⟨h.below.trans (hb.mono h.below.size), h.blk.below hb h.blk.lt, h.own.keep (fun b _ hlt => hb.block b hlt), h.lo, h.out.imp fun _ => Exists.imp fun _ k => k.below hb k.lt⟩
def FenR (w w' : World) (e : Ending) (q : ProgD) (ok : Bool) : Prop := ∃ v tv vs, e = .returned (.tuple #[.agg #[v, tv], .bool ok]) ∧ ProgOwn w' w.heap.size q.init v q.ts vs tv ∧ Below w.heap.size w w'
def fncP (p : ProgD) (zs : List Int) (n : Nat) : ProgD := if fncB p zs n then fenP p zs n else ⟨[], []⟩
theorem FenR.no {w w' : World} (hb : Below w.heap.size w w') : FenR w w' (.returned (.tuple #[.agg #[.slice none 0 0, .slice none 0 0], .bool false])) ⟨[], []⟩ false :=
  ⟨_, _, [], rfl, ⟨⟨rfl, .inl ⟨rfl, rfl⟩⟩, ⟨rfl, .inl ⟨rfl, rfl⟩⟩, fun k hk => by simp at hk, fun j k _ hk => by simp at hk⟩, hb⟩

set_option maxRecDepth 100000 in
set_option maxHeartbeats 12800000 in
theorem fencedP_no (p : ProgD) (A1 A2 A : Option Addr) (c1 c2 n c : Nat) (zs : List Int) (S : Nat → Prop) (w : World) (hz : zs.length = n * 2) (hn : n ≤ 1048576) (hS : ∀ b, S b → b < w.heap.size) (hcc : p.init.length ≤ c1 ∧ p.ts.length ≤ c2) (hi : IntsAt w S A1 p.init) (ht : ThreadsAt w S A2 p.ts) (ha : IntsAt w S A zs) (hno : (progB p && spotsB p.ts zs n) = false) :
    Calls Try.prog 18 #[.agg #[.slice A1 p.init.length c1, .slice A2 p.ts.length c2], .slice A n c] w fun e w' => FenR w w' e ⟨[], []⟩ false := by
  have hb0 := below2 w (Obj.cells #[.slice A1 p.init.length c1, .slice A2 p.ts.length c2] 31) (Obj.cells #[.slice none 0 0, .slice none 0 0] 31)
  have hok := hide (progOk_any (.agg #[.slice A1 p.init.length c1, .slice A2 p.ts.length c2]) p S _ (fun b h => Nat.lt_of_lt_of_le (hS b h) hb0.size) ⟨A1, c1, A2, c2, rfl, hcc, hi.below hb0 hS, ht.below hb0 hS⟩)
  have X0 := hide ((Blk.new w 31 #[.slice A1 p.init.length c1, .slice A2 p.ts.length c2]).alloc (Obj.cells #[.slice none 0 0, .slice none 0 0] 31))
  have R0 := Blk.new (w.alloc (Obj.cells #[.slice A1 p.init.length c1, .slice A2 p.ts.length c2] 31)) 31 #[.slice none 0 0, .slice none 0 0]
  simp only [World.size_alloc] at R0
  replace R0 := hide R0
  have T0 := hide (ht.below hb0 hS)
  have Z0 := hide (ha.below hb0 hS)
  have hS1 := hide (fun b (h : S b) => (show b < ((w.alloc (Obj.cells #[.slice A1 p.init.length c1, .slice A2 p.ts.length c2] 31)).alloc (Obj.cells #[.slice none 0 0, .slice none 0 0] 31)).heap.size from Nat.lt_of_lt_of_le (hS b h) hb0.size))
  replace hb0 := hide hb0
  clear hi ht ha
  go_enter Try.func18, Try.ntmps18
  go_wp2_with fail
  refine hok.out.mono ?_
  rintro e w1 ⟨rfl, hb1⟩
  have X1 := hide (X0.out.below hb1 X0.out.lt)
  have R1 := hide (R0.out.below hb1 R0.out.lt)
  have T1 := hide (T0.out.below hb1 (fun b h => hS1.out b h))
  have Z1 := hide (Z0.out.below hb1 (fun b h => hS1.out b h))
  have B1 := hide (below_then hb0.out hb1)
  have hS2 := hide (fun b (h : S b) => (show b < w1.heap.size from Nat.lt_of_lt_of_le (hS1.out b h) hb1.size))
  clear hok hb1 X0 R0 T0 Z0 hb0 hS1
  cases hB : progB p
  · obtain ⟨r0, r1⟩ := (show w1.cell? ⟨w.heap.size + 1, 0, none⟩ = some (.slice none 0 0) ∧ w1.cell? ⟨w.heap.size + 1, 1, none⟩ = some (.slice none 0 0) from ⟨R1.out.cell 0, R1.out.cell 1⟩)
    obtain ⟨r2, r3⟩ := (show w1.frozen? ⟨w.heap.size + 1, 0, none⟩ = false ∧ w1.frozen? ⟨w.heap.size + 1, 1, none⟩ = false from ⟨R1.out.frozen 0, R1.out.frozen 1⟩)
    have lR := R1.out.lt
    clear hno hB
    go_wp2_with fail
    refine bodyPost_ret (v := .tuple #[.agg #[.slice none 0 0, .slice none 0 0], .bool false]) (by simp [results, Try.results18, go_sem, r0, r1]; done) rfl (FenR.no ?_)
    exact (B1.out.setCell (p := ⟨w.heap.size + 1, 0, none⟩) (by show w.heap.size ≤ w.heap.size + 1; omega) _).setCell (p := ⟨w.heap.size + 1, 1, none⟩) (by show w.heap.size ≤ w.heap.size + 1; omega) _
  · rw [hB, Bool.true_and] at hno
    have kS := fun w h1 h2 h3 => spotsOk_any A A1 A2 p.init.length n c c1 c2 zs p.ts S w hz hn h1 h2 h3
    rw [hno] at kS
    replace kS := hide kS
    obtain ⟨x0, x1⟩ := (show w1.cell? ⟨w.heap.size, 0, none⟩ = some (.slice A1 p.init.length c1) ∧ w1.cell? ⟨w.heap.size, 1, none⟩ = some (.slice A2 p.ts.length c2) from ⟨X1.out.cell 0, X1.out.cell 1⟩)
    have lX := X1.out.lt
    clear hno hB
    go_wp2_with fail
    refine (kS.out _ hS2.out T1.out Z1.out).mono ?_
    rintro e w2 ⟨rfl, hb2⟩
    have R2 := hide (R1.out.below hb2 R1.out.lt)
    have B2 := hide (below_then B1.out hb2)
    obtain ⟨r0, r1⟩ := (show w2.cell? ⟨w.heap.size + 1, 0, none⟩ = some (.slice none 0 0) ∧ w2.cell? ⟨w.heap.size + 1, 1, none⟩ = some (.slice none 0 0) from ⟨R2.out.cell 0, R2.out.cell 1⟩)
    obtain ⟨r2, r3⟩ := (show w2.frozen? ⟨w.heap.size + 1, 0, none⟩ = false ∧ w2.frozen? ⟨w.heap.size + 1, 1, none⟩ = false from ⟨R2.out.frozen 0, R2.out.frozen 1⟩)
    have lR := R2.out.lt
    clear x0 x1 lX hb2 kS
    go_wp2_with fail
    refine bodyPost_ret (v := .tuple #[.agg #[.slice none 0 0, .slice none 0 0], .bool false]) (by simp [results, Try.results18, go_sem, r0, r1]; done) rfl (FenR.no ?_)
    exact (B2.out.setCell (p := ⟨w.heap.size + 1, 0, none⟩) (by show w.heap.size ≤ w.heap.size + 1; omega) _).setCell (p := ⟨w.heap.size + 1, 1, none⟩) (by show w.heap.size ≤ w.heap.size + 1; omega) _

set_option maxRecDepth 100000 in
set_option maxHeartbeats 25600000 in
theorem fencedP_yes (p : ProgD) (A1 A2 A : Option Addr) (c1 c2 n c : Nat) (zs : List Int) (S : Nat → Prop) (w : World) (hz : zs.length = n * 2) (hn : n ≤ 1048576) (hS : ∀ b, S b → b < w.heap.size) (hcc : p.init.length ≤ c1 ∧ p.ts.length ≤ c2) (hi : IntsAt w S A1 p.init) (ht : ThreadsAt w S A2 p.ts) (ha : IntsAt w S A zs) (hB : progB p = true) (hsp : spotsB p.ts zs n = true) (bq : Bool) (q : ProgD) (hbq : Hid (progB (fenP p zs n) = bq)) (hqq : Hid (q = if bq then fenP p zs n else ⟨[], []⟩)) :
    Calls Try.prog 18 #[.agg #[.slice A1 p.init.length c1, .slice A2 p.ts.length c2], .slice A n c] w fun e w' => FenR w w' e q bq := by
  obtain ⟨i2, hi2, hx0, hx1, hx2⟩ := info_parts Try.infoThr
  replace hi2 := hide hi2
  obtain ⟨h6, h3, h24⟩ := prog_thr hB
  have hup := hide (fun (t : Int) => atsS_up hsp t (Nat.le_refl n))
  have hjm := hide (fun (t : Nat) (ht : t < p.ts.length) k hk hl => prog_jumps hB (t := t) (k := k) ht hk hl)
  replace h24 := hide h24
  have hb0 := below2 w (Obj.cells #[.slice A1 p.init.length c1, .slice A2 p.ts.length c2] 31) (Obj.cells #[.slice none 0 0, .slice none 0 0] 31)
  have hok := progOk_any (.agg #[.slice A1 p.init.length c1, .slice A2 p.ts.length c2]) p S _ (fun b h => Nat.lt_of_lt_of_le (hS b h) hb0.size) ⟨A1, c1, A2, c2, rfl, hcc, hi.below hb0 hS, ht.below hb0 hS⟩
  rw [hB] at hok
  replace hok := hide hok
  have X0 := hide ((Blk.new w 31 #[.slice A1 p.init.length c1, .slice A2 p.ts.length c2]).alloc (Obj.cells #[.slice none 0 0, .slice none 0 0] 31))
  have R0 := Blk.new (w.alloc (Obj.cells #[.slice A1 p.init.length c1, .slice A2 p.ts.length c2] 31)) 31 #[.slice none 0 0, .slice none 0 0]
  simp only [World.size_alloc] at R0
  replace R0 := hide R0
  have T0 := hide (ht.below hb0 hS)
  have Z0 := hide (ha.below hb0 hS)
  have I0 := hide (hi.below hb0 hS)
  have hS1 := hide (fun b (h : S b) => (show b < ((w.alloc (Obj.cells #[.slice A1 p.init.length c1, .slice A2 p.ts.length c2] 31)).alloc (Obj.cells #[.slice none 0 0, .slice none 0 0] 31)).heap.size from Nat.lt_of_lt_of_le (hS b h) hb0.size))
  obtain ⟨w0, hw0⟩ : ∃ w0, w0 = w.alloc (Obj.cells #[.slice A1 p.init.length c1, .slice A2 p.ts.length c2] 31) := ⟨_, rfl⟩
  have hw0s : w0.heap.size = w.heap.size + 1 := by rw [hw0, World.size_alloc]
  have hbw := hide (show Below w.heap.size w w0 from by rw [hw0]; exact below1 _ _)
  have hb0' := hide (show Below w0.heap.size w0 ((w.alloc (Obj.cells #[.slice A1 p.init.length c1, .slice A2 p.ts.length c2] 31)).alloc (Obj.cells #[.slice none 0 0, .slice none 0 0] 31)) from by rw [hw0]; exact below1 _ _)
  have TW := hide (ht.below hbw.out hS)
  have ZW := hide (ha.below hbw.out hS)
  have hSW := hide (fun b (h : S b) => (show b < w0.heap.size from Nat.lt_of_lt_of_le (hS b h) hbw.out.size))
  clear hi ht ha hB hb0 hw0
  have kS := fun w h1 h2 h3 => spotsOk_any A A1 A2 p.init.length n c c1 c2 zs p.ts S w hz hn h1 h2 h3
  rw [hsp] at kS
  replace kS := hide kS
  clear hsp
  go_enter Try.func18, Try.ntmps18
  go_wp2_with fail
  refine hok.out.mono ?_
  rintro e w1 ⟨rfl, hb1⟩
  have X1 := hide (X0.out.below hb1 X0.out.lt)
  have R1 := hide (R0.out.below hb1 R0.out.lt)
  have T1 := hide (T0.out.below hb1 (fun b h => hS1.out b h))
  have Z1 := hide (Z0.out.below hb1 (fun b h => hS1.out b h))
  have I1 := hide (I0.out.below hb1 (fun b h => hS1.out b h))
  have B1 := hide (hb0'.out.trans (hb1.mono hb0'.out.size))
  have hS2 := hide (fun b (h : S b) => (show b < w1.heap.size from Nat.lt_of_lt_of_le (hS1.out b h) hb1.size))
  clear hok hb1 X0 R0 T0 Z0 I0 hb0' hS1
  obtain ⟨x0, x1⟩ := (show w1.cell? ⟨w.heap.size, 0, none⟩ = some (.slice A1 p.init.length c1) ∧ w1.cell? ⟨w.heap.size, 1, none⟩ = some (.slice A2 p.ts.length c2) from ⟨X1.out.cell 0, X1.out.cell 1⟩)
  have lX := X1.out.lt
  go_wp2_with fail
  refine (kS.out _ hS2.out T1.out Z1.out).mono ?_
  rintro e w2 ⟨rfl, hb2⟩
  have X2 := hide (X1.out.below hb2 X1.out.lt)
  have R2 := hide (R1.out.below hb2 R1.out.lt)
  have T2 := hide (T1.out.below hb2 (fun b h => hS2.out b h))
  have Z2 := hide (Z1.out.below hb2 (fun b h => hS2.out b h))
  have I2 := hide ((I1.out.below hb2 (fun b h => hS2.out b h)).more (fun b h => show Old w2.heap.size b from Nat.lt_of_lt_of_le (hS2.out b h) hb2.size))
  have B2 := hide (B1.out.trans (hb2.mono B1.out.size))
  have hS3 := hide (fun b (h : S b) => (show b < w2.heap.size from Nat.lt_of_lt_of_le (hS2.out b h) hb2.size))
  clear x0 x1 lX hb2 X1 R1 T1 Z1 I1 B1 kS hS2
  obtain ⟨x0, x1⟩ := (show w2.cell? ⟨w.heap.size, 0, none⟩ = some (.slice A1 p.init.length c1) ∧ w2.cell? ⟨w.heap.size, 1, none⟩ = some (.slice A2 p.ts.length c2) from ⟨X2.out.cell 0, X2.out.cell 1⟩)
  have lX := X2.out.lt
  go_wp2_with fail
  clear x0 x1 lX
  refine (cloneInts_any A1 p.init p.init.length c1 _ rfl (by omega) I2.out).mono ?_
  rintro e w3 ⟨A3, c3, rfl, hown3, hb3⟩
  have hR3 := R2.out.below hb3 R2.out.lt
  have hRl := R2.out.lt
  have hb4 := below1 w3 (Obj.cells #[.slice A3 p.init.length c3, .slice none 0 0] 31)
  have hb34 := below_then hb3 hb4
  have B4 := B2.out.trans (hb34.mono B2.out.size)
  have C4 := hide (show CrAt w0 w3.heap.size p.init (.slice A3 p.init.length c3) (fenTs p zs n 0) [] (.slice none 0 0) (w3.alloc (Obj.cells #[.slice A3 p.init.length c3, .slice none 0 0] 31)) from
    ⟨B4, Blk.new _ _ _, ⟨own_base (kept hown3 (fun k hk _ => hb4.block k hk)) (by omega), ⟨rfl, .inl ⟨rfl, rfl⟩⟩, fun k hk => by simp [fenTs] at hk, fun j k _ hk => by simp [fenTs] at hk⟩, by have := hb3.size; omega, ⟨_, _, by rw [hw0s]; exact hR3.below hb4 hR3.lt⟩⟩)
  have X4 := hide (X2.out.below hb34 X2.out.lt)
  have T4 := hide (T2.out.below hb34 (fun b h => hS3.out b h))
  have Z4 := hide (Z2.out.below hb34 (fun b h => hS3.out b h))
  have hS4 := hide (fun b (h : S b) => (show b < (w3.alloc (Obj.cells #[.slice A3 p.init.length c3, .slice none 0 0] 31)).heap.size from Nat.lt_of_lt_of_le (hS3.out b h) hb34.size))
  have x1 : (w3.alloc (Obj.cells #[.slice A3 p.init.length c3, .slice none 0 0] 31)).cell? ⟨w.heap.size, 1, none⟩ = some (.slice A2 p.ts.length c2) := X4.out.cell 1
  have lX : w.heap.size < (w3.alloc (Obj.cells #[.slice A3 p.init.length c3, .slice none 0 0] 31)).heap.size := X4.out.lt
  have lX3 := Nat.lt_of_lt_of_le X2.out.lt hb3.size
  clear hR3 hRl hb34 hb4 hown3 hb3 B4 X2 R2 T2 Z2 I2 B2 hS3
  go_wp2_with fail
  clear x1 lX lX3
  obtain ⟨w4, hw4⟩ : ∃ wq, wq = w3.alloc (Obj.cells #[.slice A3 p.init.length c3, .slice none 0 0] 31) := ⟨_, rfl⟩
  rw [← hw4] at C4 X4 T4 Z4 hS4 ⊢
  obtain ⟨T, hT⟩ : ∃ T, T = w3.heap.size := ⟨_, rfl⟩
  rw [← hT] at C4 ⊢
  clear hw4 hT
  obtain ⟨v, hv⟩ : ∃ v, v = Value.slice A3 p.init.length c3 := ⟨_, rfl⟩
  rw [← hv] at C4
  go_loopw [26] (fun i wr => ∃ (k : Nat) (vs : List Value) (tv : Value), k ≤ p.ts.length ∧ i = .int .i64 k ∧ Hid (CrAt w0 T p.init v (fenTs p zs n k) vs tv wr)) (fun i _ => p.ts.length - (intOf i).toNat)
  case atStart => exact ⟨0, [], _, Nat.zero_le _, rfl, C4⟩
  case round =>
    clear C4 X4 T4 Z4 hS4
    obtain ⟨k, vs, tv, hk, rfl, C0⟩ := hrel
    by_cases hlt : k < p.ts.length
    · obtain ⟨bT, oT, rfl, hbT, hcT⟩ := (TW.out.below C0.out.below (fun b h => hSW.out b h)).2 (by omega)
      obtain ⟨A6, c6, d0, -, hIn⟩ := hcT k hlt
      have h24k := h24.out k hlt
      have hkl : k < p.ts.length := hlt
      have hlt' : decide ((k : Int) < (p.ts.length : Int)) = true := decide_eq_true (by omega)
      have hbTr := Nat.lt_of_lt_of_le (hSW.out bT hbT) C0.out.below.size
      have hbY := below1 wr (Obj.cells #[.slice A6 (gett p.ts k).length c6] 99)
      have Y5a := Blk.new wr 99 #[.slice A6 (gett p.ts k).length c6]
      have C5a := C0.out.alloc (Obj.cells #[.slice A6 (gett p.ts k).length c6] 99)
      have I5a := hIn.below hbY (fun b h => Nat.lt_of_lt_of_le (hSW.out b h) C0.out.below.size)
      have Z5a := (ZW.out.below C0.out.below (fun b h => hSW.out b h)).below hbY (fun b h => Nat.lt_of_lt_of_le (hSW.out b h) C0.out.below.size)
      have hS5 := hide (fun b (h : S b) => (show b < (wr.alloc (Obj.cells #[.slice A6 (gett p.ts k).length c6] 99)).heap.size from Nat.lt_of_lt_of_le (Nat.lt_of_lt_of_le (hSW.out b h) C0.out.below.size) hbY.size))
      have hYtv := hide (fun b (h : tv.ownBlock = some b) => (own_at C0.out.own.rows h).2)
      have hTw := hide C0.out.blk.lt
      go_wp2_with fail
      obtain ⟨w5, hw5⟩ : ∃ wq, wq = wr.alloc (Obj.cells #[.slice A6 (gett p.ts k).length c6] 99) := ⟨_, rfl⟩
      rw [← hw5] at Y5a C5a I5a Z5a hS5 ⊢
      obtain ⟨Y, hY⟩ : ∃ Y, Y = wr.heap.size := ⟨_, rfl⟩
      rw [← hY] at Y5a hYtv hTw ⊢
      clear hw5 hY d0 hcT hIn hbY C0 hbTr
      have C5 := hide C5a
      have Y5 := hide Y5a
      have I5 := hide I5a
      have Z5 := hide (show IntsAt w5.drew S A zs from Z5a.below ((Below.refl w5.heap.size w5).drew) (fun b h => hS5.out b h))
      have t5 : w5.cell? ⟨T, 1, none⟩ = some tv := C5a.blk.cell 1
      have hC := hide (fun w' (hb : Below w5.heap.size w5 w') => (show (fun w' : World => w'.cell? ⟨Y, 0, none⟩ = some (.slice A6 (gett p.ts k).length c6)) w' from (Y5a.below hb Y5a.lt).cell 0))
      clear C5a Y5a I5a Z5a
      refine wp_region_held_drew (S := (fun w' : World => w'.cell? ⟨Y, 0, none⟩ = some (.slice A6 (gett p.ts k).length c6))) (by kernel_rfl) ?_ (fun hHeld => ?_)
      · exact hC.out _ (Below.refl _ _).drew
      refine wpAnyH_take (i := 0) (oi := { dst := some 31, op := Op.fieldAddr 31 (Operand.tmp 6) 1, type := 0, pos := "l07_fence.go:69", after := #[], guard := none }) (v := ?_) rfl (by kernel_rfl) (by kernel_rfl) (by kernel_rfl) (fun _ _ _ h => h) (Or.inl ⟨by rfl, ?_⟩) hHeld ?_
      rotate_left
      · (intro wq hSw; (try dsimp only at hSw); first | (go_simp; done) | (go_simp; with_reducible rfl))
      try simp only [Act.put, qa, qb, qc]
      refine wpAnyH_take (i := 2) (oi := { dst := some 33, op := Op.load 99 (Operand.tmp 8), type := 99, pos := "l07_fence.go:69", after := #[], guard := none }) (v := ?_) rfl (by kernel_rfl) (by kernel_rfl) (by kernel_rfl) (fun _ _ _ h => h) (Or.inl ⟨by rfl, ?_⟩) hHeld ?_
      rotate_left
      · (intro wq hSw; (try dsimp only at hSw); first | (go_simp; done) | (go_simp; with_reducible rfl))
      try simp only [Act.put, qa, qb, qc]
      refine wpAnyH_take (i := 3) (oi := { dst := some 34, op := Op.move (Operand.tmp 7), type := 3, pos := "l07_fence.go:69", after := #[], guard := none }) (v := ?_) rfl (by kernel_rfl) (by kernel_rfl) (by kernel_rfl) (fun _ _ _ h => h) (Or.inl ⟨by rfl, ?_⟩) hHeld ?_
      rotate_left
      · (intro wq hSw; (try dsimp only at hSw); first | (go_simp; done) | (go_simp; with_reducible rfl))
      try simp only [Act.put, qa, qb, qc]
      refine wpAnyH_take (i := 4) (oi := { dst := some 35, op := Op.move (Operand.tmp 1), type := 35, pos := "l07_fence.go:69", after := #[], guard := none }) (v := ?_) rfl (by kernel_rfl) (by kernel_rfl) (by kernel_rfl) (fun _ _ _ h => h) (Or.inl ⟨by rfl, ?_⟩) hHeld ?_
      rotate_left
      · (intro wq hSw; (try dsimp only at hSw); first | (go_simp; done) | (go_simp; with_reducible rfl))
      try simp only [Act.put, qa, qb, qc]
      refine wpAnyH_ready (rs := [1, 5]) (by kernel_rfl) (by simp) ?_
      refine AllReadyH.cons (o := { dst := some 32, op := Op.load 29 (Operand.tmp 31), type := 29, pos := "l07_fence.go:69", after := #[{ on := 0, ground := Ground.data }], guard := none }) rfl (fun K hK => ?_) (AllReadyH.cons (o := { dst := some 36, op := Op.call { callee := Callee.value (Operand.func 68), args := #[Operand.tmp 34, Operand.tmp 35], argTypes := #[3, 35] }, type := 22, pos := "l07_fence.go:69", after := #[{ on := 3, ground := Ground.data }, { on := 4, ground := Ground.data }], guard := none }) rfl (fun K hK => ?_) (AllReadyH.nil))
      · go_simp
        refine hK.out _ _ ?_ (fun hHeldN => ?_)
        · exact hHeld
        clear hK K hHeld
        have hHeld := hHeldN
        clear hHeldN
        try simp only [Act.put, qa, qb, qc]
        refine wpAnyH_ready (rs := [5]) (by kernel_rfl) (by simp) ?_
        refine AllReadyH.cons (o := { dst := some 36, op := Op.call { callee := Callee.value (Operand.func 68), args := #[Operand.tmp 34, Operand.tmp 35], argTypes := #[3, 35] }, type := 22, pos := "l07_fence.go:69", after := #[{ on := 3, ground := Ground.data }, { on := 4, ground := Ground.data }], guard := none }) rfl (fun K hK => ?_) (AllReadyH.nil)
        · go_simp
          go_at_call 68
          refine (spotsOf_any A zs n c (k : Int) S w5.drew hz hn hS5.out Z5.out).mono ?_
          rintro e w6 ⟨A7, c7, rfl, hr7, hb6⟩
          have hb56 := hide (show Below w5.heap.size w5 w6 from ((Below.refl _ _).drew).trans hb6)
          have C6 := hide (C5.out.next hb56.out)
          have Y6 := hide (Y5.out.below hb56.out Y5.out.lt)
          have I6 := hide ((I5.out.below hb56.out (fun b h => hS5.out b h)).more (fun b h => show Old w6.heap.size b from Nat.lt_of_lt_of_le (hS5.out b h) hb56.out.size))
          have hat6 := hide (hr7.ints (A := A7) (by have := atsS_len zs (k : Int) n; omega) rfl)
          have t6 : w6.cell? ⟨T, 1, none⟩ = some tv := C6.out.blk.cell 1
          clear hr7 hb6
          refine hK.out _ _ ?_ (fun hHeldN => ?_)
          · exact hC.out _ hb56.out
          clear hK K hHeld
          have hHeld := hHeldN
          clear hHeldN
          try simp only [Act.put, qa, qb, qc]
          refine wpAnyH_ready (rs := [6]) (by kernel_rfl) (by simp) ?_
          refine AllReadyH.cons (o := { dst := some 37, op := Op.call { callee := Callee.value (Operand.func 67), args := #[Operand.tmp 33, Operand.tmp 36], argTypes := #[99, 22] }, type := 99, pos := "l07_fence.go:69", after := #[{ on := 2, ground := Ground.data }, { on := 5, ground := Ground.data }, { on := 5, ground := Ground.chain }], guard := none }) rfl (fun K hK => ?_) (AllReadyH.nil)
          · go_simp
            go_at_call 67
            refine (fenced_any A6 A7 (gett p.ts k) (atsS zs (k : Int) n) c6 c7 (Old w6.heap.size) w6 h24k (fun _ h => h) I6.out hat6.out (by have := atsS_len zs (k : Int) n; omega) (hup.out k) (hjm.out k hkl)).mono ?_
            rintro e w7 ⟨A8, c8, rfl, hown7, hb7⟩
            have hb57 := hide (hb56.out.trans (hb7.mono hb56.out.size))
            have L7 := hide (show LAt w0 T p.init v (fenTs p zs n k) vs tv (fenI (atsS zs (k : Int) n) (gett p.ts k) (gett p.ts k).length) (.slice A8 (fenI (atsS zs (k : Int) n) (gett p.ts k) (gett p.ts k).length).length c8) w7 from ⟨C6.out.next hb7, own_base hown7 (by have := C6.out.below.size; have := C6.out.lo; have := C6.out.blk.lt; omega), fun j hj => apart_new (C6.out.own.thr j hj) hown7 (Nat.le_refl _)⟩)
            have L8 := hide (L7.out.alloc (Obj.cells #[(.slice A8 (fenI (atsS zs (k : Int) n) (gett p.ts k) (gett p.ts k).length).length c8)] 99))
            have Y7 := hide (Y5.out.below hb57.out Y5.out.lt)
            have Y8 := hide (Y7.out.alloc (Obj.cells #[(.slice A8 (fenI (atsS zs (k : Int) n) (gett p.ts k) (gett p.ts k).length).length c8)] 99))
            have hb58 := hide (hb57.out.alloc hb57.out.size (Obj.cells #[(.slice A8 (fenI (atsS zs (k : Int) n) (gett p.ts k) (gett p.ts k).length).length c8)] 99))
            have t7 : w7.cell? ⟨T, 1, none⟩ = some tv := L7.out.cr.blk.cell 1
            have t8 : (w7.alloc (Obj.cells #[(.slice A8 (fenI (atsS zs (k : Int) n) (gett p.ts k) (gett p.ts k).length).length c8)] 99)).cell? ⟨T, 1, none⟩ = some tv := L8.out.cr.blk.cell 1
            clear hown7 hb7
            refine hK.out _ _ ?_ (fun hHeldN => ?_)
            · exact hC.out _ hb57.out
            clear hK K hHeld
            have hHeld := hHeldN
            clear hHeldN
            try simp only [Act.put, qa, qb, qc]
            refine wpAnyH_ready (rs := [7]) (by kernel_rfl) (by simp) ?_
            refine AllReadyH.cons (o := { dst := some 38, op := Op.buildSlice 29 1 #[(0, Operand.tmp 37)], type := 29, pos := "l07_fence.go:69", after := #[{ on := 6, ground := Ground.data }], guard := none }) rfl (fun K hK => ?_) (AllReadyH.nil)
            · go_simp
              refine hK.out _ _ ?_ (fun hHeldN => ?_)
              · exact hC.out _ hb58.out
              clear hK K hHeld
              have hHeld := hHeldN
              clear hHeldN
              try simp only [Act.put, qa, qb, qc]
              refine wpAnyH_ready (rs := [8]) (by kernel_rfl) (by simp) ?_
              refine AllReadyH.cons (o := { dst := some 39, op := Op.call { callee := Callee.builtin Builtin.append, args := #[Operand.tmp 32, Operand.tmp 38], argTypes := #[29, 29] }, type := 29, pos := "l07_fence.go:69", after := #[{ on := 1, ground := Ground.data }, { on := 7, ground := Ground.data }, { on := 6, ground := Ground.chain }], guard := none }) rfl (fun K hK => ?_) (AllReadyH.nil)
              · rw [if_pos (by rfl)]
                refine wp_append_lies _ _ _ _ (by rfl) (w0.heap.size + 1) 99 i2 _ 1 24 Try.underlying29 hi2.out hx0 hx1 hx2 rfl (by omega) tv (fenTs p zs n k).length vs (by rfl) L8.out.cr.own.rows ⟨w7.heap.size, 0, none⟩ 1 1 [(.slice A8 (fenI (atsS zs (k : Int) n) (gett p.ts k) (gett p.ts k).length).length c8)] (by rfl) (by rfl) (World.news_of_block (cs := #[(.slice A8 (fenI (atsS zs (k : Int) n) (gett p.ts k) (gett p.ts k).length).length c8)]) (heap_alloc_new _ _)) (by simp [Value.oneCell']) (by omega) (by rw [fenTs_len]; have : maxLen = 9223372036854775807 := rfl; omega) (by rw [fenTs_len]; omega) (by have := L8.out.cr.below.size; have := L8.out.cr.lo; have := L8.out.cr.blk.lt; omega) _ rfl ?_
                intro gg cap w9 hown9 hgr9 hat9 hlt9
                obtain ⟨⟨⟨s0, s1⟩, s2, s3⟩, hC9⟩ := L8.out.growRows rfl hown9 hgr9
                have Y9 := hide (show Blk w9 Y 99 #[.slice A6 (gett p.ts k).length c6] from (hgr9.block Y Y8.out.lt (fun e => by have := hYtv.out Y e.symm; omega)).trans Y8.out)
                have hTY : T ≠ Y := by have := C5.out.blk.lt; have := hTw.out; omega
                have C9 := hide hC9
                have lT9 : T < w9.heap.size := by have := C9.out.blk.lt; simpa using this
                clear hown9 hgr9 hat9 hC9
                refine hK.out _ _ ?_ (fun hHeldN => ?_)
                · exact Y9.out.cell 0
                clear hK K hHeld
                have hHeld := hHeldN
                clear hHeldN
                try simp only [Act.put, qa, qb, qc]
                refine wpAnyH_take (i := 9) (oi := { dst := some 40, op := Op.fieldAddr 31 (Operand.tmp 6) 1, type := 0, pos := "l07_fence.go:69", after := #[{ on := 0, ground := Ground.phase }, { on := 1, ground := Ground.phase }, { on := 2, ground := Ground.phase }, { on := 3, ground := Ground.phase }, { on := 4, ground := Ground.phase }, { on := 5, ground := Ground.phase }, { on := 6, ground := Ground.phase }, { on := 7, ground := Ground.phase }, { on := 8, ground := Ground.phase }], guard := none }) (v := ?_) rfl (by kernel_rfl) (by kernel_rfl) (by kernel_rfl) (fun _ _ _ h => h) (Or.inl ⟨by rfl, ?_⟩) hHeld ?_
                rotate_left
                · (intro wq hSw; (try dsimp only at hSw); first | (go_simp; done) | (go_simp; with_reducible rfl))
                try simp only [Act.put, qa, qb, qc]
                refine wpAnyH_ready (rs := [10]) (by kernel_rfl) (by simp) ?_
                refine AllReadyH.cons (o := { dst := none, op := Op.store 29 (Operand.tmp 40) (Operand.tmp 39), type := 0, pos := "l07_fence.go:69", after := #[{ on := 9, ground := Ground.data }, { on := 8, ground := Ground.data }, { on := 8, ground := Ground.chain }, { on := 0, ground := Ground.phase }, { on := 1, ground := Ground.phase }, { on := 2, ground := Ground.phase }, { on := 3, ground := Ground.phase }, { on := 4, ground := Ground.phase }, { on := 5, ground := Ground.phase }, { on := 6, ground := Ground.phase }, { on := 7, ground := Ground.phase }, { on := 8, ground := Ground.phase }], guard := none }) rfl (fun K hK => ?_) (AllReadyH.nil)
                · go_simp
                  refine hK.out _ _ ?_ (fun hHeldN => ?_)
                  · exact (Y9.out.far (p := ⟨T, 1, none⟩) (fun e => hTY e.symm) _).cell 0
                  clear hK K hHeld
                  have hHeld := hHeldN
                  clear hHeldN
                  try simp only [Act.put, qa, qb, qc]
                  refine wpAnyH_done (by kernel_rfl) ?_ _
                  go_wp2_with fail
                  go_roundw
                  case rel => exact ⟨k + 1, _, _, by omega, by go_num, hide (by rw [fenTs_succ]; exact C9.out)⟩
                  case measure => simp [intOf]; omega
      · go_simp
        go_at_call 68
        refine (spotsOf_any A zs n c (k : Int) S w5.drew hz hn hS5.out Z5.out).mono ?_
        rintro e w6 ⟨A7, c7, rfl, hr7, hb6⟩
        have hb56 := hide (show Below w5.heap.size w5 w6 from ((Below.refl _ _).drew).trans hb6)
        have C6 := hide (C5.out.next hb56.out)
        have Y6 := hide (Y5.out.below hb56.out Y5.out.lt)
        have I6 := hide ((I5.out.below hb56.out (fun b h => hS5.out b h)).more (fun b h => show Old w6.heap.size b from Nat.lt_of_lt_of_le (hS5.out b h) hb56.out.size))
        have hat6 := hide (hr7.ints (A := A7) (by have := atsS_len zs (k : Int) n; omega) rfl)
        have t6 : w6.cell? ⟨T, 1, none⟩ = some tv := C6.out.blk.cell 1
        clear hr7 hb6
        refine hK.out _ _ ?_ (fun hHeldN => ?_)
        · exact hC.out _ hb56.out
        clear hK K hHeld
        have hHeld := hHeldN
        clear hHeldN
        try simp only [Act.put, qa, qb, qc]
        refine wpAnyH_ready (rs := [1, 6]) (by kernel_rfl) (by simp) ?_
        refine AllReadyH.cons (o := { dst := some 32, op := Op.load 29 (Operand.tmp 31), type := 29, pos := "l07_fence.go:69", after := #[{ on := 0, ground := Ground.data }], guard := none }) rfl (fun K hK => ?_) (AllReadyH.cons (o := { dst := some 37, op := Op.call { callee := Callee.value (Operand.func 67), args := #[Operand.tmp 33, Operand.tmp 36], argTypes := #[99, 22] }, type := 99, pos := "l07_fence.go:69", after := #[{ on := 2, ground := Ground.data }, { on := 5, ground := Ground.data }, { on := 5, ground := Ground.chain }], guard := none }) rfl (fun K hK => ?_) (AllReadyH.nil))
        · go_simp
          refine hK.out _ _ ?_ (fun hHeldN => ?_)
          · exact hHeld
          clear hK K hHeld
          have hHeld := hHeldN
          clear hHeldN
          try simp only [Act.put, qa, qb, qc]
          refine wpAnyH_ready (rs := [6]) (by kernel_rfl) (by simp) ?_
          refine AllReadyH.cons (o := { dst := some 37, op := Op.call { callee := Callee.value (Operand.func 67), args := #[Operand.tmp 33, Operand.tmp 36], argTypes := #[99, 22] }, type := 99, pos := "l07_fence.go:69", after := #[{ on := 2, ground := Ground.data }, { on := 5, ground := Ground.data }, { on := 5, ground := Ground.chain }], guard := none }) rfl (fun K hK => ?_) (AllReadyH.nil)
          · go_simp
            go_at_call 67
            refine (fenced_any A6 A7 (gett p.ts k) (atsS zs (k : Int) n) c6 c7 (Old w6.heap.size) w6 h24k (fun _ h => h) I6.out hat6.out (by have := atsS_len zs (k : Int) n; omega) (hup.out k) (hjm.out k hkl)).mono ?_
            rintro e w7 ⟨A8, c8, rfl, hown7, hb7⟩
            have hb57 := hide (hb56.out.trans (hb7.mono hb56.out.size))
            have L7 := hide (show LAt w0 T p.init v (fenTs p zs n k) vs tv (fenI (atsS zs (k : Int) n) (gett p.ts k) (gett p.ts k).length) (.slice A8 (fenI (atsS zs (k : Int) n) (gett p.ts k) (gett p.ts k).length).length c8) w7 from ⟨C6.out.next hb7, own_base hown7 (by have := C6.out.below.size; have := C6.out.lo; have := C6.out.blk.lt; omega), fun j hj => apart_new (C6.out.own.thr j hj) hown7 (Nat.le_refl _)⟩)
            have L8 := hide (L7.out.alloc (Obj.cells #[(.slice A8 (fenI (atsS zs (k : Int) n) (gett p.ts k) (gett p.ts k).length).length c8)] 99))
            have Y7 := hide (Y5.out.below hb57.out Y5.out.lt)
            have Y8 := hide (Y7.out.alloc (Obj.cells #[(.slice A8 (fenI (atsS zs (k : Int) n) (gett p.ts k) (gett p.ts k).length).length c8)] 99))
            have hb58 := hide (hb57.out.alloc hb57.out.size (Obj.cells #[(.slice A8 (fenI (atsS zs (k : Int) n) (gett p.ts k) (gett p.ts k).length).length c8)] 99))
            have t7 : w7.cell? ⟨T, 1, none⟩ = some tv := L7.out.cr.blk.cell 1
            have t8 : (w7.alloc (Obj.cells #[(.slice A8 (fenI (atsS zs (k : Int) n) (gett p.ts k) (gett p.ts k).length).length c8)] 99)).cell? ⟨T, 1, none⟩ = some tv := L8.out.cr.blk.cell 1
            clear hown7 hb7
            refine hK.out _ _ ?_ (fun hHeldN => ?_)
            · exact hC.out _ hb57.out
            clear hK K hHeld
            have hHeld := hHeldN
            clear hHeldN
            try simp only [Act.put, qa, qb, qc]
            refine wpAnyH_ready (rs := [7]) (by kernel_rfl) (by simp) ?_
            refine AllReadyH.cons (o := { dst := some 38, op := Op.buildSlice 29 1 #[(0, Operand.tmp 37)], type := 29, pos := "l07_fence.go:69", after := #[{ on := 6, ground := Ground.data }], guard := none }) rfl (fun K hK => ?_) (AllReadyH.nil)
            · go_simp
              refine hK.out _ _ ?_ (fun hHeldN => ?_)
              · exact hC.out _ hb58.out
              clear hK K hHeld
              have hHeld := hHeldN
              clear hHeldN
              try simp only [Act.put, qa, qb, qc]
              refine wpAnyH_ready (rs := [8]) (by kernel_rfl) (by simp) ?_
              refine AllReadyH.cons (o := { dst := some 39, op := Op.call { callee := Callee.builtin Builtin.append, args := #[Operand.tmp 32, Operand.tmp 38], argTypes := #[29, 29] }, type := 29, pos := "l07_fence.go:69", after := #[{ on := 1, ground := Ground.data }, { on := 7, ground := Ground.data }, { on := 6, ground := Ground.chain }], guard := none }) rfl (fun K hK => ?_) (AllReadyH.nil)
              · rw [if_pos (by rfl)]
                refine wp_append_lies _ _ _ _ (by rfl) (w0.heap.size + 1) 99 i2 _ 1 24 Try.underlying29 hi2.out hx0 hx1 hx2 rfl (by omega) tv (fenTs p zs n k).length vs (by rfl) L8.out.cr.own.rows ⟨w7.heap.size, 0, none⟩ 1 1 [(.slice A8 (fenI (atsS zs (k : Int) n) (gett p.ts k) (gett p.ts k).length).length c8)] (by rfl) (by rfl) (World.news_of_block (cs := #[(.slice A8 (fenI (atsS zs (k : Int) n) (gett p.ts k) (gett p.ts k).length).length c8)]) (heap_alloc_new _ _)) (by simp [Value.oneCell']) (by omega) (by rw [fenTs_len]; have : maxLen = 9223372036854775807 := rfl; omega) (by rw [fenTs_len]; omega) (by have := L8.out.cr.below.size; have := L8.out.cr.lo; have := L8.out.cr.blk.lt; omega) _ rfl ?_
                intro gg cap w9 hown9 hgr9 hat9 hlt9
                obtain ⟨⟨⟨s0, s1⟩, s2, s3⟩, hC9⟩ := L8.out.growRows rfl hown9 hgr9
                have Y9 := hide (show Blk w9 Y 99 #[.slice A6 (gett p.ts k).length c6] from (hgr9.block Y Y8.out.lt (fun e => by have := hYtv.out Y e.symm; omega)).trans Y8.out)
                have hTY : T ≠ Y := by have := C5.out.blk.lt; have := hTw.out; omega
                have C9 := hide hC9
                have lT9 : T < w9.heap.size := by have := C9.out.blk.lt; simpa using this
                clear hown9 hgr9 hat9 hC9
                refine hK.out _ _ ?_ (fun hHeldN => ?_)
                · exact Y9.out.cell 0
                clear hK K hHeld
                have hHeld := hHeldN
                clear hHeldN
                try simp only [Act.put, qa, qb, qc]
                refine wpAnyH_take (i := 9) (oi := { dst := some 40, op := Op.fieldAddr 31 (Operand.tmp 6) 1, type := 0, pos := "l07_fence.go:69", after := #[{ on := 0, ground := Ground.phase }, { on := 1, ground := Ground.phase }, { on := 2, ground := Ground.phase }, { on := 3, ground := Ground.phase }, { on := 4, ground := Ground.phase }, { on := 5, ground := Ground.phase }, { on := 6, ground := Ground.phase }, { on := 7, ground := Ground.phase }, { on := 8, ground := Ground.phase }], guard := none }) (v := ?_) rfl (by kernel_rfl) (by kernel_rfl) (by kernel_rfl) (fun _ _ _ h => h) (Or.inl ⟨by rfl, ?_⟩) hHeld ?_
                rotate_left
                · (intro wq hSw; (try dsimp only at hSw); first | (go_simp; done) | (go_simp; with_reducible rfl))
                try simp only [Act.put, qa, qb, qc]
                refine wpAnyH_ready (rs := [10]) (by kernel_rfl) (by simp) ?_
                refine AllReadyH.cons (o := { dst := none, op := Op.store 29 (Operand.tmp 40) (Operand.tmp 39), type := 0, pos := "l07_fence.go:69", after := #[{ on := 9, ground := Ground.data }, { on := 8, ground := Ground.data }, { on := 8, ground := Ground.chain }, { on := 0, ground := Ground.phase }, { on := 1, ground := Ground.phase }, { on := 2, ground := Ground.phase }, { on := 3, ground := Ground.phase }, { on := 4, ground := Ground.phase }, { on := 5, ground := Ground.phase }, { on := 6, ground := Ground.phase }, { on := 7, ground := Ground.phase }, { on := 8, ground := Ground.phase }], guard := none }) rfl (fun K hK => ?_) (AllReadyH.nil)
                · go_simp
                  refine hK.out _ _ ?_ (fun hHeldN => ?_)
                  · exact (Y9.out.far (p := ⟨T, 1, none⟩) (fun e => hTY e.symm) _).cell 0
                  clear hK K hHeld
                  have hHeld := hHeldN
                  clear hHeldN
                  try simp only [Act.put, qa, qb, qc]
                  refine wpAnyH_done (by kernel_rfl) ?_ _
                  go_wp2_with fail
                  go_roundw
                  case rel => exact ⟨k + 1, _, _, by omega, by go_num, hide (by rw [fenTs_succ]; exact C9.out)⟩
                  case measure => simp [intOf]; omega
        · go_simp
          go_at_call 67
          refine (fenced_any A6 A7 (gett p.ts k) (atsS zs (k : Int) n) c6 c7 (Old w6.heap.size) w6 h24k (fun _ h => h) I6.out hat6.out (by have := atsS_len zs (k : Int) n; omega) (hup.out k) (hjm.out k hkl)).mono ?_
          rintro e w7 ⟨A8, c8, rfl, hown7, hb7⟩
          have hb57 := hide (hb56.out.trans (hb7.mono hb56.out.size))
          have L7 := hide (show LAt w0 T p.init v (fenTs p zs n k) vs tv (fenI (atsS zs (k : Int) n) (gett p.ts k) (gett p.ts k).length) (.slice A8 (fenI (atsS zs (k : Int) n) (gett p.ts k) (gett p.ts k).length).length c8) w7 from ⟨C6.out.next hb7, own_base hown7 (by have := C6.out.below.size; have := C6.out.lo; have := C6.out.blk.lt; omega), fun j hj => apart_new (C6.out.own.thr j hj) hown7 (Nat.le_refl _)⟩)
          have L8 := hide (L7.out.alloc (Obj.cells #[(.slice A8 (fenI (atsS zs (k : Int) n) (gett p.ts k) (gett p.ts k).length).length c8)] 99))
          have Y7 := hide (Y5.out.below hb57.out Y5.out.lt)
          have Y8 := hide (Y7.out.alloc (Obj.cells #[(.slice A8 (fenI (atsS zs (k : Int) n) (gett p.ts k) (gett p.ts k).length).length c8)] 99))
          have hb58 := hide (hb57.out.alloc hb57.out.size (Obj.cells #[(.slice A8 (fenI (atsS zs (k : Int) n) (gett p.ts k) (gett p.ts k).length).length c8)] 99))
          have t7 : w7.cell? ⟨T, 1, none⟩ = some tv := L7.out.cr.blk.cell 1
          have t8 : (w7.alloc (Obj.cells #[(.slice A8 (fenI (atsS zs (k : Int) n) (gett p.ts k) (gett p.ts k).length).length c8)] 99)).cell? ⟨T, 1, none⟩ = some tv := L8.out.cr.blk.cell 1
          clear hown7 hb7
          refine hK.out _ _ ?_ (fun hHeldN => ?_)
          · exact hC.out _ hb57.out
          clear hK K hHeld
          have hHeld := hHeldN
          clear hHeldN
          try simp only [Act.put, qa, qb, qc]
          refine wpAnyH_ready (rs := [1, 7]) (by kernel_rfl) (by simp) ?_
          refine AllReadyH.cons (o := { dst := some 32, op := Op.load 29 (Operand.tmp 31), type := 29, pos := "l07_fence.go:69", after := #[{ on := 0, ground := Ground.data }], guard := none }) rfl (fun K hK => ?_) (AllReadyH.cons (o := { dst := some 38, op := Op.buildSlice 29 1 #[(0, Operand.tmp 37)], type := 29, pos := "l07_fence.go:69", after := #[{ on := 6, ground := Ground.data }], guard := none }) rfl (fun K hK => ?_) (AllReadyH.nil))
          · go_simp
            refine hK.out _ _ ?_ (fun hHeldN => ?_)
            · exact hHeld
            clear hK K hHeld
            have hHeld := hHeldN
            clear hHeldN
            try simp only [Act.put, qa, qb, qc]
            refine wpAnyH_ready (rs := [7]) (by kernel_rfl) (by simp) ?_
            refine AllReadyH.cons (o := { dst := some 38, op := Op.buildSlice 29 1 #[(0, Operand.tmp 37)], type := 29, pos := "l07_fence.go:69", after := #[{ on := 6, ground := Ground.data }], guard := none }) rfl (fun K hK => ?_) (AllReadyH.nil)
            · go_simp
              refine hK.out _ _ ?_ (fun hHeldN => ?_)
              · exact hC.out _ hb58.out
              clear hK K hHeld
              have hHeld := hHeldN
              clear hHeldN
              try simp only [Act.put, qa, qb, qc]
              refine wpAnyH_ready (rs := [8]) (by kernel_rfl) (by simp) ?_
              refine AllReadyH.cons (o := { dst := some 39, op := Op.call { callee := Callee.builtin Builtin.append, args := #[Operand.tmp 32, Operand.tmp 38], argTypes := #[29, 29] }, type := 29, pos := "l07_fence.go:69", after := #[{ on := 1, ground := Ground.data }, { on := 7, ground := Ground.data }, { on := 6, ground := Ground.chain }], guard := none }) rfl (fun K hK => ?_) (AllReadyH.nil)
              · rw [if_pos (by rfl)]
                refine wp_append_lies _ _ _ _ (by rfl) (w0.heap.size + 1) 99 i2 _ 1 24 Try.underlying29 hi2.out hx0 hx1 hx2 rfl (by omega) tv (fenTs p zs n k).length vs (by rfl) L8.out.cr.own.rows ⟨w7.heap.size, 0, none⟩ 1 1 [(.slice A8 (fenI (atsS zs (k : Int) n) (gett p.ts k) (gett p.ts k).length).length c8)] (by rfl) (by rfl) (World.news_of_block (cs := #[(.slice A8 (fenI (atsS zs (k : Int) n) (gett p.ts k) (gett p.ts k).length).length c8)]) (heap_alloc_new _ _)) (by simp [Value.oneCell']) (by omega) (by rw [fenTs_len]; have : maxLen = 9223372036854775807 := rfl; omega) (by rw [fenTs_len]; omega) (by have := L8.out.cr.below.size; have := L8.out.cr.lo; have := L8.out.cr.blk.lt; omega) _ rfl ?_
                intro gg cap w9 hown9 hgr9 hat9 hlt9
                obtain ⟨⟨⟨s0, s1⟩, s2, s3⟩, hC9⟩ := L8.out.growRows rfl hown9 hgr9
                have Y9 := hide (show Blk w9 Y 99 #[.slice A6 (gett p.ts k).length c6] from (hgr9.block Y Y8.out.lt (fun e => by have := hYtv.out Y e.symm; omega)).trans Y8.out)
                have hTY : T ≠ Y := by have := C5.out.blk.lt; have := hTw.out; omega
                have C9 := hide hC9
                have lT9 : T < w9.heap.size := by have := C9.out.blk.lt; simpa using this
                clear hown9 hgr9 hat9 hC9
                refine hK.out _ _ ?_ (fun hHeldN => ?_)
                · exact Y9.out.cell 0
                clear hK K hHeld
                have hHeld := hHeldN
                clear hHeldN
                try simp only [Act.put, qa, qb, qc]
                refine wpAnyH_take (i := 9) (oi := { dst := some 40, op := Op.fieldAddr 31 (Operand.tmp 6) 1, type := 0, pos := "l07_fence.go:69", after := #[{ on := 0, ground := Ground.phase }, { on := 1, ground := Ground.phase }, { on := 2, ground := Ground.phase }, { on := 3, ground := Ground.phase }, { on := 4, ground := Ground.phase }, { on := 5, ground := Ground.phase }, { on := 6, ground := Ground.phase }, { on := 7, ground := Ground.phase }, { on := 8, ground := Ground.phase }], guard := none }) (v := ?_) rfl (by kernel_rfl) (by kernel_rfl) (by kernel_rfl) (fun _ _ _ h => h) (Or.inl ⟨by rfl, ?_⟩) hHeld ?_
                rotate_left
                · (intro wq hSw; (try dsimp only at hSw); first | (go_simp; done) | (go_simp; with_reducible rfl))
                try simp only [Act.put, qa, qb, qc]
                refine wpAnyH_ready (rs := [10]) (by kernel_rfl) (by simp) ?_
                refine AllReadyH.cons (o := { dst := none, op := Op.store 29 (Operand.tmp 40) (Operand.tmp 39), type := 0, pos := "l07_fence.go:69", after := #[{ on := 9, ground := Ground.data }, { on := 8, ground := Ground.data }, { on := 8, ground := Ground.chain }, { on := 0, ground := Ground.phase }, { on := 1, ground := Ground.phase }, { on := 2, ground := Ground.phase }, { on := 3, ground := Ground.phase }, { on := 4, ground := Ground.phase }, { on := 5, ground := Ground.phase }, { on := 6, ground := Ground.phase }, { on := 7, ground := Ground.phase }, { on := 8, ground := Ground.phase }], guard := none }) rfl (fun K hK => ?_) (AllReadyH.nil)
                · go_simp
                  refine hK.out _ _ ?_ (fun hHeldN => ?_)
                  · exact (Y9.out.far (p := ⟨T, 1, none⟩) (fun e => hTY e.symm) _).cell 0
                  clear hK K hHeld
                  have hHeld := hHeldN
                  clear hHeldN
                  try simp only [Act.put, qa, qb, qc]
                  refine wpAnyH_done (by kernel_rfl) ?_ _
                  go_wp2_with fail
                  go_roundw
                  case rel => exact ⟨k + 1, _, _, by omega, by go_num, hide (by rw [fenTs_succ]; exact C9.out)⟩
                  case measure => simp [intOf]; omega
          · go_simp
            refine hK.out _ _ ?_ (fun hHeldN => ?_)
            · exact hC.out _ hb58.out
            clear hK K hHeld
            have hHeld := hHeldN
            clear hHeldN
            try simp only [Act.put, qa, qb, qc]
            refine wpAnyH_ready (rs := [1]) (by kernel_rfl) (by simp) ?_
            refine AllReadyH.cons (o := { dst := some 32, op := Op.load 29 (Operand.tmp 31), type := 29, pos := "l07_fence.go:69", after := #[{ on := 0, ground := Ground.data }], guard := none }) rfl (fun K hK => ?_) (AllReadyH.nil)
            · go_simp
              refine hK.out _ _ ?_ (fun hHeldN => ?_)
              · exact hHeld
              clear hK K hHeld
              have hHeld := hHeldN
              clear hHeldN
              try simp only [Act.put, qa, qb, qc]
              refine wpAnyH_ready (rs := [8]) (by kernel_rfl) (by simp) ?_
              refine AllReadyH.cons (o := { dst := some 39, op := Op.call { callee := Callee.builtin Builtin.append, args := #[Operand.tmp 32, Operand.tmp 38], argTypes := #[29, 29] }, type := 29, pos := "l07_fence.go:69", after := #[{ on := 1, ground := Ground.data }, { on := 7, ground := Ground.data }, { on := 6, ground := Ground.chain }], guard := none }) rfl (fun K hK => ?_) (AllReadyH.nil)
              · rw [if_pos (by rfl)]
                refine wp_append_lies _ _ _ _ (by rfl) (w0.heap.size + 1) 99 i2 _ 1 24 Try.underlying29 hi2.out hx0 hx1 hx2 rfl (by omega) tv (fenTs p zs n k).length vs (by rfl) L8.out.cr.own.rows ⟨w7.heap.size, 0, none⟩ 1 1 [(.slice A8 (fenI (atsS zs (k : Int) n) (gett p.ts k) (gett p.ts k).length).length c8)] (by rfl) (by rfl) (World.news_of_block (cs := #[(.slice A8 (fenI (atsS zs (k : Int) n) (gett p.ts k) (gett p.ts k).length).length c8)]) (heap_alloc_new _ _)) (by simp [Value.oneCell']) (by omega) (by rw [fenTs_len]; have : maxLen = 9223372036854775807 := rfl; omega) (by rw [fenTs_len]; omega) (by have := L8.out.cr.below.size; have := L8.out.cr.lo; have := L8.out.cr.blk.lt; omega) _ rfl ?_
                intro gg cap w9 hown9 hgr9 hat9 hlt9
                obtain ⟨⟨⟨s0, s1⟩, s2, s3⟩, hC9⟩ := L8.out.growRows rfl hown9 hgr9
                have Y9 := hide (show Blk w9 Y 99 #[.slice A6 (gett p.ts k).length c6] from (hgr9.block Y Y8.out.lt (fun e => by have := hYtv.out Y e.symm; omega)).trans Y8.out)
                have hTY : T ≠ Y := by have := C5.out.blk.lt; have := hTw.out; omega
                have C9 := hide hC9
                have lT9 : T < w9.heap.size := by have := C9.out.blk.lt; simpa using this
                clear hown9 hgr9 hat9 hC9
                refine hK.out _ _ ?_ (fun hHeldN => ?_)
                · exact Y9.out.cell 0
                clear hK K hHeld
                have hHeld := hHeldN
                clear hHeldN
                try simp only [Act.put, qa, qb, qc]
                refine wpAnyH_take (i := 9) (oi := { dst := some 40, op := Op.fieldAddr 31 (Operand.tmp 6) 1, type := 0, pos := "l07_fence.go:69", after := #[{ on := 0, ground := Ground.phase }, { on := 1, ground := Ground.phase }, { on := 2, ground := Ground.phase }, { on := 3, ground := Ground.phase }, { on := 4, ground := Ground.phase }, { on := 5, ground := Ground.phase }, { on := 6, ground := Ground.phase }, { on := 7, ground := Ground.phase }, { on := 8, ground := Ground.phase }], guard := none }) (v := ?_) rfl (by kernel_rfl) (by kernel_rfl) (by kernel_rfl) (fun _ _ _ h => h) (Or.inl ⟨by rfl, ?_⟩) hHeld ?_
                rotate_left
                · (intro wq hSw; (try dsimp only at hSw); first | (go_simp; done) | (go_simp; with_reducible rfl))
                try simp only [Act.put, qa, qb, qc]
                refine wpAnyH_ready (rs := [10]) (by kernel_rfl) (by simp) ?_
                refine AllReadyH.cons (o := { dst := none, op := Op.store 29 (Operand.tmp 40) (Operand.tmp 39), type := 0, pos := "l07_fence.go:69", after := #[{ on := 9, ground := Ground.data }, { on := 8, ground := Ground.data }, { on := 8, ground := Ground.chain }, { on := 0, ground := Ground.phase }, { on := 1, ground := Ground.phase }, { on := 2, ground := Ground.phase }, { on := 3, ground := Ground.phase }, { on := 4, ground := Ground.phase }, { on := 5, ground := Ground.phase }, { on := 6, ground := Ground.phase }, { on := 7, ground := Ground.phase }, { on := 8, ground := Ground.phase }], guard := none }) rfl (fun K hK => ?_) (AllReadyH.nil)
                · go_simp
                  refine hK.out _ _ ?_ (fun hHeldN => ?_)
                  · exact (Y9.out.far (p := ⟨T, 1, none⟩) (fun e => hTY e.symm) _).cell 0
                  clear hK K hHeld
                  have hHeld := hHeldN
                  clear hHeldN
                  try simp only [Act.put, qa, qb, qc]
                  refine wpAnyH_done (by kernel_rfl) ?_ _
                  go_wp2_with fail
                  go_roundw
                  case rel => exact ⟨k + 1, _, _, by omega, by go_num, hide (by rw [fenTs_succ]; exact C9.out)⟩
                  case measure => simp [intOf]; omega
    · obtain rfl : k = p.ts.length := by omega
      subst hv
      have hlt' : decide ((p.ts.length : Int) < (p.ts.length : Int)) = false := decide_eq_false (by omega)
      obtain ⟨A9, c9, rfl, -⟩ := own_form C0.out.own.rows
      obtain ⟨t0, t1⟩ := (show wr.cell? ⟨T, 0, none⟩ = some (.slice A3 p.init.length c3) ∧ wr.cell? ⟨T, 1, none⟩ = some (.slice A9 (fenTs p zs n p.ts.length).length c9) from ⟨C0.out.blk.cell 0, C0.out.blk.cell 1⟩)
      have kP := progOk_any (.agg #[.slice A3 p.init.length c3, .slice A9 (fenTs p zs n p.ts.length).length c9]) (fenP p zs n) _ wr (fun b h => h.2) C0.out.own.at_
      rw [hbq.out] at kP
      have lT := C0.out.blk.lt
      have hTR := hide (show w.heap.size + 1 ≠ T from by have := C0.out.lo; omega)
      go_wp2_with fail
      refine kP.mono ?_
      rintro e w6 ⟨rfl, hb6⟩
      have C6 := hide (C0.out.next hb6)
      obtain ⟨u, u', hR⟩ := C6.out.out
      rw [hw0s] at hR
      obtain ⟨r0, r1⟩ := (show w6.cell? ⟨w.heap.size + 1, 0, none⟩ = some u ∧ w6.cell? ⟨w.heap.size + 1, 1, none⟩ = some u' from ⟨hR.cell 0, hR.cell 1⟩)
      obtain ⟨r2, r3⟩ := (show w6.frozen? ⟨w.heap.size + 1, 0, none⟩ = false ∧ w6.frozen? ⟨w.heap.size + 1, 1, none⟩ = false from ⟨hR.frozen 0, hR.frozen 1⟩)
      have lR := hR.lt
      have BW := hide (hbw.out.trans (C6.out.below.mono hbw.out.size))
      clear hR t0 t1 lT kP hb6 C0
      cases bq
      · go_wp2_with fail
        refine bodyPost_ret (v := .tuple #[.agg #[.slice none 0 0, .slice none 0 0], .bool false]) (by simp [results, Try.results18, go_sem, r0, r1]; done) rfl ?_
        rw [hqq.out]
        exact FenR.no ((BW.out.setCell (p := ⟨w.heap.size + 1, 0, none⟩) (by show w.heap.size ≤ w.heap.size + 1; omega) _).setCell (p := ⟨w.heap.size + 1, 1, none⟩) (by show w.heap.size ≤ w.heap.size + 1; omega) _)
      · obtain ⟨t0, t1⟩ := (show w6.cell? ⟨T, 0, none⟩ = some (.slice A3 p.init.length c3) ∧ w6.cell? ⟨T, 1, none⟩ = some (.slice A9 (fenTs p zs n p.ts.length).length c9) from ⟨C6.out.blk.cell 0, C6.out.blk.cell 1⟩)
        have lT := C6.out.blk.lt
        go_wp2_with fail
        refine bodyPost_ret (v := .tuple #[.agg #[.slice A3 p.init.length c3, .slice A9 (fenTs p zs n p.ts.length).length c9], .bool true]) (by simp [results, Try.results18, go_sem, r0, r1]; done) rfl ?_
        rw [hqq.out]
        refine ⟨_, _, vs, rfl, ?_, (BW.out.setCell (p := ⟨w.heap.size + 1, 0, none⟩) (by show w.heap.size ≤ w.heap.size + 1; omega) _).setCell (p := ⟨w.heap.size + 1, 1, none⟩) (by show w.heap.size ≤ w.heap.size + 1; omega) _⟩
        have h1 := C6.out.own.keep (w1 := (w6.setCell ⟨w.heap.size + 1, 0, none⟩ (.slice A3 p.init.length c3)).setCell ⟨w.heap.size + 1, 1, none⟩ (.slice A9 (fenTs p zs n p.ts.length).length c9)) (fun b hb _ => (Below.heap_setCell _ _ _ b (by show b ≠ w.heap.size + 1; omega)).trans (Below.heap_setCell _ _ _ b (by show b ≠ w.heap.size + 1; omega)))
        exact ⟨own_base h1.ints (by omega), own_base h1.rows (by omega), fun j hj => own_base (h1.thr j hj) (by omega), h1.apart⟩
theorem fencedP_any (p : ProgD) (A1 A2 A : Option Addr) (c1 c2 n c : Nat) (zs : List Int) (S : Nat → Prop) (w : World) (hz : zs.length = n * 2) (hn : n ≤ 1048576) (hS : ∀ b, S b → b < w.heap.size) (hcc : p.init.length ≤ c1 ∧ p.ts.length ≤ c2) (hi : IntsAt w S A1 p.init) (ht : ThreadsAt w S A2 p.ts) (ha : IntsAt w S A zs) :
    Calls Try.prog 18 #[.agg #[.slice A1 p.init.length c1, .slice A2 p.ts.length c2], .slice A n c] w fun e w' => FenR w w' e (fncP p zs n) (fncB p zs n) := by
  cases h : (progB p && spotsB p.ts zs n)
  · have e1 : fncB p zs n = false := by unfold fncB; rw [h]; rfl
    have e2 : fncP p zs n = ⟨[], []⟩ := by unfold fncP; rw [e1]; rfl
    rw [e1, e2]
    exact fencedP_no p A1 A2 A c1 c2 n c zs S w hz hn hS hcc hi ht ha h
  · have e1 : fncB p zs n = progB (fenP p zs n) := by unfold fncB; rw [h]; rfl
    have e2 : fncP p zs n = if progB (fenP p zs n) then fenP p zs n else ⟨[], []⟩ := by unfold fncP; rw [e1]
    simp only [Bool.and_eq_true] at h
    exact fencedP_yes p A1 A2 A c1 c2 n c zs S w hz hn hS hcc hi ht ha h.1 h.2 _ _ (hide e1.symm) (hide (by rw [e2, e1]))
end Go.Proofs.Ytfkaacfeikmabaa
