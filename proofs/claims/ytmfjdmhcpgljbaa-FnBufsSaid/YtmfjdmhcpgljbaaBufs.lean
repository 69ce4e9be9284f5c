/- laws.sameInts: of rows that hold the same it is true; laws.bufs: buffers are alive. -/
import Derived.Test.YtmfjdmhcpgljbaaEx
import Derived.Test.YtmfjdmhcpgljbaaBufPut
import Derived.Test.YtmfjdmhcpgljbaaBufRd
import Derived.Test.YtmfjdmhcpgljbaaBufAl
namespace Go.Proofs.Ytmfjdmhcpgljbaa
open Go.RowKit

set_option maxRecDepth 100000 in
set_option maxHeartbeats 800000 in
theorem sameInts_any (A A' : Option Addr) (zs : List Int) (n c c' : Nat) (S : Nat → Prop) (w : World) (hz : zs.length = n) (hS : ∀ b, S b → b < w.heap.size) (ha : IntsAt w S A zs) (ha' : IntsAt w S A' zs) :
    Calls Try.prog 29 #[.slice A n c, .slice A' n c'] w fun e w' => e = .returned (.bool true) ∧ Below w.heap.size w w' := by
  have hn := ha.1
  rw [hz] at hn
  replace hz := hide hz
  go_enter Try.func29, Try.ntmps29
  go_wp2
  go_loopw [5] (fun i wr => ∃ (k : Nat), k ≤ n ∧ i = .int .i64 k ∧ Below w.heap.size w wr) (fun i _ => n - (intOf i).toNat)
  case atStart => exact ⟨0, Nat.zero_le _, rfl, Below.refl _ _⟩
  case round =>
    obtain ⟨k, hk, rfl, hb⟩ := hrel
    by_cases hlt : k < n
    · obtain ⟨b, off, rfl, hbB, hc⟩ := (ha.below hb hS).2 (by rw [hz.out]; omega)
      obtain ⟨b', off', rfl, hbB', hc'⟩ := (ha'.below hb hS).2 (by rw [hz.out]; omega)
      have hcell := hc k (by rw [hz.out]; exact hlt)
      have hcell' := hc' k (by rw [hz.out]; exact hlt)
      have hx : ((k : Int) < (n : Int)) := by omega
      clear hc hc'
      go_wp2
      go_quiet (fail)
      go_wp2
      go_roundw
      case rel => exact ⟨k + 1, by omega, by go_num, below_drewN hb _⟩
      case measure => simp [intOf]; omega
    · obtain rfl : k = n := by omega
      go_wp2
      go_ret
      exact ⟨rfl, hb⟩
theorem sameIntsI {w : World} {lo hi lo' hi' n c c' : Nat} {A A' : Option Addr} {zs : List Int} (hz : zs.length = n) (hn : n ≤ 9223372036854775807) (h : RvI 3 w lo hi (.slice A n c) n zs) (k : RvI 3 w lo' hi' (.slice A' n c') n zs) :
    Calls Try.prog 29 #[.slice A n c, .slice A' n c'] w fun e w' => e = .returned (.bool true) ∧ Below w.heap.size w w' :=
  sameInts_any A A' zs n c c' _ w hz (fun _ h => h) (h.src (by omega) rfl) (k.src (by omega) rfl)
theorem lit_row (w : World) (x y : Int) : RvI 3 (w.alloc (Obj.cells #[Value.int .i64 x, Value.int .i64 y] 3)) w.heap.size (w.heap.size + 1) (.slice (some ⟨w.heap.size, 0, none⟩) 2 2) 2 [x, y] :=
  ⟨.inr ⟨_, _, rfl, ⟨_, Blk.new _ _ _, by simp, fun k hk => by
    match k, hk with
    | 0, _ => rfl
    | 1, _ => rfl⟩, Nat.le_refl _⟩, fun b hb => by simp [Value.ownBlock] at hb; omega⟩

theorem put1 (w : World) : Calls Try.prog 31 #[.agg #[.slice none 0 0], .int .i64 1, .int .i64 5] w fun e w' => PutR w w' e 1 [1, 5] true :=
  bufPut_yes none [] 0 0 1 5 w rfl (by omega) (IntsAt.nilrow rfl)
theorem flush1 (A D : Option Addr) (c d : Nat) (w : World) (hc : 1 ≤ c) (hS : IntsAt w (Old w.heap.size) A [1, 5]) (hM : IntsAt w (Old w.heap.size) D [7, 8]) :
    Calls Try.prog 27 #[.agg #[.slice A 1 c], .slice D 2 d] w fun e w' => FlushR w w' e 0 [] 2 [7, 5] true := by
  have h := bufFlush_yes A D [1, 5] [7, 8] 1 c 2 d w rfl (by omega) hc (by omega) rfl (by omega) (by decide) hS hM
  have e1 : ([7, 8] : List Int).set (geti [1, 5] 0).toNat (geti [1, 5] 1) = [7, 5] := by decide
  have e2 : ([1, 5] : List Int).drop 2 = [] := rfl
  rw [e1, e2] at h
  exact h
theorem all1 (A D : Option Addr) (c d : Nat) (w : World) (hS : IntsAt w (Old w.heap.size) A [1, 5]) (hM : IntsAt w (Old w.heap.size) D [7, 8]) :
    Calls Try.prog 26 #[.agg #[.slice A 1 c], .slice D 2 d] w fun e w' => RowR 3 w w' e 2 [7, 5] := by
  have h := bufAll_any A D [1, 5] [7, 8] 1 c 2 d w rfl (by omega) rfl (by omega) hS hM
  have e1 : allTo [1, 5] [7, 8] 1 = [7, 5] := by decide
  rw [e1] at h
  exact h
theorem read1 (A D : Option Addr) (c d : Nat) (w : World) (hS : IntsAt w (Old w.heap.size) A [1, 5]) (hM : IntsAt w (Old w.heap.size) D [7, 8]) :
    Calls Try.prog 24 #[.agg #[.slice A 1 c], .slice D 2 d, .int .i64 1] w fun e w' => e = .returned (.int .i64 5) ∧ Below w.heap.size w w' := by
  have h := bufRead_any A D [1, 5] [7, 8] 1 c 2 d 1 w rfl (by omega) rfl (by omega) hS hM
  have e1 : readTo [1, 5] [7, 8] 1 1 = 5 := by decide
  rw [e1] at h
  exact h
theorem read0 (A D : Option Addr) (c d : Nat) (w : World) (hS : IntsAt w (Old w.heap.size) A [1, 5]) (hM : IntsAt w (Old w.heap.size) D [7, 8]) :
    Calls Try.prog 24 #[.agg #[.slice A 1 c], .slice D 2 d, .int .i64 0] w fun e w' => e = .returned (.int .i64 7) ∧ Below w.heap.size w w' := by
  have h := bufRead_any A D [1, 5] [7, 8] 1 c 2 d 0 w rfl (by omega) rfl (by omega) hS hM
  have e1 : readTo [1, 5] [7, 8] 0 1 = 7 := by decide
  rw [e1] at h
  exact h

set_option maxRecDepth 100000 in
set_option maxHeartbeats 6400000 in
theorem bufs_any (w : World) : Calls Try.prog 28 #[] w fun e w' => e = .returned (.bool true) ∧ Below w.heap.size w w' := by
  have HB := hide (Below.refl w.heap.size w)
  go_enter Try.func28, Try.ntmps28
  go_wp2_with fail
  refine (put1 _).mono ?_
  rintro e w1 ⟨A1, c1, rfl, hcap, hr, hb⟩
  have hzw1 := hb.size
  have hBz := HB.out.size
  replace HB := hide (below_next HB.out hb hBz)
  clear hBz
  clear hb
  have R1 := hide (RvI.of hr)
  clear hr
  go_wp2_with fail
  obtain ⟨w2, hw2⟩ : ∃ wx, wx = w1.alloc (Obj.cells #[Value.slice A1 1 c1] 54) := ⟨_, rfl⟩
  have hb : Below w1.heap.size w1 w2 := by rw [hw2]; exact below1 _ _
  have hszw2 : w2.heap.size = w1.heap.size + 1 := by rw [hw2, World.size_alloc]
  have NB1 := hide (show Blk w2 (w1.heap.size) 54 #[Value.slice A1 1 c1] from by rw [hw2]; exact Blk.new _ _ _)
  have hBz := HB.out.size
  replace R1 := hide (R1.out.next hb)
  replace HB := hide (below_next HB.out hb hBz)
  clear hBz
  have B1 := hide NB1.out
  clear NB1
  clear hb
  obtain ⟨w3, hw3⟩ : ∃ wx, wx = w2.alloc (Obj.cells #[Value.int .i64 7, Value.int .i64 8] 3) := ⟨_, rfl⟩
  have hb : Below w2.heap.size w2 w3 := by rw [hw3]; exact below1 _ _
  have hszw3 : w3.heap.size = w1.heap.size + 1 + 1 := by rw [hw3, World.size_alloc]; omega
  have NL1 := hide (show RvI 3 w3 (w1.heap.size + 1) (w1.heap.size + 1 + 1) (.slice (some ⟨w1.heap.size + 1, 0, none⟩) 2 2) 2 [7, 8] from by rw [hw3]; rw [← hszw2]; exact lit_row _ _ _)
  have hBz := HB.out.size
  replace B1 := hide (B1.out.below hb B1.out.lt)
  replace R1 := hide (R1.out.next hb)
  replace HB := hide (below_next HB.out hb hBz)
  clear hBz
  have L1 := hide NL1.out
  clear NL1
  clear hb
  rw [← hw2]
  rw [← hw3]
  clear hw2
  clear hw3
  have hzw2 := Nat.le_of_eq hszw2.symm
  clear hszw2
  have hzw3 := Nat.le_of_eq hszw3.symm
  clear hszw3
  obtain ⟨⟨cB1, -⟩, lB1⟩ := box1 B1.out
  refine (flush1 _ _ _ _ _ hcap (R1.out.src (by simp) rfl) (L1.out.src (by simp) rfl)).mono ?_
  rintro e w4 ⟨A2, c2, A3, c3, rfl, -, hr, hr2, -, hb⟩
  clear cB1 lB1
  have hzw4 := hb.size
  have hBz := HB.out.size
  replace B1 := hide (B1.out.below hb B1.out.lt)
  replace R1 := hide (R1.out.next hb)
  replace L1 := hide (L1.out.next hb)
  replace HB := hide (below_next HB.out hb hBz)
  clear hBz
  clear hb
  have R2 := hide (RvI.of hr)
  have R3 := hide (RvI.of hr2)
  clear hr hr2
  clear L1
  obtain ⟨⟨cB1, -⟩, lB1⟩ := box1 B1.out
  go_wp2_with fail
  clear cB1 lB1
  obtain ⟨w5, hw5⟩ : ∃ wx, wx = w4.alloc (Obj.cells #[Value.slice A2 0 c2] 54) := ⟨_, rfl⟩
  have hb : Below w4.heap.size w4 w5 := by rw [hw5]; exact below1 _ _
  have hszw5 : w5.heap.size = w4.heap.size + 1 := by rw [hw5, World.size_alloc]
  have NB3 := hide (show Blk w5 (w4.heap.size) 54 #[Value.slice A2 0 c2] from by rw [hw5]; exact Blk.new _ _ _)
  have hBz := HB.out.size
  replace B1 := hide (B1.out.below hb B1.out.lt)
  replace R1 := hide (R1.out.next hb)
  replace R2 := hide (R2.out.next hb)
  replace R3 := hide (R3.out.next hb)
  replace HB := hide (below_next HB.out hb hBz)
  clear hBz
  have B3 := hide NB3.out
  clear NB3
  clear hb
  obtain ⟨w6, hw6⟩ : ∃ wx, wx = w5.alloc (Obj.cells #[Value.int .i64 7, Value.int .i64 8] 3) := ⟨_, rfl⟩
  have hb : Below w5.heap.size w5 w6 := by rw [hw6]; exact below1 _ _
  have hszw6 : w6.heap.size = w4.heap.size + 1 + 1 := by rw [hw6, World.size_alloc]; omega
  have NL2 := hide (show RvI 3 w6 (w4.heap.size + 1) (w4.heap.size + 1 + 1) (.slice (some ⟨w4.heap.size + 1, 0, none⟩) 2 2) 2 [7, 8] from by rw [hw6]; rw [← hszw5]; exact lit_row _ _ _)
  have hBz := HB.out.size
  replace B1 := hide (B1.out.below hb B1.out.lt)
  replace B3 := hide (B3.out.below hb B3.out.lt)
  replace R1 := hide (R1.out.next hb)
  replace R2 := hide (R2.out.next hb)
  replace R3 := hide (R3.out.next hb)
  replace HB := hide (below_next HB.out hb hBz)
  clear hBz
  have L2 := hide NL2.out
  clear NL2
  clear hb
  rw [← hw5]
  rw [← hw6]
  clear hw5
  clear hw6
  have hzw5 := Nat.le_of_eq hszw5.symm
  clear hszw5
  have hzw6 := Nat.le_of_eq hszw6.symm
  clear hszw6
  obtain ⟨⟨cB1, -⟩, lB1⟩ := box1 B1.out
  obtain ⟨⟨cB3, -⟩, lB3⟩ := box1 B3.out
  refine (read1 _ _ _ _ _ (R1.out.src (by simp) rfl) (L2.out.src (by simp) rfl)).mono ?_
  rintro e w7 ⟨rfl, hb⟩
  clear cB1 lB1 cB3 lB3
  have hzw7 := hb.size
  have hBz := HB.out.size
  replace B1 := hide (B1.out.below hb B1.out.lt)
  replace B3 := hide (B3.out.below hb B3.out.lt)
  replace R1 := hide (R1.out.next hb)
  replace R2 := hide (R2.out.next hb)
  replace R3 := hide (R3.out.next hb)
  replace L2 := hide (L2.out.next hb)
  replace HB := hide (below_next HB.out hb hBz)
  clear hBz
  clear hb
  clear L2
  obtain ⟨⟨cB1, -⟩, lB1⟩ := box1 B1.out
  obtain ⟨⟨cB3, -⟩, lB3⟩ := box1 B3.out
  go_wp2_with fail
  clear cB1 lB1 cB3 lB3
  obtain ⟨w8, hw8⟩ : ∃ wx, wx = w7.alloc (Obj.cells #[Value.int .i64 7, Value.int .i64 8] 3) := ⟨_, rfl⟩
  have hb : Below w7.heap.size w7 w8 := by rw [hw8]; exact below1 _ _
  have hszw8 : w8.heap.size = w7.heap.size + 1 := by rw [hw8, World.size_alloc]
  have NL3 := hide (show RvI 3 w8 (w7.heap.size) (w7.heap.size + 1) (.slice (some ⟨w7.heap.size, 0, none⟩) 2 2) 2 [7, 8] from by rw [hw8]; exact lit_row _ _ _)
  have hBz := HB.out.size
  replace B1 := hide (B1.out.below hb B1.out.lt)
  replace B3 := hide (B3.out.below hb B3.out.lt)
  replace R1 := hide (R1.out.next hb)
  replace R2 := hide (R2.out.next hb)
  replace R3 := hide (R3.out.next hb)
  replace HB := hide (below_next HB.out hb hBz)
  clear hBz
  have L3 := hide NL3.out
  clear NL3
  clear hb
  rw [← hw8]
  clear hw8
  have hzw8 := Nat.le_of_eq hszw8.symm
  clear hszw8
  obtain ⟨⟨cB1, -⟩, lB1⟩ := box1 B1.out
  obtain ⟨⟨cB3, -⟩, lB3⟩ := box1 B3.out
  refine (read0 _ _ _ _ _ (R1.out.src (by simp) rfl) (L3.out.src (by simp) rfl)).mono ?_
  rintro e w9 ⟨rfl, hb⟩
  clear cB1 lB1 cB3 lB3
  have hzw9 := hb.size
  have hBz := HB.out.size
  replace B1 := hide (B1.out.below hb B1.out.lt)
  replace B3 := hide (B3.out.below hb B3.out.lt)
  replace R1 := hide (R1.out.next hb)
  replace R2 := hide (R2.out.next hb)
  replace R3 := hide (R3.out.next hb)
  replace L3 := hide (L3.out.next hb)
  replace HB := hide (below_next HB.out hb hBz)
  clear hBz
  clear hb
  clear L3
  obtain ⟨⟨cB1, -⟩, lB1⟩ := box1 B1.out
  obtain ⟨⟨cB3, -⟩, lB3⟩ := box1 B3.out
  go_wp2_with fail
  clear cB1 lB1 cB3 lB3
  obtain ⟨w10, hw10⟩ : ∃ wx, wx = w9.alloc (Obj.cells #[Value.int .i64 7, Value.int .i64 5] 3) := ⟨_, rfl⟩
  have hb : Below w9.heap.size w9 w10 := by rw [hw10]; exact below1 _ _
  have hszw10 : w10.heap.size = w9.heap.size + 1 := by rw [hw10, World.size_alloc]
  have NL4 := hide (show RvI 3 w10 (w9.heap.size) (w9.heap.size + 1) (.slice (some ⟨w9.heap.size, 0, none⟩) 2 2) 2 [7, 5] from by rw [hw10]; exact lit_row _ _ _)
  have hBz := HB.out.size
  replace B1 := hide (B1.out.below hb B1.out.lt)
  replace B3 := hide (B3.out.below hb B3.out.lt)
  replace R1 := hide (R1.out.next hb)
  replace R2 := hide (R2.out.next hb)
  replace R3 := hide (R3.out.next hb)
  replace HB := hide (below_next HB.out hb hBz)
  clear hBz
  have L4 := hide NL4.out
  clear NL4
  clear hb
  rw [← hw10]
  clear hw10
  have hzw10 := Nat.le_of_eq hszw10.symm
  clear hszw10
  obtain ⟨⟨cB1, -⟩, lB1⟩ := box1 B1.out
  obtain ⟨⟨cB3, -⟩, lB3⟩ := box1 B3.out
  refine (sameIntsI (by rfl) (by omega) R3.out L4.out).mono ?_
  rintro e w11 ⟨rfl, hb⟩
  clear cB1 lB1 cB3 lB3
  have hzw11 := hb.size
  have hBz := HB.out.size
  replace B1 := hide (B1.out.below hb B1.out.lt)
  replace B3 := hide (B3.out.below hb B3.out.lt)
  replace R1 := hide (R1.out.next hb)
  replace R2 := hide (R2.out.next hb)
  replace R3 := hide (R3.out.next hb)
  replace L4 := hide (L4.out.next hb)
  replace HB := hide (below_next HB.out hb hBz)
  clear hBz
  clear hb
  clear L4
  obtain ⟨⟨cB1, -⟩, lB1⟩ := box1 B1.out
  obtain ⟨⟨cB3, -⟩, lB3⟩ := box1 B3.out
  go_wp2_with fail
  clear cB1 lB1 cB3 lB3
  obtain ⟨w12, hw12⟩ : ∃ wx, wx = w11.alloc (Obj.cells #[Value.int .i64 7, Value.int .i64 8] 3) := ⟨_, rfl⟩
  have hb : Below w11.heap.size w11 w12 := by rw [hw12]; exact below1 _ _
  have hszw12 : w12.heap.size = w11.heap.size + 1 := by rw [hw12, World.size_alloc]
  have NL5 := hide (show RvI 3 w12 (w11.heap.size) (w11.heap.size + 1) (.slice (some ⟨w11.heap.size, 0, none⟩) 2 2) 2 [7, 8] from by rw [hw12]; exact lit_row _ _ _)
  have hBz := HB.out.size
  replace B1 := hide (B1.out.below hb B1.out.lt)
  replace B3 := hide (B3.out.below hb B3.out.lt)
  replace R1 := hide (R1.out.next hb)
  replace R2 := hide (R2.out.next hb)
  replace R3 := hide (R3.out.next hb)
  replace HB := hide (below_next HB.out hb hBz)
  clear hBz
  have L5 := hide NL5.out
  clear NL5
  clear hb
  rw [← hw12]
  clear hw12
  have hzw12 := Nat.le_of_eq hszw12.symm
  clear hszw12
  obtain ⟨⟨cB1, -⟩, lB1⟩ := box1 B1.out
  obtain ⟨⟨cB3, -⟩, lB3⟩ := box1 B3.out
  refine (all1 _ _ _ _ _ (R1.out.src (by simp) rfl) (L5.out.src (by simp) rfl)).mono ?_
  rintro e w13 ⟨A6, c6, rfl, hr, hb⟩
  clear cB1 lB1 cB3 lB3
  have hzw13 := hb.size
  have hBz := HB.out.size
  replace B1 := hide (B1.out.below hb B1.out.lt)
  replace B3 := hide (B3.out.below hb B3.out.lt)
  replace R1 := hide (R1.out.next hb)
  replace R2 := hide (R2.out.next hb)
  replace R3 := hide (R3.out.next hb)
  replace L5 := hide (L5.out.next hb)
  replace HB := hide (below_next HB.out hb hBz)
  clear hBz
  clear hb
  have R6 := hide (RvI.of hr)
  clear hr
  clear L5
  obtain ⟨⟨cB1, -⟩, lB1⟩ := box1 B1.out
  obtain ⟨⟨cB3, -⟩, lB3⟩ := box1 B3.out
  go_wp2_with fail
  clear cB1 lB1 cB3 lB3
  obtain ⟨w14, hw14⟩ : ∃ wx, wx = w13.alloc (Obj.cells #[Value.int .i64 7, Value.int .i64 5] 3) := ⟨_, rfl⟩
  have hb : Below w13.heap.size w13 w14 := by rw [hw14]; exact below1 _ _
  have hszw14 : w14.heap.size = w13.heap.size + 1 := by rw [hw14, World.size_alloc]
  have NL6 := hide (show RvI 3 w14 (w13.heap.size) (w13.heap.size + 1) (.slice (some ⟨w13.heap.size, 0, none⟩) 2 2) 2 [7, 5] from by rw [hw14]; exact lit_row _ _ _)
  have hBz := HB.out.size
  replace B1 := hide (B1.out.below hb B1.out.lt)
  replace B3 := hide (B3.out.below hb B3.out.lt)
  replace R1 := hide (R1.out.next hb)
  replace R2 := hide (R2.out.next hb)
  replace R3 := hide (R3.out.next hb)
  replace R6 := hide (R6.out.next hb)
  replace HB := hide (below_next HB.out hb hBz)
  clear hBz
  have L6 := hide NL6.out
  clear NL6
  clear hb
  rw [← hw14]
  clear hw14
  have hzw14 := Nat.le_of_eq hszw14.symm
  clear hszw14
  obtain ⟨⟨cB1, -⟩, lB1⟩ := box1 B1.out
  obtain ⟨⟨cB3, -⟩, lB3⟩ := box1 B3.out
  refine (sameIntsI (by rfl) (by omega) R6.out L6.out).mono ?_
  rintro e w15 ⟨rfl, hb⟩
  clear cB1 lB1 cB3 lB3
  have hzw15 := hb.size
  have hBz := HB.out.size
  replace B1 := hide (B1.out.below hb B1.out.lt)
  replace B3 := hide (B3.out.below hb B3.out.lt)
  replace R1 := hide (R1.out.next hb)
  replace R2 := hide (R2.out.next hb)
  replace R3 := hide (R3.out.next hb)
  replace R6 := hide (R6.out.next hb)
  replace L6 := hide (L6.out.next hb)
  replace HB := hide (below_next HB.out hb hBz)
  clear hBz
  clear hb
  go_wp2_with fail
  go_ret
  exact ⟨rfl, HB.out⟩
end Go.Proofs.Ytmfjdmhcpgljbaa
