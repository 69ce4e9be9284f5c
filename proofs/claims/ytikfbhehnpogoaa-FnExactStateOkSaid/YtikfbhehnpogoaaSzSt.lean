/- laws' size of a row of files, of a row of buffers, of a state. -/
import Derived.Test.YtikfbhehnpogoaaHistS
namespace Go.Proofs.Ytikfbhehnpogoaa
open Go.RowKit

def getl (ls : List Nat) (k : Nat) : Nat := ls.getD k 0
/-- A row of slices in a block of S, of those lengths. -/
def HeadsAt (w : World) (S : Nat → Prop) (A : Option Addr) (ls : List Nat) : Prop :=
  ls.length ≤ 9223372036854775807 ∧ (0 < ls.length → ∃ b off, A = some ⟨b, off, none⟩ ∧ S b ∧ ∀ k, k < ls.length → ∃ A' c', w.cell? ⟨b, off + k, none⟩ = some (.slice A' (getl ls k) c') ∧ getl ls k ≤ 9223372036854775807)
theorem HeadsAt.below {w w' : World} {S : Nat → Prop} {B : Nat} {A : Option Addr} {ls : List Nat} (h : HeadsAt w S A ls) (hb : Below B w w') (hS : ∀ b, S b → b < B) : HeadsAt w' S A ls :=
  ⟨h.1, fun hn => by
    obtain ⟨b, off, e, hSb, hc⟩ := h.2 hn
    refine ⟨b, off, e, hSb, fun k hk => ?_⟩
    obtain ⟨A', c', h1, h2⟩ := hc k hk
    exact ⟨A', c', (hb.cell (p := ⟨b, off + k, none⟩) (hS b hSb)).trans h1, h2⟩⟩
theorem HeadsAt.more {w : World} {S S' : Nat → Prop} {A : Option Addr} {ls : List Nat} (h : HeadsAt w S A ls) (hS : ∀ b, S b → S' b) : HeadsAt w S' A ls :=
  ⟨h.1, fun hn => by
    obtain ⟨b, off, e, hSb, hc⟩ := h.2 hn
    exact ⟨b, off, e, hS b hSb, hc⟩⟩
def headSize (ls : List Nat) : Nat := ls.length + ls.sum

set_option maxHeartbeats 800000 in
theorem szFile_at (A : Option Addr) (n c : Nat) (left : Int) (w : World) (h0 : 0 ≤ left) (h1 : left ≤ 1048576) (hn : n ≤ 9223372036854775807) :
    Calls Try.prog 37 #[.agg #[.slice A n c], .int .i64 left] w fun e w' => e = .returned (.int .i64 (szR left n)) ∧ Below w.heap.size w w' := by
  have ks := fun w => szIntS_any A n c left w (by omega) (by omega) hn
  have hr : szR left n = -1 ∨ 0 ≤ szR left n := by unfold szR; split <;> omega
  generalize szR left n = s at *
  replace ks := hide ks
  rcases hr with rfl | hr
  · go_enter Try.func37, Try.ntmps37
    go_wp2_with fail
    refine (ks.out _).mono ?_
    rintro e w1 ⟨rfl, rfl⟩
    go_wp2_with fail
    go_ret
    exact ⟨rfl, below1 _ _⟩
  · go_enter Try.func37, Try.ntmps37
    go_wp2_with fail
    refine (ks.out _).mono ?_
    rintro e w1 ⟨rfl, rfl⟩
    go_wp2_with fail
    go_ret
    exact ⟨rfl, below1 _ _⟩

set_option maxHeartbeats 800000 in
theorem szWaitS_at (A : Option Addr) (n c : Nat) (left : Int) (w : World) (h0 : 0 ≤ left) (h1 : left ≤ 1048576) (hn : n ≤ 9223372036854775807) :
    Calls Try.prog 158 #[.slice A n c, .int .i64 left] w fun e w' => e = .returned (.int .i64 (szR left n)) ∧ w = w' := by
  have hw : wrap64 (left - n) = left - n := by unfold wrap64; omega
  by_cases hlt : left - n < 0
  · have HF := hide (szR_neg (left := left) (n := n) (by omega))
    go_enter Try.func158, Try.ntmps158
    go_wp2
    go_ret
    exact ⟨ret_int HF.out.symm, rfl⟩
  · have HF := hide (szR_pos (left := left) (n := n) (by omega))
    go_enter Try.func158, Try.ntmps158
    go_wp2
    go_ret
    exact ⟨ret_int HF.out.symm, rfl⟩

set_option maxHeartbeats 800000 in
theorem szBuf_at (A : Option Addr) (n c : Nat) (left : Int) (w : World) (h0 : 0 ≤ left) (h1 : left ≤ 1048576) (hn : n ≤ 9223372036854775807) :
    Calls Try.prog 135 #[.agg #[.slice A n c], .int .i64 left] w fun e w' => e = .returned (.int .i64 (szR left n)) ∧ Below w.heap.size w w' := by
  have ks := fun w => szWaitS_at A n c left w (by omega) (by omega) hn
  have hr : szR left n = -1 ∨ 0 ≤ szR left n := by unfold szR; split <;> omega
  generalize szR left n = s at *
  replace ks := hide ks
  rcases hr with rfl | hr
  · go_enter Try.func135, Try.ntmps135
    go_wp2_with fail
    refine (ks.out _).mono ?_
    rintro e w1 ⟨rfl, rfl⟩
    go_wp2_with fail
    go_ret
    exact ⟨rfl, below1 _ _⟩
  · go_enter Try.func135, Try.ntmps135
    go_wp2_with fail
    refine (ks.out _).mono ?_
    rintro e w1 ⟨rfl, rfl⟩
    go_wp2_with fail
    go_ret
    exact ⟨rfl, below1 _ _⟩

set_option maxHeartbeats 800000 in
theorem szFileS_any (A : Option Addr) (ls : List Nat) (c : Nat) (S : Nat → Prop) (left : Int) (w : World) (h0 : 0 ≤ left) (h1 : left ≤ 1048576) (hS : ∀ b, S b → b < w.heap.size) (ha : HeadsAt w S A ls) :
    Calls Try.prog 79 #[.slice A ls.length c, .int .i64 left] w fun e w' => e = .returned (.int .i64 (szR left (headSize ls))) ∧ Below w.heap.size w w' := by
  have hn := ha.1
  have Hle := hide (fun k => sumTo_le ls k)
  have Hsucc := hide (fun k (hk : k < ls.length) => sumTo_succ ls k hk)
  have Hall := hide (sumTo_all ls)
  have Hz := hide (sumTo_zero ls)
  have Hp := hide (show headSize ls = ls.length + ls.sum from rfl)
  by_cases h : left < ls.length
  · have HF := hide (szR_neg (left := left) (n := headSize ls) (by have := Hp.out; omega))
    go_enter Try.func79, Try.ntmps79
    go_wp2
    go_ret
    exact ⟨ret_int HF.out.symm, Below.refl _ _⟩
  · go_enter Try.func79, Try.ntmps79
    go_wp2
    go_loopw [1, 5] (fun q i wr => ∃ k : Nat, k ≤ ls.length ∧ (sumTo ls k : Int) ≤ left - ls.length ∧ i = .int .i64 k ∧ q = .int .i64 (left - ls.length - sumTo ls k) ∧ Below w.heap.size w wr) (fun _ i _ => ls.length - (intOf i).toNat)
    case atStart => exact ⟨0, Nat.zero_le _, by rw [Hz.out]; omega, rfl, by rw [Hz.out]; simp, Below.refl _ _⟩
    case round =>
      obtain ⟨k, hk, hl, rfl, rfl, hb⟩ := hrel
      by_cases hlt : k < ls.length
      · obtain ⟨b, off, rfl, hbB, hc⟩ := (ha.below hb hS).2 (by omega)
        obtain ⟨A', c', hcell, hcap⟩ := hc k hlt
        have hss := Hsucc.out k hlt
        change _ = _ + getl ls k at hss
        by_cases hx : left - ls.length - sumTo ls k < getl ls k
        · have HF := hide (szR_neg (left := left) (n := headSize ls) (by have := Hle.out (k + 1); have := Hp.out; omega))
          have kc := fun wX => szFile_at A' (getl ls k) c' (left - ls.length - sumTo ls k) wX (by omega) (by omega) hcap
          simp only [szR_neg hx] at kc
          have KC := hide kc
          clear kc hx hss
          go_wp2_with (go_at_call 37; refine (KC.out _).mono ?_; rintro e w1 ⟨rfl, hb1⟩)
          go_ret
          exact ⟨ret_int HF.out.symm, below_then hb hb1⟩
        · have kc := fun wX => szFile_at A' (getl ls k) c' (left - ls.length - sumTo ls k) wX (by omega) (by omega) hcap
          simp only [szR_pos hx] at kc
          have KC := hide kc
          have HX : 0 ≤ left - ls.length - sumTo ls k - getl ls k := by omega
          have HS := hide hss
          clear kc hx hss
          go_wp2_with (go_at_call 37; refine (KC.out _).mono ?_; rintro e w1 ⟨rfl, hb1⟩)
          go_roundw
          case rel => exact ⟨k + 1, by omega, by rw [HS.out]; omega, by go_num, by rw [HS.out]; go_num, below_then hb hb1⟩
          case measure => simp [intOf]; omega
      · obtain rfl : k = ls.length := by omega
        have HF := hide (show szR left (headSize ls) = left - ls.length - sumTo ls ls.length by rw [szR_pos (by have := Hall.out; have := Hp.out; omega)]; have := Hall.out; have := Hp.out; omega)
        go_wp2
        go_ret
        exact ⟨ret_int HF.out.symm, hb⟩

set_option maxHeartbeats 800000 in
theorem szBufS_any (A : Option Addr) (ls : List Nat) (c : Nat) (S : Nat → Prop) (left : Int) (w : World) (h0 : 0 ≤ left) (h1 : left ≤ 1048576) (hS : ∀ b, S b → b < w.heap.size) (ha : HeadsAt w S A ls) :
    Calls Try.prog 80 #[.slice A ls.length c, .int .i64 left] w fun e w' => e = .returned (.int .i64 (szR left (headSize ls))) ∧ Below w.heap.size w w' := by
  have hn := ha.1
  have Hle := hide (fun k => sumTo_le ls k)
  have Hsucc := hide (fun k (hk : k < ls.length) => sumTo_succ ls k hk)
  have Hall := hide (sumTo_all ls)
  have Hz := hide (sumTo_zero ls)
  have Hp := hide (show headSize ls = ls.length + ls.sum from rfl)
  by_cases h : left < ls.length
  · have HF := hide (szR_neg (left := left) (n := headSize ls) (by have := Hp.out; omega))
    go_enter Try.func80, Try.ntmps80
    go_wp2
    go_ret
    exact ⟨ret_int HF.out.symm, Below.refl _ _⟩
  · go_enter Try.func80, Try.ntmps80
    go_wp2
    go_loopw [1, 5] (fun q i wr => ∃ k : Nat, k ≤ ls.length ∧ (sumTo ls k : Int) ≤ left - ls.length ∧ i = .int .i64 k ∧ q = .int .i64 (left - ls.length - sumTo ls k) ∧ Below w.heap.size w wr) (fun _ i _ => ls.length - (intOf i).toNat)
    case atStart => exact ⟨0, Nat.zero_le _, by rw [Hz.out]; omega, rfl, by rw [Hz.out]; simp, Below.refl _ _⟩
    case round =>
      obtain ⟨k, hk, hl, rfl, rfl, hb⟩ := hrel
      by_cases hlt : k < ls.length
      · obtain ⟨b, off, rfl, hbB, hc⟩ := (ha.below hb hS).2 (by omega)
        obtain ⟨A', c', hcell, hcap⟩ := hc k hlt
        have hss := Hsucc.out k hlt
        change _ = _ + getl ls k at hss
        by_cases hx : left - ls.length - sumTo ls k < getl ls k
        · have HF := hide (szR_neg (left := left) (n := headSize ls) (by have := Hle.out (k + 1); have := Hp.out; omega))
          have kc := fun wX => szBuf_at A' (getl ls k) c' (left - ls.length - sumTo ls k) wX (by omega) (by omega) hcap
          simp only [szR_neg hx] at kc
          have KC := hide kc
          clear kc hx hss
          go_wp2_with (go_at_call 135; refine (KC.out _).mono ?_; rintro e w1 ⟨rfl, hb1⟩)
          go_ret
          exact ⟨ret_int HF.out.symm, below_then hb hb1⟩
        · have kc := fun wX => szBuf_at A' (getl ls k) c' (left - ls.length - sumTo ls k) wX (by omega) (by omega) hcap
          simp only [szR_pos hx] at kc
          have KC := hide kc
          have HX : 0 ≤ left - ls.length - sumTo ls k - getl ls k := by omega
          have HS := hide hss
          clear kc hx hss
          go_wp2_with (go_at_call 135; refine (KC.out _).mono ?_; rintro e w1 ⟨rfl, hb1⟩)
          go_roundw
          case rel => exact ⟨k + 1, by omega, by rw [HS.out]; omega, by go_num, by rw [HS.out]; go_num, below_then hb hb1⟩
          case measure => simp [intOf]; omega
      · obtain rfl : k = ls.length := by omega
        have HF := hide (show szR left (headSize ls) = left - ls.length - sumTo ls ls.length by rw [szR_pos (by have := Hall.out; have := Hp.out; omega)]; have := Hall.out; have := Hp.out; omega)
        go_wp2
        go_ret
        exact ⟨ret_int HF.out.symm, hb⟩

set_option maxRecDepth 100000 in
set_option maxHeartbeats 3200000 in
theorem szState_any (A1 A2 A3 A4 A5 A6 A7 : Option Addr) (c1 c2 c3 c4 c5 c6 c7 n1 n3 n7 : Nat) (l2 l4 l6 : List Nat) (hs : List (List PostD)) (kd nx left : Int) (w : World) (h0 : 0 ≤ left) (h1 : left ≤ 1048576) (N1 : n1 ≤ 9223372036854775807) (N3 : n3 ≤ 9223372036854775807) (N7 : n7 ≤ 9223372036854775807) (hF : HeadsAt w (Old w.heap.size) A2 l2) (hB : HeadsAt w (Old w.heap.size) A4 l4) (hH : HistsAt w (Old w.heap.size) A5 hs) (hV : HeadsAt w (Old w.heap.size) A6 l6) :
    Calls Try.prog 23 #[.agg #[.int .i64 kd, .slice A1 n1 c1, .slice A2 l2.length c2, .slice A3 n3 c3, .slice A4 l4.length c4, .slice A5 hs.length c5, .slice A6 l6.length c6, .slice A7 n7 c7, .int .i64 nx], .int .i64 left] w fun e w' => e = .returned (.int .i64 (szR left (n1 + (headSize l2) + n3 + (headSize l4) + (histSize hs) + (headSize l6) + n7))) ∧ Below w.heap.size w w' := by
  have hb0 := below1 w (Obj.cells #[.int .i64 kd, .slice A1 n1 c1, .slice A2 l2.length c2, .slice A3 n3 c3, .slice A4 l4.length c4, .slice A5 hs.length c5, .slice A6 l6.length c6, .slice A7 n7 c7, .int .i64 nx] 58)
  have X0 := hide (Blk.new w 58 #[.int .i64 kd, .slice A1 n1 c1, .slice A2 l2.length c2, .slice A3 n3 c3, .slice A4 l4.length c4, .slice A5 hs.length c5, .slice A6 l6.length c6, .slice A7 n7 c7, .int .i64 nx])
  have B0 := hide hb0
  have HF := hide hF
  have HB := hide hB
  have HH := hide hH
  have HV := hide hV
  have H00 := h0
  have H10 := h1
  clear hb0 hF hB hH hV
  go_enter Try.func23, Try.ntmps23
  go_wp2_with fail
  have kc := szIntS_any A1 n1 c1 left (w.alloc (Obj.cells #[.int .i64 kd, .slice A1 n1 c1, .slice A2 l2.length c2, .slice A3 n3 c3, .slice A4 l4.length c4, .slice A5 hs.length c5, .slice A6 l6.length c6, .slice A7 n7 c7, .int .i64 nx] 58)) H00 H10 N1
  by_cases x0 : left < (n1 : Nat)
  · rw [szR_neg x0] at kc
    refine kc.mono ?_
    rintro e w1 ⟨rfl, hb⟩
    have hf : szR left (n1 + (headSize l2) + n3 + (headSize l4) + (histSize hs) + (headSize l6) + n7) = -1 := szR_neg (by omega)
    have hf := hide hf
    have B1 : Hid (Below w.heap.size w w1) := hide (by subst hb; exact B0.out)
    clear hb kc x0
    go_wp2_with fail
    go_ret
    exact ⟨ret_int hf.out.symm, B1.out⟩
  rw [szR_pos x0] at kc
  refine kc.mono ?_
  rintro e w1 ⟨rfl, hb⟩
  have B1 : Hid (Below w.heap.size w w1) := hide (by subst hb; exact B0.out)
  have X1 : Hid (Blk w1 w.heap.size 58 #[.int .i64 kd, .slice A1 n1 c1, .slice A2 l2.length c2, .slice A3 n3 c3, .slice A4 l4.length c4, .slice A5 hs.length c5, .slice A6 l6.length c6, .slice A7 n7 c7, .int .i64 nx]) := hide (by subst hb; exact X0.out)
  have H01 : 0 ≤ left - (n1 : Nat) := by omega
  have H11 : left - (n1 : Nat) ≤ 1048576 := by omega
  obtain ⟨y1, Y1⟩ : ∃ y : Int, y = left - (n1 : Nat) := ⟨_, rfl⟩
  rw [← Y1] at H01 H11 ⊢
  have b1 := X1.out.cell 1
  have b2 := X1.out.cell 2
  have b3 := X1.out.cell 3
  have b4 := X1.out.cell 4
  have b5 := X1.out.cell 5
  have b6 := X1.out.cell 6
  have b7 := X1.out.cell 7
  clear hb kc
  have Z1 := hide Y1
  have V1 := hide x0
  clear Y1 x0
  go_wp2_with fail
  clear b1 b2 b3 b4 b5 b6 b7
  have kc := szFileS_any A2 l2 c2 (Old w.heap.size) y1 w1 H01 H11 (fun b h => Nat.lt_of_lt_of_le h B1.out.size) (HF.out.below B1.out (fun _ h => h))
  by_cases x1 : y1 < ((headSize l2) : Nat)
  · rw [szR_neg x1] at kc
    refine kc.mono ?_
    rintro e w2 ⟨rfl, hb⟩
    have hf : szR left (n1 + (headSize l2) + n3 + (headSize l4) + (histSize hs) + (headSize l6) + n7) = -1 := szR_neg (by have := Z1.out; have := V1.out; omega)
    have hf := hide hf
    have B2 : Hid (Below w.heap.size w w2) := hide (by exact below_then B1.out hb)
    clear hb kc x1
    go_wp2_with fail
    go_ret
    exact ⟨ret_int hf.out.symm, B2.out⟩
  rw [szR_pos x1] at kc
  refine kc.mono ?_
  rintro e w2 ⟨rfl, hb⟩
  have B2 : Hid (Below w.heap.size w w2) := hide (by exact below_then B1.out hb)
  have X2 : Hid (Blk w2 w.heap.size 58 #[.int .i64 kd, .slice A1 n1 c1, .slice A2 l2.length c2, .slice A3 n3 c3, .slice A4 l4.length c4, .slice A5 hs.length c5, .slice A6 l6.length c6, .slice A7 n7 c7, .int .i64 nx]) := hide (by exact X1.out.below hb X1.out.lt)
  have H02 : 0 ≤ y1 - ((headSize l2) : Nat) := by omega
  have H12 : y1 - ((headSize l2) : Nat) ≤ 1048576 := by omega
  obtain ⟨y2, Y2⟩ : ∃ y : Int, y = y1 - ((headSize l2) : Nat) := ⟨_, rfl⟩
  rw [← Y2] at H02 H12 ⊢
  have b1 := X2.out.cell 1
  have b2 := X2.out.cell 2
  have b3 := X2.out.cell 3
  have b4 := X2.out.cell 4
  have b5 := X2.out.cell 5
  have b6 := X2.out.cell 6
  have b7 := X2.out.cell 7
  clear hb kc
  have Z2 := hide Y2
  have V2 := hide x1
  clear Y2 x1
  go_wp2_with fail
  clear b1 b2 b3 b4 b5 b6 b7
  have kc := szIntS_any A3 n3 c3 y2 w2 H02 H12 N3
  by_cases x2 : y2 < (n3 : Nat)
  · rw [szR_neg x2] at kc
    refine kc.mono ?_
    rintro e w3 ⟨rfl, hb⟩
    have hf : szR left (n1 + (headSize l2) + n3 + (headSize l4) + (histSize hs) + (headSize l6) + n7) = -1 := szR_neg (by have := Z1.out; have := V1.out; have := Z2.out; have := V2.out; omega)
    have hf := hide hf
    have B3 : Hid (Below w.heap.size w w3) := hide (by subst hb; exact B2.out)
    clear hb kc x2
    go_wp2_with fail
    go_ret
    exact ⟨ret_int hf.out.symm, B3.out⟩
  rw [szR_pos x2] at kc
  refine kc.mono ?_
  rintro e w3 ⟨rfl, hb⟩
  have B3 : Hid (Below w.heap.size w w3) := hide (by subst hb; exact B2.out)
  have X3 : Hid (Blk w3 w.heap.size 58 #[.int .i64 kd, .slice A1 n1 c1, .slice A2 l2.length c2, .slice A3 n3 c3, .slice A4 l4.length c4, .slice A5 hs.length c5, .slice A6 l6.length c6, .slice A7 n7 c7, .int .i64 nx]) := hide (by subst hb; exact X2.out)
  have H03 : 0 ≤ y2 - (n3 : Nat) := by omega
  have H13 : y2 - (n3 : Nat) ≤ 1048576 := by omega
  obtain ⟨y3, Y3⟩ : ∃ y : Int, y = y2 - (n3 : Nat) := ⟨_, rfl⟩
  rw [← Y3] at H03 H13 ⊢
  have b1 := X3.out.cell 1
  have b2 := X3.out.cell 2
  have b3 := X3.out.cell 3
  have b4 := X3.out.cell 4
  have b5 := X3.out.cell 5
  have b6 := X3.out.cell 6
  have b7 := X3.out.cell 7
  clear hb kc
  have Z3 := hide Y3
  have V3 := hide x2
  clear Y3 x2
  go_wp2_with fail
  clear b1 b2 b3 b4 b5 b6 b7
  have kc := szBufS_any A4 l4 c4 (Old w.heap.size) y3 w3 H03 H13 (fun b h => Nat.lt_of_lt_of_le h B3.out.size) (HB.out.below B3.out (fun _ h => h))
  by_cases x3 : y3 < ((headSize l4) : Nat)
  · rw [szR_neg x3] at kc
    refine kc.mono ?_
    rintro e w4 ⟨rfl, hb⟩
    have hf : szR left (n1 + (headSize l2) + n3 + (headSize l4) + (histSize hs) + (headSize l6) + n7) = -1 := szR_neg (by have := Z1.out; have := V1.out; have := Z2.out; have := V2.out; have := Z3.out; have := V3.out; omega)
    have hf := hide hf
    have B4 : Hid (Below w.heap.size w w4) := hide (by exact below_then B3.out hb)
    clear hb kc x3
    go_wp2_with fail
    go_ret
    exact ⟨ret_int hf.out.symm, B4.out⟩
  rw [szR_pos x3] at kc
  refine kc.mono ?_
  rintro e w4 ⟨rfl, hb⟩
  have B4 : Hid (Below w.heap.size w w4) := hide (by exact below_then B3.out hb)
  have X4 : Hid (Blk w4 w.heap.size 58 #[.int .i64 kd, .slice A1 n1 c1, .slice A2 l2.length c2, .slice A3 n3 c3, .slice A4 l4.length c4, .slice A5 hs.length c5, .slice A6 l6.length c6, .slice A7 n7 c7, .int .i64 nx]) := hide (by exact X3.out.below hb X3.out.lt)
  have H04 : 0 ≤ y3 - ((headSize l4) : Nat) := by omega
  have H14 : y3 - ((headSize l4) : Nat) ≤ 1048576 := by omega
  obtain ⟨y4, Y4⟩ : ∃ y : Int, y = y3 - ((headSize l4) : Nat) := ⟨_, rfl⟩
  rw [← Y4] at H04 H14 ⊢
  have b1 := X4.out.cell 1
  have b2 := X4.out.cell 2
  have b3 := X4.out.cell 3
  have b4 := X4.out.cell 4
  have b5 := X4.out.cell 5
  have b6 := X4.out.cell 6
  have b7 := X4.out.cell 7
  clear hb kc
  have Z4 := hide Y4
  have V4 := hide x3
  clear Y4 x3
  go_wp2_with fail
  clear b1 b2 b3 b4 b5 b6 b7
  have kc := szHistS_any A5 hs c5 (Old w.heap.size) y4 w4 H04 H14 (fun b h => Nat.lt_of_lt_of_le h B4.out.size) (HH.out.below B4.out (fun _ h => h))
  by_cases x4 : y4 < ((histSize hs) : Nat)
  · rw [szR_neg x4] at kc
    refine kc.mono ?_
    rintro e w5 ⟨rfl, hb⟩
    have hf : szR left (n1 + (headSize l2) + n3 + (headSize l4) + (histSize hs) + (headSize l6) + n7) = -1 := szR_neg (by have := Z1.out; have := V1.out; have := Z2.out; have := V2.out; have := Z3.out; have := V3.out; have := Z4.out; have := V4.out; omega)
    have hf := hide hf
    have B5 : Hid (Below w.heap.size w w5) := hide (by exact below_then B4.out hb)
    clear hb kc x4
    go_wp2_with fail
    go_ret
    exact ⟨ret_int hf.out.symm, B5.out⟩
  rw [szR_pos x4] at kc
  refine kc.mono ?_
  rintro e w5 ⟨rfl, hb⟩
  have B5 : Hid (Below w.heap.size w w5) := hide (by exact below_then B4.out hb)
  have X5 : Hid (Blk w5 w.heap.size 58 #[.int .i64 kd, .slice A1 n1 c1, .slice A2 l2.length c2, .slice A3 n3 c3, .slice A4 l4.length c4, .slice A5 hs.length c5, .slice A6 l6.length c6, .slice A7 n7 c7, .int .i64 nx]) := hide (by exact X4.out.below hb X4.out.lt)
  have H05 : 0 ≤ y4 - ((histSize hs) : Nat) := by omega
  have H15 : y4 - ((histSize hs) : Nat) ≤ 1048576 := by omega
  obtain ⟨y5, Y5⟩ : ∃ y : Int, y = y4 - ((histSize hs) : Nat) := ⟨_, rfl⟩
  rw [← Y5] at H05 H15 ⊢
  have b1 := X5.out.cell 1
  have b2 := X5.out.cell 2
  have b3 := X5.out.cell 3
  have b4 := X5.out.cell 4
  have b5 := X5.out.cell 5
  have b6 := X5.out.cell 6
  have b7 := X5.out.cell 7
  clear hb kc
  have Z5 := hide Y5
  have V5 := hide x4
  clear Y5 x4
  go_wp2_with fail
  clear b1 b2 b3 b4 b5 b6 b7
  have kc := szFileS_any A6 l6 c6 (Old w.heap.size) y5 w5 H05 H15 (fun b h => Nat.lt_of_lt_of_le h B5.out.size) (HV.out.below B5.out (fun _ h => h))
  by_cases x5 : y5 < ((headSize l6) : Nat)
  · rw [szR_neg x5] at kc
    refine kc.mono ?_
    rintro e w6 ⟨rfl, hb⟩
    have hf : szR left (n1 + (headSize l2) + n3 + (headSize l4) + (histSize hs) + (headSize l6) + n7) = -1 := szR_neg (by have := Z1.out; have := V1.out; have := Z2.out; have := V2.out; have := Z3.out; have := V3.out; have := Z4.out; have := V4.out; have := Z5.out; have := V5.out; omega)
    have hf := hide hf
    have B6 : Hid (Below w.heap.size w w6) := hide (by exact below_then B5.out hb)
    clear hb kc x5
    go_wp2_with fail
    go_ret
    exact ⟨ret_int hf.out.symm, B6.out⟩
  rw [szR_pos x5] at kc
  refine kc.mono ?_
  rintro e w6 ⟨rfl, hb⟩
  have B6 : Hid (Below w.heap.size w w6) := hide (by exact below_then B5.out hb)
  have X6 : Hid (Blk w6 w.heap.size 58 #[.int .i64 kd, .slice A1 n1 c1, .slice A2 l2.length c2, .slice A3 n3 c3, .slice A4 l4.length c4, .slice A5 hs.length c5, .slice A6 l6.length c6, .slice A7 n7 c7, .int .i64 nx]) := hide (by exact X5.out.below hb X5.out.lt)
  have H06 : 0 ≤ y5 - ((headSize l6) : Nat) := by omega
  have H16 : y5 - ((headSize l6) : Nat) ≤ 1048576 := by omega
  obtain ⟨y6, Y6⟩ : ∃ y : Int, y = y5 - ((headSize l6) : Nat) := ⟨_, rfl⟩
  rw [← Y6] at H06 H16 ⊢
  have b1 := X6.out.cell 1
  have b2 := X6.out.cell 2
  have b3 := X6.out.cell 3
  have b4 := X6.out.cell 4
  have b5 := X6.out.cell 5
  have b6 := X6.out.cell 6
  have b7 := X6.out.cell 7
  clear hb kc
  have Z6 := hide Y6
  have V6 := hide x5
  clear Y6 x5
  go_wp2_with fail
  clear b1 b2 b3 b4 b5 b6 b7
  have kc := szIntS_any A7 n7 c7 y6 w6 H06 H16 N7
  by_cases x6 : y6 < (n7 : Nat)
  · rw [szR_neg x6] at kc
    refine kc.mono ?_
    rintro e w7 ⟨rfl, hb⟩
    have hf : szR left (n1 + (headSize l2) + n3 + (headSize l4) + (histSize hs) + (headSize l6) + n7) = -1 := szR_neg (by have := Z1.out; have := V1.out; have := Z2.out; have := V2.out; have := Z3.out; have := V3.out; have := Z4.out; have := V4.out; have := Z5.out; have := V5.out; have := Z6.out; have := V6.out; omega)
    have hf := hide hf
    have B7 : Hid (Below w.heap.size w w7) := hide (by subst hb; exact B6.out)
    clear hb kc x6
    go_wp2_with fail
    go_ret
    exact ⟨ret_int hf.out.symm, B7.out⟩
  rw [szR_pos x6] at kc
  refine kc.mono ?_
  rintro e w7 ⟨rfl, hb⟩
  have B7 : Hid (Below w.heap.size w w7) := hide (by subst hb; exact B6.out)
  have X7 : Hid (Blk w7 w.heap.size 58 #[.int .i64 kd, .slice A1 n1 c1, .slice A2 l2.length c2, .slice A3 n3 c3, .slice A4 l4.length c4, .slice A5 hs.length c5, .slice A6 l6.length c6, .slice A7 n7 c7, .int .i64 nx]) := hide (by subst hb; exact X6.out)
  have H07 : 0 ≤ y6 - (n7 : Nat) := by omega
  have H17 : y6 - (n7 : Nat) ≤ 1048576 := by omega
  obtain ⟨y7, Y7⟩ : ∃ y : Int, y = y6 - (n7 : Nat) := ⟨_, rfl⟩
  rw [← Y7] at H07 H17 ⊢
  have b1 := X7.out.cell 1
  have b2 := X7.out.cell 2
  have b3 := X7.out.cell 3
  have b4 := X7.out.cell 4
  have b5 := X7.out.cell 5
  have b6 := X7.out.cell 6
  have b7 := X7.out.cell 7
  clear hb kc
  have Z7 := hide Y7
  have V7 := hide x6
  clear Y7 x6
  go_wp2_with fail
  go_ret
  have hf : szR left (n1 + (headSize l2) + n3 + (headSize l4) + (histSize hs) + (headSize l6) + n7) = y7 := by
    have := Z1.out; have := Z2.out; have := Z3.out; have := Z4.out; have := Z5.out; have := Z6.out; have := Z7.out
    rw [szR_pos (by omega)]; omega
  exact ⟨ret_int hf.symm, B7.out⟩
end Go.Proofs.Ytikfbhehnpogoaa
