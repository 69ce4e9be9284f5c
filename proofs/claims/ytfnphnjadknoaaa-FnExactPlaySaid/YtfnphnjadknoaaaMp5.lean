/- laws.toIntS: the copy, in a block of its own. -/
import Derived.Test.YtfnphnjadknoaaaMp0
import Derived.Test.YtfnphnjadknoaaaMp1
import Derived.Test.YtfnphnjadknoaaaMp3
import Derived.Test.YtfnphnjadknoaaaMp4
import Derived.StillTailTactics
import Derived.Deep.OwnRows
namespace Go.Proofs.Ytfnphnjadknoaaa
open Go.RowKit

def DqAt (w : World) (S : Nat → Prop) (A : Option Addr) (rs : List (List Int)) : Prop :=
  rs.length ≤ 9223372036854775807 ∧ (0 < rs.length → ∃ b off, A = some ⟨b, off, none⟩ ∧ S b ∧ ∀ k, k < rs.length → ∃ A' c', w.cell? ⟨b, off + k, none⟩ = some (.slice A' (getq rs k).length c') ∧ (getq rs k).length ≤ c' ∧ IntsAt w S A' (getq rs k))
section
variable {w w' : World} {S S' : Nat → Prop} {B : Nat} {A : Option Addr} {rs : List (List Int)}
theorem DqAt.keep (h : DqAt w S A rs) (hk : ∀ b o, S b → w'.cell? ⟨b, o, none⟩ = w.cell? ⟨b, o, none⟩) (hS : ∀ b, S b → S' b) : DqAt w' S' A rs :=
  ⟨h.1, fun hn => by
    obtain ⟨b, off, e, hb, hc⟩ := h.2 hn
    refine ⟨b, off, e, hS b hb, fun k hk' => ?_⟩
    obtain ⟨A', c', h1, h3, h2⟩ := hc k hk'
    exact ⟨A', c', (hk b _ hb).trans h1, h3, h2.keep hk hS⟩⟩
theorem DqAt.below (h : DqAt w S A rs) (hb : Below B w w') (hS : ∀ b, S b → b < B) : DqAt w' S A rs := h.keep (below_keep hb hS) (fun _ h => h)
theorem DqAt.more (h : DqAt w S A rs) (hS : ∀ b, S b → S' b) : DqAt w S' A rs := h.keep (fun _ _ _ => rfl) hS
theorem DqAt.at_ (h : DqAt w S A rs) {k : Nat} (hk : k < rs.length) : ∃ b off, A = some ⟨b, off, none⟩ ∧ S b ∧ ∃ A' c', w.cell? ⟨b, off + k, none⟩ = some (.slice A' (getq rs k).length c') ∧ (getq rs k).length ≤ c' ∧ IntsAt w S A' (getq rs k) := by
  obtain ⟨b, off, e, hb, hc⟩ := h.2 (by omega)
  exact ⟨b, off, e, hb, hc k hk⟩
end
def lensJ (l : List JobD) : List Nat := l.map (fun j => j.ks.length)
def lensQ (rs : List (List Int)) : List Nat := rs.map List.length
theorem lensJ_len (l : List JobD) : (lensJ l).length = l.length := by simp [lensJ]
theorem lensQ_len (rs : List (List Int)) : (lensQ rs).length = rs.length := by simp [lensQ]
theorem lensJ_get (l : List JobD) (k : Nat) : (lensJ l).getD k 0 = (getj l k).ks.length := by
  unfold lensJ getj
  rw [List.getD_eq_getElem?_getD, List.getD_eq_getElem?_getD, List.getElem?_map]
  cases l[k]? <;> rfl
theorem lensQ_get (rs : List (List Int)) (k : Nat) : (lensQ rs).getD k 0 = (getq rs k).length := by
  unfold lensQ getq
  rw [List.getD_eq_getElem?_getD, List.getD_eq_getElem?_getD, List.getElem?_map]
  cases rs[k]? <;> rfl
def sizeJ (l : List JobD) : Nat := l.length + (lensJ l).sum
def sizeQ (rs : List (List Int)) : Nat := rs.length + (lensQ rs).sum
theorem sizeJ_kids {l : List JobD} (k : Nat) : (getj l k).ks.length ≤ sizeJ l := by
  by_cases hk : k < l.length
  · have h1 := sumTo_succ (lensJ l) k (by rw [lensJ_len]; exact hk)
    have h2 := sumTo_le (lensJ l) (k + 1)
    rw [lensJ_get] at h1
    unfold sizeJ
    omega
  · have : getj l k = job0 := by simp [getj, List.getD_eq_getElem?_getD, List.getElem?_eq_none (by omega : l.length ≤ k)]
    rw [this]
    exact Nat.zero_le _
theorem sizeQ_row {rs : List (List Int)} (k : Nat) : (getq rs k).length ≤ sizeQ rs := by
  by_cases hk : k < rs.length
  · have h1 := sumTo_succ (lensQ rs) k (by rw [lensQ_len]; exact hk)
    have h2 := sumTo_le (lensQ rs) (k + 1)
    rw [lensQ_get] at h1
    unfold sizeQ
    omega
  · have : getq rs k = [] := by simp [getq, List.getD_eq_getElem?_getD, List.getElem?_eq_none (by omega : rs.length ≤ k)]
    rw [this]
    exact Nat.zero_le _

set_option maxHeartbeats 400000 in
theorem szJob_any (A : Option Addr) (n c : Nat) (v : Int) (left : Int) (w : World) (h0 : 0 ≤ left) (h1 : left ≤ 1048576) (hn : n ≤ 9223372036854775807) :
    Calls Try.prog 75 #[.agg #[.int .i64 v, .slice A n c], .int .i64 left] w fun e w' => e = .returned (.int .i64 (szR left n)) ∧ Below w.heap.size w w' := by
  have k1 := hide (fun w => szIntS_any A n c left w h0 h1 hn)
  have hs : szR left n < 0 ∨ 0 ≤ szR left n := by omega
  have hs2 : szR left n < 0 → szR left n = -1 := by unfold szR; split <;> omega
  have hs3 := hide hs2
  clear hs2 h0 h1 hn
  generalize szR left n = r at *
  rcases hs with hs | hs
  · go_enter Try.func75, Try.ntmps75
    go_wp2_with (go_at_call 92; refine (k1.out _).mono ?_; rintro e w1 ⟨rfl, rfl⟩)
    go_ret
    exact ⟨ret_int (hs3.out hs).symm, below1 _ _⟩
  · go_enter Try.func75, Try.ntmps75
    go_wp2_with (go_at_call 92; refine (k1.out _).mono ?_; rintro e w1 ⟨rfl, rfl⟩)
    go_ret
    exact ⟨rfl, below1 _ _⟩

set_option maxHeartbeats 800000 in
theorem szJobS_any (A : Option Addr) (l : List JobD) (c : Nat) (S : Nat → Prop) (left : Int) (w : World) (h0 : 0 ≤ left) (h1 : left ≤ 1048576) (hS : ∀ b, S b → b < w.heap.size) (ha : JobsAt w S A l) :
    Calls Try.prog 35 #[.slice A l.length c, .int .i64 left] w fun e w' => e = .returned (.int .i64 (szR left (sizeJ l))) ∧ Below w.heap.size w w' := by
  have hn := ha.1
  have Hle := hide (fun k => sumTo_le (lensJ l) k)
  have Hsucc := hide (fun k (hk : k < l.length) => by have h := sumTo_succ (lensJ l) k (by rw [lensJ_len]; exact hk); rw [lensJ_get] at h; exact h)
  have Hall := hide (by have h := sumTo_all (lensJ l); rw [lensJ_len] at h; exact h)
  have Hz := hide (sumTo_zero (lensJ l))
  have Hp := hide (show sizeJ l = l.length + (lensJ l).sum from rfl)
  by_cases h : left < l.length
  · have HF := hide (szR_neg (left := left) (n := sizeJ l) (by have := Hp.out; omega))
    go_enter Try.func35, Try.ntmps35
    go_wp2
    go_ret
    exact ⟨ret_int HF.out.symm, Below.refl _ _⟩
  · go_enter Try.func35, Try.ntmps35
    go_wp2
    go_loopw [1, 5] (fun q i wr => ∃ k : Nat, k ≤ l.length ∧ (sumTo (lensJ l) k : Int) ≤ left - l.length ∧ i = .int .i64 k ∧ q = .int .i64 (left - l.length - sumTo (lensJ l) k) ∧ Below w.heap.size w wr) (fun _ i _ => l.length - (intOf i).toNat)
    case atStart => exact ⟨0, Nat.zero_le _, by rw [Hz.out]; omega, rfl, by rw [Hz.out]; simp, Below.refl _ _⟩
    case round =>
      obtain ⟨k, hk, hl, rfl, rfl, hb⟩ := hrel
      by_cases hlt : k < l.length
      · obtain ⟨b, off, rfl, hbB, hv, A', c', hcell, hcap, hin⟩ := (ha.below hb hS).at_ hlt
        have hss := Hsucc.out k hlt
        have hnn := hin.1
        by_cases hx : left - l.length - sumTo (lensJ l) k < (getj l k).ks.length
        · have HF := hide (szR_neg (left := left) (n := sizeJ l) (by have := Hle.out (k + 1); have := Hp.out; omega))
          have kc := szJob_any A' (getj l k).ks.length c' (getj l k).v (left - l.length - sumTo (lensJ l) k) wr (by omega) (by omega) hnn
          simp only [szR_neg hx] at kc
          have KC := hide kc
          clear kc hx hss
          go_wp2_with (go_at_call 75; refine KC.out.mono ?_; rintro e w1 ⟨rfl, hb1⟩)
          go_ret
          exact ⟨ret_int HF.out.symm, below_then hb hb1⟩
        · have kc := szJob_any A' (getj l k).ks.length c' (getj l k).v (left - l.length - sumTo (lensJ l) k) wr (by omega) (by omega) hnn
          simp only [szR_pos hx] at kc
          have KC := hide kc
          have HX : 0 ≤ left - l.length - sumTo (lensJ l) k - (getj l k).ks.length := by omega
          have HS := hide hss
          clear kc hx hss
          go_wp2_with (go_at_call 75; refine KC.out.mono ?_; rintro e w1 ⟨rfl, hb1⟩)
          go_roundw
          case rel => exact ⟨k + 1, by omega, by rw [HS.out]; omega, by go_num, by rw [HS.out]; go_num, below_then hb hb1⟩
          case measure => simp [intOf]; omega
      · obtain rfl : k = l.length := by omega
        have HF := hide (show szR left (sizeJ l) = left - l.length - sumTo (lensJ l) l.length by rw [szR_pos (by have := Hall.out; have := Hp.out; omega)]; have := Hall.out; have := Hp.out; omega)
        go_wp2
        go_ret
        exact ⟨ret_int HF.out.symm, hb⟩

set_option maxHeartbeats 800000 in
theorem eqJob_any (A A' : Option Addr) (v : Int) (zs : List Int) (c c' : Nat) (S : Nat → Prop) (w : World) (hS : ∀ b, S b → b < w.heap.size) (ha : IntsAt w S A zs) (ha' : IntsAt w S A' zs) :
    Calls Try.prog 77 #[.agg #[.int .i64 v, .slice A zs.length c], .agg #[.int .i64 v, .slice A' zs.length c']] w fun e w' => e = .returned (.bool true) ∧ Below w.heap.size w w' := by
  have hb0 := below2 w (Obj.cells #[.int .i64 v, .slice A zs.length c] 42) (Obj.cells #[.int .i64 v, .slice A' zs.length c'] 42)
  have kE := hide (eqIntS_any A A' zs c c' S _ (fun b h => Nat.lt_of_lt_of_le (hS b h) hb0.size) (ha.below hb0 hS) (ha'.below hb0 hS))
  replace hb0 := hide hb0
  clear ha ha'
  go_enter Try.func77, Try.ntmps77
  go_wp2_with (go_at_call 82; refine kE.out.mono ?_; rintro e w1 ⟨rfl, hb1⟩)
  go_ret
  exact ⟨rfl, below_then hb0.out hb1⟩

set_option maxRecDepth 100000 in
set_option maxHeartbeats 1600000 in
theorem eqJobS_any (A A' : Option Addr) (l : List JobD) (c c' : Nat) (S : Nat → Prop) (w : World) (hS : ∀ b, S b → b < w.heap.size) (ha : JobsAt w S A l) (ha' : JobsAt w S A' l) :
    Calls Try.prog 37 #[.slice A l.length c, .slice A' l.length c'] w fun e w' => e = .returned (.bool true) ∧ Below w.heap.size w w' := by
  have hn := ha.1
  go_enter Try.func37, Try.ntmps37
  go_wp2
  go_loopw [5] (fun i wr => ∃ (k : Nat), k ≤ l.length ∧ i = .int .i64 k ∧ Below w.heap.size w wr) (fun i _ => l.length - (intOf i).toNat)
  case atStart => exact ⟨0, Nat.zero_le _, rfl, Below.refl _ _⟩
  case round =>
    obtain ⟨k, hk, rfl, hb⟩ := hrel
    by_cases hlt : k < l.length
    · obtain ⟨b, off, rfl, hbB, hv, A2, c2, h1, hcap, h2⟩ := (ha.below hb hS).at_ hlt
      obtain ⟨b', off', rfl, hbB', hv', A3, c3, h3, hcap', h4⟩ := (ha'.below hb hS).at_ hlt
      have hx : ((k : Int) < (l.length : Int)) := by omega
      go_wp2_with fail
      go_still_tail 8, (by kernel_rfl)
      have hbd := hb.drew
      have h2d : IntsAt wr.drew S A2 (getj l k).ks := h2
      have h4d : IntsAt wr.drew S A3 (getj l k).ks := h4
      change wpList _ _ _ _ _ wr.drew
      clear h1 h2 h3 h4 hv hv'
      generalize wr.drew = w2 at *
      go_wp2_with (go_at_call 77; refine (eqJob_any A2 A3 (getj l k).v (getj l k).ks c2 c3 S _ (fun b h => Nat.lt_of_lt_of_le (hS b h) hbd.size) h2d h4d).mono ?_; rintro e w3 ⟨rfl, hb3⟩)
      go_roundw
      case rel => exact ⟨k + 1, by omega, by go_num, below_then hbd hb3⟩
      case measure => simp [intOf]; omega
    · obtain rfl : k = l.length := by omega
      go_wp2
      go_ret
      exact ⟨rfl, hb⟩

set_option maxHeartbeats 400000 in
theorem szRow_any (A : Option Addr) (n c : Nat) (left : Int) (w : World) (h0 : 0 ≤ left) (h1 : left ≤ 1048576) (hn : n ≤ 9223372036854775807) :
    Calls Try.prog 118 #[.agg #[.slice A n c], .int .i64 left] w fun e w' => e = .returned (.int .i64 (szR left n)) ∧ Below w.heap.size w w' := by
  have k1 := hide (fun w => szIntS_any A n c left w h0 h1 hn)
  have hs : szR left n < 0 ∨ 0 ≤ szR left n := by omega
  have hs2 : szR left n < 0 → szR left n = -1 := by unfold szR; split <;> omega
  have hs3 := hide hs2
  clear hs2 h0 h1 hn
  generalize szR left n = r at *
  rcases hs with hs | hs
  · go_enter Try.func118, Try.ntmps118
    go_wp2_with (go_at_call 92; refine (k1.out _).mono ?_; rintro e w1 ⟨rfl, rfl⟩)
    go_ret
    exact ⟨ret_int (hs3.out hs).symm, below1 _ _⟩
  · go_enter Try.func118, Try.ntmps118
    go_wp2_with (go_at_call 92; refine (k1.out _).mono ?_; rintro e w1 ⟨rfl, rfl⟩)
    go_ret
    exact ⟨rfl, below1 _ _⟩

set_option maxHeartbeats 800000 in
theorem szRowS_any (A : Option Addr) (rs : List (List Int)) (c : Nat) (S : Nat → Prop) (left : Int) (w : World) (h0 : 0 ≤ left) (h1 : left ≤ 1048576) (hS : ∀ b, S b → b < w.heap.size) (ha : DqAt w S A rs) :
    Calls Try.prog 90 #[.slice A rs.length c, .int .i64 left] w fun e w' => e = .returned (.int .i64 (szR left (sizeQ rs))) ∧ Below w.heap.size w w' := by
  have hn := ha.1
  have Hle := hide (fun k => sumTo_le (lensQ rs) k)
  have Hsucc := hide (fun k (hk : k < rs.length) => by have h := sumTo_succ (lensQ rs) k (by rw [lensQ_len]; exact hk); rw [lensQ_get] at h; exact h)
  have Hall := hide (by have h := sumTo_all (lensQ rs); rw [lensQ_len] at h; exact h)
  have Hz := hide (sumTo_zero (lensQ rs))
  have Hp := hide (show sizeQ rs = rs.length + (lensQ rs).sum from rfl)
  by_cases h : left < rs.length
  · have HF := hide (szR_neg (left := left) (n := sizeQ rs) (by have := Hp.out; omega))
    go_enter Try.func90, Try.ntmps90
    go_wp2
    go_ret
    exact ⟨ret_int HF.out.symm, Below.refl _ _⟩
  · go_enter Try.func90, Try.ntmps90
    go_wp2
    go_loopw [1, 5] (fun q i wr => ∃ k : Nat, k ≤ rs.length ∧ (sumTo (lensQ rs) k : Int) ≤ left - rs.length ∧ i = .int .i64 k ∧ q = .int .i64 (left - rs.length - sumTo (lensQ rs) k) ∧ Below w.heap.size w wr) (fun _ i _ => rs.length - (intOf i).toNat)
    case atStart => exact ⟨0, Nat.zero_le _, by rw [Hz.out]; omega, rfl, by rw [Hz.out]; simp, Below.refl _ _⟩
    case round =>
      obtain ⟨k, hk, hl, rfl, rfl, hb⟩ := hrel
      by_cases hlt : k < rs.length
      · obtain ⟨b, off, rfl, hbB, A', c', hcell, hcap, hin⟩ := (ha.below hb hS).at_ hlt
        have hss := Hsucc.out k hlt
        have hnn := hin.1
        by_cases hx : left - rs.length - sumTo (lensQ rs) k < (getq rs k).length
        · have HF := hide (szR_neg (left := left) (n := sizeQ rs) (by have := Hle.out (k + 1); have := Hp.out; omega))
          have kc := szRow_any A' (getq rs k).length c' (left - rs.length - sumTo (lensQ rs) k) wr (by omega) (by omega) hnn
          simp only [szR_neg hx] at kc
          have KC := hide kc
          clear kc hx hss
          go_wp2_with (go_at_call 118; refine KC.out.mono ?_; rintro e w1 ⟨rfl, hb1⟩)
          go_ret
          exact ⟨ret_int HF.out.symm, below_then hb hb1⟩
        · have kc := szRow_any A' (getq rs k).length c' (left - rs.length - sumTo (lensQ rs) k) wr (by omega) (by omega) hnn
          simp only [szR_pos hx] at kc
          have KC := hide kc
          have HX : 0 ≤ left - rs.length - sumTo (lensQ rs) k - (getq rs k).length := by omega
          have HS := hide hss
          clear kc hx hss
          go_wp2_with (go_at_call 118; refine KC.out.mono ?_; rintro e w1 ⟨rfl, hb1⟩)
          go_roundw
          case rel => exact ⟨k + 1, by omega, by rw [HS.out]; omega, by go_num, by rw [HS.out]; go_num, below_then hb hb1⟩
          case measure => simp [intOf]; omega
      · obtain rfl : k = rs.length := by omega
        have HF := hide (show szR left (sizeQ rs) = left - rs.length - sumTo (lensQ rs) rs.length by rw [szR_pos (by have := Hall.out; have := Hp.out; omega)]; have := Hall.out; have := Hp.out; omega)
        go_wp2
        go_ret
        exact ⟨ret_int HF.out.symm, hb⟩

set_option maxHeartbeats 800000 in
theorem eqRow_any (A A' : Option Addr) (zs : List Int) (c c' : Nat) (S : Nat → Prop) (w : World) (hS : ∀ b, S b → b < w.heap.size) (ha : IntsAt w S A zs) (ha' : IntsAt w S A' zs) :
    Calls Try.prog 117 #[.agg #[.slice A zs.length c], .agg #[.slice A' zs.length c']] w fun e w' => e = .returned (.bool true) ∧ Below w.heap.size w w' := by
  have hb0 := below2 w (Obj.cells #[.slice A zs.length c] 35) (Obj.cells #[.slice A' zs.length c'] 35)
  have kE := hide (eqIntS_any A A' zs c c' S _ (fun b h => Nat.lt_of_lt_of_le (hS b h) hb0.size) (ha.below hb0 hS) (ha'.below hb0 hS))
  replace hb0 := hide hb0
  clear ha ha'
  go_enter Try.func117, Try.ntmps117
  go_wp2_with (go_at_call 82; refine kE.out.mono ?_; rintro e w1 ⟨rfl, hb1⟩)
  go_ret
  exact ⟨rfl, below_then hb0.out hb1⟩

set_option maxRecDepth 100000 in
set_option maxHeartbeats 1600000 in
theorem eqRowS_any (A A' : Option Addr) (rs : List (List Int)) (c c' : Nat) (S : Nat → Prop) (w : World) (hS : ∀ b, S b → b < w.heap.size) (ha : DqAt w S A rs) (ha' : DqAt w S A' rs) :
    Calls Try.prog 80 #[.slice A rs.length c, .slice A' rs.length c'] w fun e w' => e = .returned (.bool true) ∧ Below w.heap.size w w' := by
  have hn := ha.1
  go_enter Try.func80, Try.ntmps80
  go_wp2
  go_loopw [5] (fun i wr => ∃ (k : Nat), k ≤ rs.length ∧ i = .int .i64 k ∧ Below w.heap.size w wr) (fun i _ => rs.length - (intOf i).toNat)
  case atStart => exact ⟨0, Nat.zero_le _, rfl, Below.refl _ _⟩
  case round =>
    obtain ⟨k, hk, rfl, hb⟩ := hrel
    by_cases hlt : k < rs.length
    · obtain ⟨b, off, rfl, hbB, A2, c2, h1, hcap, h2⟩ := (ha.below hb hS).at_ hlt
      obtain ⟨b', off', rfl, hbB', A3, c3, h3, hcap', h4⟩ := (ha'.below hb hS).at_ hlt
      have hx : ((k : Int) < (rs.length : Int)) := by omega
      go_wp2_with fail
      go_still_tail 8, (by kernel_rfl)
      have hbd := hb.drew
      have h2d : IntsAt wr.drew S A2 (getq rs k) := h2
      have h4d : IntsAt wr.drew S A3 (getq rs k) := h4
      change wpList _ _ _ _ _ wr.drew
      clear h1 h2 h3 h4
      generalize wr.drew = w2 at *
      go_wp2_with (go_at_call 117; refine (eqRow_any A2 A3 (getq rs k) c2 c3 S _ (fun b h => Nat.lt_of_lt_of_le (hS b h) hbd.size) h2d h4d).mono ?_; rintro e w3 ⟨rfl, hb3⟩)
      go_roundw
      case rel => exact ⟨k + 1, by omega, by go_num, below_then hbd hb3⟩
      case measure => simp [intOf]; omega
    · obtain rfl : k = rs.length := by omega
      go_wp2
      go_ret
      exact ⟨rfl, hb⟩
end Go.Proofs.Ytfnphnjadknoaaa

namespace Go.Proofs.Ytfnphnjadknoaaa
open Go.RowKit
set_option maxHeartbeats 800000 in
theorem toIntS_row (A : Option Addr) (zs : List Int) (c : Nat) (S : Nat → Prop) (w : World) (hn : zs.length ≤ 1048576) (hS : ∀ b, S b → b < w.heap.size) (ha : IntsAt w S A zs) :
    Calls Try.prog 95 #[.slice A zs.length c] w fun e w' => e = .returned (.slice (some ⟨w.heap.size, 0, none⟩) zs.length zs.length) ∧ RowB w' w.heap.size zs ∧ Below w.heap.size w w' := by
  have hmk := make_ints zs.length hn
  go_enter Try.func95, Try.ntmps95
  go_wp2
  clear hmk
  go_loopw [4] (fun i wr => ∃ (k : Nat) (cs : Array Value), k ≤ zs.length ∧ i = .int .i64 k ∧ Blk wr w.heap.size 3 cs ∧ Hid (cs.size = zs.length) ∧ Hid (∀ j, j < k → cs[j]? = some (.int .i64 (geti zs j))) ∧ Below w.heap.size w wr) (fun i _ => zs.length - (intOf i).toNat)
  case atStart => exact ⟨0, _, Nat.zero_le _, rfl, Blk.new _ _ _, hide (zrow_size1 _ _), hide (fun j hj => by omega), below1 _ _⟩
  case round =>
    obtain ⟨k, cs, hk, rfl, hblk, hsz, hcs, hb⟩ := hrel
    by_cases hlt : k < zs.length
    · obtain ⟨b, off, rfl, hbB, hc⟩ := (ha.below hb hS).2 (by omega)
      have hcell := hc k hlt
      obtain ⟨v0, hv0⟩ : ∃ v0, cs[k]? = some v0 := ⟨cs[k]'(by have := hsz.out; omega), Array.getElem?_eq_getElem _⟩
      have hdst := (hblk.cell k).trans hv0
      have hfz := hblk.frozen k
      have HB := hide hblk
      clear hv0 hblk hc
      go_wp2
      go_roundw
      case rel =>
        refine ⟨k + 1, cs.setIfInBounds k (.int .i64 (geti zs k)), by omega, by go_num, HB.out.set_ k _, hide (by rw [Array.size_setIfInBounds]; exact hsz.out), hide (fun j hj => ?_), hb.setCell (Nat.le_refl _) _⟩
        rw [Array.getElem?_setIfInBounds]
        by_cases e : k = j
        · subst e; rw [if_pos rfl, if_pos (by have := hsz.out; omega)]
        · rw [if_neg e]; exact hcs.out j (by omega)
      case measure => simp [intOf]; omega
    · obtain rfl : k = zs.length := by omega
      go_wp2
      go_ret
      exact ⟨rfl, ⟨cs, hblk, Nat.le_of_eq hsz.out.symm, hcs.out⟩, hb⟩

theorem toIntSI {A : Option Addr} {zs : List Int} {m c : Nat} {S : Nat → Prop} {w : World} (hz : zs.length = m) (hm : m ≤ 1048576) (hS : ∀ b, S b → b < w.heap.size) (ha : IntsAt w S A zs) :
    Calls Try.prog 95 #[.slice A m c] w fun e w' => ∃ q, e = .returned (.slice (some ⟨q, 0, none⟩) m m) ∧ RvI 3 w' w.heap.size w'.heap.size (.slice (some ⟨q, 0, none⟩) m m) m zs ∧ Below w.heap.size w w' := by
  subst hz
  refine (toIntS_row A zs c S w hm hS ha).mono ?_
  rintro e w' ⟨rfl, hr, hb⟩
  exact ⟨_, rfl, RvI.of (.inr ⟨_, _, rfl, hr, Nat.le_refl _⟩), hb⟩
end Go.Proofs.Ytfnphnjadknoaaa
