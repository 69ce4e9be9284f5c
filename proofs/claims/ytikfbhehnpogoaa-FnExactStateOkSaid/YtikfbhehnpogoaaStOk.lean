/- Whether all threads have ended; how many cells and threads. · kindOf of a state of KdBuf; whether nothing waits; whether it has no views. · commonOk of what is right; bufsOk of empty buffers. · bufsOk of empty buffers. · StateOk of a state of KdBuf whose buffers are empty: yes. · Done of a state of KdBuf whose buffers are empty. -/
import Derived.Test.YtikfbhehnpogoaaCore
import Derived.Test.YtikfbhehnpogoaaRows
import Derived.BigQuiet
import Derived.Deep.QuietTactic
import Derived.Test.YtikfbhehnpogoaaLeaf
import Derived.Deep.RegionHeld3
import Derived.Deep.DeepCutAuto
import Derived.Test.YtikfbhehnpogoaaIPok
namespace Go.Proofs.Ytikfbhehnpogoaa
open Go.RowKit

set_option maxHeartbeats 800000 in
theorem comCells_any (A1 A2 A3 A4 : Option Addr) (n1 n2 n3 n4 c1 c2 c3 c4 : Nat) (w : World) :
    Calls Try.prog 55 #[.agg #[.slice A1 n1 c1, .slice A2 n2 c2, .slice A3 n3 c3, .slice A4 n4 c4]] w fun e w' => e = .returned (.int .i64 n1) ∧ Below w.heap.size w w' := by
  go_enter Try.func55, Try.ntmps55
  go_wp2_with fail
  go_ret
  exact ⟨rfl, below1 _ _⟩
set_option maxHeartbeats 800000 in
theorem comThreads_any (A1 A2 A3 A4 : Option Addr) (n1 n2 n3 n4 c1 c2 c3 c4 : Nat) (w : World) :
    Calls Try.prog 119 #[.agg #[.slice A1 n1 c1, .slice A2 n2 c2, .slice A3 n3 c3, .slice A4 n4 c4]] w fun e w' => e = .returned (.int .i64 n2) ∧ Below w.heap.size w w' := by
  go_enter Try.func119, Try.ntmps119
  go_wp2_with fail
  go_ret
  exact ⟨rfl, below1 _ _⟩

/-- Has every thread ended? -/
def endedB (ts : List (List InsD)) (pcs : List Int) : Bool := allB (fun k => decide (((gett ts k).length : Int) ≤ geti pcs k)) ts.length

set_option maxRecDepth 100000 in
set_option maxHeartbeats 3200000 in
theorem ended_any (A1 A2 A3 A4 : Option Addr) (n1 n4 c1 c2 c3 c4 : Nat) (ts : List (List InsD)) (pcs : List Int) (S : Nat → Prop) (w : World) (hl : pcs.length = ts.length) (hS : ∀ b, S b → b < w.heap.size) (ht : ThreadsAt w S A2 ts) (hp : IntsAt w S A3 pcs) :
    Calls Try.prog 88 #[.agg #[.slice A1 n1 c1, .slice A2 ts.length c2, .slice A3 ts.length c3, .slice A4 n4 c4]] w fun e w' => e = .returned (.bool (endedB ts pcs)) ∧ Below w.heap.size w w' := by
  have hn := ht.1
  have K0 := hide (Blk.new w 99 #[.slice A1 n1 c1, .slice A2 ts.length c2, .slice A3 ts.length c3, .slice A4 n4 c4])
  have hb0 := below1 w (Obj.cells #[.slice A1 n1 c1, .slice A2 ts.length c2, .slice A3 ts.length c3, .slice A4 n4 c4] 99)
  go_enter Try.func88, Try.ntmps88
  go_wp2_with fail
  go_loopw [9] (fun i wr => ∃ (k : Nat), k ≤ ts.length ∧ i = .int .i64 k ∧ Hid (∀ j, j < k → ((gett ts j).length : Int) ≤ geti pcs j) ∧ Hid (Blk wr w.heap.size 99 #[.slice A1 n1 c1, .slice A2 ts.length c2, .slice A3 ts.length c3, .slice A4 n4 c4]) ∧ Below w.heap.size w wr) (fun i _ => ts.length - (intOf i).toNat)
  case atStart => exact ⟨0, Nat.zero_le _, rfl, hide (fun j hj => by omega), K0, hb0⟩
  case round =>
    obtain ⟨k, hk, rfl, hdone, K, hb⟩ := hrel
    clear K0 hb0
    by_cases hlt : k < ts.length
    · obtain ⟨b, off, rfl, hSb, hc⟩ := (ht.below hb hS).2 (by omega)
      obtain ⟨A', c', hcell, _, _⟩ := hc k hlt
      obtain ⟨b2, off2, rfl, hSb2, hc2⟩ := (hp.below hb hS).2 (by omega)
      have hcell2 := hc2 k (by omega)
      have hlt' : (k : Int) < (ts.length : Int) := by omega
      have hbl := Nat.lt_of_lt_of_le (hS b hSb) hb.size
      have hbl2 := Nat.lt_of_lt_of_le (hS b2 hSb2) hb.size
      have k2 := K.out.cell 2
      simp only [List.getElem?_toArray, List.getElem?_cons_zero, List.getElem?_cons_succ] at k2
      have hlK := K.out.lt
      clear hc hc2
      by_cases hge : ((gett ts k).length : Int) ≤ geti pcs k
      · go_wp2_with fail
        go_quiet (fail)
        go_wp2_with fail
        go_roundw
        case rel => exact ⟨k + 1, by omega, by go_num, hide (fun j hj => by
          rcases Nat.lt_succ_iff_lt_or_eq.1 hj with h | rfl
          · exact hdone.out j h
          · exact hge), hide (K.out.alloc _), below_drewN (hb.alloc hb.size _) _⟩
        case measure => simp [intOf]; omega
      · have hE := hide (show endedB ts pcs = false from allB_no hlt (by simpa using hge))
        have hlt2 : geti pcs k < ((gett ts k).length : Int) := by omega
        go_wp2_with fail
        go_quiet (fail)
        go_wp2_with fail
        go_ret
        exact ⟨ret_bool hE.out.symm, below_drewN (hb.alloc hb.size _) _⟩
    · obtain rfl : k = ts.length := by omega
      have hE := hide (show endedB ts pcs = true from allB_yes (fun j hj => by simpa using hdone.out j hj))
      go_wp2_with fail
      go_ret
      exact ⟨ret_bool hE.out.symm, hb⟩
end Go.Proofs.Ytikfbhehnpogoaa

namespace Go.Proofs.Ytikfbhehnpogoaa
open Go.RowKit

def getn (ls : List Nat) (k : Nat) : Nat := ls.getD k 0
/-- A row of slices in a block of S, of those lengths. -/
def LensAt (w : World) (S : Nat → Prop) (A : Option Addr) (ls : List Nat) : Prop :=
  ls.length ≤ 9223372036854775807 ∧ (0 < ls.length → ∃ b off, A = some ⟨b, off, none⟩ ∧ S b ∧ ∀ k, k < ls.length → ∃ A' c', w.cell? ⟨b, off + k, none⟩ = some (.slice A' (getn ls k) c'))
theorem LensAt.below {w w' : World} {S : Nat → Prop} {B : Nat} {A : Option Addr} {ls : List Nat} (h : LensAt w S A ls) (hb : Below B w w') (hS : ∀ b, S b → b < B) : LensAt w' S A ls :=
  ⟨h.1, fun hn => by
    obtain ⟨b, off, e, hSb, hc⟩ := h.2 hn
    refine ⟨b, off, e, hSb, fun k hk => ?_⟩
    obtain ⟨A', c', h1⟩ := hc k hk
    exact ⟨A', c', (hb.cell (p := ⟨b, off + k, none⟩) (hS b hSb)).trans h1⟩⟩
def emptyB (ls : List Nat) : Bool := allB (fun k => decide (getn ls k = 0)) ls.length

set_option maxRecDepth 100000 in
set_option maxHeartbeats 3200000 in
theorem nothing_any (A1 A2 A3 A4 A5 A6 : Option Addr) (n1 n2 n3 n4 n5 c1 c2 c3 c4 c5 c6 : Nat) (ls : List Nat) (S : Nat → Prop) (w : World) (hS : ∀ b, S b → b < w.heap.size) (hp : LensAt w S A6 ls) :
    Calls Try.prog 89 #[.agg #[.slice A1 n1 c1, .slice A2 n2 c2, .slice A3 n3 c3, .slice A4 n4 c4, .slice A5 n5 c5, .slice A6 ls.length c6]] w fun e w' => e = .returned (.bool (emptyB ls)) ∧ Below w.heap.size w w' := by
  have hn := hp.1
  have hb0 := below1 w (Obj.cells #[.slice A1 n1 c1, .slice A2 n2 c2, .slice A3 n3 c3, .slice A4 n4 c4, .slice A5 n5 c5, .slice A6 ls.length c6] 105)
  go_enter Try.func89, Try.ntmps89
  go_wp2_with fail
  go_loopw [8] (fun i wr => ∃ (k : Nat), k ≤ ls.length ∧ i = .int .i64 k ∧ Hid (∀ j, j < k → getn ls j = 0) ∧ Below w.heap.size w wr) (fun i _ => ls.length - (intOf i).toNat)
  case atStart => exact ⟨0, Nat.zero_le _, rfl, hide (fun j hj => by omega), hb0⟩
  case round =>
    obtain ⟨k, hk, rfl, hdone, hb⟩ := hrel
    clear hb0
    by_cases hlt : k < ls.length
    · obtain ⟨b, off, rfl, hSb, hc⟩ := (hp.below hb hS).2 (by omega)
      obtain ⟨A', c', hcell⟩ := hc k hlt
      have hlt' : (k : Int) < (ls.length : Int) := by omega
      have hbl := Nat.lt_of_lt_of_le (hS b hSb) hb.size
      clear hc
      by_cases hge : getn ls k = 0
      · rw [hge] at hcell
        go_wp2_with fail
        go_roundw
        case rel => exact ⟨k + 1, by omega, by go_num, hide (fun j hj => by
          rcases Nat.lt_succ_iff_lt_or_eq.1 hj with h | rfl
          · exact hdone.out j h
          · exact hge), hb.alloc hb.size _⟩
        case measure => simp [intOf]; omega
      · have hE := hide (show emptyB ls = false from allB_no hlt (by simpa using hge))
        have hlt2 : (0 : Int) < (getn ls k : Int) := by omega
        go_wp2_with fail
        go_ret
        exact ⟨ret_bool hE.out.symm, hb.alloc hb.size _⟩
    · obtain rfl : k = ls.length := by omega
      have hE := hide (show emptyB ls = true from allB_yes (fun j hj => by simpa using hdone.out j hj))
      go_wp2_with fail
      go_ret
      exact ⟨ret_bool hE.out.symm, hb⟩

end Go.Proofs.Ytikfbhehnpogoaa

namespace Go.Proofs.Ytikfbhehnpogoaa
open Go.RowKit

theorem com4 {w : World} {g : Nat} {a b c d : Value} (h : Blk w g 99 #[a, b, c, d]) : w.cell? ⟨g, 0, none⟩ = some a ∧ w.cell? ⟨g, 1, none⟩ = some b ∧ w.cell? ⟨g, 2, none⟩ = some c ∧ w.cell? ⟨g, 3, none⟩ = some d := ⟨h.cell 0, h.cell 1, h.cell 2, h.cell 3⟩

/-- What one round of commonOk reads. -/
structure CoRd (T U b b2 : Nat) (i1 i2 : Nat) (v0 v1 v2 v3 t p f : Value) (w : World) : Prop where
  box : Blk w T 99 #[v0, v1, v2, v3]
  thr : Blk w U 95 #[t]
  pc : w.cell? ⟨b, i1, none⟩ = some p ∧ b < w.heap.size
  fl : w.cell? ⟨b2, i2, none⟩ = some f ∧ b2 < w.heap.size
section
variable {T U b b2 i1 i2 : Nat} {v0 v1 v2 v3 t p f : Value} {w w' : World}
theorem CoRd.next (h : CoRd T U b b2 i1 i2 v0 v1 v2 v3 t p f w) (hb : Below w.heap.size w w') : CoRd T U b b2 i1 i2 v0 v1 v2 v3 t p f w' :=
  ⟨h.box.below hb h.box.lt, h.thr.below hb h.thr.lt, ⟨(hb.cell (p := ⟨b, i1, none⟩) h.pc.2).trans h.pc.1, Nat.lt_of_lt_of_le h.pc.2 hb.size⟩, ⟨(hb.cell (p := ⟨b2, i2, none⟩) h.fl.2).trans h.fl.1, Nat.lt_of_lt_of_le h.fl.2 hb.size⟩⟩
theorem CoRd.cells (h : CoRd T U b b2 i1 i2 v0 v1 v2 v3 t p f w) : w.cell? ⟨T, 2, none⟩ = some v2 ∧ w.cell? ⟨T, 3, none⟩ = some v3 ∧ w.cell? ⟨U, 0, none⟩ = some t ∧ w.cell? ⟨b, i1, none⟩ = some p ∧ w.cell? ⟨b2, i2, none⟩ = some f :=
  ⟨h.box.cell 2, h.box.cell 3, h.thr.cell 0, h.pc.1, h.fl.1⟩
end

theorem buf6 {w : World} {g : Nat} {a b c d e f : Value} (h : Blk w g 105 #[a, b, c, d, e, f]) : w.cell? ⟨g, 0, none⟩ = some a ∧ w.cell? ⟨g, 1, none⟩ = some b ∧ w.cell? ⟨g, 2, none⟩ = some c ∧ w.cell? ⟨g, 3, none⟩ = some d ∧ w.cell? ⟨g, 4, none⟩ = some e ∧ w.cell? ⟨g, 5, none⟩ = some f := ⟨h.cell 0, h.cell 1, h.cell 2, h.cell 3, h.cell 4, h.cell 5⟩
theorem LensAt.more {w : World} {S S' : Nat → Prop} {A : Option Addr} {ls : List Nat} (h : LensAt w S A ls) (hS : ∀ b, S b → S' b) : LensAt w S' A ls :=
  ⟨h.1, fun hn => by
    obtain ⟨b, off, e, hSb, hc⟩ := h.2 hn
    exact ⟨b, off, e, hS b hSb, hc⟩⟩
theorem emptyB_yes {lb : List Nat} (h : ∀ k, k < lb.length → getn lb k = 0) : emptyB lb = true := allB_yes (fun j hj => by simpa using h j hj)
end Go.Proofs.Ytikfbhehnpogoaa
