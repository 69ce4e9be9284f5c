/- Rows of rows as they are read, and their copies in the making; heads of rows: of no function of the program. -/
import Derived.Test.YtfkaacfeikmabaaMf0
import Derived.Test.YtfkaacfeikmabaaMf2
import Derived.Test.YtfkaacfeikmabaaMf9
import Derived.Test.YtfkaacfeikmabaaMf15
import Derived.Test.YtfkaacfeikmabaaRows
import Derived.BigQuiet
import Derived.Deep.QuietTactic
import Derived.Deep.RegionHeld3
import Derived.Deep.DeepCutAuto
namespace Go.Proofs.Ytfkaacfeikmabaa
open Go.RowKit

set_option maxHeartbeats 800000 in
theorem comCells_any (A1 A2 A3 A4 : Option Addr) (n1 n2 n3 n4 c1 c2 c3 c4 : Nat) (w : World) :
    Calls Try.prog 103 #[.agg #[.slice A1 n1 c1, .slice A2 n2 c2, .slice A3 n3 c3, .slice A4 n4 c4]] w fun e w' => e = .returned (.int .i64 n1) ∧ Below w.heap.size w w' := by
  go_enter Try.func103, Try.ntmps103
  go_wp2_with fail
  go_ret
  exact ⟨rfl, below1 _ _⟩
set_option maxHeartbeats 800000 in
theorem comThreads_any (A1 A2 A3 A4 : Option Addr) (n1 n2 n3 n4 c1 c2 c3 c4 : Nat) (w : World) :
    Calls Try.prog 161 #[.agg #[.slice A1 n1 c1, .slice A2 n2 c2, .slice A3 n3 c3, .slice A4 n4 c4]] w fun e w' => e = .returned (.int .i64 n2) ∧ Below w.heap.size w w' := by
  go_enter Try.func161, Try.ntmps161
  go_wp2_with fail
  go_ret
  exact ⟨rfl, below1 _ _⟩

def endedB (ts : List (List InsD)) (pcs : List Int) : Bool := allB (fun k => decide (((gett ts k).length : Int) ≤ geti pcs k)) ts.length

set_option maxRecDepth 100000 in
set_option maxHeartbeats 3200000 in
theorem ended_any (A1 A2 A3 A4 : Option Addr) (n1 n4 c1 c2 c3 c4 : Nat) (ts : List (List InsD)) (pcs : List Int) (S : Nat → Prop) (w : World) (hl : pcs.length = ts.length) (hS : ∀ b, S b → b < w.heap.size) (ht : ThreadsAt w S A2 ts) (hp : IntsAt w S A3 pcs) :
    Calls Try.prog 110 #[.agg #[.slice A1 n1 c1, .slice A2 ts.length c2, .slice A3 ts.length c3, .slice A4 n4 c4]] w fun e w' => e = .returned (.bool (endedB ts pcs)) ∧ Below w.heap.size w w' := by
  have hn := ht.1
  have K0 := hide (Blk.new w 135 #[.slice A1 n1 c1, .slice A2 ts.length c2, .slice A3 ts.length c3, .slice A4 n4 c4])
  have hb0 := below1 w (Obj.cells #[.slice A1 n1 c1, .slice A2 ts.length c2, .slice A3 ts.length c3, .slice A4 n4 c4] 135)
  go_enter Try.func110, Try.ntmps110
  go_wp2_with fail
  go_loopw [9] (fun i wr => ∃ (k : Nat), k ≤ ts.length ∧ i = .int .i64 k ∧ Hid (∀ j, j < k → ((gett ts j).length : Int) ≤ geti pcs j) ∧ Hid (Blk wr w.heap.size 135 #[.slice A1 n1 c1, .slice A2 ts.length c2, .slice A3 ts.length c3, .slice A4 n4 c4]) ∧ Below w.heap.size w wr) (fun i _ => ts.length - (intOf i).toNat)
  case atStart => exact ⟨0, Nat.zero_le _, rfl, hide (fun j hj => by omega), K0, hb0⟩
  case round =>
    obtain ⟨k, hk, rfl, hdone, K, hb⟩ := hrel
    clear K0 hb0
    by_cases hlt : k < ts.length
    · obtain ⟨b, off, rfl, hSb, hc⟩ := (ht.below hb hS).2 (by omega)
      obtain ⟨A', c', hcell, _, _⟩ := hc k hlt
      obtain ⟨b2, off2, rfl, hSb2, hc2⟩ := (hp.below hb hS).2 (by omega)
      have hcell2 := hc2 k (by omega)
      have hlt' : (k : Int) < (ts.length : Int) := by omega
      have hbl := Nat.lt_of_lt_of_le (hS b hSb) hb.size
      have hbl2 := Nat.lt_of_lt_of_le (hS b2 hSb2) hb.size
      have k2 := K.out.cell 2
      simp only [List.getElem?_toArray, List.getElem?_cons_zero, List.getElem?_cons_succ] at k2
      have hlK := K.out.lt
      clear hc hc2
      by_cases hge : ((gett ts k).length : Int) ≤ geti pcs k
      · go_wp2_with fail
        go_quiet (fail)
        go_wp2_with fail
        go_roundw
        case rel => exact ⟨k + 1, by omega, by go_num, hide (fun j hj => by
          rcases Nat.lt_succ_iff_lt_or_eq.1 hj with h | rfl
          · exact hdone.out j h
          · exact hge), hide (K.out.alloc _), below_drewN (hb.alloc hb.size _) _⟩
        case measure => simp [intOf]; omega
      · have hE := hide (show endedB ts pcs = false from allB_no hlt (by simpa using hge))
        have hlt2 : geti pcs k < ((gett ts k).length : Int) := by omega
        go_wp2_with fail
        go_quiet (fail)
        go_wp2_with fail
        go_ret
        exact ⟨ret_bool hE.out.symm, below_drewN (hb.alloc hb.size _) _⟩
    · obtain rfl : k = ts.length := by omega
      have hE := hide (show endedB ts pcs = true from allB_yes (fun j hj => by simpa using hdone.out j hj))
      go_wp2_with fail
      go_ret
      exact ⟨ret_bool hE.out.symm, hb⟩
end Go.Proofs.Ytfkaacfeikmabaa

namespace Go.Proofs.Ytfkaacfeikmabaa
open Go.RowKit

def getn (ls : List Nat) (k : Nat) : Nat := ls.getD k 0
def LensAt (w : World) (S : Nat → Prop) (A : Option Addr) (ls : List Nat) : Prop :=
  ls.length ≤ 9223372036854775807 ∧ (0 < ls.length → ∃ b off, A = some ⟨b, off, none⟩ ∧ S b ∧ ∀ k, k < ls.length → ∃ A' c', w.cell? ⟨b, off + k, none⟩ = some (.slice A' (getn ls k) c'))
theorem LensAt.below {w w' : World} {S : Nat → Prop} {B : Nat} {A : Option Addr} {ls : List Nat} (h : LensAt w S A ls) (hb : Below B w w') (hS : ∀ b, S b → b < B) : LensAt w' S A ls :=
  ⟨h.1, fun hn => by
    obtain ⟨b, off, e, hSb, hc⟩ := h.2 hn
    refine ⟨b, off, e, hSb, fun k hk => ?_⟩
    obtain ⟨A', c', h1⟩ := hc k hk
    exact ⟨A', c', (hb.cell (p := ⟨b, off + k, none⟩) (hS b hSb)).trans h1⟩⟩
def emptyB (ls : List Nat) : Bool := allB (fun k => decide (getn ls k = 0)) ls.length

set_option maxRecDepth 100000 in
set_option maxHeartbeats 3200000 in
theorem nothing_any (A1 A2 A3 A4 A5 A6 : Option Addr) (n1 n2 n3 n4 n5 c1 c2 c3 c4 c5 c6 : Nat) (ls : List Nat) (S : Nat → Prop) (w : World) (hS : ∀ b, S b → b < w.heap.size) (hp : LensAt w S A6 ls) :
    Calls Try.prog 111 #[.agg #[.slice A1 n1 c1, .slice A2 n2 c2, .slice A3 n3 c3, .slice A4 n4 c4, .slice A5 n5 c5, .slice A6 ls.length c6]] w fun e w' => e = .returned (.bool (emptyB ls)) ∧ Below w.heap.size w w' := by
  have hn := hp.1
  have hb0 := below1 w (Obj.cells #[.slice A1 n1 c1, .slice A2 n2 c2, .slice A3 n3 c3, .slice A4 n4 c4, .slice A5 n5 c5, .slice A6 ls.length c6] 141)
  go_enter Try.func111, Try.ntmps111
  go_wp2_with fail
  go_loopw [8] (fun i wr => ∃ (k : Nat), k ≤ ls.length ∧ i = .int .i64 k ∧ Hid (∀ j, j < k → getn ls j = 0) ∧ Below w.heap.size w wr) (fun i _ => ls.length - (intOf i).toNat)
  case atStart => exact ⟨0, Nat.zero_le _, rfl, hide (fun j hj => by omega), hb0⟩
  case round =>
    obtain ⟨k, hk, rfl, hdone, hb⟩ := hrel
    clear hb0
    by_cases hlt : k < ls.length
    · obtain ⟨b, off, rfl, hSb, hc⟩ := (hp.below hb hS).2 (by omega)
      obtain ⟨A', c', hcell⟩ := hc k hlt
      have hlt' : (k : Int) < (ls.length : Int) := by omega
      have hbl := Nat.lt_of_lt_of_le (hS b hSb) hb.size
      clear hc
      by_cases hge : getn ls k = 0
      · rw [hge] at hcell
        go_wp2_with fail
        go_roundw
        case rel => exact ⟨k + 1, by omega, by go_num, hide (fun j hj => by
          rcases Nat.lt_succ_iff_lt_or_eq.1 hj with h | rfl
          · exact hdone.out j h
          · exact hge), hb.alloc hb.size _⟩
        case measure => simp [intOf]; omega
      · have hE := hide (show emptyB ls = false from allB_no hlt (by simpa using hge))
        have hlt2 : (0 : Int) < (getn ls k : Int) := by omega
        go_wp2_with fail
        go_ret
        exact ⟨ret_bool hE.out.symm, hb.alloc hb.size _⟩
    · obtain rfl : k = ls.length := by omega
      have hE := hide (show emptyB ls = true from allB_yes (fun j hj => by simpa using hdone.out j hj))
      go_wp2_with fail
      go_ret
      exact ⟨ret_bool hE.out.symm, hb⟩

end Go.Proofs.Ytfkaacfeikmabaa

namespace Go.Proofs.Ytfkaacfeikmabaa
open Go.RowKit

theorem com4 {w : World} {g : Nat} {a b c d : Value} (h : Blk w g 135 #[a, b, c, d]) : w.cell? ⟨g, 0, none⟩ = some a ∧ w.cell? ⟨g, 1, none⟩ = some b ∧ w.cell? ⟨g, 2, none⟩ = some c ∧ w.cell? ⟨g, 3, none⟩ = some d := ⟨h.cell 0, h.cell 1, h.cell 2, h.cell 3⟩

structure CoRd (T U b b2 : Nat) (i1 i2 : Nat) (v0 v1 v2 v3 t p f : Value) (w : World) : Prop where
  box : Blk w T 135 #[v0, v1, v2, v3]
  thr : Blk w U 99 #[t]
  pc : w.cell? ⟨b, i1, none⟩ = some p ∧ b < w.heap.size
  fl : w.cell? ⟨b2, i2, none⟩ = some f ∧ b2 < w.heap.size
section
variable {T U b b2 i1 i2 : Nat} {v0 v1 v2 v3 t p f : Value} {w w' : World}
theorem CoRd.next (h : CoRd T U b b2 i1 i2 v0 v1 v2 v3 t p f w) (hb : Below w.heap.size w w') : CoRd T U b b2 i1 i2 v0 v1 v2 v3 t p f w' :=
  ⟨h.box.below hb h.box.lt, h.thr.below hb h.thr.lt, ⟨(hb.cell (p := ⟨b, i1, none⟩) h.pc.2).trans h.pc.1, Nat.lt_of_lt_of_le h.pc.2 hb.size⟩, ⟨(hb.cell (p := ⟨b2, i2, none⟩) h.fl.2).trans h.fl.1, Nat.lt_of_lt_of_le h.fl.2 hb.size⟩⟩
theorem CoRd.cells (h : CoRd T U b b2 i1 i2 v0 v1 v2 v3 t p f w) : w.cell? ⟨T, 2, none⟩ = some v2 ∧ w.cell? ⟨T, 3, none⟩ = some v3 ∧ w.cell? ⟨U, 0, none⟩ = some t ∧ w.cell? ⟨b, i1, none⟩ = some p ∧ w.cell? ⟨b2, i2, none⟩ = some f :=
  ⟨h.box.cell 2, h.box.cell 3, h.thr.cell 0, h.pc.1, h.fl.1⟩
end

theorem buf6 {w : World} {g : Nat} {a b c d e f : Value} (h : Blk w g 141 #[a, b, c, d, e, f]) : w.cell? ⟨g, 0, none⟩ = some a ∧ w.cell? ⟨g, 1, none⟩ = some b ∧ w.cell? ⟨g, 2, none⟩ = some c ∧ w.cell? ⟨g, 3, none⟩ = some d ∧ w.cell? ⟨g, 4, none⟩ = some e ∧ w.cell? ⟨g, 5, none⟩ = some f := ⟨h.cell 0, h.cell 1, h.cell 2, h.cell 3, h.cell 4, h.cell 5⟩
theorem LensAt.more {w : World} {S S' : Nat → Prop} {A : Option Addr} {ls : List Nat} (h : LensAt w S A ls) (hS : ∀ b, S b → S' b) : LensAt w S' A ls :=
  ⟨h.1, fun hn => by
    obtain ⟨b, off, e, hSb, hc⟩ := h.2 hn
    exact ⟨b, off, e, hS b hSb, hc⟩⟩
theorem emptyB_yes {lb : List Nat} (h : ∀ k, k < lb.length → getn lb k = 0) : emptyB lb = true := allB_yes (fun j hj => by simpa using h j hj)
end Go.Proofs.Ytfkaacfeikmabaa

namespace Go.Proofs.Ytfkaacfeikmabaa
open Go.RowKit
def RowsAt (w : World) (S : Nat → Prop) (A : Option Addr) (src : List RowD) : Prop :=
  src.length ≤ 1048576 ∧ (0 < src.length → ∃ b off, A = some ⟨b, off, none⟩ ∧ S b ∧ ∀ k, k < src.length → ∃ A' c', w.cell? ⟨b, off + k, none⟩ = some (.slice A' (getr src k).n c') ∧ IntsAt w S A' (getr src k).zs)
theorem RowsAt.below {w w' : World} {S : Nat → Prop} {B : Nat} {A : Option Addr} {src : List RowD} (h : RowsAt w S A src) (hb : Below B w w') (hS : ∀ b, S b → b < B) : RowsAt w' S A src :=
  ⟨h.1, fun hn => by
    obtain ⟨b, off, e, hSb, hc⟩ := h.2 hn
    refine ⟨b, off, e, hSb, fun k hk => ?_⟩
    obtain ⟨A', c', h1, h2⟩ := hc k hk
    exact ⟨A', c', (hb.cell (p := ⟨b, off + k, none⟩) (hS b hSb)).trans h1, h2.below hb hS⟩⟩
structure RowCells (et : TypeId) (w : World) (B : Nat) (cs : Array Value) (src : List RowD) (f : Nat → RowD) (k : Nat) : Prop where
  cells : ∀ j, j < k → cs[j]? = some (.slice (f j).A (f j).n (f j).c)
  rows : ∀ j, j < k → (f j).at_ et w
  same : ∀ j, j < k → (getr src j).n = (f j).n ∧ (getr src j).zs = (f j).zs
  up : ∀ i j, i < j → j < k → (f i).hi ≤ (f j).lo
  rng : ∀ j, j < k → B ≤ (f j).lo ∧ (f j).hi ≤ w.heap.size
theorem getr_map (f : Nat → RowD) (n k : Nat) (hk : k < n) : getr ((List.range n).map f) k = f k := by
  unfold getr
  rw [List.getD_eq_getElem?_getD, List.getElem?_map, List.getElem?_range hk]
  rfl
theorem RowCells.own {t et : TypeId} {w : World} {lo q : Nat} {cs : Array Value} {src : List RowD} {f : Nat → RowD} (h : RowCells et w (q + 1) cs src f src.length) (hb : Blk w q t cs) (hs : cs.size = src.length) (hl : lo ≤ q) :
    RowsOwn t et w lo w.heap.size q ((List.range src.length).map f) ∧ SameRows src ((List.range src.length).map f) := by
  have e : ((List.range src.length).map f).length = src.length := by simp
  refine ⟨⟨⟨cs, hb, by rw [e, hs]; exact Nat.le_refl _, fun k hk => ?_⟩, fun k hk => ?_, fun i j hij hj => ?_, ⟨⟨hl, hb.lt⟩, fun k hk => ?_⟩⟩, e.symm, fun k hk => ?_⟩
  · rw [e] at hk; rw [getr_map f _ k hk]; exact h.cells k hk
  · rw [e] at hk; rw [getr_map f _ k hk]; exact h.rows k hk
  · rw [e] at hj; rw [getr_map f _ i (by omega), getr_map f _ j hj]; exact h.up i j hij hj
  · rw [e] at hk; rw [getr_map f _ k hk]; have := h.rng k hk; exact ⟨by omega, this.2⟩
  · rw [getr_map f _ k hk]; exact h.same k hk


def getl (ls : List Nat) (k : Nat) : Nat := ls.getD k 0
def HeadsAt (w : World) (S : Nat → Prop) (A : Option Addr) (ls : List Nat) : Prop :=
  ls.length ≤ 9223372036854775807 ∧ (0 < ls.length → ∃ b off, A = some ⟨b, off, none⟩ ∧ S b ∧ ∀ k, k < ls.length → ∃ A' c', w.cell? ⟨b, off + k, none⟩ = some (.slice A' (getl ls k) c') ∧ getl ls k ≤ 9223372036854775807)
theorem HeadsAt.below {w w' : World} {S : Nat → Prop} {B : Nat} {A : Option Addr} {ls : List Nat} (h : HeadsAt w S A ls) (hb : Below B w w') (hS : ∀ b, S b → b < B) : HeadsAt w' S A ls :=
  ⟨h.1, fun hn => by
    obtain ⟨b, off, e, hSb, hc⟩ := h.2 hn
    refine ⟨b, off, e, hSb, fun k hk => ?_⟩
    obtain ⟨A', c', h1, h2⟩ := hc k hk
    exact ⟨A', c', (hb.cell (p := ⟨b, off + k, none⟩) (hS b hSb)).trans h1, h2⟩⟩
theorem HeadsAt.more {w : World} {S S' : Nat → Prop} {A : Option Addr} {ls : List Nat} (h : HeadsAt w S A ls) (hS : ∀ b, S b → S' b) : HeadsAt w S' A ls :=
  ⟨h.1, fun hn => by
    obtain ⟨b, off, e, hSb, hc⟩ := h.2 hn
    exact ⟨b, off, e, hS b hSb, hc⟩⟩
def headSize (ls : List Nat) : Nat := ls.length + ls.sum

end Go.Proofs.Ytfkaacfeikmabaa
