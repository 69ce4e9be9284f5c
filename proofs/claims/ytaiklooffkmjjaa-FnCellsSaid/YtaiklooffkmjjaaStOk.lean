/- Whether all threads have ended; how many cells and threads. · kindOf of a state of KdBuf; whether nothing waits; whether it has no views. · commonOk of what is right; bufsOk of empty buffers. · bufsOk of empty buffers. · StateOk of a state of KdBuf whose buffers are empty: yes. · Done of a state of KdBuf whose buffers are empty. -/
import Derived.Test.YtaiklooffkmjjaaCore
import Derived.Test.YtaiklooffkmjjaaRows
import Derived.BigQuiet
import Derived.Deep.QuietTactic
import Derived.Test.YtaiklooffkmjjaaQLeaf
import Derived.Deep.RegionHeld3
import Derived.Deep.DeepCutAuto
import Derived.Test.YtaiklooffkmjjaaIPok
namespace Go.Proofs.Ytaiklooffkmjjaa
open Go.RowKit

set_option maxHeartbeats 800000 in
theorem comCells_any (A1 A2 A3 A4 : Option Addr) (n1 n2 n3 n4 c1 c2 c3 c4 : Nat) (w : World) :
    Calls Try.prog 78 #[.agg #[.slice A1 n1 c1, .slice A2 n2 c2, .slice A3 n3 c3, .slice A4 n4 c4]] w fun e w' => e = .returned (.int .i64 n1) ∧ Below w.heap.size w w' := by
  go_enter Try.func78, Try.ntmps78
  go_wp2_with fail
  go_ret
  exact ⟨rfl, below1 _ _⟩
set_option maxHeartbeats 800000 in
theorem comThreads_any (A1 A2 A3 A4 : Option Addr) (n1 n2 n3 n4 c1 c2 c3 c4 : Nat) (w : World) :
    Calls Try.prog 99 #[.agg #[.slice A1 n1 c1, .slice A2 n2 c2, .slice A3 n3 c3, .slice A4 n4 c4]] w fun e w' => e = .returned (.int .i64 n2) ∧ Below w.heap.size w w' := by
  go_enter Try.func99, Try.ntmps99
  go_wp2_with fail
  go_ret
  exact ⟨rfl, below1 _ _⟩

/-- Has every thread ended? -/
def endedB (ts : List (List InsD)) (pcs : List Int) : Bool := allB (fun k => decide (((gett ts k).length : Int) ≤ geti pcs k)) ts.length

set_option maxRecDepth 100000 in
set_option maxHeartbeats 3200000 in
theorem ended_any (A1 A2 A3 A4 : Option Addr) (n1 n4 c1 c2 c3 c4 : Nat) (ts : List (List InsD)) (pcs : List Int) (S : Nat → Prop) (w : World) (hl : pcs.length = ts.length) (hS : ∀ b, S b → b < w.heap.size) (ht : ThreadsAt w S A2 ts) (hp : IntsAt w S A3 pcs) :
    Calls Try.prog 84 #[.agg #[.slice A1 n1 c1, .slice A2 ts.length c2, .slice A3 ts.length c3, .slice A4 n4 c4]] w fun e w' => e = .returned (.bool (endedB ts pcs)) ∧ Below w.heap.size w w' := by
  have hn := ht.1
  have K0 := hide (Blk.new w 105 #[.slice A1 n1 c1, .slice A2 ts.length c2, .slice A3 ts.length c3, .slice A4 n4 c4])
  have hb0 := below1 w (Obj.cells #[.slice A1 n1 c1, .slice A2 ts.length c2, .slice A3 ts.length c3, .slice A4 n4 c4] 105)
  go_enter Try.func84, Try.ntmps84
  go_wp2_with fail
  go_loopw [9] (fun i wr => ∃ (k : Nat), k ≤ ts.length ∧ i = .int .i64 k ∧ Hid (∀ j, j < k → ((gett ts j).length : Int) ≤ geti pcs j) ∧ Hid (Blk wr w.heap.size 105 #[.slice A1 n1 c1, .slice A2 ts.length c2, .slice A3 ts.length c3, .slice A4 n4 c4]) ∧ Below w.heap.size w wr) (fun i _ => ts.length - (intOf i).toNat)
  case atStart => exact ⟨0, Nat.zero_le _, rfl, hide (fun j hj => by omega), K0, hb0⟩
  case round =>
    obtain ⟨k, hk, rfl, hdone, K, hb⟩ := hrel
    clear K0 hb0
    by_cases hlt : k < ts.length
    · obtain ⟨b, off, rfl, hSb, hc⟩ := (ht.below hb hS).2 (by omega)
      obtain ⟨A', c', hcell, _, _⟩ := hc k hlt
      obtain ⟨b2, off2, rfl, hSb2, hc2⟩ := (hp.below hb hS).2 (by omega)
      have hcell2 := hc2 k (by omega)
      have hlt' : (k : Int) < (ts.length : Int) := by omega
      have hbl := Nat.lt_of_lt_of_le (hS b hSb) hb.size
      have hbl2 := Nat.lt_of_lt_of_le (hS b2 hSb2) hb.size
      have k2 := K.out.cell 2
      simp only [List.getElem?_toArray, List.getElem?_cons_zero, List.getElem?_cons_succ] at k2
      have hlK := K.out.lt
      clear hc hc2
      by_cases hge : ((gett ts k).length : Int) ≤ geti pcs k
      · go_wp2_with fail
        go_quiet (fail)
        go_wp2_with fail
        go_roundw
        case rel => exact ⟨k + 1, by omega, by go_num, hide (fun j hj => by
          rcases Nat.lt_succ_iff_lt_or_eq.1 hj with h | rfl
          · exact hdone.out j h
          · exact hge), hide (K.out.alloc _), below_drewN (hb.alloc hb.size _) _⟩
        case measure => simp [intOf]; omega
      · have hE := hide (show endedB ts pcs = false from allB_no hlt (by simpa using hge))
        have hlt2 : geti pcs k < ((gett ts k).length : Int) := by omega
        go_wp2_with fail
        go_quiet (fail)
        go_wp2_with fail
        go_ret
        exact ⟨ret_bool hE.out.symm, below_drewN (hb.alloc hb.size _) _⟩
    · obtain rfl : k = ts.length := by omega
      have hE := hide (show endedB ts pcs = true from allB_yes (fun j hj => by simpa using hdone.out j hj))
      go_wp2_with fail
      go_ret
      exact ⟨ret_bool hE.out.symm, hb⟩
end Go.Proofs.Ytaiklooffkmjjaa

namespace Go.Proofs.Ytaiklooffkmjjaa
open Go.RowKit

def getn (ls : List Nat) (k : Nat) : Nat := ls.getD k 0
/-- A row of slices in a block of S, of those lengths. -/
def LensAt (w : World) (S : Nat → Prop) (A : Option Addr) (ls : List Nat) : Prop :=
  ls.length ≤ 9223372036854775807 ∧ (0 < ls.length → ∃ b off, A = some ⟨b, off, none⟩ ∧ S b ∧ ∀ k, k < ls.length → ∃ A' c', w.cell? ⟨b, off + k, none⟩ = some (.slice A' (getn ls k) c'))
theorem LensAt.below {w w' : World} {S : Nat → Prop} {B : Nat} {A : Option Addr} {ls : List Nat} (h : LensAt w S A ls) (hb : Below B w w') (hS : ∀ b, S b → b < B) : LensAt w' S A ls :=
  ⟨h.1, fun hn => by
    obtain ⟨b, off, e, hSb, hc⟩ := h.2 hn
    refine ⟨b, off, e, hSb, fun k hk => ?_⟩
    obtain ⟨A', c', h1⟩ := hc k hk
    exact ⟨A', c', (hb.cell (p := ⟨b, off + k, none⟩) (hS b hSb)).trans h1⟩⟩
def emptyB (ls : List Nat) : Bool := allB (fun k => decide (getn ls k = 0)) ls.length

set_option maxRecDepth 100000 in
set_option maxHeartbeats 3200000 in
theorem nothing_any (A1 A2 A3 A4 A5 A6 : Option Addr) (n1 n2 n3 n4 n5 c1 c2 c3 c4 c5 c6 : Nat) (ls : List Nat) (S : Nat → Prop) (w : World) (hS : ∀ b, S b → b < w.heap.size) (hp : LensAt w S A6 ls) :
    Calls Try.prog 85 #[.agg #[.slice A1 n1 c1, .slice A2 n2 c2, .slice A3 n3 c3, .slice A4 n4 c4, .slice A5 n5 c5, .slice A6 ls.length c6]] w fun e w' => e = .returned (.bool (emptyB ls)) ∧ Below w.heap.size w w' := by
  have hn := hp.1
  have hb0 := below1 w (Obj.cells #[.slice A1 n1 c1, .slice A2 n2 c2, .slice A3 n3 c3, .slice A4 n4 c4, .slice A5 n5 c5, .slice A6 ls.length c6] 109)
  go_enter Try.func85, Try.ntmps85
  go_wp2_with fail
  go_loopw [8] (fun i wr => ∃ (k : Nat), k ≤ ls.length ∧ i = .int .i64 k ∧ Hid (∀ j, j < k → getn ls j = 0) ∧ Below w.heap.size w wr) (fun i _ => ls.length - (intOf i).toNat)
  case atStart => exact ⟨0, Nat.zero_le _, rfl, hide (fun j hj => by omega), hb0⟩
  case round =>
    obtain ⟨k, hk, rfl, hdone, hb⟩ := hrel
    clear hb0
    by_cases hlt : k < ls.length
    · obtain ⟨b, off, rfl, hSb, hc⟩ := (hp.below hb hS).2 (by omega)
      obtain ⟨A', c', hcell⟩ := hc k hlt
      have hlt' : (k : Int) < (ls.length : Int) := by omega
      have hbl := Nat.lt_of_lt_of_le (hS b hSb) hb.size
      clear hc
      by_cases hge : getn ls k = 0
      · rw [hge] at hcell
        go_wp2_with fail
        go_roundw
        case rel => exact ⟨k + 1, by omega, by go_num, hide (fun j hj => by
          rcases Nat.lt_succ_iff_lt_or_eq.1 hj with h | rfl
          · exact hdone.out j h
          · exact hge), hb.alloc hb.size _⟩
        case measure => simp [intOf]; omega
      · have hE := hide (show emptyB ls = false from allB_no hlt (by simpa using hge))
        have hlt2 : (0 : Int) < (getn ls k : Int) := by omega
        go_wp2_with fail
        go_ret
        exact ⟨ret_bool hE.out.symm, hb.alloc hb.size _⟩
    · obtain rfl : k = ls.length := by omega
      have hE := hide (show emptyB ls = true from allB_yes (fun j hj => by simpa using hdone.out j hj))
      go_wp2_with fail
      go_ret
      exact ⟨ret_bool hE.out.symm, hb⟩

set_option maxRecDepth 100000 in
set_option maxHeartbeats 1600000 in
theorem kindOf_buf (A1 A2 A3 A4 A5 A6 A7 A8 A9 : Option Addr) (n1 n2 n3 n4 n5 n6 n7 n8 n9 c1 c2 c3 c4 c5 c6 c7 c8 c9 : Nat) (nx : Int) (w : World) :
    Calls Try.prog 76 #[.agg #[.slice A1 n1 c1, .slice A2 n2 c2], .agg #[.int .i64 1, .slice A3 n3 c3, .slice A4 n4 c4, .slice A5 n5 c5, .slice A6 n6 c6, .slice A7 n7 c7, .slice A8 n8 c8, .slice A9 n9 c9, .int .i64 nx]] w fun e w' => e = .returned (.iface 109 (.agg #[.slice A1 n1 c1, .slice A2 n2 c2, .slice A3 n3 c3, .slice A4 n4 c4, .slice A5 n5 c5, .slice A6 n6 c6])) ∧ Below w.heap.size w w' := by
  go_enter Try.func76, Try.ntmps76
  go_wp2_with fail
  go_ret
  exact ⟨rfl, (below2 _ _ _).alloc (by simp; omega) _⟩

set_option maxRecDepth 100000 in
set_option maxHeartbeats 1600000 in
theorem noViews_nil (A3 A4 A5 A6 : Option Addr) (n3 n4 n5 n6 c3 c4 c5 c6 : Nat) (k : Int) (w : World) :
    Calls Try.prog 80 #[.agg #[.int .i64 k, .slice A3 n3 c3, .slice A4 n4 c4, .slice A5 n5 c5, .slice A6 n6 c6, .slice none 0 0, .slice none 0 0, .slice none 0 0, .int .i64 0]] w fun e w' => e = .returned (.bool true) ∧ Below w.heap.size w w' := by
  go_enter Try.func80, Try.ntmps80
  go_wp2_with fail
  go_ret
  exact ⟨rfl, below1 _ _⟩
end Go.Proofs.Ytaiklooffkmjjaa

namespace Go.Proofs.Ytaiklooffkmjjaa
open Go.RowKit

theorem com4 {w : World} {g : Nat} {a b c d : Value} (h : Blk w g 105 #[a, b, c, d]) : w.cell? ⟨g, 0, none⟩ = some a ∧ w.cell? ⟨g, 1, none⟩ = some b ∧ w.cell? ⟨g, 2, none⟩ = some c ∧ w.cell? ⟨g, 3, none⟩ = some d := ⟨h.cell 0, h.cell 1, h.cell 2, h.cell 3⟩

/-- What one round of commonOk reads. -/
structure CoRd (T U b b2 : Nat) (i1 i2 : Nat) (v0 v1 v2 v3 t p f : Value) (w : World) : Prop where
  box : Blk w T 105 #[v0, v1, v2, v3]
  thr : Blk w U 69 #[t]
  pc : w.cell? ⟨b, i1, none⟩ = some p ∧ b < w.heap.size
  fl : w.cell? ⟨b2, i2, none⟩ = some f ∧ b2 < w.heap.size
section
variable {T U b b2 i1 i2 : Nat} {v0 v1 v2 v3 t p f : Value} {w w' : World}
theorem CoRd.next (h : CoRd T U b b2 i1 i2 v0 v1 v2 v3 t p f w) (hb : Below w.heap.size w w') : CoRd T U b b2 i1 i2 v0 v1 v2 v3 t p f w' :=
  ⟨h.box.below hb h.box.lt, h.thr.below hb h.thr.lt, ⟨(hb.cell (p := ⟨b, i1, none⟩) h.pc.2).trans h.pc.1, Nat.lt_of_lt_of_le h.pc.2 hb.size⟩, ⟨(hb.cell (p := ⟨b2, i2, none⟩) h.fl.2).trans h.fl.1, Nat.lt_of_lt_of_le h.fl.2 hb.size⟩⟩
theorem CoRd.cells (h : CoRd T U b b2 i1 i2 v0 v1 v2 v3 t p f w) : w.cell? ⟨T, 2, none⟩ = some v2 ∧ w.cell? ⟨T, 3, none⟩ = some v3 ∧ w.cell? ⟨U, 0, none⟩ = some t ∧ w.cell? ⟨b, i1, none⟩ = some p ∧ w.cell? ⟨b2, i2, none⟩ = some f :=
  ⟨h.box.cell 2, h.box.cell 3, h.thr.cell 0, h.pc.1, h.fl.1⟩
end

set_option maxRecDepth 100000 in
set_option maxHeartbeats 6400000 in
theorem commonOk_yes (A1 A2 A3 A4 : Option Addr) (n1 c1 c2 c3 c4 : Nat) (ts : List (List InsD)) (pcs : List Int) (ls : List Nat) (S : Nat → Prop) (w : World) (hl : pcs.length = ts.length) (hl2 : ls.length = ts.length)
    (h6 : ∀ k, k < ts.length → getn ls k = 6) (hpc : ∀ k, k < ts.length → 0 ≤ geti pcs k ∧ geti pcs k ≤ (gett ts k).length) (hS : ∀ b, S b → b < w.heap.size) (ht : ThreadsAt w S A2 ts) (hp : IntsAt w S A3 pcs) (hf : LensAt w S A4 ls) :
    Calls Try.prog 77 #[.agg #[.slice A1 n1 c1, .slice A2 ts.length c2, .slice A3 ts.length c3, .slice A4 ts.length c4]] w fun e w' => e = .returned (.bool true) ∧ Below w.heap.size w w' := by
  have hn := ht.1
  have h6 := hide h6
  have hpc := hide hpc
  have hp := hide hp
  have hf := hide hf
  have ht := hide ht
  have K0 := hide (Blk.new w 105 #[.slice A1 n1 c1, .slice A2 ts.length c2, .slice A3 ts.length c3, .slice A4 ts.length c4])
  have hb0 := hide (below1 w (Obj.cells #[.slice A1 n1 c1, .slice A2 ts.length c2, .slice A3 ts.length c3, .slice A4 ts.length c4] 105))
  go_enter Try.func77, Try.ntmps77
  go_wp2_with fail
  go_cut [18] (fun s18 wx => s18 = .bool false ∧ Blk wx w.heap.size 105 #[.slice A1 n1 c1, .slice A2 ts.length c2, .slice A3 ts.length c3, .slice A4 ts.length c4] ∧ Below w.heap.size w wx)
  case first =>
    obtain ⟨wq, hwq⟩ : ∃ wq, wq = w.alloc (Obj.cells #[.slice A1 n1 c1, .slice A2 ts.length c2, .slice A3 ts.length c3, .slice A4 ts.length c4] 105) := ⟨_, rfl⟩
    rw [← hwq] at K0 hb0 ⊢
    clear hwq
    have H0 : Hid (Blk wq.drew w.heap.size 105 #[.slice A1 n1 c1, .slice A2 ts.length c2, .slice A3 ts.length c3, .slice A4 ts.length c4]) := K0.out
    replace hb0 := hide hb0.out.drew
    go_region_held3 (fun w' => w'.cell? ⟨w.heap.size, 0, none⟩ = some (.slice A1 n1 c1) ∧ w'.cell? ⟨w.heap.size, 1, none⟩ = some (.slice A2 ts.length c2) ∧ w'.cell? ⟨w.heap.size, 2, none⟩ = some (.slice A3 ts.length c3) ∧ w'.cell? ⟨w.heap.size, 3, none⟩ = some (.slice A4 ts.length c4))
      (first | exact com4 H0.out | exact com4 K0.out | exact com4 H1.out | exact com4 H2.out)
      (first
      | (go_at_call 99; have hh := H1; refine (comThreads_any _ _ _ _ _ _ _ _ _ _ _ _ _).mono ?_; rintro e w2 ⟨rfl, hb2⟩; have H2 := hide (H1.out.below hb2 H1.out.lt); have B2 := hide (below_then B1.out hb2))
      | (go_at_call 99; refine (comThreads_any _ _ _ _ _ _ _ _ _ _ _ _ _).mono ?_; rintro e w1 ⟨rfl, hb1⟩; have H1 := hide (H0.out.below hb1 H0.out.lt); have B1 := hide (below_then hb0.out hb1)))
    all_goals
      go_wp2_with fail
      go_meet
      exact ⟨rfl, H2.out, B2.out⟩
  case rest =>
    obtain ⟨rfl, K, hb⟩ := hcut
    obtain ⟨w3, rfl⟩ : ∃ w3 : World, w3 = wc := ⟨_, rfl⟩
    clear K0 hb0
    obtain ⟨-, k1, -, -⟩ := com4 K
    have hlK := K.lt
    have K := hide K
    go_wp2_with fail
    go_loopw [23] (fun i wr => ∃ (k : Nat), k ≤ ts.length ∧ i = .int .i64 k ∧ Hid (Blk wr w.heap.size 105 #[.slice A1 n1 c1, .slice A2 ts.length c2, .slice A3 ts.length c3, .slice A4 ts.length c4]) ∧ Below w.heap.size w wr) (fun i _ => ts.length - (intOf i).toNat)
    case atStart => exact ⟨0, Nat.zero_le _, rfl, K, hb⟩
    case round =>
      obtain ⟨k, hk, rfl, K5, hb5⟩ := hrel
      clear K hb k1
      by_cases hlt : k < ts.length
      · obtain ⟨b, off, rfl, hSb, hc⟩ := (ht.out.below hb5 hS).2 (by omega)
        obtain ⟨A', c', hcell, _, _⟩ := hc k hlt
        obtain ⟨b2, off2, rfl, hSb2, hc2⟩ := (hp.out.below hb5 hS).2 (by omega)
        have hcell2 := hc2 k (by omega)
        obtain ⟨b3, off3, rfl, hSb3, hc3⟩ := (hf.out.below hb5 hS).2 (by omega)
        obtain ⟨A'', c'', hcell3⟩ := hc3 k (by omega)
        rw [h6.out k hlt] at hcell3
        obtain ⟨hpc0, hpc1⟩ := hpc.out k hlt
        have hlt' : (k : Int) < (ts.length : Int) := by omega
        have hbl := Nat.lt_of_lt_of_le (hS b hSb) hb5.size
        have hR := hide (show CoRd w.heap.size wr.heap.size b2 b3 (off2 + k) (off3 + k) (.slice A1 n1 c1) (.slice (some ⟨b, off, none⟩) ts.length c2) (.slice (some ⟨b2, off2, none⟩) ts.length c3) (.slice (some ⟨b3, off3, none⟩) ts.length c4) (.slice A' (gett ts k).length c') (.int .i64 (geti pcs k)) (.slice A'' 6 c'') (wr.alloc (Obj.cells #[.slice A' (gett ts k).length c'] 69)) from
          ⟨K5.out.alloc _, Blk.new _ _ _, ⟨((below1 wr _).cell (p := ⟨b2, off2 + k, none⟩) (Nat.lt_of_lt_of_le (hS b2 hSb2) hb5.size)).trans hcell2, by simp only [World.size_alloc]; have := Nat.lt_of_lt_of_le (hS b2 hSb2) hb5.size; omega⟩, ⟨((below1 wr _).cell (p := ⟨b3, off3 + k, none⟩) (Nat.lt_of_lt_of_le (hS b3 hSb3) hb5.size)).trans hcell3, by simp only [World.size_alloc]; have := Nat.lt_of_lt_of_le (hS b3 hSb3) hb5.size; omega⟩⟩)
        have hb6 := hide (hb5.alloc hb5.size (Obj.cells #[.slice A' (gett ts k).length c'] 69))
        clear hc hc2 hc3 hcell2 hcell3
        go_wp2_with fail
        obtain ⟨wq, hwq⟩ : ∃ wq, wq = wr.alloc (Obj.cells #[.slice A' (gett ts k).length c'] 69) := ⟨_, rfl⟩
        rw [← hwq] at hR hb6 ⊢
        clear hwq
        go_cut [53] (fun s53 wx => s53 = .bool false ∧ Blk wx w.heap.size 105 #[.slice A1 n1 c1, .slice (some ⟨b, off, none⟩) ts.length c2, .slice (some ⟨b2, off2, none⟩) ts.length c3, .slice (some ⟨b3, off3, none⟩) ts.length c4] ∧ Below w.heap.size w wx)
        case first =>
          have hRd := hide (hR.out.next (Below.refl _ _).drew)
          have hb7 := hide hb6.out.drew
          have hd1 : decide (geti pcs k < 0) = false := by simp; omega
          have hd2 : decide (((gett ts k).length : Int) < geti pcs k) = false := by simp; omega
          generalize wr.heap.size = U at *
          go_region_held3 (fun w' => w'.cell? ⟨w.heap.size, 2, none⟩ = some (.slice (some ⟨b2, off2, none⟩) ts.length c3) ∧ w'.cell? ⟨w.heap.size, 3, none⟩ = some (.slice (some ⟨b3, off3, none⟩) ts.length c4) ∧ w'.cell? ⟨U, 0, none⟩ = some (.slice A' (gett ts k).length c') ∧ w'.cell? ⟨b2, off2 + k, none⟩ = some (.int .i64 (geti pcs k)) ∧ w'.cell? ⟨b3, off3 + k, none⟩ = some (.slice A'' 6 c''))
            (first | exact hR.out.cells | exact hRd.out.cells | exact hR1.out.cells)
            (first
            | (go_at_call 38; refine (fileOk_any _ _ _ _).mono ?_; rintro e w8 ⟨rfl, hb8⟩; have hR1 := hide (hRd.out.next hb8); have B8 := hide (below_then hb7.out hb8)))
          all_goals
            go_wp2_with fail
            go_meet
            exact ⟨rfl, hR1.out.box, B8.out⟩
        case rest =>
          obtain ⟨rfl, K9, hb9⟩ := hcut
          go_wp2_with fail
          go_roundw
          case rel => exact ⟨k + 1, by omega, by go_num, hide K9, hb9⟩
          case measure => simp [intOf]; omega
      · obtain rfl : k = ts.length := by omega
        go_wp2_with fail
        go_ret
        exact ⟨rfl, hb5⟩
end Go.Proofs.Ytaiklooffkmjjaa

namespace Go.Proofs.Ytaiklooffkmjjaa
open Go.RowKit

theorem buf6 {w : World} {g : Nat} {a b c d e f : Value} (h : Blk w g 109 #[a, b, c, d, e, f]) : w.cell? ⟨g, 0, none⟩ = some a ∧ w.cell? ⟨g, 1, none⟩ = some b ∧ w.cell? ⟨g, 2, none⟩ = some c ∧ w.cell? ⟨g, 3, none⟩ = some d ∧ w.cell? ⟨g, 4, none⟩ = some e ∧ w.cell? ⟨g, 5, none⟩ = some f := ⟨h.cell 0, h.cell 1, h.cell 2, h.cell 3, h.cell 4, h.cell 5⟩

set_option maxRecDepth 100000 in
set_option maxHeartbeats 6400000 in
theorem bufsOk_nil (A1 A2 A3 A4 A5 A6 : Option Addr) (n1 n3 n4 n5 c1 c2 c3 c4 c5 c6 : Nat) (ls : List Nat) (S : Nat → Prop) (w : World) (h0 : ∀ k, k < ls.length → getn ls k = 0) (hS : ∀ b, S b → b < w.heap.size) (hp : LensAt w S A6 ls) :
    Calls Try.prog 81 #[.agg #[.slice A1 n1 c1, .slice A2 ls.length c2, .slice A3 n3 c3, .slice A4 n4 c4, .slice A5 n5 c5, .slice A6 ls.length c6]] w fun e w' => e = .returned (.bool true) ∧ Below w.heap.size w w' := by
  have hn := hp.1
  have hp := hide hp
  have h0 := hide h0
  have K0 := hide (Blk.new w 109 #[.slice A1 n1 c1, .slice A2 ls.length c2, .slice A3 n3 c3, .slice A4 n4 c4, .slice A5 n5 c5, .slice A6 ls.length c6])
  have hb0 := hide (below1 w (Obj.cells #[.slice A1 n1 c1, .slice A2 ls.length c2, .slice A3 n3 c3, .slice A4 n4 c4, .slice A5 n5 c5, .slice A6 ls.length c6] 109))
  go_enter Try.func81, Try.ntmps81
  go_wp2_with fail
  go_cut [13] (fun s13 wx => s13 = .bool false ∧ Blk wx w.heap.size 109 #[.slice A1 n1 c1, .slice A2 ls.length c2, .slice A3 n3 c3, .slice A4 n4 c4, .slice A5 n5 c5, .slice A6 ls.length c6] ∧ Below w.heap.size w wx)
  case first =>
    obtain ⟨wq, hwq⟩ : ∃ wq, wq = w.alloc (Obj.cells #[.slice A1 n1 c1, .slice A2 ls.length c2, .slice A3 n3 c3, .slice A4 n4 c4, .slice A5 n5 c5, .slice A6 ls.length c6] 109) := ⟨_, rfl⟩
    rw [← hwq] at K0 hb0 ⊢
    clear hwq
    have H0 : Hid (Blk wq.drew w.heap.size 109 #[.slice A1 n1 c1, .slice A2 ls.length c2, .slice A3 n3 c3, .slice A4 n4 c4, .slice A5 n5 c5, .slice A6 ls.length c6]) := K0.out
    replace hb0 := hide hb0.out.drew
    go_region_held3 (fun w' => w'.cell? ⟨w.heap.size, 0, none⟩ = some (.slice A1 n1 c1) ∧ w'.cell? ⟨w.heap.size, 1, none⟩ = some (.slice A2 ls.length c2) ∧ w'.cell? ⟨w.heap.size, 2, none⟩ = some (.slice A3 n3 c3) ∧ w'.cell? ⟨w.heap.size, 3, none⟩ = some (.slice A4 n4 c4) ∧ w'.cell? ⟨w.heap.size, 4, none⟩ = some (.slice A5 n5 c5) ∧ w'.cell? ⟨w.heap.size, 5, none⟩ = some (.slice A6 ls.length c6))
      (first | exact buf6 H0.out | exact buf6 K0.out | exact buf6 H1.out)
      (first
      | (go_at_call 99; refine (comThreads_any _ _ _ _ _ _ _ _ _ _ _ _ _).mono ?_; rintro e w1 ⟨rfl, hb1⟩; have H1 := hide (H0.out.below hb1 H0.out.lt); have B1 := hide (below_then hb0.out hb1)))
    all_goals
      go_wp2_with fail
      go_meet
      exact ⟨rfl, H1.out, B1.out⟩
  case rest =>
    obtain ⟨rfl, K, hb⟩ := hcut
    clear K0 hb0
    have k5 : wc.cell? ⟨w.heap.size, 5, none⟩ = some (.slice A6 ls.length c6) := K.cell 5
    have hlK := K.lt
    have K := hide K
    go_wp2_with fail
    go_loopw [17] (fun i wr => ∃ (k : Nat), k ≤ ls.length ∧ i = .int .i64 k ∧ Below w.heap.size w wr) (fun i _ => ls.length - (intOf i).toNat)
    case atStart => exact ⟨0, Nat.zero_le _, rfl, hb⟩
    case round =>
      obtain ⟨k, hk, rfl, hb5⟩ := hrel
      clear K hb k5 hlK
      by_cases hlt : k < ls.length
      · obtain ⟨b, off, rfl, hSb, hc⟩ := (hp.out.below hb5 hS).2 (by omega)
        obtain ⟨A', c', hcell⟩ := hc k hlt
        rw [h0.out k hlt] at hcell
        have hlt' : (k : Int) < (ls.length : Int) := by omega
        have hbl := Nat.lt_of_lt_of_le (hS b hSb) hb5.size
        have hb6 := hide (hb5.alloc hb5.size (Obj.cells #[.slice A' 0 c'] 134))
        clear hc
        go_wp2_with fail
        go_loopw [28] (fun i wx => i = .int .i64 0 ∧ Below w.heap.size w wx) (fun _ _ => 0)
        case atStart => exact ⟨rfl, hb6.out⟩
        case round =>
          obtain ⟨rfl, hb7⟩ := hrel
          go_wp2_with fail
          go_roundw
          case rel => exact ⟨k + 1, by omega, by go_num, hb7⟩
          case measure => simp [intOf]; omega
      · obtain rfl : k = ls.length := by omega
        go_wp2_with fail
        go_ret
        exact ⟨rfl, hb5⟩
end Go.Proofs.Ytaiklooffkmjjaa

namespace Go.Proofs.Ytaiklooffkmjjaa
open Go.RowKit


/-- The box of the state and the box of its kind's type. -/
structure SoRd (g T : Nat) (a b c d e f : Value) (w : World) : Prop where
  box : Blk w g 77 #[.int .i64 1, c, d, e, f, .slice none 0 0, .slice none 0 0, .slice none 0 0, .int .i64 0]
  kd : Blk w T 109 #[a, b, c, d, e, f]
section
variable {w w' : World} {g T : Nat} {a b c d e f : Value}
theorem SoRd.next (h : SoRd g T a b c d e f w) (hb : Below w.heap.size w w') : SoRd g T a b c d e f w' := ⟨h.box.below hb h.box.lt, h.kd.below hb h.kd.lt⟩
theorem SoRd.drew (h : SoRd g T a b c d e f w) : SoRd g T a b c d e f w.drew := ⟨h.box, h.kd⟩
theorem SoRd.cells (h : SoRd g T a b c d e f w) : (w.cell? ⟨T, 0, none⟩ = some a ∧ w.cell? ⟨T, 1, none⟩ = some b ∧ w.cell? ⟨T, 2, none⟩ = some c ∧ w.cell? ⟨T, 3, none⟩ = some d ∧ w.cell? ⟨T, 4, none⟩ = some e ∧ w.cell? ⟨T, 5, none⟩ = some f) ∧ w.cell? ⟨g, 0, none⟩ = some (.int .i64 1) ∧ w.cell? ⟨g, 1, none⟩ = some c ∧ w.cell? ⟨g, 2, none⟩ = some d ∧ w.cell? ⟨g, 3, none⟩ = some e ∧ w.cell? ⟨g, 4, none⟩ = some f ∧ w.cell? ⟨g, 5, none⟩ = some (.slice none 0 0) ∧ w.cell? ⟨g, 6, none⟩ = some (.slice none 0 0) ∧ w.cell? ⟨g, 7, none⟩ = some (.slice none 0 0) ∧ w.cell? ⟨g, 8, none⟩ = some (.int .i64 0) :=
  ⟨⟨h.kd.cell 0, h.kd.cell 1, h.kd.cell 2, h.kd.cell 3, h.kd.cell 4, h.kd.cell 5⟩, h.box.cell 0, h.box.cell 1, h.box.cell 2, h.box.cell 3, h.box.cell 4, h.box.cell 5, h.box.cell 6, h.box.cell 7, h.box.cell 8⟩
end

set_option maxRecDepth 100000 in
set_option maxHeartbeats 6400000 in
theorem stateOk_buf (p : ProgD) (A1 A2 A3 A4 A5 A6 : Option Addr) (c1 c2 c3 c4 c5 c6 : Nat) (pcs : List Int) (ls lb : List Nat) (w : World) (hB : progB p = true) (hcc : p.init.length ≤ c1 ∧ p.ts.length ≤ c2) (hi : IntsAt w (Old w.heap.size) A1 p.init) (ht : ThreadsAt w (Old w.heap.size) A2 p.ts)
    (hl : pcs.length = p.ts.length) (hl2 : ls.length = p.ts.length) (hl3 : lb.length = p.ts.length) (h6 : ∀ k, k < p.ts.length → getn ls k = 6) (hpc : ∀ k, k < p.ts.length → 0 ≤ geti pcs k ∧ geti pcs k ≤ (gett p.ts k).length) (h0 : ∀ k, k < p.ts.length → getn lb k = 0)
    (hp : IntsAt w (Old w.heap.size) A3 pcs) (hf : LensAt w (Old w.heap.size) A4 ls) (hq : LensAt w (Old w.heap.size) A6 lb) :
    Calls Try.prog 44 #[.agg #[.slice A1 p.init.length c1, .slice A2 p.ts.length c2], .agg #[.int .i64 1, .slice A3 p.ts.length c3, .slice A4 p.ts.length c4, .slice A5 p.init.length c5, .slice A6 p.ts.length c6, .slice none 0 0, .slice none 0 0, .slice none 0 0, .int .i64 0]] w fun e w' => e = .returned (.bool true) ∧ Below w.heap.size w w' := by
  have t1 : ∀ w, (Instr.typeAssert (Value.iface 109 (.agg #[.slice A1 p.init.length c1, .slice A2 p.ts.length c2, .slice A3 p.ts.length c3, .slice A4 p.ts.length c4, .slice A5 p.init.length c5, .slice A6 p.ts.length c6])) 20 107 true).run Try.prog w = .ok (.tuple #[.agg #[.slice none 0 0, .slice none 0 0, .slice none 0 0, .slice none 0 0, .slice none 0 0], .bool false]) w := fun _ => by kernel_rfl
  have t2 : ∀ w, (Instr.typeAssert (Value.iface 109 (.agg #[.slice A1 p.init.length c1, .slice A2 p.ts.length c2, .slice A3 p.ts.length c3, .slice A4 p.ts.length c4, .slice A5 p.init.length c5, .slice A6 p.ts.length c6])) 20 109 true).run Try.prog w = .ok (.tuple #[.agg #[.slice A1 p.init.length c1, .slice A2 p.ts.length c2, .slice A3 p.ts.length c3, .slice A4 p.ts.length c4, .slice A5 p.init.length c5, .slice A6 p.ts.length c6], .bool true]) w := fun _ => by kernel_rfl
  have hb0 := below2 w (Obj.cells #[.slice A1 p.init.length c1, .slice A2 p.ts.length c2] 43) (Obj.cells #[Value.int IntKind.i64 1, Value.slice A3 p.ts.length c3, Value.slice A4 p.ts.length c4, Value.slice A5 p.init.length c5, Value.slice A6 p.ts.length c6, Value.slice none 0 0, Value.slice none 0 0, Value.slice none 0 0, Value.int IntKind.i64 0] 77)
  have G0 := (Blk.new w 43 #[.slice A1 p.init.length c1, .slice A2 p.ts.length c2]).alloc (Obj.cells #[Value.int IntKind.i64 1, Value.slice A3 p.ts.length c3, Value.slice A4 p.ts.length c4, Value.slice A5 p.init.length c5, Value.slice A6 p.ts.length c6, Value.slice none 0 0, Value.slice none 0 0, Value.slice none 0 0, Value.int IntKind.i64 0] 77)
  have K0 := Blk.new (w.alloc (Obj.cells #[.slice A1 p.init.length c1, .slice A2 p.ts.length c2] 43)) 77 #[Value.int IntKind.i64 1, Value.slice A3 p.ts.length c3, Value.slice A4 p.ts.length c4, Value.slice A5 p.init.length c5, Value.slice A6 p.ts.length c6, Value.slice none 0 0, Value.slice none 0 0, Value.slice none 0 0, Value.int IntKind.i64 0]
  simp only [World.size_alloc] at K0
  have hok := hide (progOk_any (.agg #[.slice A1 p.init.length c1, .slice A2 p.ts.length c2]) p (Old w.heap.size) _ (fun b h => Nat.lt_of_lt_of_le h hb0.size) ⟨A1, c1, A2, c2, rfl, hcc, hi.below hb0 (fun _ h => h), ht.below hb0 (fun _ h => h)⟩)
  have kc := hide (fun (wX : World) (hb : Below w.heap.size w wX) => commonOk_yes A1 A2 A3 A4 p.init.length c1 c2 c3 c4 p.ts pcs ls (Old w.heap.size) wX hl hl2 h6 hpc (fun b h => Nat.lt_of_lt_of_le h hb.size) (ht.below hb (fun _ h => h)) (hp.below hb (fun _ h => h)) (hf.below hb (fun _ h => h)))
  have kb := fun (wX : World) (hb : Below w.heap.size w wX) => bufsOk_nil A1 A2 A3 A4 A5 A6 p.init.length p.ts.length p.ts.length p.init.length c1 c2 c3 c4 c5 c6 lb (Old w.heap.size) wX (fun k hk => h0 k (by omega)) (fun b h => Nat.lt_of_lt_of_le h hb.size) (hq.below hb (fun _ h => h))
  rw [hl3] at kb
  replace kb := hide kb
  replace G0 := hide G0
  replace K0 := hide K0
  replace hb0 := hide hb0
  clear ht hi hp hf hq h6 hpc h0 hl hl2 hl3
  go_enter Try.func44, Try.ntmps44
  go_wp2_with fail
  refine hok.out.mono ?_
  rintro e w1 ⟨rfl, hb1⟩
  rw [hB]
  have hB1 := hide (below_then hb0.out hb1)
  have hs1 := hb1.size
  simp only [World.size_alloc] at hs1
  have G1 := hide (G0.out.below hb1 G0.out.lt)
  have K1 := hide (K0.out.below hb1 K0.out.lt)
  have g0 : w1.cell? ⟨w.heap.size, 0, none⟩ = some (.slice A1 p.init.length c1) := G1.out.cell 0
  have g1 : w1.cell? ⟨w.heap.size, 1, none⟩ = some (.slice A2 p.ts.length c2) := G1.out.cell 1
  have k0 : w1.cell? ⟨w.heap.size + 1, 0, none⟩ = some (.int .i64 1) := K1.out.cell 0
  have k1 : w1.cell? ⟨w.heap.size + 1, 1, none⟩ = some (.slice A3 p.ts.length c3) := K1.out.cell 1
  have k2 : w1.cell? ⟨w.heap.size + 1, 2, none⟩ = some (.slice A4 p.ts.length c4) := K1.out.cell 2
  have k3 : w1.cell? ⟨w.heap.size + 1, 3, none⟩ = some (.slice A5 p.init.length c5) := K1.out.cell 3
  have k4 : w1.cell? ⟨w.heap.size + 1, 4, none⟩ = some (.slice A6 p.ts.length c6) := K1.out.cell 4
  have k5 : w1.cell? ⟨w.heap.size + 1, 5, none⟩ = some (.slice none 0 0) := K1.out.cell 5
  have k6 : w1.cell? ⟨w.heap.size + 1, 6, none⟩ = some (.slice none 0 0) := K1.out.cell 6
  have k7 : w1.cell? ⟨w.heap.size + 1, 7, none⟩ = some (.slice none 0 0) := K1.out.cell 7
  have k8 : w1.cell? ⟨w.heap.size + 1, 8, none⟩ = some (.int .i64 0) := K1.out.cell 8
  clear hok hb1
  go_wp2_with fail
  refine (kindOf_buf A1 A2 A3 A4 A5 A6 none none none _ _ _ _ _ _ 0 0 0 _ _ _ _ _ _ 0 0 0 0 w1).mono ?_
  rintro e w2 ⟨rfl, hb2⟩
  have hB2 := hide (below_then hB1.out hb2)
  have K2 := hide (K1.out.below hb2 K1.out.lt)
  clear g0 g1 k0 k1 k2 k3 k4 k5 k6 k7 k8 hb2
  have hs2 := hB2.out.size
  have hR : Hid (SoRd (w.heap.size + 1) w2.heap.size (.slice A1 p.init.length c1) (.slice A2 p.ts.length c2) (.slice A3 p.ts.length c3) (.slice A4 p.ts.length c4) (.slice A5 p.init.length c5) (.slice A6 p.ts.length c6) (w2.alloc (Obj.cells #[.slice A1 p.init.length c1, .slice A2 p.ts.length c2, .slice A3 p.ts.length c3, .slice A4 p.ts.length c4, .slice A5 p.init.length c5, .slice A6 p.ts.length c6] 109))) := hide ⟨K2.out.alloc _, Blk.new _ _ _⟩
  have hB3 := hide (hB2.out.alloc hs2 (Obj.cells #[.slice A1 p.init.length c1, .slice A2 p.ts.length c2, .slice A3 p.ts.length c3, .slice A4 p.ts.length c4, .slice A5 p.init.length c5, .slice A6 p.ts.length c6] 109))
  go_wp2_with fail
  obtain ⟨wq, hwq⟩ : ∃ wq, wq = w2.alloc (Obj.cells #[.slice A1 p.init.length c1, .slice A2 p.ts.length c2, .slice A3 p.ts.length c3, .slice A4 p.ts.length c4, .slice A5 p.init.length c5, .slice A6 p.ts.length c6] 109) := ⟨_, rfl⟩
  rw [← hwq] at hR hB3 ⊢
  clear hwq
  generalize w2.heap.size = T at *
  go_cut [4] (fun s4 wx => s4 = .bool true ∧ Below w.heap.size w wx)
  case first =>
    have R0 := hide hR.out.drew
    have B0 := hide hB3.out.drew
    go_region_held3 (fun w' => (w'.cell? ⟨T, 0, none⟩ = some (.slice A1 p.init.length c1) ∧ w'.cell? ⟨T, 1, none⟩ = some (.slice A2 p.ts.length c2) ∧ w'.cell? ⟨T, 2, none⟩ = some (.slice A3 p.ts.length c3) ∧ w'.cell? ⟨T, 3, none⟩ = some (.slice A4 p.ts.length c4) ∧ w'.cell? ⟨T, 4, none⟩ = some (.slice A5 p.init.length c5) ∧ w'.cell? ⟨T, 5, none⟩ = some (.slice A6 p.ts.length c6)) ∧ w'.cell? ⟨w.heap.size + 1, 0, none⟩ = some (.int .i64 1) ∧ w'.cell? ⟨w.heap.size + 1, 1, none⟩ = some (.slice A3 p.ts.length c3) ∧ w'.cell? ⟨w.heap.size + 1, 2, none⟩ = some (.slice A4 p.ts.length c4) ∧ w'.cell? ⟨w.heap.size + 1, 3, none⟩ = some (.slice A5 p.init.length c5) ∧ w'.cell? ⟨w.heap.size + 1, 4, none⟩ = some (.slice A6 p.ts.length c6) ∧ w'.cell? ⟨w.heap.size + 1, 5, none⟩ = some (.slice none 0 0) ∧ w'.cell? ⟨w.heap.size + 1, 6, none⟩ = some (.slice none 0 0) ∧ w'.cell? ⟨w.heap.size + 1, 7, none⟩ = some (.slice none 0 0) ∧ w'.cell? ⟨w.heap.size + 1, 8, none⟩ = some (.int .i64 0))
      (first | exact R0.out.cells | exact hR.out.cells | exact R1.out.cells | exact R2.out.cells | exact R3.out.cells | exact R4.out.cells)
      (first
      | (go_at_call 77; refine (kc.out _ B0.out).mono ?_; rintro e w4 ⟨rfl, hb4⟩; have R1 := hide (R0.out.next hb4); have B4 := hide (below_then B0.out hb4))
      | (go_at_call 78; refine (comCells_any _ _ _ _ _ _ _ _ _ _ _ _ _).mono ?_; rintro e w5 ⟨rfl, hb5⟩; have R2 := hide (R1.out.next hb5); have B5 := hide (below_then B4.out hb5))
      | (go_at_call 81; refine (kb.out _ B5.out).mono ?_; rintro e w6 ⟨rfl, hb6⟩; have R3 := hide (R2.out.next hb6); have B6 := hide (below_then B5.out hb6))
      | (go_at_call 80; refine (noViews_nil _ _ _ _ _ _ _ _ _ _ _ _ _ _).mono ?_; rintro e w7 ⟨rfl, hb7⟩; have R4 := hide (R3.out.next hb7); have B7 := hide (below_then B6.out hb7)))
    all_goals
      go_wp2_with fail
      go_meet
      exact ⟨rfl, B7.out⟩
  case rest =>
    obtain ⟨rfl, hb9⟩ := hcut
    go_wp2_with fail
    go_ret
    exact ⟨rfl, hb9⟩
end Go.Proofs.Ytaiklooffkmjjaa

namespace Go.Proofs.Ytaiklooffkmjjaa
open Go.RowKit

theorem LensAt.more {w : World} {S S' : Nat → Prop} {A : Option Addr} {ls : List Nat} (h : LensAt w S A ls) (hS : ∀ b, S b → S' b) : LensAt w S' A ls :=
  ⟨h.1, fun hn => by
    obtain ⟨b, off, e, hSb, hc⟩ := h.2 hn
    exact ⟨b, off, e, hS b hSb, hc⟩⟩
theorem emptyB_yes {lb : List Nat} (h : ∀ k, k < lb.length → getn lb k = 0) : emptyB lb = true := allB_yes (fun j hj => by simpa using h j hj)

set_option maxRecDepth 100000 in
set_option maxHeartbeats 6400000 in
theorem done_buf (p : ProgD) (A1 A2 A3 A4 A5 A6 : Option Addr) (c1 c2 c3 c4 c5 c6 : Nat) (pcs : List Int) (ls lb : List Nat) (w : World) (hB : progB p = true) (hcc : p.init.length ≤ c1 ∧ p.ts.length ≤ c2) (hi : IntsAt w (Old w.heap.size) A1 p.init) (ht : ThreadsAt w (Old w.heap.size) A2 p.ts)
    (hl : pcs.length = p.ts.length) (hl2 : ls.length = p.ts.length) (hl3 : lb.length = p.ts.length) (h6 : ∀ k, k < p.ts.length → getn ls k = 6) (hpc : ∀ k, k < p.ts.length → 0 ≤ geti pcs k ∧ geti pcs k ≤ (gett p.ts k).length) (h0 : ∀ k, k < p.ts.length → getn lb k = 0)
    (hp : IntsAt w (Old w.heap.size) A3 pcs) (hf : LensAt w (Old w.heap.size) A4 ls) (hq : LensAt w (Old w.heap.size) A6 lb) :
    Calls Try.prog 45 #[.agg #[.slice A1 p.init.length c1, .slice A2 p.ts.length c2], .agg #[.int .i64 1, .slice A3 p.ts.length c3, .slice A4 p.ts.length c4, .slice A5 p.init.length c5, .slice A6 p.ts.length c6, .slice none 0 0, .slice none 0 0, .slice none 0 0, .int .i64 0]] w fun e w' => e = .returned (.bool (endedB p.ts pcs)) ∧ Below w.heap.size w w' := by
  have t1 : ∀ w, (Instr.typeAssert (Value.iface 109 (.agg #[.slice A1 p.init.length c1, .slice A2 p.ts.length c2, .slice A3 p.ts.length c3, .slice A4 p.ts.length c4, .slice A5 p.init.length c5, .slice A6 p.ts.length c6])) 20 107 true).run Try.prog w = .ok (.tuple #[.agg #[.slice none 0 0, .slice none 0 0, .slice none 0 0, .slice none 0 0, .slice none 0 0], .bool false]) w := fun _ => by kernel_rfl
  have t2 : ∀ w, (Instr.typeAssert (Value.iface 109 (.agg #[.slice A1 p.init.length c1, .slice A2 p.ts.length c2, .slice A3 p.ts.length c3, .slice A4 p.ts.length c4, .slice A5 p.init.length c5, .slice A6 p.ts.length c6])) 20 109 true).run Try.prog w = .ok (.tuple #[.agg #[.slice A1 p.init.length c1, .slice A2 p.ts.length c2, .slice A3 p.ts.length c3, .slice A4 p.ts.length c4, .slice A5 p.init.length c5, .slice A6 p.ts.length c6], .bool true]) w := fun _ => by kernel_rfl
  have hb0 := below2 w (Obj.cells #[.slice A1 p.init.length c1, .slice A2 p.ts.length c2] 43) (Obj.cells #[Value.int IntKind.i64 1, Value.slice A3 p.ts.length c3, Value.slice A4 p.ts.length c4, Value.slice A5 p.init.length c5, Value.slice A6 p.ts.length c6, Value.slice none 0 0, Value.slice none 0 0, Value.slice none 0 0, Value.int IntKind.i64 0] 77)
  have G0 := (Blk.new w 43 #[.slice A1 p.init.length c1, .slice A2 p.ts.length c2]).alloc (Obj.cells #[Value.int IntKind.i64 1, Value.slice A3 p.ts.length c3, Value.slice A4 p.ts.length c4, Value.slice A5 p.init.length c5, Value.slice A6 p.ts.length c6, Value.slice none 0 0, Value.slice none 0 0, Value.slice none 0 0, Value.int IntKind.i64 0] 77)
  have K0 := Blk.new (w.alloc (Obj.cells #[.slice A1 p.init.length c1, .slice A2 p.ts.length c2] 43)) 77 #[Value.int IntKind.i64 1, Value.slice A3 p.ts.length c3, Value.slice A4 p.ts.length c4, Value.slice A5 p.init.length c5, Value.slice A6 p.ts.length c6, Value.slice none 0 0, Value.slice none 0 0, Value.slice none 0 0, Value.int IntKind.i64 0]
  simp only [World.size_alloc] at K0
  have hok := hide (stateOk_buf p A1 A2 A3 A4 A5 A6 c1 c2 c3 c4 c5 c6 pcs ls lb _ hB hcc ((hi.below hb0 (fun _ h => h)).more (fun _ h => Nat.lt_of_lt_of_le h hb0.size)) ((ht.below hb0 (fun _ h => h)).more (fun _ h => Nat.lt_of_lt_of_le h hb0.size)) hl hl2 hl3 h6 hpc h0 ((hp.below hb0 (fun _ h => h)).more (fun _ h => Nat.lt_of_lt_of_le h hb0.size)) ((hf.below hb0 (fun _ h => h)).more (fun _ h => Nat.lt_of_lt_of_le h hb0.size)) ((hq.below hb0 (fun _ h => h)).more (fun _ h => Nat.lt_of_lt_of_le h hb0.size)))
  have kc := hide (fun (wX : World) (hb : Below w.heap.size w wX) => ended_any A1 A2 A3 A4 p.init.length p.ts.length c1 c2 c3 c4 p.ts pcs (Old w.heap.size) wX hl (fun b h => Nat.lt_of_lt_of_le h hb.size) (ht.below hb (fun _ h => h)) (hp.below hb (fun _ h => h)))
  have kb := fun (wX : World) (hb : Below w.heap.size w wX) => nothing_any A1 A2 A3 A4 A5 A6 p.init.length p.ts.length p.ts.length p.ts.length p.init.length c1 c2 c3 c4 c5 c6 lb (Old w.heap.size) wX (fun b h => Nat.lt_of_lt_of_le h hb.size) (hq.below hb (fun _ h => h))
  rw [hl3, emptyB_yes (lb := lb) (fun k hk => h0 k (by omega))] at kb
  replace kb := hide kb
  generalize endedB p.ts pcs = en at *
  replace G0 := hide G0
  replace K0 := hide K0
  replace hb0 := hide hb0
  clear ht hi hp hf hq h6 hpc h0 hl hl2 hl3
  go_enter Try.func45, Try.ntmps45
  go_wp2_with fail
  refine hok.out.mono ?_
  rintro e w1 ⟨rfl, hb1⟩
  have hB1 := hide (below_then hb0.out hb1)
  have hs1 := hb1.size
  simp only [World.size_alloc] at hs1
  have G1 := hide (G0.out.below hb1 G0.out.lt)
  have K1 := hide (K0.out.below hb1 K0.out.lt)
  have g0 : w1.cell? ⟨w.heap.size, 0, none⟩ = some (.slice A1 p.init.length c1) := G1.out.cell 0
  have g1 : w1.cell? ⟨w.heap.size, 1, none⟩ = some (.slice A2 p.ts.length c2) := G1.out.cell 1
  have k0 : w1.cell? ⟨w.heap.size + 1, 0, none⟩ = some (.int .i64 1) := K1.out.cell 0
  have k1 : w1.cell? ⟨w.heap.size + 1, 1, none⟩ = some (.slice A3 p.ts.length c3) := K1.out.cell 1
  have k2 : w1.cell? ⟨w.heap.size + 1, 2, none⟩ = some (.slice A4 p.ts.length c4) := K1.out.cell 2
  have k3 : w1.cell? ⟨w.heap.size + 1, 3, none⟩ = some (.slice A5 p.init.length c5) := K1.out.cell 3
  have k4 : w1.cell? ⟨w.heap.size + 1, 4, none⟩ = some (.slice A6 p.ts.length c6) := K1.out.cell 4
  have k5 : w1.cell? ⟨w.heap.size + 1, 5, none⟩ = some (.slice none 0 0) := K1.out.cell 5
  have k6 : w1.cell? ⟨w.heap.size + 1, 6, none⟩ = some (.slice none 0 0) := K1.out.cell 6
  have k7 : w1.cell? ⟨w.heap.size + 1, 7, none⟩ = some (.slice none 0 0) := K1.out.cell 7
  have k8 : w1.cell? ⟨w.heap.size + 1, 8, none⟩ = some (.int .i64 0) := K1.out.cell 8
  clear hok hb1
  go_wp2_with fail
  refine (kindOf_buf A1 A2 A3 A4 A5 A6 none none none _ _ _ _ _ _ 0 0 0 _ _ _ _ _ _ 0 0 0 0 w1).mono ?_
  rintro e w2 ⟨rfl, hb2⟩
  have hB2 := hide (below_then hB1.out hb2)
  have K2 := hide (K1.out.below hb2 K1.out.lt)
  clear g0 g1 k0 k1 k2 k3 k4 k5 k6 k7 k8 hb2
  have hs2 := hB2.out.size
  have hR : Hid (SoRd (w.heap.size + 1) w2.heap.size (.slice A1 p.init.length c1) (.slice A2 p.ts.length c2) (.slice A3 p.ts.length c3) (.slice A4 p.ts.length c4) (.slice A5 p.init.length c5) (.slice A6 p.ts.length c6) (w2.alloc (Obj.cells #[.slice A1 p.init.length c1, .slice A2 p.ts.length c2, .slice A3 p.ts.length c3, .slice A4 p.ts.length c4, .slice A5 p.init.length c5, .slice A6 p.ts.length c6] 109))) := hide ⟨K2.out.alloc _, Blk.new _ _ _⟩
  have hB3 := hide (hB2.out.alloc hs2 (Obj.cells #[.slice A1 p.init.length c1, .slice A2 p.ts.length c2, .slice A3 p.ts.length c3, .slice A4 p.ts.length c4, .slice A5 p.init.length c5, .slice A6 p.ts.length c6] 109))
  go_wp2_with fail
  refine (kc.out _ hB3.out).mono ?_
  rintro e w4 ⟨rfl, hb4⟩
  have R1 := hide (hR.out.next hb4)
  have B4 := hide (below_then hB3.out hb4)
  obtain ⟨⟨r0, r1, r2, r3, r4, r5⟩, -⟩ := R1.out.cells
  clear hb4
  cases en
  · go_wp2_with fail
    go_ret
    exact ⟨rfl, B4.out⟩
  · go_wp2_with fail
    refine (kb.out _ B4.out).mono ?_
    rintro e w5 ⟨rfl, hb5⟩
    have B5 := hide (below_then B4.out hb5)
    go_wp2_with fail
    go_ret
    exact ⟨rfl, B5.out⟩
end Go.Proofs.Ytaiklooffkmjjaa
