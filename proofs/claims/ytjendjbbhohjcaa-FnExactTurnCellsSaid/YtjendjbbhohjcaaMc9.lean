/- Threads in another order, as plain lists; rows of threads in the making. -/
import Derived.Test.YtjendjbbhohjcaaMc0
import Derived.Test.YtjendjbbhohjcaaMc4
import Derived.Test.YtjendjbbhohjcaaMc6
import Derived.Test.YtjendjbbhohjcaaMc8
import Derived.Test.YtjendjbbhohjcaaRows
import Derived.Deep.AppendLies
import Derived.Deep.RegionLaw
import Derived.Deep.DrawnRows
import Derived.Deep.DeepCutAuto
namespace Go.Proofs.Ytjendjbbhohjcaa
open Go.RowKit

def initI (z : Int) (k : Nat) : List Int := [0, z] ++ (List.range k).map (fun (i : Nat) => if (i : Int) < z then 11 + (i : Int) else 0)
def thiefTs (zs : List Int) (f : Int) (k : Nat) : List (List InsD) := (List.range k).map fun t => thiefI (geti zs t) (stB f)
def dqTs (zs : List Int) (f : Int) (k : Nat) : List (List InsD) := takeI 0 (tkB f) :: thiefTs zs f k
def stealsB (zs : List Int) (k : Nat) : Bool := allB (fun t => decide (1 ≤ geti zs t ∧ geti zs t ≤ 2)) k
def okQ (z : Int) (zs : List Int) (f : Int) : Bool := decide (1 ≤ z ∧ z ≤ 4 ∧ zs.length ≤ 2 ∧ 0 ≤ f ∧ f ≤ 3) && stealsB zs zs.length
def dqQ (z : Int) (zs : List Int) (f : Int) : ProgD := ⟨initI z 4, dqTs zs f zs.length⟩
def dqP (z : Int) (zs : List Int) (f : Int) : ProgD := if okQ z zs f then dqQ z zs f else ⟨[], []⟩
theorem initI_succ (z : Int) (k : Nat) : initI z (k + 1) = initI z k ++ [if (k : Int) < z then 11 + (k : Int) else 0] := by
  unfold initI
  rw [List.range_succ, List.map_append, ← List.append_assoc]
  rfl
theorem initI_len (z : Int) (k : Nat) : (initI z k).length = k + 2 := by unfold initI; simp
theorem dqTs_len (zs : List Int) (f : Int) (k : Nat) : (dqTs zs f k).length = k + 1 := by simp [dqTs, thiefTs]
theorem dqTs_succ (zs : List Int) (f : Int) (k : Nat) : dqTs zs f (k + 1) = dqTs zs f k ++ [thiefI (geti zs k) (stB f)] := by
  unfold dqTs thiefTs
  rw [List.range_succ, List.map_append]
  rfl
theorem movL_zero (l : List InsD) : movL ((0 : Nat) : Int) l = l := by
  unfold movL
  have : (fun d => movI ((0 : Nat) : Int) d) = id := by
    funext d
    unfold movI
    split
    · simp
    · rfl
  rw [show movI ((0 : Nat) : Int) = id from this, List.map_id]
theorem thief_one (z : Int) (b : Bool) (h : z = 1) : joinTo [stealI 0 b] 1 = thiefI z b := by
  subst h
  show [] ++ movL ((0 : Nat) : Int) (stealI 0 b) = _
  rw [movL_zero]
  rfl
theorem thief_two (z : Int) (b : Bool) (h : z = 2) : joinTo [stealI 0 b, stealI 1 b] 2 = thiefI z b := by
  subst h
  show ([] ++ movL ((0 : Nat) : Int) (stealI 0 b)) ++ movL ((([] ++ movL ((0 : Nat) : Int) (stealI 0 b)).length : Nat) : Int) (stealI 1 b) = _
  rw [movL_zero]
  rfl
theorem thiefI_len (z : Int) (b : Bool) : (thiefI z b).length ≤ 24 := by
  unfold thiefI
  split
  · rw [List.length_append, show (movL ((stealI 0 b).length : Int) (stealI 1 b)).length = (stealI 1 b).length from by simp [movL], stealI_len, stealI_len]; cases b <;> decide
  · rw [stealI_len]; split <;> omega

section
variable {w0 w w1 : World} {T : Nat} {zs : List Int} {v tv : Value} {ts : List (List InsD)} {vs : List Value} {l : List InsD}
theorem CrAt.growInts {v' : Value} {x : Int} {xs : List Value} (h : CrAt w0 T zs v ts vs tv w) (hxs : xs = zs.map (Value.int .i64) ++ [.int .i64 x]) (ho : w1.ownsRow (w0.heap.size + 1) 3 1 v' (zs.length + 1) xs) (hgr : w.grownBy w1 v.ownBlock) :
    PrC w1 T v tv ∧ CrAt w0 T (zs ++ [x]) v' ts vs tv (w1.setCell ⟨T, 0, none⟩ v') := by
  have hlo := h.lo
  have hT := h.blk.lt
  have hr : ∀ k, k < w0.heap.size + 1 → some k ≠ v.ownBlock := fun _ hk => own_far h.own.ints hk
  have hB : Blk w1 T 37 #[v, tv] := (hgr.block T hT (blk_far h.blk h.own.ints (by decide))).trans h.blk
  have hB1 : Blk (w1.setCell ⟨T, 0, none⟩ v') T 37 #[v', tv] := by have := hB.set_ 0 v'; simpa using this
  have ho2 := h.own.growInts hxs ho hgr
  have far := fun {e : TypeId} {size : Nat} {u' : Value} {n : Nat} {xs : List Value} (k : w1.ownsRow (w0.heap.size + 1) e size u' n xs) (hne : e ≠ 37) => own_setFar k (p := ⟨T, 0, none⟩) (fun e => by
    obtain ⟨_, _, cur, h1⟩ := own_lt k e
    have h2 : w1.heap[T]? = some (.cells #[v, tv] 37 (0, 0)) := hB
    have h3 : w1.heap[T]? = some (.cells cur _ (0, 0)) := h1
    rw [h2] at h3
    cases h3
    exact hne rfl) v'
  refine ⟨⟨⟨hB.cell 0, hB.cell 1⟩, hB.frozen 0, hB.frozen 1⟩, ⟨?_, hB1, ⟨far ho2.ints (by decide), far ho2.rows (by decide), fun k hk => far (ho2.thr k hk) (by decide), ho2.apart⟩, hlo, h.out.imp fun _ => Exists.imp fun _ k => Blk.far ((hgr.block w0.heap.size (Blk.lt k) (hr _ (by omega))).trans k) (by show w0.heap.size ≠ T; omega) _⟩⟩
  have hz := h.below.size
  refine Below.setCell ?_ (by show w0.heap.size ≤ T; omega) _
  exact ⟨hgr.os.trans h.below.os, hgr.tape.trans h.below.tape, hgr.output.trans h.below.output, Nat.le_trans h.below.size hgr.size, fun k hk => (hgr.block k (by omega) (hr k (by omega))).trans (h.below.block k hk)⟩
def ThrR (w w' : World) (e : Ending) (l : List InsD) : Prop := ∃ A c, e = .returned (.agg #[.slice A l.length c]) ∧ w'.ownsRow w.heap.size 89 6 (.slice A l.length c) l.length (flat l) ∧ Below w.heap.size w w'
theorem CrAt.lat {A : Option Addr} {c : Nat} (h : CrAt w0 T zs v ts vs tv w) (hb : Below w.heap.size w w1) (ho : w1.ownsRow w.heap.size 89 6 (.slice A l.length c) l.length (flat l)) : LAt w0 T zs v ts vs tv l (.slice A l.length c) w1 :=
  ⟨h.next hb, own_base ho (by have := h.blk.lt; have := h.lo; omega), fun j hj => apart_new (h.own.thr j hj) ho (Nat.le_refl _)⟩
theorem CrAt.start1 {W w2 : World} {lv : Value} (hW : Below w0.heap.size w0 W) (hs : w0.heap.size + 1 ≤ W.heap.size) (hR : ∃ u u', Blk W w0.heap.size 37 #[u, u']) (hb : Below W.heap.size W w2)
    (hv : w2.ownsRow W.heap.size 3 1 v zs.length (zs.map (Value.int .i64))) (hl : w2.ownsRow W.heap.size 89 6 lv l.length (flat l)) :
    CrAt w0 (w2.heap.size + 1) zs v [l] [lv] (.slice (some ⟨w2.heap.size, 0, none⟩) 1 1) ((w2.alloc (.cells #[lv] 45)).alloc (.cells #[v, .slice (some ⟨w2.heap.size, 0, none⟩) 1 1] 37)) := by
  have hz := hb.size
  have hP0 : ProgOwn w2 (w0.heap.size + 1) zs v [] [] (.slice none 0 0) := ⟨own_base hv hs, ⟨rfl, .inl ⟨rfl, rfl⟩⟩, fun k hk => by simp at hk, fun j k _ hk => by simp at hk⟩
  have hP1 := hP0.growRows (w1 := w2.alloc (.cells #[lv] 45)) (tv' := .slice (some ⟨w2.heap.size, 0, none⟩) 1 1) (own_base hl hs) (fun k hk => by simp at hk) (own_lit w2 (w0.heap.size + 1) 45 1 1 #[lv] (by omega) (by omega) rfl) ⟨rfl, rfl, rfl, by simp, fun k hk _ => Below.heap_alloc _ _ k hk⟩
  have hX := Blk.new (w2.alloc (.cells #[lv] 45)) 37 #[v, .slice (some ⟨w2.heap.size, 0, none⟩) 1 1]
  simp only [World.size_alloc] at hX
  obtain ⟨u, u', hR⟩ := hR
  exact ⟨((hW.trans (hb.mono (by omega))).alloc (by omega) _).alloc (by simp; omega) _, hX, hP1.keep (fun b _ hlt => Below.heap_alloc _ _ b hlt), by omega, u, u', ((hR.below hb hR.lt).alloc _).alloc _⟩
end
end Go.Proofs.Ytjendjbbhohjcaa

namespace Go.Proofs.Ytjendjbbhohjcaa
open Go.RowKit

set_option maxHeartbeats 400000 in
theorem kind_any (o r a b x n : Int) (w : World) :
    Calls Try.prog 99 #[.agg #[.int .i64 o, .int .i64 r, .int .i64 a, .int .i64 b, .int .i64 x, .int .i64 n]] w fun e w' => e = .returned (.int .i64 o) ∧ Below w.heap.size w w' := by
  go_enter Try.func99, Try.ntmps99
  go_wp2
  go_ret
  exact ⟨rfl, below1 _ _⟩
end Go.Proofs.Ytjendjbbhohjcaa

namespace Go.Proofs.Ytjendjbbhohjcaa
open Go.RowKit

set_option maxHeartbeats 800000 in
theorem leads_any (o : Int) (w : World) : Calls Try.prog 100 #[.int .i64 o] w fun e w' => e = .returned (.bool (leapB o)) ∧ w = w' := by
  unfold leapB
  cases h : (o == 13)
  all_goals
    go_enter Try.func100, Try.ntmps100
    go_wp2
    go_ret
    exact ⟨rfl, rfl⟩
end Go.Proofs.Ytjendjbbhohjcaa

namespace Go.Proofs.Ytjendjbbhohjcaa
open Go.RowKit

theorem movL_len (k : Int) (l : List InsD) : (movL k l).length = l.length := by simp [movL]
theorem take_getd (l : List InsD) (j : Nat) (h : j < l.length) : l.take (j + 1) = l.take j ++ [getd l j] := by
  rw [List.take_succ_eq_append_getElem h]
  simp [getd, List.getD_eq_getElem?_getD, List.getElem?_eq_getElem h]
theorem movL_step (k : Int) (l : List InsD) (j : Nat) (h : j < l.length) : movL k (l.take (j + 1)) = movL k (l.take j) ++ [movI k (getd l j)] := by
  rw [take_getd l j h]
  simp [movL]
theorem getd_mem (l : List InsD) (j : Nat) (h : j < l.length) : getd l j ∈ l := by
  unfold getd
  rw [List.getD_eq_getElem?_getD, List.getElem?_eq_getElem h]
  exact List.getElem_mem h
theorem GrowI.setFar {W w : World} {A : Option Addr} {c n i q : Nat} {l : List InsD} (h : GrowI W A c n l w) (hq : W.heap.size ≤ q) (ha : some q ≠ (Value.slice A n c).ownBlock) (u : Value) : GrowI W A c n l (w.setCell ⟨q, i, none⟩ u) :=
  ⟨own_setFar h.own (fun e => ha e.symm) u, h.low.setCell hq u⟩
end Go.Proofs.Ytjendjbbhohjcaa

namespace Go.Proofs.Ytjendjbbhohjcaa
open Go.RowKit

theorem joinTo_mono (ps : List (List InsD)) {k n : Nat} (h : k ≤ n) : (joinTo ps k).length ≤ (joinTo ps n).length := by
  induction n with
  | zero => have : k = 0 := by omega
            subst this; exact Nat.le_refl _
  | succ n ih =>
    rcases Nat.lt_or_ge k (n + 1) with h1 | h1
    · have := ih (by omega)
      show _ ≤ (joinTo ps n ++ _).length
      rw [List.length_append]; omega
    · have : k = n + 1 := by omega
      subst this; exact Nat.le_refl _
set_option maxRecDepth 100000 in
set_option maxHeartbeats 12800000 in
theorem joined_any (A : Option Addr) (ps : List (List InsD)) (c : Nat) (S : Nat → Prop) (w : World) (hS : ∀ b, S b → b < w.heap.size) (h : ThreadsAt w S A ps) (hlen : (joinTo ps ps.length).length ≤ 100000) (hN : ∀ k, k < ps.length → ∀ d ∈ gett ps k, -1000000 ≤ d.n ∧ d.n ≤ 1000000) :
    Calls Try.prog 69 #[.slice A ps.length c] w fun e w' => InsR w w' e (joinTo ps ps.length) := by
  obtain ⟨i0, hi0, hz0, hz1, hz2⟩ := info_parts Try.infoIns
  replace hi0 := hide hi0
  have hT := hide (h.more (S' := Old w.heap.size) hS)
  have hps := h.1
  have hlenH := hide hlen
  have hNH := hide hN
  clear h hS hlen hN
  go_enter Try.func69, Try.ntmps69
  go_wp2_with fail
  go_loopw [3, 11] (fun t i wr => ∃ (k n : Nat) (A' : Option Addr) (c' : Nat), k ≤ ps.length ∧ i = .int .i64 k ∧ t = .slice A' n c' ∧ Hid (GrowI w A' c' n (joinTo ps k) wr)) (fun _ i _ => ps.length - (intOf i).toNat)
  case atStart => exact ⟨0, 0, none, 0, Nat.zero_le _, rfl, rfl, hide (GrowI.nil w)⟩
  case round =>
    obtain ⟨k, m, A1, c1, hk, rfl, rfl, H0⟩ := hrel
    by_cases hlt : k < ps.length
    · obtain ⟨bt, ot, rfl, hbS, hc⟩ := (hT.out.keep (S' := Old w.heap.size) (fun b o h => H0.out.low.cell (p := ⟨b, o, none⟩) h) (fun _ h => h)).2 (by omega)
      obtain ⟨A2, c2, hcell, hc2, hIk⟩ := hc k hlt
      have hI := hide (hT.out.2 (by omega))
      replace hI := hide (show InssAt w (Old w.heap.size) A2 (gett ps k) from by
        obtain ⟨b2, o2, e2, -, hc3⟩ := hI.out
        cases e2
        obtain ⟨A3, c3, hcell3, -, hI3⟩ := hc3 k hlt
        rw [H0.out.low.cell (p := ⟨bt, ot + k, none⟩) hbS, hcell3] at hcell
        cases hcell
        exact hI3)
      have hN := hide (hNH.out k hlt)
      have hmono := joinTo_mono ps (show k + 1 ≤ ps.length from hlt)
      have hsum : (joinTo ps (k + 1)).length = (joinTo ps k).length + (gett ps k).length := by
        show (joinTo ps k ++ movL _ (gett ps k)).length = _
        rw [List.length_append, movL_len]
      have hL := hide H0.out.len
      have hB := hide (show m + (gett ps k).length ≤ 100000 from by have := hlenH.out; have := hL.out; omega)
      have hj := hide (show joinTo ps (k + 1) = joinTo ps k ++ movL m (gett ps k) from by show joinTo ps k ++ movL ((joinTo ps k).length : Int) (gett ps k) = _; rw [hL.out])
      clear hIk hc hmono hsum
      obtain ⟨part, hpart⟩ : ∃ x, x = gett ps k := ⟨_, rfl⟩
      rw [← hpart] at hI hN hB hj hcell hc2
      clear hpart
      obtain ⟨L, hLL⟩ : ∃ x, x = joinTo ps k := ⟨_, rfl⟩
      rw [← hLL] at H0 hL hj
      clear hLL
      have hpl : part.length ≤ 9223372036854775807 := hI.out.1
      have hlt' : decide ((k : Int) < (ps.length : Int)) = true := decide_eq_true (by omega)
      have hbl := Nat.lt_of_lt_of_le hbS H0.out.low.size
      have hkl : k < ps.length := hlt
      go_wp2_with fail
      clear hcell hbl
      rename_i wr0
      go_loopw [3, 19] (fun t i wr => ∃ (j n : Nat) (A' : Option Addr) (c' : Nat), j ≤ part.length ∧ i = .int .i64 j ∧ t = .slice A' n c' ∧ Hid (GrowI w A' c' n (L ++ movL m (part.take j)) wr)) (fun _ i _ => part.length - (intOf i).toNat)
      case atStart => exact ⟨0, m, A1, c1, Nat.zero_le _, rfl, rfl, hide (by simpa [movL] using H0.out)⟩
      case round =>
        clear H0
        obtain ⟨j, n1, A1, c1, hjle, rfl, rfl, H0⟩ := hrel
        by_cases hlt : j < part.length
        · have hBB := hB.out
          obtain ⟨q, off, rfl, hqS, hc⟩ := (hI.out.keep (S' := Old w.heap.size) (fun b o h => H0.out.low.cell (p := ⟨b, o, none⟩) h) (fun _ h => h)).2 (by omega)
          obtain ⟨d0, d1, d2, d3, d4, d5⟩ := hc j hlt
          have hNj := hN.out (getd part j) (getd_mem part j hlt)
          have hst := hide (movL_step m part j hlt)
          obtain ⟨d, hd⟩ : ∃ d, d = getd part j := ⟨_, rfl⟩
          rw [← hd] at d0 d1 d2 d3 d4 d5 hNj hst
          clear hd hc
          obtain ⟨o, r, a, b, x, n⟩ := d
          simp only at d0 d1 d2 d3 d4 d5 hNj
          have hlen := H0.out.len
          rw [List.length_append, movL_len, List.length_take, Nat.min_eq_left (Nat.le_of_lt hlt), hL.out] at hlen
          have hn1 : n1 + 1 ≤ 100000 := by omega
          clear hlen
          obtain ⟨l1, hl1⟩ : ∃ l1, l1 = L ++ movL m (part.take j) := ⟨_, rfl⟩
          rw [← hl1] at H0
          replace hst := hide (show L ++ movL m (part.take (j + 1)) = l1 ++ [movI m ⟨o, r, a, b, x, n⟩] from by rw [hst.out, hl1, List.append_assoc])
          clear hl1
          have hbY := below1 wr (Obj.cells #[.int .i64 o, .int .i64 r, .int .i64 a, .int .i64 b, .int .i64 x, .int .i64 n] 89)
          have Y1a := Blk.new wr 89 #[.int .i64 o, .int .i64 r, .int .i64 a, .int .i64 b, .int .i64 x, .int .i64 n]
          have H1a := H0.out.next hbY
          have hqY := Nat.lt_of_lt_of_le hqS H0.out.low.size
          have hlt' : decide ((j : Int) < (part.length : Int)) = true := decide_eq_true (by omega)
          have hjl : j < part.length := hlt
          go_upto_region 9 with fail
          obtain ⟨w1, hw1⟩ : ∃ wq, wq = wr.alloc (Obj.cells #[.int .i64 o, .int .i64 r, .int .i64 a, .int .i64 b, .int .i64 x, .int .i64 n] 89) := ⟨_, rfl⟩
          rw [← hw1] at Y1a H1a ⊢
          obtain ⟨Y, hY⟩ : ∃ Y, Y = wr.heap.size := ⟨_, rfl⟩
          have hYW : w.heap.size ≤ Y := by rw [hY]; exact H0.out.low.size
          have hYf : some Y ≠ (Value.slice A1 n1 c1).ownBlock := fun e => by
            have := (own_lt H0.out.own e.symm).2.1
            omega
          rw [← hY] at Y1a ⊢
          have Y1 := hide Y1a
          have H1 := hide H1a
          clear d0 d1 d2 d3 d4 d5 hw1 hY hbY Y1a H1a H0 hqY
          cases hlp : leapB o
          · have hstep := hide (show L ++ movL m (part.take (j + 1)) = l1 ++ [⟨o, r, a, b, x, n⟩] from by rw [hst.out]; unfold movI; rw [if_neg (by show ¬ leapB o = true; rw [hlp]; decide)])
            have kL1 := hide (fun w => leads_any o w)
            rw [hlp] at kL1
            clear hlp hst
            obtain ⟨y0, y1, y2, y3, y4, y5⟩ := (show (w1.cell? ⟨Y, 0, none⟩ = some (.int .i64 o) ∧ w1.cell? ⟨Y, 1, none⟩ = some (.int .i64 r) ∧ w1.cell? ⟨Y, 2, none⟩ = some (.int .i64 a) ∧ w1.cell? ⟨Y, 3, none⟩ = some (.int .i64 b) ∧ w1.cell? ⟨Y, 4, none⟩ = some (.int .i64 x) ∧ w1.cell? ⟨Y, 5, none⟩ = some (.int .i64 n)) from ⟨Y1.out.cell 0, Y1.out.cell 1, Y1.out.cell 2, Y1.out.cell 3, Y1.out.cell 4, Y1.out.cell 5⟩)
            have hYl1 := Y1.out.lt
            go_wp2_with fail
            refine (kind_any _ _ _ _ _ _ _).mono ?_
            rintro e w2 ⟨rfl, hb2⟩
            have H2 := hide (H1.out.next hb2)
            have Y2 := hide (Y1.out.below hb2 Y1.out.lt)
            clear hb2 H1 Y1 y0 y1 y2 y3 y4 y5 hYl1
            go_wp2_with fail
            refine (kL1.out _).mono ?_
            rintro e wx ⟨rfl, rfl⟩
            clear kL1
            obtain ⟨y0, y1, y2, y3, y4, y5⟩ := (show (w2.cell? ⟨Y, 0, none⟩ = some (.int .i64 o) ∧ w2.cell? ⟨Y, 1, none⟩ = some (.int .i64 r) ∧ w2.cell? ⟨Y, 2, none⟩ = some (.int .i64 a) ∧ w2.cell? ⟨Y, 3, none⟩ = some (.int .i64 b) ∧ w2.cell? ⟨Y, 4, none⟩ = some (.int .i64 x) ∧ w2.cell? ⟨Y, 5, none⟩ = some (.int .i64 n)) from ⟨Y2.out.cell 0, Y2.out.cell 1, Y2.out.cell 2, Y2.out.cell 3, Y2.out.cell 4, Y2.out.cell 5⟩)
            have hYl := Y2.out.lt
            have hW2 := H2.out.low.size
            go_wp2_with (at_builtin; refine wpList_append_lies _ rfl _ _ _ rfl w.heap.size 89 i0 _ 6 48 Try.underlying43 hi0.out hz0 hz1 hz2 rfl (by omega) (.slice A1 n1 c1) n1 (flat l1) rfl (H2.out.alloc _) ⟨w2.heap.size, 0, none⟩ 1 1 [Value.int .i64 o, Value.int .i64 r, Value.int .i64 a, Value.int .i64 b, Value.int .i64 x, Value.int .i64 n] rfl rfl (World.news_of_block (cs := #[Value.int .i64 o, Value.int .i64 r, Value.int .i64 a, Value.int .i64 b, Value.int .i64 x, Value.int .i64 n]) (t := 89) (fr := (0, 0)) (heap_alloc_new _ _)) (by simp [Value.oneCell']) (by omega) (by have : maxLen = 9223372036854775807 := rfl; omega) (by omega) (by simp; omega) _ rfl ?_)
            intro g3 cap3 w3 hown3 hg3 hat3 hlt3
            have H3 := hide (H2.out.more (k := [⟨o, r, a, b, x, n⟩]) (m := 1) (xs := [Value.int .i64 o, Value.int .i64 r, Value.int .i64 a, Value.int .i64 b, Value.int .i64 x, Value.int .i64 n]) rfl hown3 hg3)
            clear hown3 hg3 hat3 H2 Y2 y0 y1 y2 y3 y4 y5 hYl hW2
            go_wp2_with fail
            go_roundw
            case rel => exact ⟨j + 1, _, _, _, by omega, by go_num, rfl, hide (by rw [hstep.out]; exact H3.out)⟩
            case measure => simp [intOf]; omega
          · have hstep := hide (show L ++ movL m (part.take (j + 1)) = l1 ++ [⟨o, r, a, b, x, n + (m : Int)⟩] from by rw [hst.out]; unfold movI; rw [if_pos (by show leapB o = true; exact hlp)])
            have kL1 := hide (fun w => leads_any o w)
            rw [hlp] at kL1
            clear hlp hst
            obtain ⟨y0, y1, y2, y3, y4, y5⟩ := (show (w1.cell? ⟨Y, 0, none⟩ = some (.int .i64 o) ∧ w1.cell? ⟨Y, 1, none⟩ = some (.int .i64 r) ∧ w1.cell? ⟨Y, 2, none⟩ = some (.int .i64 a) ∧ w1.cell? ⟨Y, 3, none⟩ = some (.int .i64 b) ∧ w1.cell? ⟨Y, 4, none⟩ = some (.int .i64 x) ∧ w1.cell? ⟨Y, 5, none⟩ = some (.int .i64 n)) from ⟨Y1.out.cell 0, Y1.out.cell 1, Y1.out.cell 2, Y1.out.cell 3, Y1.out.cell 4, Y1.out.cell 5⟩)
            have hYl1 := Y1.out.lt
            go_wp2_with fail
            refine (kind_any _ _ _ _ _ _ _).mono ?_
            rintro e w2 ⟨rfl, hb2⟩
            have H2 := hide (H1.out.next hb2)
            have Y2 := hide (Y1.out.below hb2 Y1.out.lt)
            clear hb2 H1 Y1 y0 y1 y2 y3 y4 y5 hYl1
            go_wp2_with fail
            refine (kL1.out _).mono ?_
            rintro e wx ⟨rfl, rfl⟩
            clear kL1
            obtain ⟨y5, z5⟩ := (show w2.cell? ⟨Y, 5, none⟩ = some (.int .i64 n) ∧ w2.frozen? ⟨Y, 5, none⟩ = false from ⟨Y2.out.cell 5, Y2.out.frozen 5⟩)
            have hYl2 := Y2.out.lt
            have hwm : IntKind.i64.wrap (n + (m : Int)) = n + (m : Int) := (IntWalk.i64_left _).trans (by unfold RowKit.wrap64; omega)
            go_upto_region 11 with fail
            obtain ⟨w3s, hw3s⟩ : ∃ wq, wq = w2.setCell ⟨Y, 5, none⟩ (.int .i64 (n + (m : Int))) := ⟨_, rfl⟩
            have H3s := H2.out.setFar (i := 5) hYW hYf (.int .i64 (n + (m : Int)))
            have Y3s := Y2.out.set_ 5 (.int .i64 (n + (m : Int)))
            rw [← hw3s] at H3s Y3s ⊢
            clear hw3s y5 z5 hYl2 hwm H2 Y2
            obtain ⟨w2, hw2⟩ : ∃ wq, wq = w3s := ⟨_, rfl⟩
            rw [← hw2] at H3s Y3s ⊢
            clear hw2
            have H2 := hide H3s
            have Y2 := hide (show Blk w2 Y 89 #[.int .i64 o, .int .i64 r, .int .i64 a, .int .i64 b, .int .i64 x, .int .i64 (n + (m : Int))] from Y3s)
            clear H3s Y3s
            obtain ⟨y0, y1, y2, y3, y4, y5⟩ := (show (w2.cell? ⟨Y, 0, none⟩ = some (.int .i64 o) ∧ w2.cell? ⟨Y, 1, none⟩ = some (.int .i64 r) ∧ w2.cell? ⟨Y, 2, none⟩ = some (.int .i64 a) ∧ w2.cell? ⟨Y, 3, none⟩ = some (.int .i64 b) ∧ w2.cell? ⟨Y, 4, none⟩ = some (.int .i64 x) ∧ w2.cell? ⟨Y, 5, none⟩ = some (.int .i64 (n + (m : Int)))) from ⟨Y2.out.cell 0, Y2.out.cell 1, Y2.out.cell 2, Y2.out.cell 3, Y2.out.cell 4, Y2.out.cell 5⟩)
            have hYl := Y2.out.lt
            have hW2 := H2.out.low.size
            go_wp2_with (at_builtin; refine wpList_append_lies _ rfl _ _ _ rfl w.heap.size 89 i0 _ 6 48 Try.underlying43 hi0.out hz0 hz1 hz2 rfl (by omega) (.slice A1 n1 c1) n1 (flat l1) rfl (H2.out.alloc _) ⟨w2.heap.size, 0, none⟩ 1 1 [Value.int .i64 o, Value.int .i64 r, Value.int .i64 a, Value.int .i64 b, Value.int .i64 x, Value.int .i64 (n + (m : Int))] rfl rfl (World.news_of_block (cs := #[Value.int .i64 o, Value.int .i64 r, Value.int .i64 a, Value.int .i64 b, Value.int .i64 x, Value.int .i64 (n + (m : Int))]) (t := 89) (fr := (0, 0)) (heap_alloc_new _ _)) (by simp [Value.oneCell']) (by omega) (by have : maxLen = 9223372036854775807 := rfl; omega) (by omega) (by simp; omega) _ rfl ?_)
            intro g3 cap3 w3 hown3 hg3 hat3 hlt3
            have H3 := hide (H2.out.more (k := [⟨o, r, a, b, x, (n + (m : Int))⟩]) (m := 1) (xs := [Value.int .i64 o, Value.int .i64 r, Value.int .i64 a, Value.int .i64 b, Value.int .i64 x, Value.int .i64 (n + (m : Int))]) rfl hown3 hg3)
            clear hown3 hg3 hat3 H2 Y2 y0 y1 y2 y3 y4 y5 hYl hW2
            go_wp2_with fail
            go_roundw
            case rel => exact ⟨j + 1, _, _, _, by omega, by go_num, rfl, hide (by rw [hstep.out]; exact H3.out)⟩
            case measure => simp [intOf]; omega
        · obtain rfl : j = part.length := by omega
          have hlt' : decide ((part.length : Int) < (part.length : Int)) = false := decide_eq_false (by omega)
          have H1 := hide (show GrowI w A1 c1 n1 (joinTo ps (k + 1)) _ from by have := H0.out; rw [List.take_length] at this; rw [hj.out]; exact this)
          clear H0
          go_wp2_with fail
          go_roundw
          case rel => exact ⟨k + 1, n1, A1, c1, by omega, by go_num, rfl, H1⟩
          case measure => simp [intOf]; omega
    · obtain rfl : k = ps.length := by omega
      have hlt' : decide ((ps.length : Int) < (ps.length : Int)) = false := decide_eq_false (by omega)
      go_wp2_with fail
      go_ret
      exact H0.out.ret (Below.refl _ _)
end Go.Proofs.Ytjendjbbhohjcaa

namespace Go.Proofs.Ytjendjbbhohjcaa
open Go.RowKit

set_option maxHeartbeats 800000 in
theorem fenceIf_any (b : Bool) (w : World) : Calls Try.prog 95 #[.bool b] w fun e w' => InsR w w' e (fenL b) := by
  have H := (GrowI.lit (l := [⟨12, 0, 0, 0, 0, 0⟩]) w (cs := #[Value.int .i64 12, Value.int .i64 0, Value.int .i64 0, Value.int .i64 0, Value.int .i64 0, Value.int .i64 0]) (n := 1) (by omega) rfl rfl).ret (Below.refl _ _)
  replace H := hide H
  cases b
  · go_enter Try.func95, Try.ntmps95
    go_wp2_with fail
    go_ret
    exact InsR.nil _
  · go_enter Try.func95, Try.ntmps95
    go_wp2_with fail
    go_ret
    exact H.out
theorem threads_of {w : World} {b : Nat} {ps : List (List InsD)} {S : Nat → Prop} (hb : S b) (hn : ps.length ≤ 1000) (h : ∀ k, k < ps.length → ∃ A c, w.cell? ⟨b, k, none⟩ = some (.slice A (gett ps k).length c) ∧ (gett ps k).length ≤ c ∧ InssAt w S A (gett ps k)) : ThreadsAt w S (some ⟨b, 0, none⟩) ps :=
  ⟨by omega, fun _ => ⟨b, 0, rfl, hb, fun k hk => by rw [Nat.zero_add]; exact h k hk⟩⟩
def SmallN (l : List InsD) : Prop := ∀ d ∈ l, -1000000 ≤ d.n ∧ d.n ≤ 1000000
theorem claimL_small : SmallN claimL := by unfold SmallN claimL; simp
theorem lookL_small : SmallN lookL := by unfold SmallN lookL; simp
theorem fenL_small (b : Bool) : SmallN (fenL b) := by unfold SmallN fenL; cases b <;> simp
theorem takeT_small (r : Int) : SmallN (takeT r 0) := by unfold SmallN takeT; simp
theorem stealT_small (r : Int) : SmallN (stealT r 0) := by unfold SmallN stealT; simp
theorem small3 {a b c : List InsD} (ha : SmallN a) (hb : SmallN b) (hc : SmallN c) (k : Nat) (hk : k < [a, b, c].length) : ∀ d ∈ gett [a, b, c] k, -1000000 ≤ d.n ∧ d.n ≤ 1000000 := by
  match k, hk with
  | 0, _ => exact ha
  | 1, _ => exact hb
  | 2, _ => exact hc
theorem three_of {w : World} {q : Nat} {a b c : List InsD} {A1 A2 A3 : Option Addr} {c1 c2 c3 : Nat} (h : Blk w q 43 #[.slice A1 a.length c1, .slice A2 b.length c2, .slice A3 c.length c3]) (l1 : a.length ≤ c1) (l2 : b.length ≤ c2) (l3 : c.length ≤ c3)
    (h1 : InssAt w (Old w.heap.size) A1 a) (h2 : InssAt w (Old w.heap.size) A2 b) (h3 : InssAt w (Old w.heap.size) A3 c) : ThreadsAt w (Old w.heap.size) (some ⟨q, 0, none⟩) [a, b, c] :=
  threads_of h.lt (by simp) fun k hk => by
    match k, hk with
    | 0, _ => exact ⟨A1, c1, h.cell 0, l1, h1⟩
    | 1, _ => exact ⟨A2, c2, h.cell 1, l2, h2⟩
    | 2, _ => exact ⟨A3, c3, h.cell 2, l3, h3⟩
theorem InssAt.old {w w' : World} {S : Nat → Prop} {A : Option Addr} {l : List InsD} (h : InssAt w S A l) (hb : Below w.heap.size w w') (hS : ∀ b, S b → b < w.heap.size) : InssAt w' (Old w'.heap.size) A l :=
  (h.below hb hS).more (fun b k => Nat.lt_of_lt_of_le (hS b k) hb.size)
theorem lit_at {W : World} {n : Nat} {l : List InsD} {cs : Array Value} (hn : n ≤ 1000) (hs : cs.size = n * 6) (hl : cs.toList = flat l) (hln : l.length = n) : InssAt (W.alloc (.cells cs 89)) (Old (W.alloc (.cells cs 89)).heap.size) (some ⟨W.heap.size, 0, none⟩) l := by
  have h := (GrowI.lit W hn hs hl).own
  subst hln
  obtain ⟨A, c, e, -, hi⟩ := own_inss h
  cases e
  exact hi.more (fun b k => k.2.2)
end Go.Proofs.Ytjendjbbhohjcaa

namespace Go.Proofs.Ytjendjbbhohjcaa
open Go.RowKit

theorem Try.infoParts : (Try.prog.info? 43).map (fun i => (i.zero, i.size, i.bytes)) = some (some (.slice none 0 0), 1, 24) := by kernel_rfl
theorem own_blk {w : World} {B q n size : Nat} {e : TypeId} {cs : Array Value} (h : Blk w q e cs) (hB : B ≤ q) (hn : n ≤ 1000) (hs : cs.size = n * size) : w.ownsRow B e size (.slice (some ⟨q, 0, none⟩) n n) n cs.toList :=
  ⟨by simpa using hs, .inr ⟨_, n, cs, rfl, hB, h, Nat.le_refl _, by have : maxLen = 9223372036854775807 := rfl; omega, hs, List.take_of_length_le (by simp [hs])⟩⟩
structure PartG (W : World) (v : Value) (ps : List (List InsD)) (us : List Value) (w : World) : Prop where
  rows : w.ownsRow W.heap.size 43 1 v ps.length us
  each : ∀ k, k < ps.length → w.ownsRow W.heap.size 89 6 (vat us k) (gett ps k).length (flat (gett ps k))
  low : Below W.heap.size W w
section
variable {W w w1 w2 : World} {v v' u : Value} {ps : List (List InsD)} {us : List Value} {l : List InsD}
theorem PartG.nil (W : World) : PartG W (.slice none 0 0) [] [] W := ⟨⟨rfl, .inl ⟨rfl, rfl⟩⟩, fun k hk => by simp at hk, Below.refl _ _⟩
theorem PartG.len (h : PartG W v ps us w) : us.length = ps.length := by simpa using h.rows.1
theorem PartG.next (h : PartG W v ps us w) (hb : Below w.heap.size w w1) : PartG W v ps us w1 :=
  ⟨own_keep h.rows (fun b _ hlt => hb.block b hlt), fun k hk => own_keep (h.each k hk) (fun b _ hlt => hb.block b hlt), h.low.trans (hb.mono h.low.size)⟩
theorem PartG.more (h : PartG W v ps us w) (hu : w.ownsRow W.heap.size 89 6 u l.length (flat l)) (ho : w1.ownsRow W.heap.size 43 1 v' (ps.length + 1) (us ++ [u])) (hg : w.grownBy w1 v.ownBlock) : PartG W v' (ps ++ [l]) (us ++ [u]) w1 := by
  have hl := h.len
  refine ⟨by simpa using ho, fun k hk => ?_, ?_⟩
  · simp only [List.length_append, List.length_singleton] at hk
    rw [vat_append, gett_append, hl]
    by_cases e : k < ps.length
    · rw [if_pos e, if_pos e]
      exact own_grown (h.each k e) hg (apart_type (h.each k e) h.rows (by decide))
    · rw [if_neg e, if_neg e, if_pos (by omega), if_pos (by omega)]
      exact own_grown hu hg (apart_type hu h.rows (by decide))
  · have hz := h.low.size
    exact ⟨hg.os.trans h.low.os, hg.tape.trans h.low.tape, hg.output.trans h.low.output, Nat.le_trans h.low.size hg.size, fun j hj => (hg.block j (by omega) (fun e => by have := (own_lt h.rows e.symm).1; omega)).trans (h.low.block j hj)⟩
theorem PartG.threads {A : Option Addr} {c : Nat} (h : PartG W (.slice A ps.length c) ps us w) (hn : ps.length ≤ 1000) : ThreadsAt w (Old w.heap.size) A ps := by
  refine ⟨by omega, fun hp => ?_⟩
  rcases h.rows.2 with ⟨_, h0⟩ | ⟨q, cap, cur, hv, hb, hh, hcap, hmax, hcs, ht⟩
  · omega
  · cases hv
    have hlt : q < w.heap.size := by
      rcases Nat.lt_or_ge q w.heap.size with hlt | hge
      · exact hlt
      · rw [Array.getElem?_eq_none hge] at hh; cases hh
    refine ⟨q, 0, rfl, hlt, fun k hk => ?_⟩
    have hl := h.len
    obtain ⟨A3, c3, e3, hc3, hin⟩ := own_inss (h.each k hk)
    refine ⟨A3, c3, ?_, hc3, hin.more (fun b hb => hb.2.2)⟩
    rw [cell_of_row w q _ cur _ (0, 0) hh, Nat.zero_add, ← Array.getElem?_toList]
    have h1 : cur.toList[k]? = us[k]? := by rw [← ht, List.getElem?_take, if_pos (by omega)]
    rw [h1, ← e3, vat, List.getD_eq_getElem?_getD, List.getElem?_eq_getElem (show k < us.length by omega)]
    rfl
end
end Go.Proofs.Ytjendjbbhohjcaa

namespace Go.Proofs.Ytjendjbbhohjcaa
open Go.RowKit

def turnTs (ts : List (List InsD)) (zs : List Int) (k : Nat) : List (List InsD) := (List.range k).map fun (i : Nat) => gett ts (geti zs i).toNat
theorem turnTs_succ (ts : List (List InsD)) (zs : List Int) (k : Nat) : turnTs ts zs (k + 1) = turnTs ts zs k ++ [gett ts (geti zs k).toNat] := by unfold turnTs; rw [List.range_succ, List.map_append]; rfl
theorem turnTs_len (ts : List (List InsD)) (zs : List Int) (k : Nat) : (turnTs ts zs k).length = k := by simp [turnTs]
theorem turnTs_get (ts : List (List InsD)) (zs : List Int) (k j : Nat) (h : j < k) : gett (turnTs ts zs k) j = gett ts (geti zs j).toNat := by
  unfold turnTs gett
  rw [List.getD_eq_getElem?_getD, List.getElem?_map, List.getElem?_range h]
  rfl
def RowR3 (w w' : World) (e : Ending) (ts : List (List InsD)) : Prop := ∃ A c vs, e = .returned (.slice A ts.length c) ∧ w'.ownsRow w.heap.size 45 1 (.slice A ts.length c) ts.length vs ∧
  (∀ k, k < ts.length → w'.ownsRow w.heap.size 89 6 (vat vs k) (gett ts k).length (flat (gett ts k))) ∧ (∀ j k, j < k → k < ts.length → Apart (vat vs j) (vat vs k)) ∧ Below w.heap.size w w'
structure ThG (w0 : World) (g n : Nat) (ts : List (List InsD)) (vs : List Value) (w : World) : Prop where
  blk : Blk w g 45 (vs ++ List.replicate (n - ts.length) (Value.slice none 0 0)).toArray
  len : vs.length = ts.length
  thr : ∀ k, k < ts.length → w.ownsRow (g + 1) 89 6 (vat vs k) (gett ts k).length (flat (gett ts k))
  apart : ∀ j k, j < k → k < ts.length → Apart (vat vs j) (vat vs k)
  low : Below w0.heap.size w0 w
  lo : w0.heap.size ≤ g
theorem ThG.next {w0 w w' : World} {g n : Nat} {ts : List (List InsD)} {vs : List Value} (h : ThG w0 g n ts vs w) (hb : Below w.heap.size w w') : ThG w0 g n ts vs w' :=
  ⟨h.blk.below hb h.blk.lt, h.len, fun k hk => own_keep (h.thr k hk) (fun b _ hlt => hb.block b hlt), h.apart, h.low.trans (hb.mono h.low.size), h.lo⟩
theorem ThG.more {w0 w w' : World} {g n : Nat} {ts : List (List InsD)} {vs : List Value} {l : List InsD} {A : Option Addr} {c : Nat} (h : ThG w0 g n ts vs w) (hn : ts.length < n) (hb : Below w.heap.size w w') (ho : w'.ownsRow w.heap.size 89 6 (.slice A l.length c) l.length (flat l)) :
    ThG w0 g n (ts ++ [l]) (vs ++ [.slice A l.length c]) (w'.setCell ⟨g, ts.length, none⟩ (.slice A l.length c)) := by
  have h1 := h.next hb
  have hg := h.blk.lt
  have far : ∀ {u : Value} {m : Nat} {xs : List Value}, w'.ownsRow (g + 1) 89 6 u m xs → (w'.setCell ⟨g, ts.length, none⟩ (.slice A l.length c)).ownsRow (g + 1) 89 6 u m xs := fun k => own_setFar k (fun e => by have := (own_lt k e).1; have e2 : (⟨g, ts.length, none⟩ : Addr).block = g := rfl; omega) _
  refine ⟨?_, by simp [h.len], fun k hk => ?_, fun j k hjk hk => ?_, h1.low.setCell (p := ⟨g, ts.length, none⟩) h.lo _, h.lo⟩
  · have h2 := h1.blk.set_ ts.length (.slice A l.length c)
    have e : (vs ++ List.replicate (n - ts.length) (Value.slice none 0 0)).toArray.setIfInBounds ts.length (.slice A l.length c) = (vs ++ [Value.slice A l.length c] ++ List.replicate (n - (ts ++ [l]).length) (Value.slice none 0 0)).toArray := by
      rw [List.setIfInBounds_toArray]
      congr 1
      rw [List.set_append, if_neg (by rw [h.len]; omega), h.len, Nat.sub_self, List.length_append, List.length_singleton, show n - ts.length = (n - (ts.length + 1)) + 1 from by omega, List.replicate_succ, List.set_cons_zero, List.append_assoc]
      rfl
    rw [e] at h2
    exact h2
  · rw [List.length_append, List.length_singleton] at hk
    rw [vat_append, gett_append, h.len]
    by_cases e : k < ts.length
    · rw [if_pos e, if_pos e]
      exact far (h1.thr k e)
    · rw [if_neg e, if_neg e, if_pos (by omega), if_pos (by omega)]
      exact far (own_base ho (by omega))
  · rw [List.length_append, List.length_singleton] at hk
    rw [vat_append, vat_append, h.len]
    by_cases e2 : k < ts.length
    · rw [if_pos (show j < ts.length by omega), if_pos e2]
      exact h.apart j k hjk e2
    · rw [if_pos (show j < ts.length by omega), if_neg e2, if_pos (by omega)]
      exact apart_new (h.thr j (by omega)) ho (Nat.le_refl _)
theorem ThG.ret {w0 w : World} {g n : Nat} {ts : List (List InsD)} {vs : List Value} (h : ThG w0 g n ts vs w) (hn : ts.length = n) (hn3 : n ≤ 1000) : RowR3 w0 w (.returned (.slice (some ⟨g, 0, none⟩) n n)) ts := by
  subst hn
  have hb := h.blk
  rw [Nat.sub_self, List.replicate_zero, List.append_nil] at hb
  have hlo := h.lo
  exact ⟨_, _, vs, rfl, own_blk (size := 1) hb hlo hn3 (by simp [h.len]), fun k hk => own_base (h.thr k hk) (by omega), h.apart, h.low⟩
theorem FenR.of_parts {w w1 w2 w' : World} {p : ProgD} {v : Value} {A : Option Addr} {c : Nat} {vs : List Value}
    (hb2 : Below w1.heap.size w1 w2) (hr : w2.ownsRow w1.heap.size 45 1 (.slice A p.ts.length c) p.ts.length vs) (ht : ∀ k, k < p.ts.length → w2.ownsRow w1.heap.size 89 6 (vat vs k) (gett p.ts k).length (flat (gett p.ts k))) (ha : ∀ j k, j < k → k < p.ts.length → Apart (vat vs j) (vat vs k))
    {B : Nat} (hk : ∀ b, B ≤ b → b < w2.heap.size → w'.heap[b]? = w2.heap[b]?) (hbw : Below w.heap.size w w') (hB : w.heap.size ≤ B) (hs : B ≤ w1.heap.size) (hi' : w1.ownsRow B 3 1 v p.init.length (p.init.map (Value.int .i64))) :
    FenR w w' (.returned (.tuple #[.agg #[v, .slice A p.ts.length c], .bool true])) p true := by
  refine ⟨v, _, vs, rfl, ⟨?_, ?_, fun k hk' => ?_, ha⟩, hbw⟩
  · exact own_base (own_keep (own_keep hi' (fun b _ hlt => hb2.block b hlt)) (fun b hb hlt => hk b hb hlt)) hB
  · exact own_base (own_keep (own_base hr hs) (fun b hb hlt => hk b hb hlt)) hB
  · exact own_base (own_keep (own_base (ht k hk') hs) (fun b hb hlt => hk b hb hlt)) hB
end Go.Proofs.Ytjendjbbhohjcaa
