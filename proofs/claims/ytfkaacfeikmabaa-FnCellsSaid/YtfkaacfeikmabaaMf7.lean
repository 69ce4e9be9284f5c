/- szIntS, szInsS, szThread, szThreadS, szProg: what is left behind a program's values. · eqIntS, eqIns, eqInsS, eqThread, eqThreadS, eqProg: true of rows that hold the same. -/
import Derived.Test.YtfkaacfeikmabaaMf0
import Derived.Test.YtfkaacfeikmabaaMf1
import Derived.Test.YtfkaacfeikmabaaMf6
import Derived.Deep.RegionLaw
import Derived.Deep.OwnRows
import Derived.Deep.QuietTactic
import Derived.BigQuiet
import Derived.StillTailTactics
import Derived.Test.YtfkaacfeikmabaaRows
namespace Go.Proofs.Ytfkaacfeikmabaa
open Go.RowKit

attribute [local go_sem ↓] Go.wp_at_zero Go.wp_at_succ

def intRow (zs : List Int) : Array Value := (zs.map (Value.int .i64)).toArray
theorem intRow_get (zs : List Int) (k : Nat) (hk : k < zs.length) : (intRow zs)[k]? = some (.int .i64 (geti zs k)) := by
  simp [intRow, geti, List.getD_eq_getElem?_getD, List.getElem?_eq_getElem hk]
theorem intRow_set (zs : List Int) (k : Nat) (y : Int) : (intRow zs).setIfInBounds k (.int .i64 y) = intRow (zs.set k y) := by
  simp [intRow, List.map_set]
theorem intRow_cell {w : World} {q : Nat} {zs : List Int} (h : Blk w q 3 (intRow zs)) {k : Nat} (hk : k < zs.length) : w.cell? ⟨q, k, none⟩ = some (.int .i64 (geti zs k)) := (h.cell k).trans (intRow_get zs k hk)

structure FiAt (g : Nat) (w0 : World) (T : Nat) (zs : List Int) (w : World) : Prop where
  cur : Cur w g
  only : Only g w0 w
  lo : w0.heap.size + 1 < T
  blkT : Blk w T 69 #[.slice (some ⟨w0.heap.size + 1, 0, none⟩) 6 6]
  blkQ : Blk w (w0.heap.size + 1) 3 (intRow zs)
  len : zs.length = 6
  out : ∃ u, Blk w w0.heap.size 69 #[u]

section
variable {g T : Nat} {w0 w w' : World} {zs : List Int}
theorem FiAt.call (h : FiAt g w0 T zs w) (hg : g < w0.heap.size) (hc : Cur w' g) (ho : Only g w w') : FiAt g w0 T zs w' :=
  ⟨hc, h.only.trans ho, h.lo, h.blkT.only ho (by have := h.lo; omega), h.blkQ.only ho (by omega), h.len, h.out.imp fun _ k => k.only ho (by omega)⟩
theorem FiAt.drew (h : FiAt g w0 T zs w) : FiAt g w0 T zs w.drew := ⟨h.cur, h.only.drew, h.lo, h.blkT, h.blkQ, h.len, h.out⟩
theorem FiAt.alloc (h : FiAt g w0 T zs w) (o : Obj) : FiAt g w0 T zs (w.alloc o) := ⟨h.cur.alloc o, h.only.alloc o, h.lo, h.blkT.alloc o, h.blkQ.alloc o, h.len, h.out.imp fun _ k => k.alloc o⟩
theorem FiAt.set (h : FiAt g w0 T zs w) (hg : g < w0.heap.size) (k : Nat) (y : Int) : FiAt g w0 T (zs.set k y) (w.setCell ⟨w0.heap.size + 1, k, none⟩ (.int .i64 y)) :=
  ⟨h.cur.setCell (by show g < w0.heap.size + 1; omega) _, h.only.setCell (.inr (by show w0.heap.size ≤ w0.heap.size + 1; omega)) _, h.lo, h.blkT.far (by have := h.lo; show T ≠ w0.heap.size + 1; omega) _, by rw [← intRow_set]; exact h.blkQ.set_ _ _, by rw [List.length_set]; exact h.len, h.out.imp fun _ k => k.far (by show w0.heap.size ≠ w0.heap.size + 1; omega) _⟩
theorem FiAt.cells (h : FiAt g w0 T zs w) : w.cell? ⟨T, 0, none⟩ = some (.slice (some ⟨w0.heap.size + 1, 0, none⟩) 6 6) ∧ w.frozen? ⟨T, 0, none⟩ = false ∧ ∀ k, k < 6 → w.cell? ⟨w0.heap.size + 1, k, none⟩ = some (.int .i64 (geti zs k)) ∧ w.frozen? ⟨w0.heap.size + 1, k, none⟩ = false :=
  ⟨h.blkT.cell 0, h.blkT.frozen 0, fun k hk => ⟨intRow_cell h.blkQ (by rw [h.len]; exact hk), h.blkQ.frozen k⟩⟩
end

def FileDrawn (g : Nat) (w w' : World) (e : Ending) : Prop := ∃ (A : Option Addr) (zs : List Int) (c : Nat), e = .returned (.agg #[.slice A zs.length c]) ∧ (zs.length = 6 ∨ zs.length = 5) ∧ IntsAt w' (New w.heap.size w'.heap.size) A zs ∧ Cur w' g ∧ Only g w w'

set_option maxRecDepth 100000 in
set_option maxHeartbeats 6400000 in
theorem l2file_any (g : Nat) (w : World) (hc : Cur w g) :
    Calls Try.prog 129 #[.pointer (some ⟨g, 0, none⟩)] w fun e w' => FileDrawn g w w' e := by
  have hg := hc.lt
  obtain ⟨i1, hi1, hy0, hy1, hy2⟩ := info_parts Try.infoInt
  have HC := hide hc
  clear hc
  go_enter Try.func129, Try.ntmps129
  go_wp2_with (at_make; refine wpList_make_full _ rfl _ _ _ rfl (w.heap.size + 1) 3 i1 _ 1 Try.underlying22 hi1 hy0 hy1 .i64 .i64 6 6 6 rfl rfl rfl rfl (by rw [hy2]; omega) (by decide) (by simp) ?_)
  intro w2 hrow hgr
  have hz2 : w.heap.size + 1 < w2.heap.size ∧ Blk w2 (w.heap.size + 1) 3 (intRow [0, 0, 0, 0, 0, 0]) := by
    rcases hrow.2 with ⟨hv, _⟩ | ⟨q, cap, cur, hv, hq, hh, hcap, hmax, hcs, ht⟩
    · cases hv
    · cases hv
      have e : cur = intRow [0, 0, 0, 0, 0, 0] := by
        have h1 : cur.toList = cur.toList.take (6 * 1) := by rw [List.take_of_length_le (by simp [hcs])]
        have h2 : cur.toList = (intRow [0, 0, 0, 0, 0, 0]).toList := by rw [h1, ht]; first | rfl | decide | (simp [madeCells, intRow, Array.range]; done)
        exact Array.toList_inj.1 h2
      rw [e] at hh
      exact ⟨Blk.lt (t := 3) hh, hh⟩
  have h0 : FiAt g w w2.heap.size [0, 0, 0, 0, 0, 0] (w2.alloc (Obj.cells #[Value.slice (some ⟨w.heap.size + 1, 0, none⟩) 6 6] 69)) := by
    have hB : Below (w.heap.size + 1) (w.alloc (Obj.cells #[Value.slice none 0 0] 69)) w2 := ⟨hgr.os, hgr.tape, hgr.output, hgr.size, fun k hk => hgr.block k (by simpa using hk) (by simp)⟩
    have hcw := (HC.out.alloc (Obj.cells #[Value.slice none 0 0] 69)).below (hB.mono (by omega))
    have how : Only g w w2 := ((Only.refl g w).alloc (Obj.cells #[Value.slice none 0 0] 69)).trans (Only.of_below (hB.mono (by simp)))
    exact ⟨hcw.alloc _, how.alloc _, hz2.1, Blk.new _ _ _, hz2.2.alloc _, rfl, ⟨_, ((Blk.new w 69 #[Value.slice none 0 0]).below hB (by omega)).alloc _⟩⟩
  clear hrow hgr
  go_wp2_with fail
  go_loopw [4] (fun k wr => ∃ (n : Nat) (zs : List Int), k = .int .i64 n ∧ n ≤ 6 ∧ FiAt g w w2.heap.size zs wr) (fun k _ => (6 - intOf k).toNat)
  case atStart => exact ⟨0, _, rfl, by omega, h0⟩
  case round =>
    obtain ⟨n, zs, rfl, hn, h1⟩ := hrel
    obtain ⟨t0, tz, hq⟩ := h1.cells
    have hsz := h1.blkT.lt
    clear h0
    by_cases hlt : n < 6
    · have hlt' : (n : Int) < 6 := by omega
      obtain ⟨q0, qz⟩ := hq n hlt
      have h2 := h1.drew
      clear hq
      go_wp2_with fail
      go_region_law (first
        | (go_simp; refine (l1PickInt_any g (some ⟨wr.heap.size, 0, none⟩) [0, 1, 2, -1, 5, -9223372036854775808] 6 _ (by decide) (by decide) (ints_of_blk (t := 3) (zs := [0, 1, 2, -1, 5, -9223372036854775808]) (Blk.new wr.drew _ _) (by decide) ⟨by simp, by have := h2.cur.lt; have e : wr.drew.heap.size = wr.heap.size := rfl; omega⟩) (h2.alloc _).cur).mono ?_; rintro e w3 ⟨k3, hk3, rfl, hc3, ho3⟩; have h3 := (h2.alloc _).call hg hc3 ho3; obtain ⟨s0, sz, hs⟩ := h3.cells; obtain ⟨p0, pz⟩ := hs n hlt; clear hs; go_simp))
      all_goals
        go_wp2_with fail
        go_roundw
        case rel => exact ⟨n + 1, _, by simp, by omega, h3.set hg n _⟩
        case measure => simp [intOf]; omega
    · obtain rfl : n = 6 := by omega
      clear hq
      go_wp2_with fail
      refine (l1Once_any g 12 _ (by omega) (by omega) h1.cur).mono ?_
      rintro e w3 ⟨bb, rfl, hc3, ho3⟩
      have h3 := h1.call hg hc3 ho3
      clear t0 tz h1 hc3 ho3
      obtain ⟨t0, tz, -⟩ := h3.cells
      have hsz3 := h3.blkT.lt
      obtain ⟨u, hu⟩ := h3.out
      have u0 : w3.cell? ⟨w.heap.size, 0, none⟩ = some u := hu.cell 0
      have uz := hu.frozen 0
      have hl := h3.len
      cases bb
      · have hcu := hide h3.cur
        have hon := hide h3.only
        have hqq := hide h3.blkQ
        clear h3 hu
        go_wp2_with fail
        refine bodyPost_ret (v := .agg #[.slice (some ⟨w.heap.size + 1, 0, none⟩) zs.length 6]) (by rw [hl]; simp [results, Try.results129, go_sem, u0]; done) rfl ⟨_, zs, 6, rfl, .inl hl, ⟨by omega, fun _ => ⟨_, 0, rfl, ⟨by omega, by simp [World.setCell]; omega⟩, fun k hk => ?_⟩⟩, ?_, ?_⟩
        · rw [Nat.zero_add]
          exact intRow_cell (hqq.out.far (by show w.heap.size + 1 ≠ w.heap.size; omega) _) hk
        · exact hcu.out.setCell (by show g < w.heap.size; omega) _
        · exact hon.out.setCell (.inr (Nat.le_refl _)) _
      · have hcu := hide h3.cur
        have hon := hide h3.only
        have hqq := hide h3.blkQ
        clear h3 hu
        go_wp2_with fail
        have hld : (zs.drop 1).length = 5 := by simp [hl]
        refine bodyPost_ret (v := .agg #[.slice (some ⟨w.heap.size + 1, 1, none⟩) (zs.drop 1).length 5]) (by rw [hld]; simp [results, Try.results129, go_sem, u0]; done) rfl ⟨_, zs.drop 1, 5, rfl, .inr hld, ⟨by omega, fun _ => ⟨_, 1, rfl, ⟨by omega, by simp [World.setCell]; omega⟩, fun k hk => ?_⟩⟩, ?_, ?_⟩
        · have h5 := hz2.1
          have hg1 : geti (zs.drop 1) k = geti zs (1 + k) := by unfold geti; rw [List.getD_eq_getElem?_getD, List.getD_eq_getElem?_getD, List.getElem?_drop]
          rw [hg1]
          exact intRow_cell ((hqq.out.far (by show w.heap.size + 1 ≠ w2.heap.size; omega) _).far (by show w.heap.size + 1 ≠ w.heap.size; omega) _) (by omega)
        · have h5 := hz2.1
          exact (hcu.out.setCell (by show g < w2.heap.size; omega) _).setCell (by show g < w.heap.size; omega) _
        · have h5 := hz2.1
          exact (hon.out.setCell (.inr (by show w.heap.size ≤ w2.heap.size; omega)) _).setCell (.inr (Nat.le_refl _)) _
end Go.Proofs.Ytfkaacfeikmabaa

namespace Go.Proofs.Ytfkaacfeikmabaa
open Go.RowKit
def RvI (t : TypeId) (w : World) (lo hi : Nat) (v : Value) (n : Nat) (zs : List Int) : Prop := RvT t w lo v n zs ∧ ∀ b, v.ownBlock = some b → b < hi
section
variable {t t' : TypeId} {w w' w0 : World} {lo hi lo' hi' n n' k : Nat} {v v' : Value} {zs zs' : List Int} {cs : Array Value}
theorem RvI.of (h : RvT t w lo v n zs) : RvI t w lo w.heap.size v n zs := ⟨h, fun _ hb => (h.own_lt hb).2⟩
theorem RvI.next (h : RvI t w lo hi v n zs) (hb : Below w.heap.size w w') : RvI t w' lo hi v n zs := ⟨h.1.next hb, h.2⟩
theorem RvI.base (h : RvI t w lo hi v n zs) (hB : lo' ≤ lo) : RvI t w lo' hi v n zs := ⟨h.1.base hB, h.2⟩
theorem RvI.grown (h : RvI t w lo hi v n zs) (hg : w.grownBy w' v'.ownBlock) (hv : RvI t' w lo' hi' v' n' zs') (ha : hi ≤ lo' ∨ hi' ≤ lo) : RvI t w' lo hi v n zs :=
  ⟨h.1.keep (fun k hk e => hg.block k hk (fun e' => by
    have h1 := h.2 k e
    have h2 := (h.1.own_lt e).1
    have h3 := hv.2 k e'.symm
    have h4 := (hv.1.own_lt e'.symm).1
    omega)), h.2⟩
theorem RvI.setCell (h : RvI t w lo hi v n zs) {p : Addr} (hp : p.block < lo ∨ hi ≤ p.block) (u : Value) : RvI t (w.setCell p u) lo hi v n zs :=
  ⟨h.1.keep (fun k _ hk => Below.heap_setCell w p u k (fun e => by
    have h1 := h.2 k hk
    have h2 := (h.1.own_lt hk).1
    omega)), h.2⟩
theorem Blk.grownI (h : Blk w k t cs) (hg : w.grownBy w' v.ownBlock) (hv : RvI t' w lo hi v n zs) (hne : t ≠ t') : Blk w' k t cs := by
  refine (hg.block k h.lt (fun e => ?_)).trans h
  rcases hv.1 with ⟨rfl, _⟩ | ⟨q, c, rfl, ⟨ds, h1, _⟩, _⟩
  · cases e
  · have e2 : q = k := by simpa [Value.ownBlock] using e.symm
    subst e2
    have h2 : w.heap[q]? = some (.cells cs t (0, 0)) := h
    have h3 : w.heap[q]? = some (.cells ds t' (0, 0)) := h1
    rw [h2] at h3
    cases h3
    exact hne rfl
theorem RvI.grownT (h : RvI t w lo hi v n zs) (hg : w.grownBy w' v'.ownBlock) (hv : RvI t' w lo' hi' v' n' zs') (hne : t ≠ t') : RvI t w' lo hi v n zs := by
  refine ⟨?_, h.2⟩
  rcases h.1 with h1 | ⟨q, c, rfl, ⟨ds, h1, h2, h3⟩, hq⟩
  · exact .inl h1
  · exact .inr ⟨q, c, rfl, ⟨ds, h1.grownI hg hv hne, h2, h3⟩, hq⟩
theorem below_next {B : Nat} (h : Below B w0 w) (hb : Below w.heap.size w w') (hB : B ≤ w.heap.size) : Below B w0 w' := h.trans (hb.mono hB)
theorem below_grownI {B : Nat} (h : Below B w0 w) (hg : w.grownBy w' v.ownBlock) (hv : RvI t w lo hi v n zs) (hlo : B ≤ lo) (hB : B ≤ w.heap.size) : Below B w0 w' :=
  h.trans (below_own hg (fun k hk e => by have := (hv.1.own_lt e.symm).1; omega) hB)
theorem IntsAt.nextI {B : Nat} {A : Option Addr} (h : IntsAt w (Old B) A zs) (hb : Below w.heap.size w w') (hB : B ≤ w.heap.size) : IntsAt w' (Old B) A zs := h.below hb (fun _ h => Nat.lt_of_lt_of_le h hB)
theorem IntsAt.grownI {B : Nat} {A : Option Addr} {ys : List Int} (h : IntsAt w (Old B) A ys) (hg : w.grownBy w' v.ownBlock) (hv : RvI t w lo hi v n zs) (hlo : B ≤ lo) (hB : B ≤ w.heap.size) : IntsAt w' (Old B) A ys :=
  h.below (below_own hg (fun k hk e => by have := (hv.1.own_lt e.symm).1; omega) hB) (fun _ h => h)
theorem RvI.src (h : RvI t w lo hi v n zs) (hn : zs.length ≤ 9223372036854775807) {A : Option Addr} {m c : Nat} (hv : v = .slice A m c) : IntsAt w (Old w.heap.size) A zs := h.1.ints hn hv
theorem RvI.srcN (h : RvI t w lo hi v n zs) (hn : zs.length ≤ 9223372036854775807) {A : Option Addr} {m c : Nat} (hv : v = .slice A m c) : IntsAt w (New lo hi) A zs := by
  rcases h with ⟨hr, hh⟩
  rcases hr with ⟨rfl, _, rfl⟩ | ⟨q, c', rfl, hr, hq⟩
  · cases hv
    exact ⟨by simp, fun h => by simp at h⟩
  · cases hv
    exact (hr.ints hn).more (fun b e => by subst e; exact ⟨hq, hh _ rfl⟩)
theorem grown_below {r : Option Nat} (hb : Below w.heap.size w w') : w.grownBy w' r := ⟨hb.os, hb.tape, hb.output, hb.size, fun k hk _ => hb.block k hk⟩
theorem grown_only {q : Nat} (ho : Only q w w') : w.grownBy w' (some q) := ⟨ho.os, ho.tape, ho.output, ho.size, fun k hk hne => ho.block k hk (fun e => hne (by rw [e]))⟩
end

def markZ (k : Int) (m : Nat) : Int := k + m
theorem markZ_nonneg {k : Int} {m : Nat} (h : 0 ≤ k) : ¬ markZ k m < 0 := by unfold markZ; omega
theorem markZ_ge {k : Int} {m : Nat} (h : 0 ≤ k) : 0 ≤ markZ k m := by unfold markZ; omega
theorem markZ_le {k : Int} {m : Nat} {B C : Nat} (h : k ≤ B) (hm : m ≤ C) : markZ k m ≤ ((B + C : Nat) : Int) := by unfold markZ; omega

theorem old_lts {B : Nat} {w : World} (hB : B ≤ w.heap.size) : ∀ b, Old B b → b < w.heap.size := fun _ h => Nat.lt_of_lt_of_le h hB
theorem box1 {w : World} {g : Nat} {t : TypeId} {a : Value} (h : Blk w g t #[a]) : (w.cell? ⟨g, 0, none⟩ = some a ∧ w.frozen? ⟨g, 0, none⟩ = false) ∧ g < w.heap.size := ⟨⟨h.cell 0, h.frozen 0⟩, h.lt⟩
end Go.Proofs.Ytfkaacfeikmabaa

namespace Go.Proofs.Ytfkaacfeikmabaa
open Go.RowKit
set_option maxHeartbeats 800000 in
theorem toIntS_row (A : Option Addr) (zs : List Int) (c : Nat) (S : Nat → Prop) (w : World) (hn : zs.length ≤ 1048576) (hS : ∀ b, S b → b < w.heap.size) (ha : IntsAt w S A zs) :
    Calls Try.prog 62 #[.slice A zs.length c] w fun e w' => e = .returned (.slice (some ⟨w.heap.size, 0, none⟩) zs.length zs.length) ∧ RowB w' w.heap.size zs ∧ Below w.heap.size w w' := by
  have hmk := make_ints zs.length hn
  go_enter Try.func62, Try.ntmps62
  go_wp2
  clear hmk
  go_loopw [4] (fun i wr => ∃ (k : Nat) (cs : Array Value), k ≤ zs.length ∧ i = .int .i64 k ∧ Blk wr w.heap.size 3 cs ∧ Hid (cs.size = zs.length) ∧ Hid (∀ j, j < k → cs[j]? = some (.int .i64 (geti zs j))) ∧ Below w.heap.size w wr) (fun i _ => zs.length - (intOf i).toNat)
  case atStart => exact ⟨0, _, Nat.zero_le _, rfl, Blk.new _ _ _, hide (zrow_size1 _ _), hide (fun j hj => by omega), below1 _ _⟩
  case round =>
    obtain ⟨k, cs, hk, rfl, hblk, hsz, hcs, hb⟩ := hrel
    by_cases hlt : k < zs.length
    · obtain ⟨b, off, rfl, hbB, hc⟩ := (ha.below hb hS).2 (by omega)
      have hcell := hc k hlt
      obtain ⟨v0, hv0⟩ : ∃ v0, cs[k]? = some v0 := ⟨cs[k]'(by have := hsz.out; omega), Array.getElem?_eq_getElem _⟩
      have hdst := (hblk.cell k).trans hv0
      have hfz := hblk.frozen k
      have HB := hide hblk
      clear hv0 hblk hc
      go_wp2
      go_roundw
      case rel =>
        refine ⟨k + 1, cs.setIfInBounds k (.int .i64 (geti zs k)), by omega, by go_num, HB.out.set_ k _, hide (by rw [Array.size_setIfInBounds]; exact hsz.out), hide (fun j hj => ?_), hb.setCell (Nat.le_refl _) _⟩
        rw [Array.getElem?_setIfInBounds]
        by_cases e : k = j
        · subst e; rw [if_pos rfl, if_pos (by have := hsz.out; omega)]
        · rw [if_neg e]; exact hcs.out j (by omega)
      case measure => simp [intOf]; omega
    · obtain rfl : k = zs.length := by omega
      go_wp2
      go_ret
      exact ⟨rfl, ⟨cs, hblk, Nat.le_of_eq hsz.out.symm, hcs.out⟩, hb⟩

theorem toIntSI {A : Option Addr} {zs : List Int} {m c : Nat} {S : Nat → Prop} {w : World} (hz : zs.length = m) (hm : m ≤ 1048576) (hS : ∀ b, S b → b < w.heap.size) (ha : IntsAt w S A zs) :
    Calls Try.prog 62 #[.slice A m c] w fun e w' => ∃ q, e = .returned (.slice (some ⟨q, 0, none⟩) m m) ∧ RvI 3 w' w.heap.size w'.heap.size (.slice (some ⟨q, 0, none⟩) m m) m zs ∧ Below w.heap.size w w' := by
  subst hz
  refine (toIntS_row A zs c S w hm hS ha).mono ?_
  rintro e w' ⟨rfl, hr, hb⟩
  exact ⟨_, rfl, RvI.of (.inr ⟨_, _, rfl, hr, Nat.le_refl _⟩), hb⟩
end Go.Proofs.Ytfkaacfeikmabaa

namespace Go.Proofs.Ytfkaacfeikmabaa
open Go.RowKit
set_option maxHeartbeats 400000 in
theorem szIntS_any (A : Option Addr) (n c : Nat) (left : Int) (w : World) (h0 : 0 ≤ left) (h1 : left ≤ 1048576) (hn : n ≤ 9223372036854775807) :
    Calls Try.prog 57 #[.slice A n c, .int .i64 left] w fun e w' => e = .returned (.int .i64 (szR left n)) ∧ w = w' := by
  by_cases h : left < n
  · have HF := hide (show szR left n = -1 by unfold szR; rw [if_pos h])
    go_enter Try.func57, Try.ntmps57
    go_wp2
    go_ret
    exact ⟨ret_int HF.out.symm, rfl⟩
  · have HF := hide (show szR left n = left - n by unfold szR; rw [if_neg h])
    go_enter Try.func57, Try.ntmps57
    go_wp2
    go_ret
    exact ⟨ret_int HF.out.symm, rfl⟩

end Go.Proofs.Ytfkaacfeikmabaa

namespace Go.Proofs.Ytfkaacfeikmabaa
open Go.RowKit
set_option maxHeartbeats 800000 in
theorem eqIntS_any (A A' : Option Addr) (zs : List Int) (c c' : Nat) (S : Nat → Prop) (w : World) (hS : ∀ b, S b → b < w.heap.size) (ha : IntsAt w S A zs) (ha' : IntsAt w S A' zs) :
    Calls Try.prog 69 #[.slice A zs.length c, .slice A' zs.length c'] w fun e w' => e = .returned (.bool true) ∧ Below w.heap.size w w' := by
  have hn := ha.1
  go_enter Try.func69, Try.ntmps69
  go_wp2
  go_loopw [5] (fun i wr => ∃ (k : Nat), k ≤ zs.length ∧ i = .int .i64 k ∧ Below w.heap.size w wr) (fun i _ => zs.length - (intOf i).toNat)
  case atStart => exact ⟨0, Nat.zero_le _, rfl, Below.refl _ _⟩
  case round =>
    obtain ⟨k, hk, rfl, hb⟩ := hrel
    by_cases hlt : k < zs.length
    · obtain ⟨b, off, rfl, hbB, hc⟩ := (ha.below hb hS).2 (by omega)
      obtain ⟨b', off', rfl, hbB', hc'⟩ := (ha'.below hb hS).2 (by omega)
      have hcell := hc k hlt
      have hcell' := hc' k hlt
      have hx : ((k : Int) < (zs.length : Int)) := by omega
      clear hc hc'
      go_wp2
      go_quiet (fail)
      go_wp2
      go_roundw
      case rel => exact ⟨k + 1, by omega, by go_num, below_drewN hb _⟩
      case measure => simp [intOf]; omega
    · obtain rfl : k = zs.length := by omega
      go_wp2
      go_ret
      exact ⟨rfl, hb⟩

theorem eqIntSI {w : World} {lo hi lo' hi' n c c' : Nat} {A A' : Option Addr} {zs : List Int} (hz : zs.length = n) (hn : n ≤ 9223372036854775807) (h : RvI 3 w lo hi (.slice A n c) n zs) (k : RvI 3 w lo' hi' (.slice A' n c') n zs) :
    Calls Try.prog 69 #[.slice A n c, .slice A' n c'] w fun e w' => e = .returned (.bool true) ∧ Below w.heap.size w w' := by
  subst hz
  exact eqIntS_any A A' zs c c' _ w (fun _ h => h) (h.src hn rfl) (k.src hn rfl)
end Go.Proofs.Ytfkaacfeikmabaa

namespace Go.Proofs.Ytfkaacfeikmabaa
open Go.RowKit

set_option maxHeartbeats 400000 in
theorem szInsS_any (A : Option Addr) (n c : Nat) (left : Int) (w : World) (h0 : 0 ≤ left) (h1 : left ≤ 1048576) (hn : n ≤ 9223372036854775807) :
    Calls Try.prog 180 #[.slice A n c, .int .i64 left] w fun e w' => e = .returned (.int .i64 (szR left n)) ∧ w = w' := by
  by_cases h : left < n
  · have HF := hide (show szR left n = -1 by unfold szR; rw [if_pos h])
    go_enter Try.func180, Try.ntmps180
    go_wp2
    go_ret
    exact ⟨ret_int HF.out.symm, rfl⟩
  · have HF := hide (show szR left n = left - n by unfold szR; rw [if_neg h])
    go_enter Try.func180, Try.ntmps180
    go_wp2
    go_ret
    exact ⟨ret_int HF.out.symm, rfl⟩

set_option maxHeartbeats 400000 in
theorem szThread_any (A : Option Addr) (n c : Nat) (left : Int) (w : World) (h0 : 0 ≤ left) (h1 : left ≤ 1048576) (hn : n ≤ 9223372036854775807) :
    Calls Try.prog 137 #[.agg #[.slice A n c], .int .i64 left] w fun e w' => e = .returned (.int .i64 (szR left n)) ∧ Below w.heap.size w w' := by
  have k1 := hide (fun w => szInsS_any A n c left w h0 h1 hn)
  have hs : szR left n < 0 ∨ 0 ≤ szR left n := by omega
  have hs2 : szR left n < 0 → szR left n = -1 := by unfold szR; split <;> omega
  have hs3 := hide hs2
  clear hs2 h0 h1 hn
  generalize szR left n = r at *
  rcases hs with hs | hs
  · go_enter Try.func137, Try.ntmps137
    go_wp2_with (go_at_call 180; refine (k1.out _).mono ?_; rintro e w1 ⟨rfl, rfl⟩)
    go_ret
    exact ⟨ret_int (hs3.out hs).symm, below1 _ _⟩
  · go_enter Try.func137, Try.ntmps137
    go_wp2_with (go_at_call 180; refine (k1.out _).mono ?_; rintro e w1 ⟨rfl, rfl⟩)
    go_ret
    exact ⟨rfl, below1 _ _⟩

set_option maxHeartbeats 800000 in
theorem szThreadS_any (A : Option Addr) (ts : List (List InsD)) (c : Nat) (S : Nat → Prop) (left : Int) (w : World) (h0 : 0 ≤ left) (h1 : left ≤ 1048576) (hS : ∀ b, S b → b < w.heap.size) (ha : ThreadsAt w S A ts) :
    Calls Try.prog 58 #[.slice A ts.length c, .int .i64 left] w fun e w' => e = .returned (.int .i64 (szR left (tsSize ts))) ∧ Below w.heap.size w w' := by
  have hn := ha.1
  have Hle := hide (insTo_le ts)
  have Hsucc := hide (insTo_succ ts)
  have Hall := hide (insTo_all ts)
  have Hz := hide (insTo_zero ts)
  by_cases h : left < ts.length
  · have HF := hide (szR_neg (left := left) (n := tsSize ts) (by have := Hle.out 0; omega))
    go_enter Try.func58, Try.ntmps58
    go_wp2
    go_ret
    exact ⟨ret_int HF.out.symm, Below.refl _ _⟩
  · go_enter Try.func58, Try.ntmps58
    go_wp2
    go_loopw [1, 5] (fun l i wr => ∃ k : Nat, k ≤ ts.length ∧ (insTo ts k : Int) ≤ left - ts.length ∧ i = .int .i64 k ∧ l = .int .i64 (left - ts.length - insTo ts k) ∧ Below w.heap.size w wr) (fun _ i _ => ts.length - (intOf i).toNat)
    case atStart => exact ⟨0, Nat.zero_le _, by rw [Hz.out]; omega, rfl, by rw [Hz.out]; simp, Below.refl _ _⟩
    case round =>
      obtain ⟨k, hk, hl, rfl, rfl, hb⟩ := hrel
      by_cases hlt : k < ts.length
      · obtain ⟨b, off, rfl, hbB, hc⟩ := (ha.below hb hS).2 (by omega)
        obtain ⟨A', c', hcell, hcap, hin⟩ := hc k hlt
        have hn' := hin.1
        have hs := Hsucc.out k hlt
        by_cases hx : left - ts.length - insTo ts k < (gett ts k).length
        · have HF := hide (szR_neg (left := left) (n := tsSize ts) (by have := Hle.out (k + 1); omega))
          have kc := fun w => szThread_any A' (gett ts k).length c' (left - ts.length - insTo ts k) w (by omega) (by omega) hn'
          simp only [szR_neg hx] at kc
          have KC := hide kc
          clear kc hx hs
          go_wp2_with (go_at_call 137; refine (KC.out _).mono ?_; rintro e w1 ⟨rfl, hb1⟩)
          go_ret
          exact ⟨ret_int HF.out.symm, below_then hb hb1⟩
        · have kc := fun w => szThread_any A' (gett ts k).length c' (left - ts.length - insTo ts k) w (by omega) (by omega) hn'
          simp only [szR_pos hx] at kc
          have KC := hide kc
          have HX : 0 ≤ left - ts.length - insTo ts k - (gett ts k).length := by omega
          have HS := hide hs
          clear kc hx hs
          go_wp2_with (go_at_call 137; refine (KC.out _).mono ?_; rintro e w1 ⟨rfl, hb1⟩)
          go_roundw
          case rel => exact ⟨k + 1, by omega, by rw [HS.out]; omega, by go_num, by rw [HS.out]; go_num, below_then hb hb1⟩
          case measure => simp [intOf]; omega
      · obtain rfl : k = ts.length := by omega
        have HF := hide (show szR left (tsSize ts) = left - ts.length - insTo ts ts.length by rw [szR_pos (by have := Hall.out; omega)]; have := Hall.out; omega)
        go_wp2
        go_ret
        exact ⟨ret_int HF.out.symm, hb⟩

set_option maxHeartbeats 800000 in
theorem szProg_any (p : ProgD) (v : Value) (S : Nat → Prop) (left : Int) (w : World) (h0 : 0 ≤ left) (h1 : left ≤ 1048576) (hS : ∀ b, S b → b < w.heap.size) (hp : ProgAt w S v p) :
    Calls Try.prog 13 #[v, .int .i64 left] w fun e w' => e = .returned (.int .i64 (szR left (progSize p))) ∧ Below w.heap.size w w' := by
  obtain ⟨A, c, A', c', rfl, hcc, hi, ht⟩ := hp
  by_cases h : left < p.init.length
  · have HF := hide (szR_neg (left := left) (n := progSize p) (by unfold progSize; omega))
    have kc := fun w => szIntS_any A p.init.length c left w h0 h1 hi.1
    simp only [szR_neg h] at kc
    have KC := hide kc
    clear kc h
    go_enter Try.func13, Try.ntmps13
    go_wp2_with (go_at_call 57; refine (KC.out _).mono ?_; rintro e w1 ⟨rfl, rfl⟩)
    go_ret
    exact ⟨ret_int HF.out.symm, below1 _ _⟩
  · have kc := fun w => szIntS_any A p.init.length c left w h0 h1 hi.1
    simp only [szR_pos h] at kc
    have KC := hide kc
    have h2 : 0 ≤ left - p.init.length := by omega
    have kd := fun (w1 : World) (h : ThreadsAt w1 S A' p.ts) (hS : ∀ b, S b → b < w1.heap.size) => szThreadS_any A' p.ts c' S (left - p.init.length) w1 h2 (by omega) hS h
    by_cases hx : left - p.init.length < tsSize p.ts
    · have HF := hide (szR_neg (left := left) (n := progSize p) (by unfold progSize; omega))
      simp only [szR_neg hx] at kd
      have KD := hide kd
      clear kc kd h hx
      go_enter Try.func13, Try.ntmps13
      go_wp2_with (first | (go_at_call 57; refine (KC.out _).mono ?_; rintro e w1 ⟨rfl, rfl⟩) | (go_at_call 58; refine (KD.out _ (ht.below (below1 _ _) hS) (fun b h => Nat.lt_of_lt_of_le (hS b h) (below1 _ _).size)).mono ?_; rintro e w1 ⟨rfl, hb1⟩))
      go_ret
      exact ⟨ret_int HF.out.symm, below_step hb1⟩
    · have HF := hide (show szR left (progSize p) = left - p.init.length - tsSize p.ts by rw [szR_pos (by unfold progSize; omega)]; unfold progSize; omega)
      simp only [szR_pos hx] at kd
      have KD := hide kd
      have h3 : 0 ≤ left - p.init.length - tsSize p.ts := by omega
      clear kc kd h hx
      go_enter Try.func13, Try.ntmps13
      go_wp2_with (first | (go_at_call 57; refine (KC.out _).mono ?_; rintro e w1 ⟨rfl, rfl⟩) | (go_at_call 58; refine (KD.out _ (ht.below (below1 _ _) hS) (fun b h => Nat.lt_of_lt_of_le (hS b h) (below1 _ _).size)).mono ?_; rintro e w1 ⟨rfl, hb1⟩))
      go_ret
      exact ⟨ret_int HF.out.symm, below_step hb1⟩
end Go.Proofs.Ytfkaacfeikmabaa

namespace Go.Proofs.Ytfkaacfeikmabaa
open Go.RowKit

set_option maxHeartbeats 800000 in
theorem eqIns_any (d : InsD) (w : World) :
    Calls Try.prog 201 #[.agg #[.int .i64 d.o, .int .i64 d.r, .int .i64 d.a, .int .i64 d.b, .int .i64 d.x, .int .i64 d.n], .agg #[.int .i64 d.o, .int .i64 d.r, .int .i64 d.a, .int .i64 d.b, .int .i64 d.x, .int .i64 d.n]] w fun e w' => e = .returned (.bool true) ∧ Below w.heap.size w w' := by
  go_enter Try.func201, Try.ntmps201
  go_wp2
  go_ret
  exact ⟨rfl, below2 _ _ _⟩

set_option maxRecDepth 100000 in
set_option maxHeartbeats 800000 in
theorem eqInsS_any (A A' : Option Addr) (l : List InsD) (c c' : Nat) (S : Nat → Prop) (w : World) (hS : ∀ b, S b → b < w.heap.size) (ha : InssAt w S A l) (ha' : InssAt w S A' l) :
    Calls Try.prog 186 #[.slice A l.length c, .slice A' l.length c'] w fun e w' => e = .returned (.bool true) ∧ Below w.heap.size w w' := by
  have hn := ha.1
  go_enter Try.func186, Try.ntmps186
  go_wp2
  go_loopw [5] (fun i wr => ∃ (k : Nat), k ≤ l.length ∧ i = .int .i64 k ∧ Below w.heap.size w wr) (fun i _ => l.length - (intOf i).toNat)
  case atStart => exact ⟨0, Nat.zero_le _, rfl, Below.refl _ _⟩
  case round =>
    obtain ⟨k, hk, rfl, hb⟩ := hrel
    by_cases hlt : k < l.length
    · obtain ⟨b, off, rfl, hbB, hc⟩ := (ha.below hb hS).2 (by omega)
      obtain ⟨b', off', rfl, hbB', hc'⟩ := (ha'.below hb hS).2 (by omega)
      obtain ⟨c0, c1, c2, c3, c4, c5⟩ := hc k hlt
      obtain ⟨g0, g1, g2, g3, g4, g5⟩ := hc' k hlt
      have hx : ((k : Int) < (l.length : Int)) := by omega
      clear hc hc'
      go_wp2_with fail
      go_still_tail 8, (by kernel_rfl)
      have hbd := hb.drew
      change wpList _ _ _ _ _ wr.drew
      generalize wr.drew = w2 at *
      go_wp2_with (go_at_call 201; refine (eqIns_any (getd l k) _).mono ?_; rintro e w3 ⟨rfl, hb3⟩)
      go_roundw
      case rel => exact ⟨k + 1, by omega, by go_num, below_then hbd hb3⟩
      case measure => simp [intOf]; omega
    · obtain rfl : k = l.length := by omega
      go_wp2
      go_ret
      exact ⟨rfl, hb⟩

set_option maxHeartbeats 800000 in
theorem eqThread_any (A A' : Option Addr) (l : List InsD) (c c' : Nat) (S : Nat → Prop) (w : World) (hS : ∀ b, S b → b < w.heap.size) (ha : InssAt w S A l) (ha' : InssAt w S A' l) :
    Calls Try.prog 143 #[.agg #[.slice A l.length c], .agg #[.slice A' l.length c']] w fun e w' => e = .returned (.bool true) ∧ Below w.heap.size w w' := by
  have hb2 := below2 w (Obj.cells #[Value.slice A l.length c] 99) (Obj.cells #[Value.slice A' l.length c'] 99)
  go_enter Try.func143, Try.ntmps143
  go_wp2_with fail
  refine (eqInsS_any A A' l c c' S _ (fun b h => Nat.lt_of_lt_of_le (hS b h) hb2.size) (ha.below hb2 hS) (ha'.below hb2 hS)).mono ?_
  rintro e w3 ⟨rfl, hb3⟩
  go_wp2_with fail
  go_ret
  exact ⟨rfl, below_then hb2 hb3⟩

set_option maxRecDepth 100000 in
set_option maxHeartbeats 800000 in
theorem eqThreadS_any (A A' : Option Addr) (ts : List (List InsD)) (c c' : Nat) (S : Nat → Prop) (w : World) (hS : ∀ b, S b → b < w.heap.size) (ha : ThreadsAt w S A ts) (ha' : ThreadsAt w S A' ts) :
    Calls Try.prog 70 #[.slice A ts.length c, .slice A' ts.length c'] w fun e w' => e = .returned (.bool true) ∧ Below w.heap.size w w' := by
  have hn := ha.1
  go_enter Try.func70, Try.ntmps70
  go_wp2
  go_loopw [5] (fun i wr => ∃ (k : Nat), k ≤ ts.length ∧ i = .int .i64 k ∧ Below w.heap.size w wr) (fun i _ => ts.length - (intOf i).toNat)
  case atStart => exact ⟨0, Nat.zero_le _, rfl, Below.refl _ _⟩
  case round =>
    obtain ⟨k, hk, rfl, hb⟩ := hrel
    by_cases hlt : k < ts.length
    · obtain ⟨b, off, rfl, hbB, hc⟩ := (ha.below hb hS).2 (by omega)
      obtain ⟨b', off', rfl, hbB', hc'⟩ := (ha'.below hb hS).2 (by omega)
      obtain ⟨A2, c2, h1, hcap, h2⟩ := hc k hlt
      obtain ⟨A3, c3, h3, hcap', h4⟩ := hc' k hlt
      have hx : ((k : Int) < (ts.length : Int)) := by omega
      clear hc hc'
      go_wp2_with fail
      go_still_tail 8, (by kernel_rfl)
      have hbd := hb.drew
      have h2d : InssAt wr.drew S A2 (gett ts k) := h2
      have h4d : InssAt wr.drew S A3 (gett ts k) := h4
      change wpList _ _ _ _ _ wr.drew
      clear h1 h2 h3 h4
      generalize wr.drew = w2 at *
      go_wp2_with (go_at_call 143; refine (eqThread_any A2 A3 (gett ts k) c2 c3 S _ (fun b h => Nat.lt_of_lt_of_le (hS b h) hbd.size) h2d h4d).mono ?_; rintro e w3 ⟨rfl, hb3⟩)
      go_roundw
      case rel => exact ⟨k + 1, by omega, by go_num, below_then hbd hb3⟩
      case measure => simp [intOf]; omega
    · obtain rfl : k = ts.length := by omega
      go_wp2
      go_ret
      exact ⟨rfl, hb⟩

set_option maxHeartbeats 800000 in
theorem eqProg_any (v v' : Value) (p : ProgD) (S : Nat → Prop) (w : World) (hS : ∀ b, S b → b < w.heap.size) (hp : ProgAt w S v p) (hp' : ProgAt w S v' p) :
    Calls Try.prog 19 #[v, v'] w fun e w' => e = .returned (.bool true) ∧ Below w.heap.size w w' := by
  obtain ⟨A, c, A', c', rfl, hcc, hi, ht⟩ := hp
  obtain ⟨A2, c2, A2', c2', rfl, hcc', hi', ht'⟩ := hp'
  have hb2 := below2 w (Obj.cells #[Value.slice A p.init.length c, Value.slice A' p.ts.length c'] 31) (Obj.cells #[Value.slice A2 p.init.length c2, Value.slice A2' p.ts.length c2'] 31)
  go_enter Try.func19, Try.ntmps19
  go_wp2_with fail
  refine (eqIntS_any A A2 p.init c c2 S _ (fun b h => Nat.lt_of_lt_of_le (hS b h) hb2.size) (hi.below hb2 hS) (hi'.below hb2 hS)).mono ?_
  rintro e w3 ⟨rfl, hb3⟩
  obtain ⟨hcl3, hfz3⟩ := bcell hb3
  go_wp2_with fail
  have hb4 := below_then hb2 hb3
  refine (eqThreadS_any A' A2' p.ts c' c2' S _ (fun b h => Nat.lt_of_lt_of_le (hS b h) hb4.size) (ht.below hb4 hS) (ht'.below hb4 hS)).mono ?_
  rintro e w5 ⟨rfl, hb5⟩
  go_wp2_with fail
  go_ret
  exact ⟨rfl, below_then hb4 hb5⟩
end Go.Proofs.Ytfkaacfeikmabaa
