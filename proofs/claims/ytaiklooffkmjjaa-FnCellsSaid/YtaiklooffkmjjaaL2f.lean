/- l2file: a file of six numbers drawn, or of five. -/
import Derived.Test.YtaiklooffkmjjaaBeG
import Derived.Deep.RegionLaw
namespace Go.Proofs.Ytaiklooffkmjjaa
open Go.RowKit

attribute [local go_sem ↓] Go.wp_at_zero Go.wp_at_succ

def intRow (zs : List Int) : Array Value := (zs.map (Value.int .i64)).toArray
theorem intRow_get (zs : List Int) (k : Nat) (hk : k < zs.length) : (intRow zs)[k]? = some (.int .i64 (geti zs k)) := by
  simp [intRow, geti, List.getD_eq_getElem?_getD, List.getElem?_eq_getElem hk]
theorem intRow_set (zs : List Int) (k : Nat) (y : Int) : (intRow zs).setIfInBounds k (.int .i64 y) = intRow (zs.set k y) := by
  simp [intRow, List.map_set]
theorem intRow_cell {w : World} {q : Nat} {zs : List Int} (h : Blk w q 3 (intRow zs)) {k : Nat} (hk : k < zs.length) : w.cell? ⟨q, k, none⟩ = some (.int .i64 (geti zs k)) := (h.cell k).trans (intRow_get zs k hk)

/-- A file in the making: its row in block w0.heap.size + 1, its slice in the one behind. -/
structure FiAt (g : Nat) (w0 : World) (T : Nat) (zs : List Int) (w : World) : Prop where
  cur : Cur w g
  only : Only g w0 w
  lo : w0.heap.size + 1 < T
  blkT : Blk w T 32 #[.slice (some ⟨w0.heap.size + 1, 0, none⟩) 6 6]
  blkQ : Blk w (w0.heap.size + 1) 3 (intRow zs)
  len : zs.length = 6
  out : ∃ u, Blk w w0.heap.size 32 #[u]

section
variable {g T : Nat} {w0 w w' : World} {zs : List Int}
theorem FiAt.call (h : FiAt g w0 T zs w) (hg : g < w0.heap.size) (hc : Cur w' g) (ho : Only g w w') : FiAt g w0 T zs w' :=
  ⟨hc, h.only.trans ho, h.lo, h.blkT.only ho (by have := h.lo; omega), h.blkQ.only ho (by omega), h.len, h.out.imp fun _ k => k.only ho (by omega)⟩
theorem FiAt.drew (h : FiAt g w0 T zs w) : FiAt g w0 T zs w.drew := ⟨h.cur, h.only.drew, h.lo, h.blkT, h.blkQ, h.len, h.out⟩
theorem FiAt.alloc (h : FiAt g w0 T zs w) (o : Obj) : FiAt g w0 T zs (w.alloc o) := ⟨h.cur.alloc o, h.only.alloc o, h.lo, h.blkT.alloc o, h.blkQ.alloc o, h.len, h.out.imp fun _ k => k.alloc o⟩
theorem FiAt.set (h : FiAt g w0 T zs w) (hg : g < w0.heap.size) (k : Nat) (y : Int) : FiAt g w0 T (zs.set k y) (w.setCell ⟨w0.heap.size + 1, k, none⟩ (.int .i64 y)) :=
  ⟨h.cur.setCell (by show g < w0.heap.size + 1; omega) _, h.only.setCell (.inr (by show w0.heap.size ≤ w0.heap.size + 1; omega)) _, h.lo, h.blkT.far (by have := h.lo; show T ≠ w0.heap.size + 1; omega) _, by rw [← intRow_set]; exact h.blkQ.set_ _ _, by rw [List.length_set]; exact h.len, h.out.imp fun _ k => k.far (by show w0.heap.size ≠ w0.heap.size + 1; omega) _⟩
theorem FiAt.cells (h : FiAt g w0 T zs w) : w.cell? ⟨T, 0, none⟩ = some (.slice (some ⟨w0.heap.size + 1, 0, none⟩) 6 6) ∧ w.frozen? ⟨T, 0, none⟩ = false ∧ ∀ k, k < 6 → w.cell? ⟨w0.heap.size + 1, k, none⟩ = some (.int .i64 (geti zs k)) ∧ w.frozen? ⟨w0.heap.size + 1, k, none⟩ = false :=
  ⟨h.blkT.cell 0, h.blkT.frozen 0, fun k hk => ⟨intRow_cell h.blkQ (by rw [h.len]; exact hk), h.blkQ.frozen k⟩⟩
end

/-- A file drawn. -/
def FileDrawn (g : Nat) (w w' : World) (e : Ending) : Prop := ∃ (A : Option Addr) (zs : List Int) (c : Nat), e = .returned (.agg #[.slice A zs.length c]) ∧ (zs.length = 6 ∨ zs.length = 5) ∧ IntsAt w' (New w.heap.size w'.heap.size) A zs ∧ Cur w' g ∧ Only g w w'

set_option maxRecDepth 100000 in
set_option maxHeartbeats 6400000 in
theorem l2file_any (g : Nat) (w : World) (hc : Cur w g) :
    Calls Try.prog 37 #[.pointer (some ⟨g, 0, none⟩)] w fun e w' => FileDrawn g w w' e := by
  have hg := hc.lt
  obtain ⟨i1, hi1, hy0, hy1, hy2⟩ := info_parts Try.infoInt
  have HC := hide hc
  clear hc
  go_enter Try.func37, Try.ntmps37
  go_wp2_with (at_make; refine wpList_make_full _ rfl _ _ _ rfl (w.heap.size + 1) 3 i1 _ 1 Try.underlying30 hi1 hy0 hy1 .i64 .i64 6 6 6 rfl rfl rfl rfl (by rw [hy2]; omega) (by decide) (by simp) ?_)
  intro w2 hrow hgr
  have hz2 : w.heap.size + 1 < w2.heap.size ∧ Blk w2 (w.heap.size + 1) 3 (intRow [0, 0, 0, 0, 0, 0]) := by
    rcases hrow.2 with ⟨hv, _⟩ | ⟨q, cap, cur, hv, hq, hh, hcap, hmax, hcs, ht⟩
    · cases hv
    · cases hv
      have e : cur = intRow [0, 0, 0, 0, 0, 0] := by
        have h1 : cur.toList = cur.toList.take (6 * 1) := by rw [List.take_of_length_le (by simp [hcs])]
        have h2 : cur.toList = (intRow [0, 0, 0, 0, 0, 0]).toList := by rw [h1, ht]; first | rfl | decide | (simp [madeCells, intRow, Array.range]; done)
        exact Array.toList_inj.1 h2
      rw [e] at hh
      exact ⟨Blk.lt (t := 3) hh, hh⟩
  have h0 : FiAt g w w2.heap.size [0, 0, 0, 0, 0, 0] (w2.alloc (Obj.cells #[Value.slice (some ⟨w.heap.size + 1, 0, none⟩) 6 6] 32)) := by
    have hB : Below (w.heap.size + 1) (w.alloc (Obj.cells #[Value.slice none 0 0] 32)) w2 := ⟨hgr.os, hgr.tape, hgr.output, hgr.size, fun k hk => hgr.block k (by simpa using hk) (by simp)⟩
    have hcw := (HC.out.alloc (Obj.cells #[Value.slice none 0 0] 32)).below (hB.mono (by omega))
    have how : Only g w w2 := ((Only.refl g w).alloc (Obj.cells #[Value.slice none 0 0] 32)).trans (Only.of_below (hB.mono (by simp)))
    exact ⟨hcw.alloc _, how.alloc _, hz2.1, Blk.new _ _ _, hz2.2.alloc _, rfl, ⟨_, ((Blk.new w 32 #[Value.slice none 0 0]).below hB (by omega)).alloc _⟩⟩
  clear hrow hgr
  go_wp2_with fail
  go_loopw [4] (fun k wr => ∃ (n : Nat) (zs : List Int), k = .int .i64 n ∧ n ≤ 6 ∧ FiAt g w w2.heap.size zs wr) (fun k _ => (6 - intOf k).toNat)
  case atStart => exact ⟨0, _, rfl, by omega, h0⟩
  case round =>
    obtain ⟨n, zs, rfl, hn, h1⟩ := hrel
    obtain ⟨t0, tz, hq⟩ := h1.cells
    have hsz := h1.blkT.lt
    clear h0
    by_cases hlt : n < 6
    · have hlt' : (n : Int) < 6 := by omega
      obtain ⟨q0, qz⟩ := hq n hlt
      have h2 := h1.drew
      clear hq
      go_wp2_with fail
      go_region_law (first
        | (go_simp; refine (l1PickInt_any g (some ⟨wr.heap.size, 0, none⟩) [0, 1, 2, -1, 5, -9223372036854775808] 6 _ (by decide) (by decide) (ints_of_blk (t := 3) (zs := [0, 1, 2, -1, 5, -9223372036854775808]) (Blk.new wr.drew _ _) (by decide) ⟨by simp, by have := h2.cur.lt; have e : wr.drew.heap.size = wr.heap.size := rfl; omega⟩) (h2.alloc _).cur).mono ?_; rintro e w3 ⟨k3, hk3, rfl, hc3, ho3⟩; have h3 := (h2.alloc _).call hg hc3 ho3; obtain ⟨s0, sz, hs⟩ := h3.cells; obtain ⟨p0, pz⟩ := hs n hlt; clear hs; go_simp))
      all_goals
        go_wp2_with fail
        go_roundw
        case rel => exact ⟨n + 1, _, by simp, by omega, h3.set hg n _⟩
        case measure => simp [intOf]; omega
    · obtain rfl : n = 6 := by omega
      clear hq
      go_wp2_with fail
      refine (l1Once_any g 12 _ (by omega) (by omega) h1.cur).mono ?_
      rintro e w3 ⟨bb, rfl, hc3, ho3⟩
      have h3 := h1.call hg hc3 ho3
      clear t0 tz h1 hc3 ho3
      obtain ⟨t0, tz, -⟩ := h3.cells
      have hsz3 := h3.blkT.lt
      obtain ⟨u, hu⟩ := h3.out
      have u0 : w3.cell? ⟨w.heap.size, 0, none⟩ = some u := hu.cell 0
      have uz := hu.frozen 0
      have hl := h3.len
      cases bb
      · have hcu := hide h3.cur
        have hon := hide h3.only
        have hqq := hide h3.blkQ
        clear h3 hu
        go_wp2_with fail
        refine bodyPost_ret (v := .agg #[.slice (some ⟨w.heap.size + 1, 0, none⟩) zs.length 6]) (by rw [hl]; simp [results, Try.results37, go_sem, u0]; done) rfl ⟨_, zs, 6, rfl, .inl hl, ⟨by omega, fun _ => ⟨_, 0, rfl, ⟨by omega, by simp [World.setCell]; omega⟩, fun k hk => ?_⟩⟩, ?_, ?_⟩
        · rw [Nat.zero_add]
          exact intRow_cell (hqq.out.far (by show w.heap.size + 1 ≠ w.heap.size; omega) _) hk
        · exact hcu.out.setCell (by show g < w.heap.size; omega) _
        · exact hon.out.setCell (.inr (Nat.le_refl _)) _
      · have hcu := hide h3.cur
        have hon := hide h3.only
        have hqq := hide h3.blkQ
        clear h3 hu
        go_wp2_with fail
        have hld : (zs.drop 1).length = 5 := by simp [hl]
        refine bodyPost_ret (v := .agg #[.slice (some ⟨w.heap.size + 1, 1, none⟩) (zs.drop 1).length 5]) (by rw [hld]; simp [results, Try.results37, go_sem, u0]; done) rfl ⟨_, zs.drop 1, 5, rfl, .inr hld, ⟨by omega, fun _ => ⟨_, 1, rfl, ⟨by omega, by simp [World.setCell]; omega⟩, fun k hk => ?_⟩⟩, ?_, ?_⟩
        · have h5 := hz2.1
          have hg1 : geti (zs.drop 1) k = geti zs (1 + k) := by unfold geti; rw [List.getD_eq_getElem?_getD, List.getD_eq_getElem?_getD, List.getElem?_drop]
          rw [hg1]
          exact intRow_cell ((hqq.out.far (by show w.heap.size + 1 ≠ w2.heap.size; omega) _).far (by show w.heap.size + 1 ≠ w.heap.size; omega) _) (by omega)
        · have h5 := hz2.1
          exact (hcu.out.setCell (by show g < w2.heap.size; omega) _).setCell (by show g < w.heap.size; omega) _
        · have h5 := hz2.1
          exact (hon.out.setCell (.inr (by show w.heap.size ≤ w2.heap.size; omega)) _).setCell (.inr (Nat.le_refl _)) _
end Go.Proofs.Ytaiklooffkmjjaa
