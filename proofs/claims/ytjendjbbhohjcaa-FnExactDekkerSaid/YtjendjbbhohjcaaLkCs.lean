/- The model's Dekker. -/
import Derived.Test.YtjendjbbhohjcaaLkC0
import Derived.Test.YtjendjbbhohjcaaPartG
import Derived.Deep.RegionHeld3
namespace Go.Proofs.Ytjendjbbhohjcaa
open Go.RowKit

set_option maxRecDepth 100000 in
set_option maxHeartbeats 12800000 in
theorem sdek_any (f : Bool) (w : World) : Calls Try.prog 50 #[.bool f] w fun e w' => PrgR w w' e (dekP f) := by
  obtain ⟨i2, hi2, hx0, hx1, hx2⟩ := info_parts Try.infoThr
  replace hi2 := hide hi2
  obtain ⟨i0, hi0, hz0, hz1, hz2⟩ := info_parts Try.infoIns
  replace hi0 := hide hi0
  obtain ⟨W, hW⟩ : ∃ x, x = w.alloc (Obj.cells #[.slice none 0 0, .slice none 0 0] 37) := ⟨_, rfl⟩
  have hbW : Below w.heap.size w W := by rw [hW]; exact below1 _ _
  have hsW : w.heap.size + 1 ≤ W.heap.size := by rw [hW]; simp
  have R := hide (show Blk W w.heap.size 37 #[.slice none 0 0, .slice none 0 0] from by rw [hW]; exact Blk.new _ _ _)
  have BW := hide hbW
  clear hbW
  go_enter Try.func50, Try.ntmps50
  go_upto_region 1 with fail
  rw [← hW]
  clear hW
  have C4 := CrAt.start0 (w0 := w) (zs := [0, 0]) (cs := #[.int .i64 0, .int .i64 0]) BW.out hsW ⟨_, _, R.out⟩ (by decide) rfl
  obtain ⟨w3, hw3⟩ : ∃ x, x = W.alloc (Obj.cells #[.int .i64 0, .int .i64 0] 3) := ⟨_, rfl⟩
  obtain ⟨w4, hw4⟩ : ∃ x, x = w3.alloc (Obj.cells #[.slice (some ⟨W.heap.size, 0, none⟩) 2 2, .slice none 0 0] 37) := ⟨_, rfl⟩
  obtain ⟨T, hT⟩ : ∃ x, x = W.heap.size + 1 := ⟨_, rfl⟩
  replace C4 := hide (show CrAt w T [0, 0] (.slice (some ⟨W.heap.size, 0, none⟩) 2 2) (dekTs f 0) [] (.slice none 0 0) w4 from by rw [hT, hw4, hw3]; exact C4)
  go_upto_region 2 with fail
  rw [← hw3, ← hw4, ← hT]
  obtain ⟨A0, hA0⟩ : ∃ A, A = some (⟨W.heap.size, 0, none⟩ : Addr) := ⟨_, rfl⟩
  rw [← hA0] at C4
  clear hw3 hw4 hT
  replace hA0 := hide hA0

  go_wp2_with fail

  go_loopw [4] (fun i wr => ∃ (k : Nat) (vs : List Value) (tv : Value), k ≤ 2 ∧ i = .int .i64 k ∧ Hid (CrAt w T [0, 0] (.slice A0 2 2) (dekTs f k) vs tv wr)) (fun i _ => 2 - (intOf i).toNat)
  case atStart => exact ⟨0, _, _, Nat.zero_le _, rfl, C4⟩
  case round =>
    clear C4
    obtain ⟨k, vs, tv, hk, rfl, C0⟩ := hrel
    by_cases hlt : k < 2
    · have hlt' : decide ((k : Int) < 2) = true := decide_eq_true (by omega)
      have hk2 : k < 2 := hlt
      have hwr : IntKind.i64.wrap (1 - (k : Int)) = 1 - (k : Int) := by rw [IntKind.wrap_i64]; omega
      have hstep := hide (dekTs_succ f k)
      have hq : True := trivial
      go_upto_region 6 with fail
      have G0 := hide (GrowI.lit (l := [⟨1, 1, 0, 0, 0, 1⟩, ⟨8, 0, 1, 0, (k : Int), 0⟩]) wr (cs := #[Value.int .i64 1, Value.int .i64 1, Value.int .i64 0, Value.int .i64 0, Value.int .i64 0, Value.int .i64 1, Value.int .i64 8, Value.int .i64 0, Value.int .i64 1, Value.int .i64 0, Value.int .i64 ((k : Int)), Value.int .i64 0]) (n := 2) (by omega) rfl rfl)
      obtain ⟨w0, hw0⟩ : ∃ wq, wq = wr.alloc (Obj.cells #[Value.int .i64 1, Value.int .i64 1, Value.int .i64 0, Value.int .i64 0, Value.int .i64 0, Value.int .i64 1, Value.int .i64 8, Value.int .i64 0, Value.int .i64 1, Value.int .i64 0, Value.int .i64 ((k : Int)), Value.int .i64 0] 89) := ⟨_, rfl⟩
      rw [← hw0] at G0 ⊢
      clear hw0 hq
      cases f
      · have hl0 := hide (show dekT false (k : Int) = [⟨1, 1, 0, 0, 0, 1⟩, ⟨8, 0, 1, 0, (k : Int), 0⟩] ++ [⟨7, 2, 0, 0, (1 - (k : Int)), 0⟩, ⟨6, 0, 2, 3, 0, 0⟩] from rfl)
        have hs1 := G0.out.low.size
        have hg0 := hide (G0.out.alloc (Obj.cells #[Value.int .i64 7, Value.int .i64 2, Value.int .i64 0, Value.int .i64 0, Value.int .i64 ((1 - (k : Int))), Value.int .i64 0, Value.int .i64 6, Value.int .i64 0, Value.int .i64 2, Value.int .i64 3, Value.int .i64 0, Value.int .i64 0] 89))
        go_wp2_with (at_builtin; refine wpList_append_lies _ rfl _ _ _ rfl wr.heap.size 89 i0 _ 6 48 Try.underlying43 hi0.out hz0 hz1 hz2 rfl (by omega) (.slice (some ⟨wr.heap.size, 0, none⟩) 2 2) 2 _ rfl hg0.out ⟨w0.heap.size, 0, none⟩ 2 2 [Value.int .i64 7, Value.int .i64 2, Value.int .i64 0, Value.int .i64 0, Value.int .i64 ((1 - (k : Int))), Value.int .i64 0, Value.int .i64 6, Value.int .i64 0, Value.int .i64 2, Value.int .i64 3, Value.int .i64 0, Value.int .i64 0] rfl rfl (World.news_of_block (cs := #[Value.int .i64 7, Value.int .i64 2, Value.int .i64 0, Value.int .i64 0, Value.int .i64 ((1 - (k : Int))), Value.int .i64 0, Value.int .i64 6, Value.int .i64 0, Value.int .i64 2, Value.int .i64 3, Value.int .i64 0, Value.int .i64 0]) (t := 89) (fr := (0, 0)) (heap_alloc_new _ _)) (by simp [Value.oneCell']) (by omega) (by have : maxLen = 9223372036854775807 := rfl; omega) (by omega) (by simp; omega) _ rfl ?_)
        intro g1 cap1 w8 hown1 hgrow1 hat1 hlt1
        have G1 := hide (G0.out.more (k := [⟨7, 2, 0, 0, (1 - (k : Int)), 0⟩, ⟨6, 0, 2, 3, 0, 0⟩]) (m := 2) (xs := [Value.int .i64 7, Value.int .i64 2, Value.int .i64 0, Value.int .i64 0, Value.int .i64 ((1 - (k : Int))), Value.int .i64 0, Value.int .i64 6, Value.int .i64 0, Value.int .i64 2, Value.int .i64 3, Value.int .i64 0, Value.int .i64 0]) rfl hown1 hgrow1)
        clear G0 hown1 hgrow1 hat1 hlt1 hs1 hg0
        obtain ⟨l8, hl8⟩ : ∃ x, x = dekT false (k : Int) := ⟨_, rfl⟩
        rw [← hl8] at hstep
        have G8 := hide (show GrowI wr (some ⟨g1, 0, none⟩) cap1 4 l8 w8 from by rw [hl8, hl0.out]; exact G1.out)
        obtain ⟨A8, hA8⟩ : ∃ x, x = some (⟨g1, 0, none⟩ : Addr) := ⟨_, rfl⟩
        rw [← hA8] at G8 ⊢
        obtain ⟨n8, hn8'⟩ : ∃ x, x = 4 := ⟨_, rfl⟩
        rw [← hn8'] at G8
        obtain ⟨c8, hc8⟩ : ∃ x, x = cap1 := ⟨_, rfl⟩
        rw [← hc8] at G8 ⊢
        have hv8 : Value.slice A8 (2 + 2) c8 = Value.slice A8 n8 c8 := by rw [hn8']
        try rw [hv8]
        clear hA8 hn8' hc8 hl8 hl0 G1 hv8
        obtain ⟨A6, c6, htv, -⟩ := own_form C0.out.own.rows
        obtain ⟨m, hm⟩ : ∃ m, m = (dekTs false k).length := ⟨_, rfl⟩
        have hm3 : m ≤ 3 := by rw [hm, dekTs_len]; omega
        rw [← hm] at htv
        subst htv
        have hmH := hide hm
        clear hm
        have hn8 := hide G8.out.len
        have L8 := hide (show LAt w T [0, 0] (.slice A0 2 2) (dekTs false k) vs (.slice A6 m c6) l8 (.slice A8 n8 c8) w8 from by
          have h := C0.out.lat G8.out.low (l := l8) (A := A8) (c := c8) (by rw [hn8.out]; exact G8.out.own)
          rw [hn8.out] at h
          exact h)
        have L9 := hide (L8.out.alloc (Obj.cells #[.slice A8 n8 c8] 45))
        have hR := hide (show (w8.alloc (Obj.cells #[.slice A8 n8 c8] 45)).ownsRow (w.heap.size + 1) 45 1 (.slice A6 m c6) m vs from by rw [hmH.out]; rw [hmH.out] at L9; exact L9.out.cr.own.rows)
        have hsz : w.heap.size + 1 ≤ w8.heap.size := by have := L8.out.cr.blk.lt; have := L8.out.cr.lo; omega
        clear C0
        obtain ⟨⟨t0, t1⟩, t2, t3⟩ := L8.out.cr.cells
        have lT := L8.out.cr.blk.lt
        go_wp2_with (at_builtin; refine wpList_append_lies _ rfl _ _ _ rfl (w.heap.size + 1) 45 i2 _ 1 24 Try.underlying35 hi2.out hx0 hx1 hx2 rfl (by omega) (.slice A6 m c6) m vs rfl hR.out ⟨w8.heap.size, 0, none⟩ 1 1 [.slice A8 n8 c8] rfl rfl (World.news_of_block (cs := #[.slice A8 n8 c8]) (t := 45) (fr := (0, 0)) (heap_alloc_new _ _)) (by simp [Value.oneCell']) (by omega) (by have : maxLen = 9223372036854775807 := rfl; omega) (by omega) (by simp; omega) _ rfl ?_)
        intro g7 cap7 w9 hown7 hgr7 hat7 hlt7
        obtain ⟨⟨⟨s0, s1⟩, s2, s3⟩, hC7⟩ := L9.out.growRows rfl (by rw [← hmH.out]; exact hown7) (by exact hgr7)
        have C7 := hide hC7
        have lT7 : T < w9.heap.size := by have := C7.out.blk.lt; simpa using this
        clear hown7 hgr7 hat7 hC7 L8 L9 hR t0 t1 t2 t3 lT hsz G8
        go_wp2_with fail
        go_roundw
        case rel => exact ⟨k + 1, _, _, by omega, by go_num, hide (by rw [hstep.out]; exact C7.out)⟩
        case measure => simp [intOf]; omega
      · have hl0 := hide (show dekT true (k : Int) = ([⟨1, 1, 0, 0, 0, 1⟩, ⟨8, 0, 1, 0, (k : Int), 0⟩] ++ [⟨12, 0, 0, 0, 0, 0⟩]) ++ [⟨7, 2, 0, 0, (1 - (k : Int)), 0⟩, ⟨6, 0, 2, 3, 0, 0⟩] from rfl)
        have hs1 := G0.out.low.size
        have hg0 := hide (G0.out.alloc (Obj.cells #[Value.int .i64 12, Value.int .i64 0, Value.int .i64 0, Value.int .i64 0, Value.int .i64 0, Value.int .i64 0] 89))
        go_wp2_with (at_builtin; refine wpList_append_lies _ rfl _ _ _ rfl wr.heap.size 89 i0 _ 6 48 Try.underlying43 hi0.out hz0 hz1 hz2 rfl (by omega) (.slice (some ⟨wr.heap.size, 0, none⟩) 2 2) 2 _ rfl hg0.out ⟨w0.heap.size, 0, none⟩ 1 1 [Value.int .i64 12, Value.int .i64 0, Value.int .i64 0, Value.int .i64 0, Value.int .i64 0, Value.int .i64 0] rfl rfl (World.news_of_block (cs := #[Value.int .i64 12, Value.int .i64 0, Value.int .i64 0, Value.int .i64 0, Value.int .i64 0, Value.int .i64 0]) (t := 89) (fr := (0, 0)) (heap_alloc_new _ _)) (by simp [Value.oneCell']) (by omega) (by have : maxLen = 9223372036854775807 := rfl; omega) (by omega) (by simp; omega) _ rfl ?_)
        intro g1 cap1 w1 hown1 hgrow1 hat1 hlt1
        have G1 := hide (G0.out.more (k := [⟨12, 0, 0, 0, 0, 0⟩]) (m := 1) (xs := [Value.int .i64 12, Value.int .i64 0, Value.int .i64 0, Value.int .i64 0, Value.int .i64 0, Value.int .i64 0]) rfl hown1 hgrow1)
        clear G0 hown1 hgrow1 hat1 hlt1 hs1 hg0
        have hs2 := G1.out.low.size
        have hg1 := hide (G1.out.alloc (Obj.cells #[Value.int .i64 7, Value.int .i64 2, Value.int .i64 0, Value.int .i64 0, Value.int .i64 ((1 - (k : Int))), Value.int .i64 0, Value.int .i64 6, Value.int .i64 0, Value.int .i64 2, Value.int .i64 3, Value.int .i64 0, Value.int .i64 0] 89))
        go_wp2_with (at_builtin; refine wpList_append_lies _ rfl _ _ _ rfl wr.heap.size 89 i0 _ 6 48 Try.underlying43 hi0.out hz0 hz1 hz2 rfl (by omega) (.slice (some ⟨g1, 0, none⟩) (2 + 1) cap1) (2 + 1) _ rfl hg1.out ⟨w1.heap.size, 0, none⟩ 2 2 [Value.int .i64 7, Value.int .i64 2, Value.int .i64 0, Value.int .i64 0, Value.int .i64 ((1 - (k : Int))), Value.int .i64 0, Value.int .i64 6, Value.int .i64 0, Value.int .i64 2, Value.int .i64 3, Value.int .i64 0, Value.int .i64 0] rfl rfl (World.news_of_block (cs := #[Value.int .i64 7, Value.int .i64 2, Value.int .i64 0, Value.int .i64 0, Value.int .i64 ((1 - (k : Int))), Value.int .i64 0, Value.int .i64 6, Value.int .i64 0, Value.int .i64 2, Value.int .i64 3, Value.int .i64 0, Value.int .i64 0]) (t := 89) (fr := (0, 0)) (heap_alloc_new _ _)) (by simp [Value.oneCell']) (by omega) (by have : maxLen = 9223372036854775807 := rfl; omega) (by omega) (by simp; omega) _ rfl ?_)
        intro g2 cap2 w8 hown2 hgrow2 hat2 hlt2
        have G2 := hide (G1.out.more (k := [⟨7, 2, 0, 0, (1 - (k : Int)), 0⟩, ⟨6, 0, 2, 3, 0, 0⟩]) (m := 2) (xs := [Value.int .i64 7, Value.int .i64 2, Value.int .i64 0, Value.int .i64 0, Value.int .i64 ((1 - (k : Int))), Value.int .i64 0, Value.int .i64 6, Value.int .i64 0, Value.int .i64 2, Value.int .i64 3, Value.int .i64 0, Value.int .i64 0]) rfl hown2 hgrow2)
        clear G1 hown2 hgrow2 hat2 hlt2 hs2 hg1
        obtain ⟨l8, hl8⟩ : ∃ x, x = dekT true (k : Int) := ⟨_, rfl⟩
        rw [← hl8] at hstep
        have G8 := hide (show GrowI wr (some ⟨g2, 0, none⟩) cap2 5 l8 w8 from by rw [hl8, hl0.out]; exact G2.out)
        obtain ⟨A8, hA8⟩ : ∃ x, x = some (⟨g2, 0, none⟩ : Addr) := ⟨_, rfl⟩
        rw [← hA8] at G8 ⊢
        obtain ⟨n8, hn8'⟩ : ∃ x, x = 5 := ⟨_, rfl⟩
        rw [← hn8'] at G8
        obtain ⟨c8, hc8⟩ : ∃ x, x = cap2 := ⟨_, rfl⟩
        rw [← hc8] at G8 ⊢
        have hv8 : Value.slice A8 (2 + 1 + 2) c8 = Value.slice A8 n8 c8 := by rw [hn8']
        try rw [hv8]
        clear hA8 hn8' hc8 hl8 hl0 G2 hv8
        obtain ⟨A6, c6, htv, -⟩ := own_form C0.out.own.rows
        obtain ⟨m, hm⟩ : ∃ m, m = (dekTs true k).length := ⟨_, rfl⟩
        have hm3 : m ≤ 3 := by rw [hm, dekTs_len]; omega
        rw [← hm] at htv
        subst htv
        have hmH := hide hm
        clear hm
        have hn8 := hide G8.out.len
        have L8 := hide (show LAt w T [0, 0] (.slice A0 2 2) (dekTs true k) vs (.slice A6 m c6) l8 (.slice A8 n8 c8) w8 from by
          have h := C0.out.lat G8.out.low (l := l8) (A := A8) (c := c8) (by rw [hn8.out]; exact G8.out.own)
          rw [hn8.out] at h
          exact h)
        have L9 := hide (L8.out.alloc (Obj.cells #[.slice A8 n8 c8] 45))
        have hR := hide (show (w8.alloc (Obj.cells #[.slice A8 n8 c8] 45)).ownsRow (w.heap.size + 1) 45 1 (.slice A6 m c6) m vs from by rw [hmH.out]; rw [hmH.out] at L9; exact L9.out.cr.own.rows)
        have hsz : w.heap.size + 1 ≤ w8.heap.size := by have := L8.out.cr.blk.lt; have := L8.out.cr.lo; omega
        clear C0
        obtain ⟨⟨t0, t1⟩, t2, t3⟩ := L8.out.cr.cells
        have lT := L8.out.cr.blk.lt
        go_wp2_with (at_builtin; refine wpList_append_lies _ rfl _ _ _ rfl (w.heap.size + 1) 45 i2 _ 1 24 Try.underlying35 hi2.out hx0 hx1 hx2 rfl (by omega) (.slice A6 m c6) m vs rfl hR.out ⟨w8.heap.size, 0, none⟩ 1 1 [.slice A8 n8 c8] rfl rfl (World.news_of_block (cs := #[.slice A8 n8 c8]) (t := 45) (fr := (0, 0)) (heap_alloc_new _ _)) (by simp [Value.oneCell']) (by omega) (by have : maxLen = 9223372036854775807 := rfl; omega) (by omega) (by simp; omega) _ rfl ?_)
        intro g7 cap7 w9 hown7 hgr7 hat7 hlt7
        obtain ⟨⟨⟨s0, s1⟩, s2, s3⟩, hC7⟩ := L9.out.growRows rfl (by rw [← hmH.out]; exact hown7) (by exact hgr7)
        have C7 := hide hC7
        have lT7 : T < w9.heap.size := by have := C7.out.blk.lt; simpa using this
        clear hown7 hgr7 hat7 hC7 L8 L9 hR t0 t1 t2 t3 lT hsz G8
        go_wp2_with fail
        go_roundw
        case rel => exact ⟨k + 1, _, _, by omega, by go_num, hide (by rw [hstep.out]; exact C7.out)⟩
        case measure => simp [intOf]; omega
    · obtain rfl : k = 2 := by omega
      have hlt' : decide (((2 : Nat) : Int) < 2) = false := decide_eq_false (by omega)
      obtain ⟨A9, c9, rfl, -⟩ := own_form C0.out.own.rows
      obtain ⟨⟨t0, t1⟩, t2, t3⟩ := C0.out.cells
      have lT := C0.out.blk.lt
      obtain ⟨u, u', hR⟩ := C0.out.out
      obtain ⟨r0, r1⟩ := (show wr.cell? ⟨w.heap.size, 0, none⟩ = some u ∧ wr.cell? ⟨w.heap.size, 1, none⟩ = some u' from ⟨hR.cell 0, hR.cell 1⟩)
      obtain ⟨r2, r3⟩ := (show wr.frozen? ⟨w.heap.size, 0, none⟩ = false ∧ wr.frozen? ⟨w.heap.size, 1, none⟩ = false from ⟨hR.frozen 0, hR.frozen 1⟩)
      have lR := hR.lt
      have hTR := hide (show w.heap.size ≠ T from by have := C0.out.lo; omega)
      clear hR
      obtain ⟨n9, hn9⟩ : ∃ x, x = (dekTs f 2).length := ⟨_, rfl⟩
      rw [← hn9] at t1
      replace hn9 := hide hn9
      go_wp2_with fail
      refine bodyPost_ret (v := .agg #[.slice A0 2 2, .slice A9 n9 c9]) (by simp [results, Try.results50, go_sem, r0, r1]; done) rfl ?_
      rw [hn9.out]
      refine ⟨_, _, vs, rfl, ?_, (C0.out.below.setCell (p := ⟨w.heap.size, 0, none⟩) (Nat.le_refl _) _).setCell (p := ⟨w.heap.size, 1, none⟩) (Nat.le_refl _) _⟩
      have h1 := C0.out.own.keep (w1 := (wr.setCell ⟨w.heap.size, 0, none⟩ (.slice A0 2 2)).setCell ⟨w.heap.size, 1, none⟩ (.slice A9 (dekTs f 2).length c9)) (fun b hb _ => (Below.heap_setCell _ _ _ b (by show b ≠ w.heap.size; omega)).trans (Below.heap_setCell _ _ _ b (by show b ≠ w.heap.size; omega)))
      exact ⟨own_base h1.ints (by omega), own_base h1.rows (by omega), fun j hj => own_base (h1.thr j hj) (by omega), h1.apart⟩
end Go.Proofs.Ytjendjbbhohjcaa
