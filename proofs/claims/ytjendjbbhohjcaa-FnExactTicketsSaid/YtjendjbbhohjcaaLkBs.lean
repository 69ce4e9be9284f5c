/- The model's Tickets. -/
import Derived.Test.YtjendjbbhohjcaaLkA
import Derived.Test.YtjendjbbhohjcaaPartG
import Derived.Deep.RegionHeld3
namespace Go.Proofs.Ytjendjbbhohjcaa
open Go.RowKit

set_option maxRecDepth 100000 in
set_option maxHeartbeats 3200000 in
theorem stic_no (z m : Int) (w : World) (hno : ticB z m = false) : Calls Try.prog 23 #[.int .i64 z, .int .i64 m] w fun e w' => FenR w w' e ⟨[], []⟩ false := by
  have hb : ¬ (1 ≤ z ∧ z ≤ 3 ∧ 1 ≤ m ∧ m ≤ 3) := of_decide_eq_false hno
  obtain ⟨W, hW⟩ : ∃ x, x = w.alloc (Obj.cells #[.slice none 0 0, .slice none 0 0] 37) := ⟨_, rfl⟩
  have hbW : Below w.heap.size w W := by rw [hW]; exact below1 _ _
  have hsW : w.heap.size + 1 ≤ W.heap.size := by rw [hW]; simp
  have R := hide (show Blk W w.heap.size 37 #[.slice none 0 0, .slice none 0 0] from by rw [hW]; exact Blk.new _ _ _)
  have BW := hide hbW
  clear hbW
  go_enter Try.func23, Try.ntmps23
  go_upto_region 1 with fail
  rw [← hW]
  clear hW
  obtain ⟨r0, r1⟩ := (show W.cell? ⟨w.heap.size, 0, none⟩ = some (Value.slice none 0 0) ∧ W.cell? ⟨w.heap.size, 1, none⟩ = some (Value.slice none 0 0) from ⟨R.out.cell 0, R.out.cell 1⟩)
  obtain ⟨r2, r3⟩ := (show W.frozen? ⟨w.heap.size, 0, none⟩ = false ∧ W.frozen? ⟨w.heap.size, 1, none⟩ = false from ⟨R.out.frozen 0, R.out.frozen 1⟩)
  have lR := R.out.lt
  by_cases h1 : z < 1
  · have hd1 : decide (z < 1) = true := decide_eq_true h1
    go_wp2_with fail
    refine bodyPost_ret (v := .tuple #[.agg #[.slice none 0 0, .slice none 0 0], .bool false]) (by simp [results, Try.results23, go_sem, r0, r1]; done) rfl (FenR.no ?_)
    exact (BW.out.setCell (p := ⟨w.heap.size, 0, none⟩) (Nat.le_refl _) _).setCell (p := ⟨w.heap.size, 1, none⟩) (Nat.le_refl _) _
  · have hd1 : decide (z < 1) = false := decide_eq_false h1
    by_cases h3 : 3 < z
    · have hd3 : decide (3 < z) = true := decide_eq_true h3
      go_wp2_with fail
      refine bodyPost_ret (v := .tuple #[.agg #[.slice none 0 0, .slice none 0 0], .bool false]) (by simp [results, Try.results23, go_sem, r0, r1]; done) rfl (FenR.no ?_)
      exact (BW.out.setCell (p := ⟨w.heap.size, 0, none⟩) (Nat.le_refl _) _).setCell (p := ⟨w.heap.size, 1, none⟩) (Nat.le_refl _) _
    · have hd3 : decide (3 < z) = false := decide_eq_false h3
      by_cases m1 : m < 1
      · have hdm1 : decide (m < 1) = true := decide_eq_true m1
        go_wp2_with fail
        refine bodyPost_ret (v := .tuple #[.agg #[.slice none 0 0, .slice none 0 0], .bool false]) (by simp [results, Try.results23, go_sem, r0, r1]; done) rfl (FenR.no ?_)
        exact (BW.out.setCell (p := ⟨w.heap.size, 0, none⟩) (Nat.le_refl _) _).setCell (p := ⟨w.heap.size, 1, none⟩) (Nat.le_refl _) _
      · have hdm1 : decide (m < 1) = false := decide_eq_false m1
        have hdm3 : decide (3 < m) = true := decide_eq_true (by omega)
        go_wp2_with fail
        refine bodyPost_ret (v := .tuple #[.agg #[.slice none 0 0, .slice none 0 0], .bool false]) (by simp [results, Try.results23, go_sem, r0, r1]; done) rfl (FenR.no ?_)
        exact (BW.out.setCell (p := ⟨w.heap.size, 0, none⟩) (Nat.le_refl _) _).setCell (p := ⟨w.heap.size, 1, none⟩) (Nat.le_refl _) _
set_option maxRecDepth 100000 in
set_option maxHeartbeats 12800000 in
theorem stic_yes (N M : Nat) (w : World) (h1 : 1 ≤ N) (h3 : N ≤ 3) (m1 : 1 ≤ M) (m3 : M ≤ 3) : Calls Try.prog 23 #[.int .i64 N, .int .i64 M] w fun e w' => FenR w w' e ⟨[1], ticTs M N⟩ true := by
  obtain ⟨i2, hi2, hx0, hx1, hx2⟩ := info_parts Try.infoThr
  replace hi2 := hide hi2
  obtain ⟨i0, hi0, hz0, hz1, hz2⟩ := info_parts Try.infoIns
  replace hi0 := hide hi0
  obtain ⟨W, hW⟩ : ∃ x, x = w.alloc (Obj.cells #[.slice none 0 0, .slice none 0 0] 37) := ⟨_, rfl⟩
  have hbW : Below w.heap.size w W := by rw [hW]; exact below1 _ _
  have hsW : w.heap.size + 1 ≤ W.heap.size := by rw [hW]; simp
  have R := hide (show Blk W w.heap.size 37 #[.slice none 0 0, .slice none 0 0] from by rw [hW]; exact Blk.new _ _ _)
  have BW := hide hbW
  clear hbW
  go_enter Try.func23, Try.ntmps23
  go_upto_region 1 with fail
  rw [← hW]
  clear hW
  obtain ⟨r0, r1⟩ := (show W.cell? ⟨w.heap.size, 0, none⟩ = some (Value.slice none 0 0) ∧ W.cell? ⟨w.heap.size, 1, none⟩ = some (Value.slice none 0 0) from ⟨R.out.cell 0, R.out.cell 1⟩)
  obtain ⟨r2, r3⟩ := (show W.frozen? ⟨w.heap.size, 0, none⟩ = false ∧ W.frozen? ⟨w.heap.size, 1, none⟩ = false from ⟨R.out.frozen 0, R.out.frozen 1⟩)
  have lR := R.out.lt
  have C4 := CrAt.start0 (w0 := w) (zs := [1]) (cs := #[.int .i64 1]) BW.out hsW ⟨_, _, R.out⟩ (by decide) rfl
  obtain ⟨w3, hw3⟩ : ∃ x, x = W.alloc (Obj.cells #[.int .i64 1] 3) := ⟨_, rfl⟩
  obtain ⟨w4, hw4⟩ : ∃ x, x = w3.alloc (Obj.cells #[.slice (some ⟨W.heap.size, 0, none⟩) 1 1, .slice none 0 0] 37) := ⟨_, rfl⟩
  have hd1 : decide ((N : Int) < 1) = false := decide_eq_false (by omega)
  have hd3 : decide (3 < (N : Int)) = false := decide_eq_false (by omega)
  have hdm1 : decide ((M : Int) < 1) = false := decide_eq_false (by omega)
  have hdm3 : decide (3 < (M : Int)) = false := decide_eq_false (by omega)
  obtain ⟨T, hT⟩ : ∃ x, x = W.heap.size + 1 := ⟨_, rfl⟩
  replace C4 := hide (show CrAt w T [1] (.slice (some ⟨W.heap.size, 0, none⟩) 1 1) (ticTs M 0) [] (.slice none 0 0) w4 from by rw [hT, hw4, hw3]; exact C4)
  obtain ⟨v, hv⟩ : ∃ x, x = Value.slice (some ⟨W.heap.size, 0, none⟩) 1 1 := ⟨_, rfl⟩
  rw [← hv] at C4
  go_upto_region 4 with fail
  rw [← hw3, ← hw4, ← hT]
  obtain ⟨A0, hA0⟩ : ∃ A, A = some (⟨W.heap.size, 0, none⟩ : Addr) := ⟨_, rfl⟩
  rw [← hA0] at hv
  clear hw3 hw4 hT hA0 hd1 hd3 hdm1 hdm3 r0 r1 r2 r3 lR
  replace hv := hide hv
  go_wp2_with fail
  go_loopw [7] (fun i wr => ∃ (k : Nat) (vs : List Value) (tv : Value), k ≤ N ∧ i = .int .i64 k ∧ Hid (CrAt w T [1] v (ticTs M k) vs tv wr)) (fun i _ => N - (intOf i).toNat)
  case atStart => exact ⟨0, _, _, Nat.zero_le _, rfl, C4⟩
  case round =>
    clear C4
    obtain ⟨k, vs, tv, hk, rfl, C0⟩ := hrel
    by_cases hlt : k < N
    · have hlt' : decide ((k : Int) < (N : Int)) = true := decide_eq_true (by omega)
      have hkN : k < N := hlt
      have hstep := hide (ticTs_succ M k)
      obtain ⟨wo, rfl⟩ : ∃ x, x = wr := ⟨_, rfl⟩
      go_upto_region 9 with fail
      obtain ⟨en, hen⟩ : ∃ x, x = (M : Int) * 7 := ⟨_, rfl⟩
      have hwM : IntKind.i64.wrap ((M : Int) * 7) = (M : Int) * 7 := by rw [IntKind.wrap_i64]; omega
      try rw [hwM]
      rw [← hen]
      replace hen := hide hen
      clear hwM
      go_wp2_with fail
      go_loopw [8, 10] (fun t i wr => ∃ (j n : Nat) (A : Option Addr) (c : Nat), j ≤ M ∧ i = .int .i64 j ∧ t = .slice A n c ∧ Hid (n = 7 * j) ∧ Hid (GrowI wo A c n (ticL M j) wr)) (fun _ i _ => M - (intOf i).toNat)
      case atStart => exact ⟨0, 0, none, 0, Nat.zero_le _, rfl, rfl, hide rfl, hide (GrowI.nil wo)⟩
      case round =>
        obtain ⟨j, n, A1, c1, hj, rfl, rfl, hn, G0⟩ := hrel
        by_cases hjl : j < M
        · have hjl' : decide ((j : Int) < (M : Int)) = true := decide_eq_true (by omega)
          have hjM : j < M := hjl
          have hw1 : IntKind.i64.wrap (7 * (j : Int)) = 7 * (j : Int) := by rw [IntKind.wrap_i64]; omega
          have hw2 : IntKind.i64.wrap (7 * (j : Int) + 7) = 7 * (j : Int) + 7 := by rw [IntKind.wrap_i64]; omega
          have hst := hide (ticL_succ M j)
          have hn21 : n ≤ 21 := by have := hn.out; omega
          go_upto_region 13 with fail
          obtain ⟨nx, hnx⟩ : ∃ x, x = 7 * (j : Int) + 7 := ⟨_, rfl⟩
          rw [← hnx]
          replace hnx := hide hnx
          clear hw1 hw2
          have hs1 := G0.out.low.size
          have hg0 := hide (G0.out.alloc (Obj.cells #[Value.int .i64 7, Value.int .i64 2, Value.int .i64 0, Value.int .i64 0, Value.int .i64 0, Value.int .i64 0, Value.int .i64 1, Value.int .i64 3, Value.int .i64 0, Value.int .i64 0, Value.int .i64 0, Value.int .i64 1, Value.int .i64 3, Value.int .i64 3, Value.int .i64 2, Value.int .i64 3, Value.int .i64 0, Value.int .i64 0, Value.int .i64 11, Value.int .i64 4, Value.int .i64 2, Value.int .i64 3, Value.int .i64 0, Value.int .i64 0] 89))
          go_wp2_with (at_builtin; refine wpList_append_lies _ rfl _ _ _ rfl wo.heap.size 89 i0 _ 6 48 Try.underlying43 hi0.out hz0 hz1 hz2 rfl (by omega) (.slice A1 n c1) n _ rfl hg0.out ⟨wr.heap.size, 0, none⟩ 4 4 [Value.int .i64 7, Value.int .i64 2, Value.int .i64 0, Value.int .i64 0, Value.int .i64 0, Value.int .i64 0, Value.int .i64 1, Value.int .i64 3, Value.int .i64 0, Value.int .i64 0, Value.int .i64 0, Value.int .i64 1, Value.int .i64 3, Value.int .i64 3, Value.int .i64 2, Value.int .i64 3, Value.int .i64 0, Value.int .i64 0, Value.int .i64 11, Value.int .i64 4, Value.int .i64 2, Value.int .i64 3, Value.int .i64 0, Value.int .i64 0] rfl rfl (World.news_of_block (cs := #[Value.int .i64 7, Value.int .i64 2, Value.int .i64 0, Value.int .i64 0, Value.int .i64 0, Value.int .i64 0, Value.int .i64 1, Value.int .i64 3, Value.int .i64 0, Value.int .i64 0, Value.int .i64 0, Value.int .i64 1, Value.int .i64 3, Value.int .i64 3, Value.int .i64 2, Value.int .i64 3, Value.int .i64 0, Value.int .i64 0, Value.int .i64 11, Value.int .i64 4, Value.int .i64 2, Value.int .i64 3, Value.int .i64 0, Value.int .i64 0]) (t := 89) (fr := (0, 0)) (heap_alloc_new _ _)) (by simp [Value.oneCell']) (by omega) (by have : maxLen = 9223372036854775807 := rfl; omega) (by omega) (by simp; omega) _ rfl ?_)
          intro g1 cap1 w1 hown1 hgrow1 hat1 hlt1
          have G1 := hide (G0.out.more (k := [⟨7, 2, 0, 0, 0, 0⟩, ⟨1, 3, 0, 0, 0, 1⟩, ⟨3, 3, 2, 3, 0, 0⟩, ⟨11, 4, 2, 3, 0, 0⟩]) (m := 4) (xs := [Value.int .i64 7, Value.int .i64 2, Value.int .i64 0, Value.int .i64 0, Value.int .i64 0, Value.int .i64 0, Value.int .i64 1, Value.int .i64 3, Value.int .i64 0, Value.int .i64 0, Value.int .i64 0, Value.int .i64 1, Value.int .i64 3, Value.int .i64 3, Value.int .i64 2, Value.int .i64 3, Value.int .i64 0, Value.int .i64 0, Value.int .i64 11, Value.int .i64 4, Value.int .i64 2, Value.int .i64 3, Value.int .i64 0, Value.int .i64 0]) rfl hown1 hgrow1)
          clear G0 hown1 hgrow1 hat1 hlt1 hs1 hg0
          have hs2 := G1.out.low.size
          have hg1 := hide (G1.out.alloc (Obj.cells #[Value.int .i64 13, Value.int .i64 0, Value.int .i64 4, Value.int .i64 0, Value.int .i64 0, Value.int .i64 nx, Value.int .i64 2, Value.int .i64 0, Value.int .i64 2, Value.int .i64 0, Value.int .i64 0, Value.int .i64 0, Value.int .i64 14, Value.int .i64 0, Value.int .i64 0, Value.int .i64 0, Value.int .i64 0, Value.int .i64 en] 89))
          go_wp2_with (at_builtin; refine wpList_append_lies _ rfl _ _ _ rfl wo.heap.size 89 i0 _ 6 48 Try.underlying43 hi0.out hz0 hz1 hz2 rfl (by omega) (.slice (some ⟨g1, 0, none⟩) (n + 4) cap1) (n + 4) _ rfl hg1.out ⟨w1.heap.size, 0, none⟩ 3 3 [Value.int .i64 13, Value.int .i64 0, Value.int .i64 4, Value.int .i64 0, Value.int .i64 0, Value.int .i64 nx, Value.int .i64 2, Value.int .i64 0, Value.int .i64 2, Value.int .i64 0, Value.int .i64 0, Value.int .i64 0, Value.int .i64 14, Value.int .i64 0, Value.int .i64 0, Value.int .i64 0, Value.int .i64 0, Value.int .i64 en] rfl rfl (World.news_of_block (cs := #[Value.int .i64 13, Value.int .i64 0, Value.int .i64 4, Value.int .i64 0, Value.int .i64 0, Value.int .i64 nx, Value.int .i64 2, Value.int .i64 0, Value.int .i64 2, Value.int .i64 0, Value.int .i64 0, Value.int .i64 0, Value.int .i64 14, Value.int .i64 0, Value.int .i64 0, Value.int .i64 0, Value.int .i64 0, Value.int .i64 en]) (t := 89) (fr := (0, 0)) (heap_alloc_new _ _)) (by simp [Value.oneCell']) (by omega) (by have : maxLen = 9223372036854775807 := rfl; omega) (by omega) (by simp; omega) _ rfl ?_)
          intro g2 cap2 w2 hown2 hgrow2 hat2 hlt2
          have G2 := hide (G1.out.more (k := [⟨13, 0, 4, 0, 0, nx⟩, ⟨2, 0, 2, 0, 0, 0⟩, ⟨14, 0, 0, 0, 0, en⟩]) (m := 3) (xs := [Value.int .i64 13, Value.int .i64 0, Value.int .i64 4, Value.int .i64 0, Value.int .i64 0, Value.int .i64 nx, Value.int .i64 2, Value.int .i64 0, Value.int .i64 2, Value.int .i64 0, Value.int .i64 0, Value.int .i64 0, Value.int .i64 14, Value.int .i64 0, Value.int .i64 0, Value.int .i64 0, Value.int .i64 0, Value.int .i64 en]) rfl hown2 hgrow2)
          have G3 := hide (show GrowI wo (some ⟨g2, 0, none⟩) cap2 (n + 4 + 3) (ticL M (j + 1)) w2 from by
            rw [hst.out, show tryL ((7 * j : Nat) : Int) ((7 * M : Nat) : Int) = [⟨7, 2, 0, 0, 0, 0⟩, ⟨1, 3, 0, 0, 0, 1⟩, ⟨3, 3, 2, 3, 0, 0⟩, ⟨11, 4, 2, 3, 0, 0⟩] ++ [⟨13, 0, 4, 0, 0, nx⟩, ⟨2, 0, 2, 0, 0, 0⟩, ⟨14, 0, 0, 0, 0, en⟩] from by
              rw [hnx.out, hen.out]
              unfold tryL
              rw [show (7 : Int) + ((7 * j : Nat) : Int) = 7 * (j : Int) + 7 from by omega, show ((7 * M : Nat) : Int) = (M : Int) * 7 from by omega]
              rfl, ← List.append_assoc]
            exact G2.out)
          have hn1 := hide (show n + 4 + 3 = 7 * (j + 1) from by have := hn.out; omega)
          clear G1 G2 hown2 hgrow2 hat2 hlt2 hs2 hst hg1 hn hnx
          go_wp2_with fail
          go_roundw
          case rel => exact ⟨j + 1, n + 4 + 3, _, _, by omega, by go_num, rfl, hn1, G3⟩
          case measure => simp [intOf]; omega
        · have hjl' : decide ((j : Int) < (M : Int)) = false := decide_eq_false (by omega)
          have hjM : j = M := by omega
          have G8 := hide (show GrowI wo A1 c1 n (ticL M M) wr from by have := G0.out; rw [hjM] at this; exact this)
          obtain ⟨n8, hn8'⟩ : ∃ x, x = n := ⟨_, rfl⟩
          rw [← hn8'] at G8 ⊢
          obtain ⟨A8, hA8⟩ : ∃ x, x = A1 := ⟨_, rfl⟩
          rw [← hA8] at G8 ⊢
          obtain ⟨c8, hc8⟩ : ∃ x, x = c1 := ⟨_, rfl⟩
          rw [← hc8] at G8 ⊢
          obtain ⟨l8, hl8⟩ : ∃ x, x = ticL M M := ⟨_, rfl⟩
          rw [← hl8] at G8 hstep
          clear G0 hn hjM hn8' hA8 hc8 hl8
          obtain ⟨A6, c6, htv, -⟩ := own_form C0.out.own.rows
          obtain ⟨m, hm⟩ : ∃ m, m = (ticTs M k).length := ⟨_, rfl⟩
          have hm3 : m ≤ 3 := by rw [hm, ticTs_len]; omega
          rw [← hm] at htv
          subst htv
          have hmH := hide hm
          clear hm
          have hn8 := hide G8.out.len
          have L8 := hide (show LAt w T [1] v (ticTs M k) vs (.slice A6 m c6) l8 (.slice A8 n8 c8) wr from by
            have h := C0.out.lat G8.out.low (l := l8) (A := A8) (c := c8) (by rw [hn8.out]; exact G8.out.own)
            rw [hn8.out] at h
            exact h)
          have L9 := hide (L8.out.alloc (Obj.cells #[.slice A8 n8 c8] 45))
          have hR := hide (show (wr.alloc (Obj.cells #[.slice A8 n8 c8] 45)).ownsRow (w.heap.size + 1) 45 1 (.slice A6 m c6) m vs from by rw [hmH.out]; rw [hmH.out] at L9; exact L9.out.cr.own.rows)
          have hsz : w.heap.size + 1 ≤ wr.heap.size := by have := L8.out.cr.blk.lt; have := L8.out.cr.lo; omega
          clear C0
          obtain ⟨⟨t0, t1⟩, t2, t3⟩ := L8.out.cr.cells
          have lT := L8.out.cr.blk.lt
          go_wp2_with (at_builtin; refine wpList_append_lies _ rfl _ _ _ rfl (w.heap.size + 1) 45 i2 _ 1 24 Try.underlying35 hi2.out hx0 hx1 hx2 rfl (by omega) (.slice A6 m c6) m vs rfl hR.out ⟨wr.heap.size, 0, none⟩ 1 1 [.slice A8 n8 c8] rfl rfl (World.news_of_block (cs := #[.slice A8 n8 c8]) (t := 45) (fr := (0, 0)) (heap_alloc_new _ _)) (by simp [Value.oneCell']) (by omega) (by have : maxLen = 9223372036854775807 := rfl; omega) (by omega) (by simp; omega) _ rfl ?_)
          intro g7 cap7 w9 hown7 hgr7 hat7 hlt7
          obtain ⟨⟨⟨s0, s1⟩, s2, s3⟩, hC7⟩ := L9.out.growRows rfl (by rw [← hmH.out]; exact hown7) (by exact hgr7)
          have C7 := hide hC7
          have lT7 : T < w9.heap.size := by have := C7.out.blk.lt; simpa using this
          clear hown7 hgr7 hat7 hC7 L8 L9 hR t0 t1 t2 t3 lT hsz G8
          go_wp2_with fail
          go_roundw
          case rel => exact ⟨k + 1, _, _, by omega, by go_num, hide (by rw [hstep.out]; exact C7.out)⟩
          case measure => simp [intOf]; omega
    · obtain rfl : k = N := by omega
      have hlt' : decide ((k : Int) < (k : Int)) = false := decide_eq_false (by omega)
      obtain ⟨A9, c9, rfl, -⟩ := own_form C0.out.own.rows
      obtain ⟨⟨t0, t1⟩, t2, t3⟩ := C0.out.cells
      have lT := C0.out.blk.lt
      obtain ⟨u, u', hR⟩ := C0.out.out
      obtain ⟨r0, r1⟩ := (show wr.cell? ⟨w.heap.size, 0, none⟩ = some u ∧ wr.cell? ⟨w.heap.size, 1, none⟩ = some u' from ⟨hR.cell 0, hR.cell 1⟩)
      obtain ⟨r2, r3⟩ := (show wr.frozen? ⟨w.heap.size, 0, none⟩ = false ∧ wr.frozen? ⟨w.heap.size, 1, none⟩ = false from ⟨hR.frozen 0, hR.frozen 1⟩)
      have lR := hR.lt
      have hTR := hide (show w.heap.size ≠ T from by have := C0.out.lo; omega)
      clear hR
      rw [hv.out] at t0
      go_wp2_with fail
      refine bodyPost_ret (v := .tuple #[.agg #[.slice A0 1 1, .slice A9 (ticTs M k).length c9], .bool true]) (by simp [results, Try.results23, go_sem, r0, r1]; done) rfl ?_
      refine ⟨_, _, vs, rfl, ?_, (C0.out.below.setCell (p := ⟨w.heap.size, 0, none⟩) (Nat.le_refl _) _).setCell (p := ⟨w.heap.size, 1, none⟩) (Nat.le_refl _) _⟩
      have h1 := C0.out.own.keep (w1 := (wr.setCell ⟨w.heap.size, 0, none⟩ (.slice A0 1 1)).setCell ⟨w.heap.size, 1, none⟩ (.slice A9 (ticTs M k).length c9)) (fun b hb _ => (Below.heap_setCell _ _ _ b (by show b ≠ w.heap.size; omega)).trans (Below.heap_setCell _ _ _ b (by show b ≠ w.heap.size; omega)))
      rw [hv.out] at h1
      exact ⟨own_base h1.ints (by omega), own_base h1.rows (by omega), fun j hj => own_base (h1.thr j hj) (by omega), h1.apart⟩
theorem stic_any (z m : Int) (w : World) : Calls Try.prog 23 #[.int .i64 z, .int .i64 m] w fun e w' => FenR w w' e (ticP z m) (ticB z m) := by
  cases h : ticB z m
  · rw [show ticP z m = ⟨[], []⟩ from by unfold ticP; rw [h]; rfl]
    exact stic_no z m w h
  · have h2 : 1 ≤ z ∧ z ≤ 3 ∧ 1 ≤ m ∧ m ≤ 3 := of_decide_eq_true h
    rw [show ticP z m = ⟨[1], ticTs m.toNat z.toNat⟩ from by unfold ticP; rw [h]; rfl]
    have h3 := stic_yes z.toNat m.toNat w (by omega) (by omega) (by omega) (by omega)
    rwa [show ((z.toNat : Nat) : Int) = z from by omega, show ((m.toNat : Nat) : Int) = m from by omega] at h3
end Go.Proofs.Ytjendjbbhohjcaa
