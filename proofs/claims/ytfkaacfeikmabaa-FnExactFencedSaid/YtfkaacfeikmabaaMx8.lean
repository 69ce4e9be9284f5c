/- laws' helpers on a row of spots: eqSpotS, markSpotS, heldSpotS. A row of n spots is read as its 2 n numbers. -/
import Derived.Test.YtfkaacfeikmabaaMx0
import Derived.Test.YtfkaacfeikmabaaMx1
import Derived.Test.YtfkaacfeikmabaaMx3
import Derived.Test.YtfkaacfeikmabaaMx4
import Derived.Test.YtfkaacfeikmabaaMx5
import Derived.Test.YtfkaacfeikmabaaMx7
import Derived.Deep.AppendLies
namespace Go.Proofs.Ytfkaacfeikmabaa
open Go.RowKit

set_option maxHeartbeats 800000 in
theorem leads_any (o : Int) (w : World) : Calls Try.prog 142 #[.int .i64 o] w fun e w' => e = .returned (.bool (leapB o)) ∧ w = w' := by
  unfold leapB
  cases h : (o == 13)
  all_goals
    go_enter Try.func142, Try.ntmps142
    go_wp2
    go_ret
    exact ⟨rfl, rfl⟩
theorem fenI_len (l : List Int) (is : List InsD) (k : Nat) : (fenI l is k).length ≤ 2 * k := by
  induction k with
  | zero => exact Nat.le_refl _
  | succ k ih =>
    show (if hasL l (k : Int) then fenI l is k ++ [fence0, movedI l (getd is k)] else fenI l is k ++ [movedI l (getd is k)]).length ≤ _
    split <;> simp <;> omega
set_option maxRecDepth 100000 in
set_option maxHeartbeats 12800000 in
theorem fenced_any (A AT : Option Addr) (l : List InsD) (ats : List Int) (c cT : Nat) (S : Nat → Prop) (w : World) (h24 : l.length ≤ 24) (hS : ∀ b, S b → b < w.heap.size) (hi : InssAt w S A l) (ha : IntsAt w S AT ats) (hn : ats.length ≤ 1048576) (hu : upB ats) (hN : ∀ k, k < l.length → leapB (getd l k).o = true → 0 ≤ (getd l k).n ∧ (getd l k).n ≤ 24) :
    Calls Try.prog 67 #[.agg #[.slice A l.length c], .slice AT ats.length cT] w fun e w' => ∃ A' c', e = .returned (.agg #[.slice A' (fenI ats l l.length).length c']) ∧ w'.ownsRow w.heap.size 72 6 (.slice A' (fenI ats l l.length).length c') (fenI ats l l.length).length (flat (fenI ats l l.length)) ∧ Below w.heap.size w w' := by
  obtain ⟨i0, hi0, hz0, hz1, hz2⟩ := info_parts Try.infoInsT
  replace hi0 := hide hi0
  have hb0 := (below2 w (Obj.cells #[.slice A l.length c] 99) (Obj.cells #[.slice none 0 0] 99)).alloc (by simp; omega) (Obj.cells #[.slice none 0 0] 99)
  have X0 := ((Blk.new w 99 #[.slice A l.length c]).alloc (Obj.cells #[.slice none 0 0] 99)).alloc (Obj.cells #[.slice none 0 0] 99)
  have R0 := (Blk.new (w.alloc (Obj.cells #[.slice A l.length c] 99)) 99 #[.slice none 0 0]).alloc (Obj.cells #[.slice none 0 0] 99)
  have T0 := Blk.new ((w.alloc (Obj.cells #[.slice A l.length c] 99)).alloc (Obj.cells #[.slice none 0 0] 99)) 99 #[.slice none 0 0]
  simp only [World.size_alloc] at R0 T0
  obtain ⟨W, hW⟩ : ∃ W, W = ((w.alloc (Obj.cells #[.slice A l.length c] 99)).alloc (Obj.cells #[.slice none 0 0] 99)).alloc (Obj.cells #[.slice none 0 0] 99) := ⟨_, rfl⟩
  rw [← hW] at X0 R0 T0 hb0
  have hI := hide (hi.below hb0 hS)
  have hA := hide (ha.below hb0 hS)
  have hS1 := hide (fun b (h : S b) => (show b < W.heap.size from Nat.lt_of_lt_of_le (hS b h) hb0.size))
  have hTn := hide (fun b (h : S b) => (show b ≠ w.heap.size + 1 + 1 from by have := hS b h; omega))
  have G0 := hide (ThG.nil T0)
  have R0 := hide R0
  have X0 := hide X0
  have hB0 := hide hb0
  clear T0 hi ha hb0
  have kS := hide (fun k w (h : IntsAt w S AT ats) => search_any AT ats cT k S w hn hu h)
  go_enter Try.func67, Try.ntmps67
  go_wp2_with fail
  rw [← hW]
  clear hW
  go_loopw [15] (fun i wr => ∃ (k : Nat) (A' : Option Addr) (c' : Nat), k ≤ l.length ∧ i = .int .i64 k ∧ Hid (ThG W (w.heap.size + 1 + 1) (fenI ats l k) A' c' wr)) (fun i _ => l.length - (intOf i).toNat)
  case atStart => exact ⟨0, none, 0, Nat.zero_le _, rfl, G0⟩
  case round =>
    clear G0
    obtain ⟨k, A1, c1, hk, rfl, H0⟩ := hrel
    by_cases hlt : k < l.length
    · obtain ⟨q, off, rfl, hqS, hc⟩ := (hI.out.keep (S' := S) (fun b o h => H0.out.only.cell (hS1.out b h) (hTn.out b h)) (fun _ h => h)).2 (by omega)
      obtain ⟨d0, d1, d2, d3, d4, d5⟩ := hc k hlt
      have hNk := hN k hlt
      have hat0 := hA.out.keep (S' := S) (fun b o h => H0.out.only.cell (hS1.out b h) (hTn.out b h)) (fun _ h => h)
      obtain ⟨d, hd⟩ : ∃ d, d = getd l k := ⟨_, rfl⟩
      rw [← hd] at d0 d1 d2 d3 d4 d5 hNk
      have hst := hide (show fenI ats l (k + 1) = if hasL ats (k : Int) then fenI ats l k ++ [fence0, movedI ats d] else fenI ats l k ++ [movedI ats d] from by rw [hd]; rfl)
      clear hd hc
      obtain ⟨o, r, a, b, x, n⟩ := d
      simp only at d0 d1 d2 d3 d4 d5 hNk
      have hlen0 := hide (fenI_len ats l k)
      obtain ⟨l0, hl0⟩ : ∃ l0, l0 = fenI ats l k := ⟨_, rfl⟩
      rw [← hl0] at H0 hst hlen0
      clear hl0
      have hbY := below1 wr (Obj.cells #[.int .i64 o, .int .i64 r, .int .i64 a, .int .i64 b, .int .i64 x, .int .i64 n] 72)
      have Y1a := Blk.new wr 72 #[.int .i64 o, .int .i64 r, .int .i64 a, .int .i64 b, .int .i64 x, .int .i64 n]
      have H1a := H0.out.next hbY
      have hat1 := hat0.below hbY (fun b h => Nat.lt_of_lt_of_le (hS1.out b h) H0.out.only.size)
      have hqY := Nat.lt_of_lt_of_le (hS1.out q hqS) H0.out.only.size
      have hlt' : decide ((k : Int) < (l.length : Int)) = true := decide_eq_true (by omega)
      have hkl : k < l.length := hlt
      go_wp2_with fail
      obtain ⟨w1, hw1⟩ : ∃ wq, wq = wr.alloc (Obj.cells #[.int .i64 o, .int .i64 r, .int .i64 a, .int .i64 b, .int .i64 x, .int .i64 n] 72) := ⟨_, rfl⟩
      rw [← hw1] at Y1a H1a hat1 ⊢
      obtain ⟨Y, hY⟩ : ∃ Y, Y = wr.heap.size := ⟨_, rfl⟩
      have hYW : W.heap.size ≤ Y := by rw [hY]; exact H0.out.only.size
      have hYf : some Y ≠ (Value.slice A1 l0.length c1).ownBlock := fun e => by
        have := (own_at H0.out.own e.symm).2
        omega
      rw [← hY] at Y1a ⊢
      have Y1 := hide Y1a
      have H1 := hide H1a
      have hats := hide hat1
      clear d0 d1 d2 d3 d4 d5 hw1 hY hbY Y1a H1a hat0 hat1 H0 hqY
      refine (kS.out k _ hats.out).mono ?_
      rintro e wx ⟨rfl, rfl⟩
      cases hf : hasL ats (k : Int)
      · have hst1 := hide (show fenI ats l (k + 1) = l0 ++ [movedI ats ⟨o, r, a, b, x, n⟩] from by rw [hst.out, hf]; rfl)
        obtain ⟨l1, hl1⟩ : ∃ l1, l1 = l0 := ⟨_, rfl⟩
        rw [← hl1] at H1 hst1 hlen0 hYf
        have hlen1 := hide (show l1.length ≤ 2 * k + 1 from by have := hlen0.out; omega)
        clear hlen0
        have hlen0 := hide hlen1.out
        clear hl1 hst hf hlen1
        cases hlp : leapB o
        · have hstep := hide (show fenI ats l (k + 1) = l1 ++ [⟨o, r, a, b, x, n⟩] from by rw [hst1.out]; unfold movedI; rw [if_neg (by show ¬ leapB o = true; rw [hlp]; decide)])
          have kL1 := hide (fun w => leads_any o w)
          rw [hlp] at kL1
          clear hlp
          obtain ⟨y0, y1, y2, y3, y4, y5⟩ := (show (w1.cell? ⟨Y, 0, none⟩ = some (.int .i64 o) ∧ w1.cell? ⟨Y, 1, none⟩ = some (.int .i64 r) ∧ w1.cell? ⟨Y, 2, none⟩ = some (.int .i64 a) ∧ w1.cell? ⟨Y, 3, none⟩ = some (.int .i64 b) ∧ w1.cell? ⟨Y, 4, none⟩ = some (.int .i64 x) ∧ w1.cell? ⟨Y, 5, none⟩ = some (.int .i64 n)) from ⟨Y1.out.cell 0, Y1.out.cell 1, Y1.out.cell 2, Y1.out.cell 3, Y1.out.cell 4, Y1.out.cell 5⟩)
          have hYl1 := Y1.out.lt
          go_wp2_with fail
          refine (kind_any _ _ _ _ _ _ _).mono ?_
          rintro e w2 ⟨rfl, hb2⟩
          have H2 := hide (H1.out.next hb2)
          have Y2 := hide (Y1.out.below hb2 Y1.out.lt)
          clear hb2 H1 Y1 y0 y1 y2 y3 y4 y5 hYl1
          go_wp2_with fail
          refine (kL1.out _).mono ?_
          rintro e wx ⟨rfl, rfl⟩
          clear kL1
          obtain ⟨t0, t1⟩ := (show w2.cell? ⟨w.heap.size + 1 + 1, 0, none⟩ = some (.slice A1 l1.length c1) ∧ w2.frozen? ⟨w.heap.size + 1 + 1, 0, none⟩ = false from ⟨H2.out.blk.cell 0, H2.out.blk.frozen 0⟩)
          obtain ⟨y0, y1, y2, y3, y4, y5⟩ := (show (w2.cell? ⟨Y, 0, none⟩ = some (.int .i64 o) ∧ w2.cell? ⟨Y, 1, none⟩ = some (.int .i64 r) ∧ w2.cell? ⟨Y, 2, none⟩ = some (.int .i64 a) ∧ w2.cell? ⟨Y, 3, none⟩ = some (.int .i64 b) ∧ w2.cell? ⟨Y, 4, none⟩ = some (.int .i64 x) ∧ w2.cell? ⟨Y, 5, none⟩ = some (.int .i64 n)) from ⟨Y2.out.cell 0, Y2.out.cell 1, Y2.out.cell 2, Y2.out.cell 3, Y2.out.cell 4, Y2.out.cell 5⟩)
          have hTl := H2.out.blk.lt
          have hYl := Y2.out.lt
          have hW2 := H2.out.only.size
          have hown2 := hide ((H2.out.next (below1 w2 (Obj.cells #[.int .i64 o, .int .i64 r, .int .i64 a, .int .i64 b, .int .i64 x, .int .i64 n] 72))).own)
          have H2a := hide (H2.out.next (below1 w2 (Obj.cells #[.int .i64 o, .int .i64 r, .int .i64 a, .int .i64 b, .int .i64 x, .int .i64 n] 72)))
          go_wp2_with (at_builtin; refine wpList_append_lies _ rfl _ _ _ rfl W.heap.size 72 i0 _ 6 48 Try.underlying97 hi0.out hz0 hz1 hz2 rfl (by omega) (.slice A1 l1.length c1) l1.length (flat l1) rfl hown2.out ⟨w2.heap.size, 0, none⟩ 1 1 [Value.int .i64 o, Value.int .i64 r, Value.int .i64 a, Value.int .i64 b, Value.int .i64 x, Value.int .i64 n] rfl rfl (World.news_of_block (cs := #[Value.int .i64 o, Value.int .i64 r, Value.int .i64 a, Value.int .i64 b, Value.int .i64 x, Value.int .i64 n]) (heap_alloc_new _ _)) (by simp [Value.oneCell']) (by omega) (by have := hlen0.out; have : maxLen = 9223372036854775807 := rfl; omega) (by have := hlen0.out; omega) (by simp; omega) _ rfl ?_)
          intro g3 cap3 w3 hown3 hg3 hat3 hlt3
          obtain ⟨⟨s0, s1⟩, hG3⟩ := H2a.out.grow (d := ⟨o, r, a, b, x, n⟩) (by simp [insVals]) hown3 hg3
          have H3 := hide hG3
          clear hown3 hg3 hat3 hown2 H2a H2 Y2 hG3 y0 y1 y2 y3 y4 y5 t0 t1
          go_wp2_with fail
          go_roundw
          case rel => exact ⟨k + 1, _, _, by omega, by go_num, hide (by rw [hstep.out]; exact H3.out)⟩
          case measure => simp [intOf]; omega
        · have hlow := lowN_le n ats
          obtain ⟨m, hm⟩ : ∃ m, m = lowN n ats := ⟨_, rfl⟩
          have hstep := hide (show fenI ats l (k + 1) = l1 ++ [⟨o, r, a, b, x, n + m⟩] from by rw [hst1.out, hm]; unfold movedI; rw [if_pos (by show leapB o = true; exact hlp)])
          have kL1 := hide (fun w => leads_any o w)
          have kS2 := hide (fun w h => kS.out n w h)
          rw [hlp] at kL1
          have hnn := hNk hlp
          rw [← hm] at kS2 hlow
          clear hlp hm
          obtain ⟨y0, y1, y2, y3, y4, y5⟩ := (show (w1.cell? ⟨Y, 0, none⟩ = some (.int .i64 o) ∧ w1.cell? ⟨Y, 1, none⟩ = some (.int .i64 r) ∧ w1.cell? ⟨Y, 2, none⟩ = some (.int .i64 a) ∧ w1.cell? ⟨Y, 3, none⟩ = some (.int .i64 b) ∧ w1.cell? ⟨Y, 4, none⟩ = some (.int .i64 x) ∧ w1.cell? ⟨Y, 5, none⟩ = some (.int .i64 n)) from ⟨Y1.out.cell 0, Y1.out.cell 1, Y1.out.cell 2, Y1.out.cell 3, Y1.out.cell 4, Y1.out.cell 5⟩)
          have hYl1 := Y1.out.lt
          go_wp2_with fail
          refine (kind_any _ _ _ _ _ _ _).mono ?_
          rintro e w2 ⟨rfl, hb2⟩
          have H2 := hide (H1.out.next hb2)
          have Y2 := hide (Y1.out.below hb2 Y1.out.lt)
          have hats2 := hide (hats.out.below hb2 (fun b h => Nat.lt_of_lt_of_le (hS1.out b h) H1.out.only.size))
          clear hb2 H1 Y1 y0 y1 y2 y3 y4 y5 hYl1
          go_wp2_with fail
          refine (kL1.out _).mono ?_
          rintro e wx ⟨rfl, rfl⟩
          clear kL1
          obtain ⟨y5, z5⟩ := (show w2.cell? ⟨Y, 5, none⟩ = some (.int .i64 n) ∧ w2.frozen? ⟨Y, 5, none⟩ = false from ⟨Y2.out.cell 5, Y2.out.frozen 5⟩)
          have hYl2 := Y2.out.lt
          have hwm : IntKind.i64.wrap (n + (m : Int)) = n + (m : Int) := (IntWalk.i64_left _).trans (by unfold RowKit.wrap64; omega)
          go_wp2_with fail
          refine (kS2.out _ hats2.out).mono ?_
          rintro e wx ⟨rfl, rfl⟩
          go_upto_region 11 with fail
          obtain ⟨w3s, hw3s⟩ : ∃ wq, wq = w2.setCell ⟨Y, 5, none⟩ (.int .i64 (n + (m : Int))) := ⟨_, rfl⟩
          have H3s := H2.out.setFar (i := 5) hYW hYf (.int .i64 (n + (m : Int)))
          have Y3s := Y2.out.set_ 5 (.int .i64 (n + (m : Int)))
          rw [← hw3s] at H3s Y3s ⊢
          clear hw3s y5 z5 hYl2 hwm H2 Y2
          obtain ⟨w2, hw2⟩ : ∃ wq, wq = w3s := ⟨_, rfl⟩
          rw [← hw2] at H3s Y3s ⊢
          clear hw2
          have H2 := hide H3s
          have Y2 := hide (show Blk w2 Y 72 #[.int .i64 o, .int .i64 r, .int .i64 a, .int .i64 b, .int .i64 x, .int .i64 (n + (m : Int))] from Y3s)
          clear H3s Y3s

          obtain ⟨t0, t1⟩ := (show w2.cell? ⟨w.heap.size + 1 + 1, 0, none⟩ = some (.slice A1 l1.length c1) ∧ w2.frozen? ⟨w.heap.size + 1 + 1, 0, none⟩ = false from ⟨H2.out.blk.cell 0, H2.out.blk.frozen 0⟩)
          obtain ⟨y0, y1, y2, y3, y4, y5⟩ := (show (w2.cell? ⟨Y, 0, none⟩ = some (.int .i64 o) ∧ w2.cell? ⟨Y, 1, none⟩ = some (.int .i64 r) ∧ w2.cell? ⟨Y, 2, none⟩ = some (.int .i64 a) ∧ w2.cell? ⟨Y, 3, none⟩ = some (.int .i64 b) ∧ w2.cell? ⟨Y, 4, none⟩ = some (.int .i64 x) ∧ w2.cell? ⟨Y, 5, none⟩ = some (.int .i64 (n + m))) from ⟨Y2.out.cell 0, Y2.out.cell 1, Y2.out.cell 2, Y2.out.cell 3, Y2.out.cell 4, Y2.out.cell 5⟩)
          have hTl := H2.out.blk.lt
          have hYl := Y2.out.lt
          have hW2 := H2.out.only.size
          have hown2 := hide ((H2.out.next (below1 w2 (Obj.cells #[.int .i64 o, .int .i64 r, .int .i64 a, .int .i64 b, .int .i64 x, .int .i64 (n + m)] 72))).own)
          have H2a := hide (H2.out.next (below1 w2 (Obj.cells #[.int .i64 o, .int .i64 r, .int .i64 a, .int .i64 b, .int .i64 x, .int .i64 (n + m)] 72)))
          go_wp2_with (at_builtin; refine wpList_append_lies _ rfl _ _ _ rfl W.heap.size 72 i0 _ 6 48 Try.underlying97 hi0.out hz0 hz1 hz2 rfl (by omega) (.slice A1 l1.length c1) l1.length (flat l1) rfl hown2.out ⟨w2.heap.size, 0, none⟩ 1 1 [Value.int .i64 o, Value.int .i64 r, Value.int .i64 a, Value.int .i64 b, Value.int .i64 x, Value.int .i64 (n + m)] rfl rfl (World.news_of_block (cs := #[Value.int .i64 o, Value.int .i64 r, Value.int .i64 a, Value.int .i64 b, Value.int .i64 x, Value.int .i64 (n + m)]) (heap_alloc_new _ _)) (by simp [Value.oneCell']) (by omega) (by have := hlen0.out; have : maxLen = 9223372036854775807 := rfl; omega) (by have := hlen0.out; omega) (by simp; omega) _ rfl ?_)
          intro g3 cap3 w3 hown3 hg3 hat3 hlt3
          obtain ⟨⟨s0, s1⟩, hG3⟩ := H2a.out.grow (d := ⟨o, r, a, b, x, (n + m)⟩) (by simp [insVals]) hown3 hg3
          have H3 := hide hG3
          clear hown3 hg3 hat3 hown2 H2a H2 Y2 hG3 y0 y1 y2 y3 y4 y5 t0 t1
          go_wp2_with fail
          go_roundw
          case rel => exact ⟨k + 1, _, _, by omega, by go_num, hide (by rw [hstep.out]; exact H3.out)⟩
          case measure => simp [intOf]; omega
      · have hst1 := hide (show fenI ats l (k + 1) = (l0 ++ [fence0]) ++ [movedI ats ⟨o, r, a, b, x, n⟩] from by rw [hst.out, hf, List.append_assoc]; rfl)
        obtain ⟨t0, t1⟩ := (show w1.cell? ⟨w.heap.size + 1 + 1, 0, none⟩ = some (.slice A1 l0.length c1) ∧ w1.frozen? ⟨w.heap.size + 1 + 1, 0, none⟩ = false from ⟨H1.out.blk.cell 0, H1.out.blk.frozen 0⟩)
        have hTl := H1.out.blk.lt
        have hW1 := H1.out.only.size
        have hown1 := hide ((H1.out.next (below1 w1 (Obj.cells #[Value.int .i64 12, Value.int .i64 0, Value.int .i64 0, Value.int .i64 0, Value.int .i64 0, Value.int .i64 0] 72))).own)
        have H1a := hide (H1.out.next (below1 w1 (Obj.cells #[Value.int .i64 12, Value.int .i64 0, Value.int .i64 0, Value.int .i64 0, Value.int .i64 0, Value.int .i64 0] 72)))
        clear hst hf
        go_wp2_with (at_builtin; refine wpList_append_lies _ rfl _ _ _ rfl W.heap.size 72 i0 _ 6 48 Try.underlying97 hi0.out hz0 hz1 hz2 rfl (by omega) (.slice A1 l0.length c1) l0.length (flat l0) rfl hown1.out ⟨w1.heap.size, 0, none⟩ 1 1 [Value.int .i64 12, Value.int .i64 0, Value.int .i64 0, Value.int .i64 0, Value.int .i64 0, Value.int .i64 0] rfl rfl (World.news_of_block (cs := #[Value.int .i64 12, Value.int .i64 0, Value.int .i64 0, Value.int .i64 0, Value.int .i64 0, Value.int .i64 0]) (heap_alloc_new _ _)) (by simp [Value.oneCell']) (by omega) (by have := hlen0.out; have : maxLen = 9223372036854775807 := rfl; omega) (by have := hlen0.out; omega) (by simp; omega) _ rfl ?_)
        intro g4 cap4 w4 hown4 hg4 hat4 hlt4
        obtain ⟨⟨s0, s1⟩, hG4⟩ := H1a.out.grow (d := fence0) (by simp [insVals, fence0]) hown4 hg4
        have hYT : Y ≠ w.heap.size + 1 + 1 := by have := H1.out.lt; omega
        have hY4a : Blk w4 Y 72 #[.int .i64 o, .int .i64 r, .int .i64 a, .int .i64 b, .int .i64 x, .int .i64 n] := (hg4.block Y (by have := Y1.out.lt; simp; omega) hYf).trans (Y1.out.below (below1 w1 (Obj.cells #[Value.int .i64 12, Value.int .i64 0, Value.int .i64 0, Value.int .i64 0, Value.int .i64 0, Value.int .i64 0] 72)) Y1.out.lt)
        have hY4 := hY4a.far (p := ⟨w.heap.size + 1 + 1, 0, none⟩) hYT (.slice (some ⟨g4, 0, none⟩) (l0.length + 1) cap4)
        have hYf4 : some Y ≠ (Value.slice (some ⟨g4, 0, none⟩) (l0 ++ [fence0]).length cap4).ownBlock := fun e => by
          have e2 : Y = g4 := by simpa [Value.ownBlock] using e
          rcases hat4 with h | h
          · exact hYf (by rw [e2]; exact h.symm)
          · have := Y1.out.lt
            (try simp only [World.size_alloc] at h)
            omega
        clear t0 t1 hTl hW1 hown1 hown4 hg4 hat4 hY4a
        go_upto_region 8 with fail
        obtain ⟨w5, hw5⟩ : ∃ wq, wq = w4.setCell ⟨w.heap.size + 1 + 1, 0, none⟩ (.slice (some ⟨g4, 0, none⟩) (l0.length + 1) cap4) := ⟨_, rfl⟩
        rw [← hw5] at hG4 hY4 ⊢
        clear hw5 s0 s1 hlt4 H1a Y1 H1 hYf
        obtain ⟨l1, hl1⟩ : ∃ l1, l1 = l0 ++ [fence0] := ⟨_, rfl⟩
        have hlen1 := hide (show l1.length ≤ 2 * k + 1 from by have := hlen0.out; rw [hl1, List.length_append, List.length_singleton]; omega)
        rw [← hl1] at hG4 hst1 hYf4
        clear hl1 hlen0
        have hlen0 := hide hlen1.out
        clear hlen1
        obtain ⟨A1, hA1⟩ : ∃ A1 : Option Addr, A1 = some ⟨g4, 0, none⟩ := ⟨_, rfl⟩
        obtain ⟨c1, hc1⟩ : ∃ c1, c1 = cap4 := ⟨_, rfl⟩
        rw [← hA1, ← hc1] at hG4 hYf4
        clear hA1 hc1
        have hats := hide (hA.out.keep (S' := S) (fun b o h => hG4.only.cell (hS1.out b h) (hTn.out b h)) (fun _ h => h))
        obtain ⟨w1, hw1⟩ : ∃ wq, wq = w5 := ⟨_, rfl⟩
        rw [← hw1] at hG4 hY4 hats ⊢
        clear hw1
        have H1 := hide hG4
        have Y1 := hide hY4
        have hYf := hYf4
        clear hG4 hY4 hYf4
        cases hlp : leapB o
        · have hstep := hide (show fenI ats l (k + 1) = l1 ++ [⟨o, r, a, b, x, n⟩] from by rw [hst1.out]; unfold movedI; rw [if_neg (by show ¬ leapB o = true; rw [hlp]; decide)])
          have kL1 := hide (fun w => leads_any o w)
          rw [hlp] at kL1
          clear hlp
          obtain ⟨y0, y1, y2, y3, y4, y5⟩ := (show (w1.cell? ⟨Y, 0, none⟩ = some (.int .i64 o) ∧ w1.cell? ⟨Y, 1, none⟩ = some (.int .i64 r) ∧ w1.cell? ⟨Y, 2, none⟩ = some (.int .i64 a) ∧ w1.cell? ⟨Y, 3, none⟩ = some (.int .i64 b) ∧ w1.cell? ⟨Y, 4, none⟩ = some (.int .i64 x) ∧ w1.cell? ⟨Y, 5, none⟩ = some (.int .i64 n)) from ⟨Y1.out.cell 0, Y1.out.cell 1, Y1.out.cell 2, Y1.out.cell 3, Y1.out.cell 4, Y1.out.cell 5⟩)
          have hYl1 := Y1.out.lt
          go_wp2_with fail
          refine (kind_any _ _ _ _ _ _ _).mono ?_
          rintro e w2 ⟨rfl, hb2⟩
          have H2 := hide (H1.out.next hb2)
          have Y2 := hide (Y1.out.below hb2 Y1.out.lt)
          clear hb2 H1 Y1 y0 y1 y2 y3 y4 y5 hYl1
          go_wp2_with fail
          refine (kL1.out _).mono ?_
          rintro e wx ⟨rfl, rfl⟩
          clear kL1
          obtain ⟨t0, t1⟩ := (show w2.cell? ⟨w.heap.size + 1 + 1, 0, none⟩ = some (.slice A1 l1.length c1) ∧ w2.frozen? ⟨w.heap.size + 1 + 1, 0, none⟩ = false from ⟨H2.out.blk.cell 0, H2.out.blk.frozen 0⟩)
          obtain ⟨y0, y1, y2, y3, y4, y5⟩ := (show (w2.cell? ⟨Y, 0, none⟩ = some (.int .i64 o) ∧ w2.cell? ⟨Y, 1, none⟩ = some (.int .i64 r) ∧ w2.cell? ⟨Y, 2, none⟩ = some (.int .i64 a) ∧ w2.cell? ⟨Y, 3, none⟩ = some (.int .i64 b) ∧ w2.cell? ⟨Y, 4, none⟩ = some (.int .i64 x) ∧ w2.cell? ⟨Y, 5, none⟩ = some (.int .i64 n)) from ⟨Y2.out.cell 0, Y2.out.cell 1, Y2.out.cell 2, Y2.out.cell 3, Y2.out.cell 4, Y2.out.cell 5⟩)
          have hTl := H2.out.blk.lt
          have hYl := Y2.out.lt
          have hW2 := H2.out.only.size
          have hown2 := hide ((H2.out.next (below1 w2 (Obj.cells #[.int .i64 o, .int .i64 r, .int .i64 a, .int .i64 b, .int .i64 x, .int .i64 n] 72))).own)
          have H2a := hide (H2.out.next (below1 w2 (Obj.cells #[.int .i64 o, .int .i64 r, .int .i64 a, .int .i64 b, .int .i64 x, .int .i64 n] 72)))
          go_wp2_with (at_builtin; refine wpList_append_lies _ rfl _ _ _ rfl W.heap.size 72 i0 _ 6 48 Try.underlying97 hi0.out hz0 hz1 hz2 rfl (by omega) (.slice A1 l1.length c1) l1.length (flat l1) rfl hown2.out ⟨w2.heap.size, 0, none⟩ 1 1 [Value.int .i64 o, Value.int .i64 r, Value.int .i64 a, Value.int .i64 b, Value.int .i64 x, Value.int .i64 n] rfl rfl (World.news_of_block (cs := #[Value.int .i64 o, Value.int .i64 r, Value.int .i64 a, Value.int .i64 b, Value.int .i64 x, Value.int .i64 n]) (heap_alloc_new _ _)) (by simp [Value.oneCell']) (by omega) (by have := hlen0.out; have : maxLen = 9223372036854775807 := rfl; omega) (by have := hlen0.out; omega) (by simp; omega) _ rfl ?_)
          intro g3 cap3 w3 hown3 hg3 hat3 hlt3
          obtain ⟨⟨s0, s1⟩, hG3⟩ := H2a.out.grow (d := ⟨o, r, a, b, x, n⟩) (by simp [insVals]) hown3 hg3
          have H3 := hide hG3
          clear hown3 hg3 hat3 hown2 H2a H2 Y2 hG3 y0 y1 y2 y3 y4 y5 t0 t1
          go_wp2_with fail
          go_roundw
          case rel => exact ⟨k + 1, _, _, by omega, by go_num, hide (by rw [hstep.out]; exact H3.out)⟩
          case measure => simp [intOf]; omega
        · have hlow := lowN_le n ats
          obtain ⟨m, hm⟩ : ∃ m, m = lowN n ats := ⟨_, rfl⟩
          have hstep := hide (show fenI ats l (k + 1) = l1 ++ [⟨o, r, a, b, x, n + m⟩] from by rw [hst1.out, hm]; unfold movedI; rw [if_pos (by show leapB o = true; exact hlp)])
          have kL1 := hide (fun w => leads_any o w)
          have kS2 := hide (fun w h => kS.out n w h)
          rw [hlp] at kL1
          have hnn := hNk hlp
          rw [← hm] at kS2 hlow
          clear hlp hm
          obtain ⟨y0, y1, y2, y3, y4, y5⟩ := (show (w1.cell? ⟨Y, 0, none⟩ = some (.int .i64 o) ∧ w1.cell? ⟨Y, 1, none⟩ = some (.int .i64 r) ∧ w1.cell? ⟨Y, 2, none⟩ = some (.int .i64 a) ∧ w1.cell? ⟨Y, 3, none⟩ = some (.int .i64 b) ∧ w1.cell? ⟨Y, 4, none⟩ = some (.int .i64 x) ∧ w1.cell? ⟨Y, 5, none⟩ = some (.int .i64 n)) from ⟨Y1.out.cell 0, Y1.out.cell 1, Y1.out.cell 2, Y1.out.cell 3, Y1.out.cell 4, Y1.out.cell 5⟩)
          have hYl1 := Y1.out.lt
          go_wp2_with fail
          refine (kind_any _ _ _ _ _ _ _).mono ?_
          rintro e w2 ⟨rfl, hb2⟩
          have H2 := hide (H1.out.next hb2)
          have Y2 := hide (Y1.out.below hb2 Y1.out.lt)
          have hats2 := hide (hats.out.below hb2 (fun b h => Nat.lt_of_lt_of_le (hS1.out b h) H1.out.only.size))
          clear hb2 H1 Y1 y0 y1 y2 y3 y4 y5 hYl1
          go_wp2_with fail
          refine (kL1.out _).mono ?_
          rintro e wx ⟨rfl, rfl⟩
          clear kL1
          obtain ⟨y5, z5⟩ := (show w2.cell? ⟨Y, 5, none⟩ = some (.int .i64 n) ∧ w2.frozen? ⟨Y, 5, none⟩ = false from ⟨Y2.out.cell 5, Y2.out.frozen 5⟩)
          have hYl2 := Y2.out.lt
          have hwm : IntKind.i64.wrap (n + (m : Int)) = n + (m : Int) := (IntWalk.i64_left _).trans (by unfold RowKit.wrap64; omega)
          go_wp2_with fail
          refine (kS2.out _ hats2.out).mono ?_
          rintro e wx ⟨rfl, rfl⟩
          go_upto_region 11 with fail
          obtain ⟨w3s, hw3s⟩ : ∃ wq, wq = w2.setCell ⟨Y, 5, none⟩ (.int .i64 (n + (m : Int))) := ⟨_, rfl⟩
          have H3s := H2.out.setFar (i := 5) hYW hYf (.int .i64 (n + (m : Int)))
          have Y3s := Y2.out.set_ 5 (.int .i64 (n + (m : Int)))
          rw [← hw3s] at H3s Y3s ⊢
          clear hw3s y5 z5 hYl2 hwm H2 Y2
          obtain ⟨w2, hw2⟩ : ∃ wq, wq = w3s := ⟨_, rfl⟩
          rw [← hw2] at H3s Y3s ⊢
          clear hw2
          have H2 := hide H3s
          have Y2 := hide (show Blk w2 Y 72 #[.int .i64 o, .int .i64 r, .int .i64 a, .int .i64 b, .int .i64 x, .int .i64 (n + (m : Int))] from Y3s)
          clear H3s Y3s

          obtain ⟨t0, t1⟩ := (show w2.cell? ⟨w.heap.size + 1 + 1, 0, none⟩ = some (.slice A1 l1.length c1) ∧ w2.frozen? ⟨w.heap.size + 1 + 1, 0, none⟩ = false from ⟨H2.out.blk.cell 0, H2.out.blk.frozen 0⟩)
          obtain ⟨y0, y1, y2, y3, y4, y5⟩ := (show (w2.cell? ⟨Y, 0, none⟩ = some (.int .i64 o) ∧ w2.cell? ⟨Y, 1, none⟩ = some (.int .i64 r) ∧ w2.cell? ⟨Y, 2, none⟩ = some (.int .i64 a) ∧ w2.cell? ⟨Y, 3, none⟩ = some (.int .i64 b) ∧ w2.cell? ⟨Y, 4, none⟩ = some (.int .i64 x) ∧ w2.cell? ⟨Y, 5, none⟩ = some (.int .i64 (n + m))) from ⟨Y2.out.cell 0, Y2.out.cell 1, Y2.out.cell 2, Y2.out.cell 3, Y2.out.cell 4, Y2.out.cell 5⟩)
          have hTl := H2.out.blk.lt
          have hYl := Y2.out.lt
          have hW2 := H2.out.only.size
          have hown2 := hide ((H2.out.next (below1 w2 (Obj.cells #[.int .i64 o, .int .i64 r, .int .i64 a, .int .i64 b, .int .i64 x, .int .i64 (n + m)] 72))).own)
          have H2a := hide (H2.out.next (below1 w2 (Obj.cells #[.int .i64 o, .int .i64 r, .int .i64 a, .int .i64 b, .int .i64 x, .int .i64 (n + m)] 72)))
          go_wp2_with (at_builtin; refine wpList_append_lies _ rfl _ _ _ rfl W.heap.size 72 i0 _ 6 48 Try.underlying97 hi0.out hz0 hz1 hz2 rfl (by omega) (.slice A1 l1.length c1) l1.length (flat l1) rfl hown2.out ⟨w2.heap.size, 0, none⟩ 1 1 [Value.int .i64 o, Value.int .i64 r, Value.int .i64 a, Value.int .i64 b, Value.int .i64 x, Value.int .i64 (n + m)] rfl rfl (World.news_of_block (cs := #[Value.int .i64 o, Value.int .i64 r, Value.int .i64 a, Value.int .i64 b, Value.int .i64 x, Value.int .i64 (n + m)]) (heap_alloc_new _ _)) (by simp [Value.oneCell']) (by omega) (by have := hlen0.out; have : maxLen = 9223372036854775807 := rfl; omega) (by have := hlen0.out; omega) (by simp; omega) _ rfl ?_)
          intro g3 cap3 w3 hown3 hg3 hat3 hlt3
          obtain ⟨⟨s0, s1⟩, hG3⟩ := H2a.out.grow (d := ⟨o, r, a, b, x, (n + m)⟩) (by simp [insVals]) hown3 hg3
          have H3 := hide hG3
          clear hown3 hg3 hat3 hown2 H2a H2 Y2 hG3 y0 y1 y2 y3 y4 y5 t0 t1
          go_wp2_with fail
          go_roundw
          case rel => exact ⟨k + 1, _, _, by omega, by go_num, hide (by rw [hstep.out]; exact H3.out)⟩
          case measure => simp [intOf]; omega
    · obtain rfl : k = l.length := by omega
      have hlt' : decide ((l.length : Int) < (l.length : Int)) = false := decide_eq_false (by omega)
      obtain ⟨t0, t1⟩ := (show wr.cell? ⟨w.heap.size + 1 + 1, 0, none⟩ = some (.slice A1 (fenI ats l l.length).length c1) ∧ wr.frozen? ⟨w.heap.size + 1 + 1, 0, none⟩ = false from ⟨H0.out.blk.cell 0, H0.out.blk.frozen 0⟩)
      have hTl := H0.out.blk.lt
      have hR : Blk wr (w.heap.size + 1) 99 #[.slice none 0 0] := R0.out.only H0.out.only (by omega)
      have hRl := hR.lt
      have r0 := hR.cell 0
      have r1 := hR.frozen 0
      have hf := hide H0.out
      have hrf : some (w.heap.size + 1) ≠ (Value.slice A1 (fenI ats l l.length).length c1).ownBlock := H0.out.far (by have := H0.out.lt; omega)
      have hlR : w.heap.size + 1 < W.heap.size := by have := H0.out.lt; omega
      clear H0
      go_wp2_with fail
      refine bodyPost_ret (v := .agg #[.slice A1 (fenI ats l l.length).length c1]) (by simp [results, Try.results67, go_sem, r0]; done) rfl ⟨A1, c1, rfl, ?_, ?_⟩
      · exact own_base (own_keep hf.out.own (fun b hb _ => Below.heap_setCell wr ⟨w.heap.size + 1, 0, none⟩ _ b (by show b ≠ w.heap.size + 1; omega))) (by omega)
      · exact Below.setCell (p := ⟨w.heap.size + 1, 0, none⟩) (hB0.out.trans ⟨hf.out.only.os, hf.out.only.tape, hf.out.only.output, hf.out.only.size, fun k hk => hf.out.only.block k (by omega) (by omega)⟩) (by show w.heap.size ≤ w.heap.size + 1; omega) _
end Go.Proofs.Ytfkaacfeikmabaa

namespace Go.Proofs.Ytfkaacfeikmabaa
open Go.RowKit

theorem Try.infoSpot : (Try.prog.info? 105).map (fun i => (i.zero, i.size, i.bytes)) = some (some (.agg #[.int .i64 0, .int .i64 0]), 2, 16) := by kernel_rfl

set_option maxHeartbeats 800000 in
theorem eqSpot_any (x v : Int) (w : World) :
    Calls Try.prog 71 #[.agg #[.int .i64 x, .int .i64 v], .agg #[.int .i64 x, .int .i64 v]] w fun e w' => e = .returned (.bool true) ∧ Below w.heap.size w w' := by
  go_enter Try.func71, Try.ntmps71
  go_wp2
  go_ret
  exact ⟨rfl, below2 _ _ _⟩

set_option maxRecDepth 100000 in
set_option maxHeartbeats 800000 in
theorem eqSpotS_any (A A' : Option Addr) (zs : List Int) (n c c' : Nat) (S : Nat → Prop) (w : World) (hz : zs.length = n * 2) (hS : ∀ b, S b → b < w.heap.size) (ha : IntsAt w S A zs) (ha' : IntsAt w S A' zs) :
    Calls Try.prog 20 #[.slice A n c, .slice A' n c'] w fun e w' => e = .returned (.bool true) ∧ Below w.heap.size w w' := by
  have hn := ha.1
  go_enter Try.func20, Try.ntmps20
  go_wp2
  go_loopw [5] (fun i wr => ∃ (k : Nat), k ≤ n ∧ i = .int .i64 k ∧ Below w.heap.size w wr) (fun i _ => n - (intOf i).toNat)
  case atStart => exact ⟨0, Nat.zero_le _, rfl, Below.refl _ _⟩
  case round =>
    obtain ⟨k, hk, rfl, hb⟩ := hrel
    by_cases hlt : k < n
    · obtain ⟨b, off, rfl, hbB, c0, c1⟩ := (ha.below hb hS).two hz hlt
      obtain ⟨b', off', rfl, hbB', g0, g1⟩ := (ha'.below hb hS).two hz hlt
      have hx : ((k : Int) < (n : Int)) := by omega
      go_wp2_with fail
      go_still_tail 8, (by kernel_rfl)
      have hbd := hb.drew
      change wpList _ _ _ _ _ wr.drew
      generalize wr.drew = w2 at *
      go_wp2_with (go_at_call 71; refine (eqSpot_any (geti zs (k * 2)) (geti zs (k * 2 + 1)) _).mono ?_; rintro e w3 ⟨rfl, hb3⟩)
      go_roundw
      case rel => exact ⟨k + 1, by omega, by go_num, below_then hbd hb3⟩
      case measure => simp [intOf]; omega
    · obtain rfl : k = n := by omega
      go_wp2
      go_ret
      exact ⟨rfl, hb⟩

set_option maxHeartbeats 1600000 in
theorem markSpotS_any (q : Nat) (zs : List Int) (n c k : Nat) (w : World) (hz : zs.length = n * 2) (hn : n ≤ 1048576) (hk : k ≤ 16777216) (h : RowT 105 w q zs) :
    Calls Try.prog 22 #[.slice (some ⟨q, 0, none⟩) n c, .int .i64 k] w fun e w' => e = .returned (.int .i64 ((k + n * 2 : Nat) : Int)) ∧ RowT 105 w' q (marks k (n * 2)) ∧ Only q w w' := by
  go_enter Try.func22, Try.ntmps22
  go_wp2_with fail
  go_loopw [1, 5] (fun l i wr => ∃ (j : Nat) (cs : Array Value), j ≤ n ∧ i = .int .i64 j ∧ l = .int .i64 ((k + j * 2 : Nat) : Int) ∧ Blk wr q 105 cs ∧ Hid (n * 2 ≤ cs.size) ∧ Hid (∀ m, m < j * 2 → cs[m]? = some (.int .i64 ((k + m : Nat) : Int))) ∧ Only q w wr) (fun _ i _ => n - (intOf i).toNat)
  case atStart =>
    obtain ⟨cs, h1, h2, _⟩ := h
    exact ⟨0, cs, Nat.zero_le _, rfl, rfl, h1, hide (by omega), hide (fun m hm => by omega), Only.refl _ _⟩
  case round =>
    obtain ⟨j, cs, hj, rfl, rfl, hblk, hsz, hcs, ho⟩ := hrel
    by_cases hlt : j < n
    · have hsz' := hsz.out
      obtain ⟨v0, hv0⟩ : ∃ v, cs[j * 2]? = some v := ⟨_, Array.getElem?_eq_getElem (by omega)⟩
      obtain ⟨v1, hv1⟩ : ∃ v, cs[j * 2 + 1]? = some v := ⟨_, Array.getElem?_eq_getElem (by omega)⟩
      have d0 := (hblk.cell _).trans hv0
      have d1 := (hblk.cell _).trans hv1
      have z0 := hblk.frozen (j * 2)
      have z1 := hblk.frozen (j * 2 + 1)
      have HB := hide hblk
      have hlt' : (j : Int) < (n : Int) := by omega
      obtain ⟨K, hK⟩ : ∃ K : Int, K = ((k + j * 2 : Nat) : Int) := ⟨_, rfl⟩
      have hw1 : wrap64 (K + 1) = K + 1 := by unfold wrap64; omega
      have hw2 : wrap64 (K + 1 + 1) = K + 1 + 1 := by unfold wrap64; omega
      rw [← hK]
      replace hK := hide hK
      clear hv0 hv1 hblk hsz'
      go_wp2_with fail
      go_roundw
      case rel =>
        refine ⟨j + 1, (cs.setIfInBounds (j * 2) (.int .i64 K)).setIfInBounds (j * 2 + 1) (.int .i64 (K + 1)), by omega, by go_num, by rw [hK.out]; congr 1; unfold wrap64; omega, (HB.out.set_ _ _).set_ _ _, hide (by have := hsz.out; simpa using this), hide (fun m hm => ?_), (ho.setCell (.inl rfl) _).setCell (.inl rfl) _⟩
        rw [Array.getElem?_setIfInBounds]
        by_cases e : j * 2 + 1 = m
        · subst e; rw [if_pos rfl, if_pos (by have := hsz.out; simp; omega), hK.out]; congr 2
        · rw [if_neg e, Array.getElem?_setIfInBounds]
          by_cases e : j * 2 = m
          · subst e; rw [if_pos rfl, if_pos (by have := hsz.out; omega), hK.out]
          · rw [if_neg e]; exact hcs.out m (by omega)
      case measure => simp [intOf]; omega
    · obtain rfl : j = n := by omega
      go_wp2_with fail
      go_ret
      exact ⟨rfl, ⟨cs, hblk, by rw [marks_len]; exact hsz.out, fun m hm => by rw [marks_len] at hm; rw [marks_get _ _ _ hm]; exact hcs.out m hm⟩, ho⟩

set_option maxHeartbeats 1600000 in
theorem heldSpotS_any (A : Option Addr) (n c k : Nat) (S : Nat → Prop) (w : World) (hn : n ≤ 1048576) (hk : k ≤ 4194304) (h : IntsAt w S A (marks k (n * 2))) :
    Calls Try.prog 26 #[.slice A n c, .int .i64 k] w fun e w' => e = .returned (.int .i64 ((k + n * 2 : Nat) : Int)) ∧ w = w' := by
  go_enter Try.func26, Try.ntmps26
  go_wp2_with fail
  go_loop [1, 5] (fun l i => ∃ (j : Nat), j ≤ n ∧ i = .int .i64 j ∧ l = .int .i64 ((k + j * 2 : Nat) : Int)) (fun _ i => n - (intOf i).toNat)
  case atStart => exact ⟨0, Nat.zero_le _, rfl, rfl⟩
  case round =>
    obtain ⟨j, hj, rfl, rfl⟩ := hrel
    by_cases hlt : j < n
    · obtain ⟨b, off, rfl, _, c0, c1⟩ := h.two (marks_len _ _) hlt
      rw [marks_get _ _ _ (by omega)] at c0 c1
      have hlt' : (j : Int) < (n : Int) := by omega
      rw [show ((k + (j * 2 + 1) : Nat) : Int) = ((k + j * 2 : Nat) : Int) + 1 by omega] at c1
      obtain ⟨K, hK⟩ : ∃ K : Int, K = ((k + j * 2 : Nat) : Int) := ⟨_, rfl⟩
      have hw1 : wrap64 (K + 1) = K + 1 := by unfold wrap64; omega
      have hw2 : wrap64 (K + 1 + 1) = K + 1 + 1 := by unfold wrap64; omega
      rw [← hK] at c0 c1 ⊢
      replace hK := hide hK
      go_wp2_with fail
      go_round
      case rel => exact ⟨j + 1, by omega, by go_num, by rw [hK.out]; congr 1; unfold wrap64; omega⟩
      case measure => simp [intOf]; omega
    · obtain rfl : j = n := by omega
      go_wp2_with fail
      go_ret
      exact ⟨rfl, rfl⟩

set_option maxHeartbeats 800000 in
theorem markSpotS_none (c : Nat) (k : Int) (w : World) : Calls Try.prog 22 #[.slice none 0 c, .int .i64 k] w fun e w' => e = .returned (.int .i64 k) ∧ w = w' := by
  go_enter Try.func22, Try.ntmps22
  go_wp2_with fail
  go_loop [1, 5] (fun l i => i = .int .i64 0 ∧ l = .int .i64 k) (fun _ _ => 0)
  case atStart => exact ⟨rfl, rfl⟩
  case round =>
    obtain ⟨rfl, rfl⟩ := hrel
    go_wp2_with fail
    go_ret
    exact ⟨rfl, rfl⟩

theorem eqSpotI {w : World} {lo hi lo' hi' n c c' : Nat} {A A' : Option Addr} {zs : List Int} (hz : zs.length = n * 2) (hn : n ≤ 1048577) (h : RvI 105 w lo hi (.slice A n c) n zs) (k : RvI 105 w lo' hi' (.slice A' n c') n zs) :
    Calls Try.prog 20 #[.slice A n c, .slice A' n c'] w fun e w' => e = .returned (.bool true) ∧ Below w.heap.size w w' :=
  eqSpotS_any A A' zs n c c' _ w hz (fun _ h => h) (h.src (by omega) rfl) (k.src (by omega) rfl)
theorem markSpotI {w : World} {lo hi n c : Nat} {A : Option Addr} {zs : List Int} {k : Int} (hz : zs.length = n * 2) (hn : n ≤ 1048576) (h0 : 0 ≤ k) (h1 : k ≤ 16777216) (h : RvI 105 w lo hi (.slice A n c) n zs) :
    Calls Try.prog 22 #[.slice A n c, .int .i64 k] w fun e w' => e = .returned (.int .i64 (markZ k (n * 2))) ∧ RvI 105 w' lo hi (.slice A n c) n (marks k.toNat (n * 2)) ∧ w.grownBy w' (Value.slice A n c).ownBlock := by
  obtain ⟨j, rfl⟩ : ∃ j : Nat, k = (j : Int) := ⟨k.toNat, by omega⟩
  rcases h with ⟨hr, hh⟩
  rcases hr with ⟨e, rfl, rfl⟩ | ⟨q, c', e, hr, hq⟩
  · cases e
    refine (markSpotS_none 0 j w).mono ?_
    rintro e w1 ⟨rfl, rfl⟩
    exact ⟨by simp [markZ], ⟨.inl ⟨rfl, rfl, by simp [marks]⟩, hh⟩, grown_below (Below.refl _ _)⟩
  · cases e
    refine (markSpotS_any q zs n c j _ hz hn (by omega) hr).mono ?_
    rintro e w1 ⟨rfl, hr', ho⟩
    exact ⟨by simp [markZ], ⟨.inr ⟨q, c, rfl, hr', hq⟩, hh⟩, grown_only ho⟩
theorem heldSpotI {w : World} {lo hi n c : Nat} {A : Option Addr} {k : Int} (hn : n ≤ 1048576) (h0 : 0 ≤ k) (h1 : k ≤ 4194304) (h : RvI 105 w lo hi (.slice A n c) n (marks k.toNat (n * 2))) :
    Calls Try.prog 26 #[.slice A n c, .int .i64 k] w fun e w' => e = .returned (.int .i64 (markZ k (n * 2))) ∧ w = w' := by
  obtain ⟨j, rfl⟩ : ∃ j : Nat, k = (j : Int) := ⟨k.toNat, by omega⟩
  refine (heldSpotS_any A n c j _ w hn (by omega) (h.src (by rw [marks_len]; omega) rfl)).mono ?_
  rintro e w1 ⟨rfl, rfl⟩
  exact ⟨by simp [markZ], rfl⟩
end Go.Proofs.Ytfkaacfeikmabaa
