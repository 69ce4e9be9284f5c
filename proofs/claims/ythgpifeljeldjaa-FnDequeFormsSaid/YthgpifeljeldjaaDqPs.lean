/- The model's DequeProg. -/
import Derived.Test.YthgpifeljeldjaaDqP
import Derived.Test.YthgpifeljeldjaaDqS
import Derived.Test.YthgpifeljeldjaaDqM
import Derived.Test.YthgpifeljeldjaaRvT
namespace Go.Proofs.Ythgpifeljeldjaa
open Go.RowKit

/-- A row of instructions as its numbers. -/
def insZ (d : InsD) : List Int := [d.o, d.r, d.a, d.b, d.x, d.n]
def flatZ (l : List InsD) : List Int := l.flatMap insZ
theorem flatZ_map (l : List InsD) : (flatZ l).map (Value.int .i64) = flat l := by
  induction l with
  | nil => rfl
  | cons d l ih =>
    have e1 : flatZ (d :: l) = insZ d ++ flatZ l := by simp [flatZ]
    have e2 : flat (d :: l) = insVals d ++ flat l := by simp [flat]
    rw [e1, e2, List.map_append, ih]
    rfl
theorem flatZ_len (l : List InsD) : (flatZ l).length = l.length * 6 := by
  have := congrArg List.length (flatZ_map l)
  rw [List.length_map, flat_len] at this
  exact this
theorem InssAt.ints {w : World} {S : Nat → Prop} {A : Option Addr} {l : List InsD} (h : InssAt w S A l) (hl : l.length ≤ 1000) : IntsAt w S A (flatZ l) := by
  refine ⟨by rw [flatZ_len]; omega, fun hn => ?_⟩
  rw [flatZ_len] at hn
  obtain ⟨b, off, e, hb, hc⟩ := h.2 (by omega)
  refine ⟨b, off, e, hb, fun k hk => ?_⟩
  rw [flatZ_len] at hk
  obtain ⟨i, j, hj, rfl⟩ : ∃ i j, j < 6 ∧ k = i * 6 + j := ⟨k / 6, k % 6, by omega, by omega⟩
  have hi : i < l.length := by omega
  have h1 := flat_get l i j hi hj
  rw [← flatZ_map, List.getElem?_map] at h1
  have h2 : (insVals (getd l i))[j]? = some (Value.int .i64 (geti (flatZ l) (i * 6 + j))) := by
    rw [← h1, geti, List.getD_eq_getElem?_getD, List.getElem?_eq_getElem (show i * 6 + j < (flatZ l).length by rw [flatZ_len]; omega)]
    rfl
  obtain ⟨d0, d1, d2, d3, d4, d5⟩ := hc i hi
  rw [← Nat.add_assoc]
  have hj' : j = 0 ∨ j = 1 ∨ j = 2 ∨ j = 3 ∨ j = 4 ∨ j = 5 := by omega
  rcases hj' with rfl | rfl | rfl | rfl | rfl | rfl
  · exact d0.trans h2
  · exact d1.trans h2
  · exact d2.trans h2
  · exact d3.trans h2
  · exact d4.trans h2
  · exact d5.trans h2
theorem stealI_smallS (r : Int) (b : Bool) : ∀ d ∈ stealI r b, -1000000 ≤ d.n ∧ d.n ≤ 1000000 := by unfold stealI lookL fenL stealT; cases b <;> simp

set_option maxRecDepth 100000 in
set_option maxHeartbeats 6400000 in
theorem sdeque_no (A : Option Addr) (z f : Int) (zs : List Int) (c : Nat) (w : World) (hzl : zs.length ≤ 9223372036854775807) (hno : ¬ ((1 ≤ z ∧ z ≤ 4) ∧ zs.length ≤ 2 ∧ 0 ≤ f ∧ f ≤ 3)) :
    Calls Try.prog 11 #[.int .i64 z, .slice A zs.length c, .int .i64 f] w fun e w' => FenR w w' e ⟨[], []⟩ false := by
  have kO := fun w => l8ok_any 0 f w
  obtain ⟨f1, hf1⟩ : ∃ x, x = rfB 0 f := ⟨_, rfl⟩
  rw [← hf1] at kO
  have hall : ¬ ((1 ≤ z ∧ z ≤ 4) ∧ zs.length ≤ 2 ∧ f1 = true) := by
    rintro ⟨h1, h2, h3⟩
    rw [h3] at hf1
    have := (rf_yes hf1.symm).2
    omega
  replace kO := hide kO
  clear hf1 hno
  obtain ⟨W, hW⟩ : ∃ x, x = w.alloc (Obj.cells #[.slice none 0 0, .slice none 0 0] 28) := ⟨_, rfl⟩
  have hbW : Below w.heap.size w W := by rw [hW]; exact below1 _ _
  have hsW : w.heap.size + 1 ≤ W.heap.size := by rw [hW]; simp
  have R := hide (show Blk W w.heap.size 28 #[.slice none 0 0, .slice none 0 0] from by rw [hW]; exact Blk.new _ _ _)
  have BW := hide hbW
  clear hbW
  go_enter Try.func11, Try.ntmps11
  go_upto_region 1 with fail
  rw [← hW]
  clear hW
  obtain ⟨r0, r1⟩ := (show W.cell? ⟨w.heap.size, 0, none⟩ = some (Value.slice none 0 0) ∧ W.cell? ⟨w.heap.size, 1, none⟩ = some (Value.slice none 0 0) from ⟨R.out.cell 0, R.out.cell 1⟩)
  obtain ⟨r2, r3⟩ := (show W.frozen? ⟨w.heap.size, 0, none⟩ = false ∧ W.frozen? ⟨w.heap.size, 1, none⟩ = false from ⟨R.out.frozen 0, R.out.frozen 1⟩)
  have lR := R.out.lt
  by_cases h1 : 1 ≤ z
  · have hd1 : decide (z < 1) = false := decide_eq_false (by omega)
    by_cases h4 : z ≤ 4
    · have hd4 : decide (4 < z) = false := decide_eq_false (by omega)
      by_cases h2 : zs.length ≤ 2
      · have hd2 : decide (2 < zs.length) = false := decide_eq_false (by omega)
        have hd2' : decide ((2 : Int) < (zs.length : Int)) = false := decide_eq_false (by omega)
        cases f1
        · clear hall
          go_wp2_with (first | (go_at_call 46; refine (kO.out _).mono ?_; rintro e wx ⟨rfl, rfl⟩))
          refine bodyPost_ret (v := .tuple #[.agg #[.slice none 0 0, .slice none 0 0], .bool false]) (by simp [results, Try.results11, go_sem, r0, r1]; done) rfl (FenR.no ?_)
          exact (BW.out.setCell (p := ⟨w.heap.size, 0, none⟩) (Nat.le_refl _) _).setCell (p := ⟨w.heap.size, 1, none⟩) (Nat.le_refl _) _
        · exact absurd ⟨⟨h1, h4⟩, h2, rfl⟩ hall
      · have hd2 : decide (2 < zs.length) = true := decide_eq_true (by omega)
        have hd2' : decide ((2 : Int) < (zs.length : Int)) = true := decide_eq_true (by omega)
        clear hall
        go_wp2_with (first | (go_at_call 46; refine (kO.out _).mono ?_; rintro e wx ⟨rfl, rfl⟩))
        refine bodyPost_ret (v := .tuple #[.agg #[.slice none 0 0, .slice none 0 0], .bool false]) (by simp [results, Try.results11, go_sem, r0, r1]; done) rfl (FenR.no ?_)
        exact (BW.out.setCell (p := ⟨w.heap.size, 0, none⟩) (Nat.le_refl _) _).setCell (p := ⟨w.heap.size, 1, none⟩) (Nat.le_refl _) _
    · have hd4 : decide (4 < z) = true := decide_eq_true (by omega)
      clear hall
      go_wp2_with (first | (go_at_call 46; refine (kO.out _).mono ?_; rintro e wx ⟨rfl, rfl⟩))
      refine bodyPost_ret (v := .tuple #[.agg #[.slice none 0 0, .slice none 0 0], .bool false]) (by simp [results, Try.results11, go_sem, r0, r1]; done) rfl (FenR.no ?_)
      exact (BW.out.setCell (p := ⟨w.heap.size, 0, none⟩) (Nat.le_refl _) _).setCell (p := ⟨w.heap.size, 1, none⟩) (Nat.le_refl _) _
  · have hd1 : decide (z < 1) = true := decide_eq_true (by omega)
    clear hall
    go_wp2_with (first | (go_at_call 46; refine (kO.out _).mono ?_; rintro e wx ⟨rfl, rfl⟩))
    refine bodyPost_ret (v := .tuple #[.agg #[.slice none 0 0, .slice none 0 0], .bool false]) (by simp [results, Try.results11, go_sem, r0, r1]; done) rfl (FenR.no ?_)
    exact (BW.out.setCell (p := ⟨w.heap.size, 0, none⟩) (Nat.le_refl _) _).setCell (p := ⟨w.heap.size, 1, none⟩) (Nat.le_refl _) _

set_option maxRecDepth 100000 in
set_option maxHeartbeats 25600000 in
theorem sdeque_main (A : Option Addr) (z f : Int) (zs : List Int) (c : Nat) (S : Nat → Prop) (w : World) (hS : ∀ b, S b → b < w.heap.size) (ha : IntsAt w S A zs) (hz1 : 1 ≤ z) (hz4 : z ≤ 4) (hz2 : zs.length ≤ 2) (hf0 : 0 ≤ f) (hf3 : f ≤ 3) :
    Calls Try.prog 11 #[.int .i64 z, .slice A zs.length c, .int .i64 f] w fun e w' => FenR w w' e (dqP z zs f) (okQ z zs f) := by
  obtain ⟨res, hres⟩ : ∃ res, res = okQ z zs f := ⟨_, rfl⟩
  obtain ⟨qq, hqq⟩ : ∃ qq, qq = dqP z zs f := ⟨_, rfl⟩
  rw [← hres, ← hqq]
  have hno := hide (fun (k : Nat) (hk : k < zs.length) (h : ¬ (1 ≤ geti zs k ∧ geti zs k ≤ 2)) => (show res = false ∧ qq = ⟨[], []⟩ from by
    have h1 : okQ z zs f = false := by unfold okQ stealsB; rw [allB_no hk (decide_eq_false h), Bool.and_false]
    refine ⟨hres.trans h1, ?_⟩
    rw [hqq]; unfold dqP; rw [h1]; rfl))
  have hyes := hide (fun (h : ∀ j, j < zs.length → 1 ≤ geti zs j ∧ geti zs j ≤ 2) => (show res = true ∧ qq = dqQ z zs f from by
    have h1 : okQ z zs f = true := by unfold okQ stealsB; rw [allB_yes (fun j hj => decide_eq_true (h j hj)), decide_eq_true (show 1 ≤ z ∧ z ≤ 4 ∧ zs.length ≤ 2 ∧ 0 ≤ f ∧ f ≤ 3 from ⟨hz1, hz4, hz2, hf0, hf3⟩)]; rfl
    refine ⟨hres.trans h1, ?_⟩
    rw [hqq]; unfold dqP; rw [h1]; rfl))
  have kO := fun w => l8ok_any 0 f w
  rw [show rfB 0 f = true from by unfold rfB; exact decide_eq_true ⟨by omega, by omega, hf0, hf3⟩] at kO
  replace kO := hide kO
  have kT := hide (fun w => stake_yes 0 f w (by unfold rfB; exact decide_eq_true ⟨by omega, by omega, hf0, hf3⟩))
  have kS0 := hide (fun w => ssteal_yes 0 f w (by unfold rfB; exact decide_eq_true ⟨by omega, by omega, hf0, hf3⟩))
  have kS1 := hide (fun w => ssteal_yes 1 f w (by unfold rfB; exact decide_eq_true ⟨by omega, by omega, hf0, hf3⟩))
  obtain ⟨i0, hi0, hz00, hz01, hz02⟩ := info_parts Try.infoIns
  replace hi0 := hide hi0
  obtain ⟨i1, hi1, hy0, hy1, hy2⟩ := info_parts Try.infoInt
  replace hi1 := hide hi1
  obtain ⟨i2, hi2, hx0, hx1, hx2⟩ := info_parts Try.infoThr
  replace hi2 := hide hi2
  have hd1 : decide (z < 1) = false := decide_eq_false (by omega)
  have hd4 : decide (4 < z) = false := decide_eq_false (by omega)
  have hd2 : decide (2 < zs.length) = false := decide_eq_false (by omega)
  have hd2' : decide ((2 : Int) < (zs.length : Int)) = false := decide_eq_false (by omega)
  have hha := hide ha
  have hhS := hide hS
  clear hres hqq hf0 hf3 ha hS hz1
  obtain ⟨W, hW⟩ : ∃ x, x = w.alloc (Obj.cells #[.slice none 0 0, .slice none 0 0] 28) := ⟨_, rfl⟩
  have hbW : Below w.heap.size w W := by rw [hW]; exact below1 _ _
  have hsW : w.heap.size + 1 ≤ W.heap.size := by rw [hW]; simp
  have R := hide (show Blk W w.heap.size 28 #[.slice none 0 0, .slice none 0 0] from by rw [hW]; exact Blk.new _ _ _)
  have BW := hide hbW
  clear hbW
  go_enter Try.func11, Try.ntmps11
  go_upto_region 1 with fail
  rw [← hW]
  clear hW
  obtain ⟨r0, r1⟩ := (show W.cell? ⟨w.heap.size, 0, none⟩ = some (Value.slice none 0 0) ∧ W.cell? ⟨w.heap.size, 1, none⟩ = some (Value.slice none 0 0) from ⟨R.out.cell 0, R.out.cell 1⟩)
  obtain ⟨r2, r3⟩ := (show W.frozen? ⟨w.heap.size, 0, none⟩ = false ∧ W.frozen? ⟨w.heap.size, 1, none⟩ = false from ⟨R.out.frozen 0, R.out.frozen 1⟩)
  have lR := R.out.lt
  go_wp2_with (first | (go_at_call 46; refine (kO.out _).mono ?_; rintro e wx ⟨rfl, rfl⟩))
  have V1 := own_lit W W.heap.size 3 1 2 #[.int .i64 0, .int .i64 z] (Nat.le_refl _) (by omega) rfl
  have B1 := below1 W (Obj.cells #[.int .i64 0, .int .i64 z] 3)
  obtain ⟨w1, hw1⟩ : ∃ x, x = W.alloc (Obj.cells #[.int .i64 0, .int .i64 z] 3) := ⟨_, rfl⟩
  rw [← hw1] at V1 B1 ⊢
  clear hw1 r0 r1 r2 r3 lR hd1 hd4 hd2 hd2' kO
  refine (kT.out _).mono ?_
  rintro e w2 ⟨A2, c2, rfl, ho2, hb2⟩
  have V2 := own_keep V1 (fun b _ hlt => hb2.block b hlt)
  have B2 := B1.trans (hb2.mono B1.size)
  have O2 := own_base ho2 B1.size
  obtain ⟨l0, hl0⟩ : ∃ l, l = takeI 0 (tkB f) := ⟨_, rfl⟩
  rw [← hl0] at O2 ⊢
  have C4 := CrAt.start1 (w0 := w) (zs := initI z 0) BW.out hsW ⟨_, _, R.out⟩ B2 V2 O2
  obtain ⟨w3, hw3⟩ : ∃ x, x = w2.alloc (Obj.cells #[.slice A2 l0.length c2] 66) := ⟨_, rfl⟩
  obtain ⟨w4, hw4⟩ : ∃ x, x = w3.alloc (Obj.cells #[.slice (some ⟨W.heap.size, 0, none⟩) 2 2, .slice (some ⟨w2.heap.size, 0, none⟩) 1 1] 28) := ⟨_, rfl⟩
  rw [← hw3, ← hw4] at C4
  obtain ⟨T, hT⟩ : ∃ x, x = w2.heap.size + 1 := ⟨_, rfl⟩
  rw [← hT] at C4
  have hcs := hide (show ([l0] : List (List InsD)) = dqTs zs f 0 from by rw [hl0]; rfl)
  rw [hcs.out] at C4
  replace C4 := hide C4
  replace hl0 := hide hl0
  clear V2 B2 O2 V1 B1 ho2 hb2 kT
  go_upto_region 4 with fail
  rw [← hw3, ← hw4, ← hT]
  obtain ⟨tv0, htv0⟩ : ∃ x, x = Value.slice (some ⟨w2.heap.size, 0, none⟩) 1 1 := ⟨_, rfl⟩
  rw [← htv0] at C4
  clear htv0 hw3 hw4 hT hcs hl0
  obtain ⟨vs0, hvs0⟩ : ∃ x, x = [Value.slice A2 l0.length c2] := ⟨_, rfl⟩
  rw [← hvs0] at C4
  clear hvs0
  go_wp2_with fail
  go_loopw [9] (fun i wr => ∃ (k n : Nat) (A0 : Option Addr) (c0 : Nat), k ≤ 4 ∧ i = .int .i64 k ∧ Hid (n = k + 2) ∧ Hid (CrAt w T (initI z k) (.slice A0 n c0) (dqTs zs f 0) vs0 tv0 wr)) (fun i _ => 4 - (intOf i).toNat)
  case atStart => exact ⟨0, 2, _, 2, by omega, rfl, hide rfl, C4⟩
  case round =>
    clear C4
    obtain ⟨k, n, A0, c0, hk, rfl, hn, C0⟩ := hrel
    by_cases hlt : k < 4
    · have hn6 : n ≤ 6 := by have := hn.out; omega
      have hlt' : decide ((k : Int) < 4) = true := decide_eq_true (by omega)
      obtain ⟨⟨t0, t1⟩, t2, t3⟩ := C0.out.cells
      have lT := C0.out.blk.lt
      have hsz : w.heap.size + 1 ≤ wr.heap.size := by have := C0.out.lo; omega
      cases hkz : decide ((k : Int) < z)
      · have hstep := hide (show initI z (k + 1) = initI z k ++ [0] from by rw [initI_succ, if_neg (by simpa using hkz)])
        have hown := hide (show (wr.alloc (Obj.cells #[.int .i64 0] 3)).ownsRow (w.heap.size + 1) 3 1 (.slice A0 n c0) n ((initI z k).map (Value.int .i64)) from by have := (C0.out.alloc (Obj.cells #[.int .i64 0] 3)).own.ints; rw [initI_len, ← hn.out] at this; exact this)
        have CA := hide (C0.out.alloc (Obj.cells #[.int .i64 0] 3))
        clear C0
        go_wp2_with (at_builtin; refine wpList_append_lies _ rfl _ _ _ rfl (w.heap.size + 1) 3 i1 _ 1 8 Try.underlying23 hi1.out hy0 hy1 hy2 rfl (by omega) (.slice A0 n c0) n ((initI z k).map (Value.int .i64)) rfl hown.out ⟨wr.heap.size, 0, none⟩ 1 1 [.int .i64 0] rfl rfl (World.news_of_block (cs := #[.int .i64 0]) (t := 3) (fr := (0, 0)) (heap_alloc_new _ _)) (by simp [Value.oneCell']) (by omega) (by have : maxLen = 9223372036854775807 := rfl; omega) (by omega) (by simp; omega) _ rfl ?_)
        intro g5 cap5 w5 hown5 hgr5 hat5 hlt5
        obtain ⟨⟨⟨s0, s1⟩, s2, s3⟩, hC5⟩ := CA.out.growInts (x := 0) rfl (by rw [initI_len, ← hn.out]; exact hown5) hgr5
        have C5 := hide hC5
        have lT5 : T < w5.heap.size := by have := C5.out.blk.lt; simpa using this
        have hn1 := hide (show n + 1 = (k + 1) + 2 from by have := hn.out; omega)
        clear hown5 hgr5 hat5 hC5 CA hown t0 t1 t2 t3 lT hsz
        go_wp2_with fail
        go_roundw
        case rel => exact ⟨k + 1, n + 1, _, _, by omega, by go_num, hn1, hide (by rw [hstep.out]; exact C5.out)⟩
        case measure => simp [intOf]; omega
      · have hstep := hide (show initI z (k + 1) = initI z k ++ [(11 + (k : Int))] from by rw [initI_succ, if_pos (by simpa using hkz)])
        have hwr : IntKind.i64.wrap (11 + (k : Int)) = 11 + (k : Int) := by rw [IntKind.wrap_i64]; omega
        have hown := hide (show (wr.alloc (Obj.cells #[.int .i64 (11 + (k : Int))] 3)).ownsRow (w.heap.size + 1) 3 1 (.slice A0 n c0) n ((initI z k).map (Value.int .i64)) from by have := (C0.out.alloc (Obj.cells #[.int .i64 (11 + (k : Int))] 3)).own.ints; rw [initI_len, ← hn.out] at this; exact this)
        have CA := hide (C0.out.alloc (Obj.cells #[.int .i64 (11 + (k : Int))] 3))
        clear C0
        go_wp2_with (at_builtin; refine wpList_append_lies _ rfl _ _ _ rfl (w.heap.size + 1) 3 i1 _ 1 8 Try.underlying23 hi1.out hy0 hy1 hy2 rfl (by omega) (.slice A0 n c0) n ((initI z k).map (Value.int .i64)) rfl hown.out ⟨wr.heap.size, 0, none⟩ 1 1 [.int .i64 (11 + (k : Int))] rfl rfl (World.news_of_block (cs := #[.int .i64 (11 + (k : Int))]) (t := 3) (fr := (0, 0)) (heap_alloc_new _ _)) (by simp [Value.oneCell']) (by omega) (by have : maxLen = 9223372036854775807 := rfl; omega) (by omega) (by simp; omega) _ rfl ?_)
        intro g5 cap5 w5 hown5 hgr5 hat5 hlt5
        obtain ⟨⟨⟨s0, s1⟩, s2, s3⟩, hC5⟩ := CA.out.growInts (x := (11 + (k : Int))) rfl (by rw [initI_len, ← hn.out]; exact hown5) hgr5
        have C5 := hide hC5
        have lT5 : T < w5.heap.size := by have := C5.out.blk.lt; simpa using this
        have hn1 := hide (show n + 1 = (k + 1) + 2 from by have := hn.out; omega)
        clear hown5 hgr5 hat5 hC5 CA hown t0 t1 t2 t3 lT hsz
        go_wp2_with fail
        go_roundw
        case rel => exact ⟨k + 1, n + 1, _, _, by omega, by go_num, hn1, hide (by rw [hstep.out]; exact C5.out)⟩
        case measure => simp [intOf]; omega
    · have hk4 : k = 4 := by omega
      have hlt' : decide ((k : Int) < 4) = false := decide_eq_false (by omega)
      replace C0 := hide (show CrAt w T (initI z 4) (.slice A0 n c0) (dqTs zs f 0) vs0 tv0 wr from by rw [← hk4]; exact C0.out)
      replace hk4 := hide hk4
      go_wp2_with fail
      clear hlt' hlt hk
      obtain ⟨k4, hk4'⟩ : ∃ x, x = k := ⟨_, rfl⟩
      rw [← hk4'] at hk4 ⊢
      clear hk4' hn
      obtain ⟨v, hv⟩ : ∃ v, v = Value.slice A0 n c0 := ⟨_, rfl⟩
      have hvf := hide (show ∃ A c n, v = Value.slice A n c from ⟨_, _, _, hv⟩)
      rw [← hv] at C0
      clear hv
      rename_i wr0
      go_loopw [11] (fun i wr => ∃ (k : Nat) (vs : List Value) (tv : Value), k ≤ zs.length ∧ i = .int .i64 k ∧ Hid (∀ j, j < k → 1 ≤ geti zs j ∧ geti zs j ≤ 2) ∧ Hid (CrAt w T (initI z 4) v (dqTs zs f k) vs tv wr)) (fun i _ => zs.length - (intOf i).toNat)
      case atStart => exact ⟨0, _, _, Nat.zero_le _, rfl, hide (fun j hj => by omega), C0⟩
      case round =>
        clear C0
        obtain ⟨k, vs, tv, hk, rfl, hall, C0⟩ := hrel
        by_cases hlt : k < zs.length
        · obtain ⟨b, off, rfl, hbS, hc⟩ := (hha.out.below C0.out.below (fun b h => hhS.out b h)).2 (by omega)
          have hcell := hc k hlt
          obtain ⟨s, hs⟩ : ∃ s, s = geti zs k := ⟨_, rfl⟩
          rw [← hs] at hcell
          have hlt' : decide ((k : Int) < (zs.length : Int)) = true := decide_eq_true (by omega)
          have hkl : k < zs.length := hlt
          have hbl := Nat.lt_of_lt_of_le (hhS.out b hbS) C0.out.below.size
          clear hc
          by_cases hsr : 1 ≤ s ∧ s ≤ 2
          · have hstep := hide (show dqTs zs f (k + 1) = dqTs zs f k ++ [thiefI s (stB f)] from by rw [hs]; exact dqTs_succ zs f k)
            have hd1 : decide (s < 1) = false := decide_eq_false (by omega)
            have hd2 : decide (2 < s) = false := decide_eq_false (by omega)
            have hs12 := hsr
            replace hsr := hide (show 1 ≤ geti zs k ∧ geti zs k ≤ 2 from by rw [← hs]; exact hsr)
            clear hs
            go_wp2_with fail
            refine (kS0.out _).mono ?_
            rintro e w5 ⟨A5, c5, rfl, ho5, hb5⟩
            have G5 := hide (show GrowI wr A5 c5 (stealI 0 (stB f)).length (stealI 0 (stB f)) w5 from ⟨ho5, hb5⟩)
            have hcell5 : w5.cell? ⟨b, off + k, none⟩ = some (.int .i64 s) := (hb5.cell (p := ⟨b, off + k, none⟩) hbl).trans hcell
            have hbl5 := Nat.lt_of_lt_of_le hbl hb5.size
            clear ho5 hb5 hcell hbl hd1 hd2
            obtain ⟨n5, hn5⟩ : ∃ n, n = (stealI 0 (stB f)).length := ⟨_, rfl⟩
            have hn5l : n5 ≤ 12 := by rw [hn5, stealI_len]; split <;> omega
            rw [← hn5] at G5 ⊢
            cases h2 : (s == 2)
            · have hs1 : s = 1 := by simp at h2; omega
              replace hstep := hide (show dqTs zs f (k + 1) = dqTs zs f k ++ [stealI 0 (stB f)] from by rw [hstep.out, hs1]; rfl)
              obtain ⟨l8, hl8⟩ : ∃ l, l = stealI 0 (stB f) := ⟨_, rfl⟩
              rw [← hl8] at hstep G5
              replace hn5 := hide hn5
              clear hl8 hs1
              obtain ⟨w8, hw8⟩ : ∃ x, x = w5 := ⟨_, rfl⟩
              obtain ⟨A8, hA8⟩ : ∃ x, x = A5 := ⟨_, rfl⟩
              obtain ⟨c8, hc8⟩ : ∃ x, x = c5 := ⟨_, rfl⟩
              obtain ⟨n8, hn8'⟩ : ∃ x, x = n5 := ⟨_, rfl⟩
              rw [← hw8, ← hA8, ← hc8, ← hn8'] at G5
              rw [← hw8, ← hA8, ← hc8, ← hn8']
              rw [← hw8] at hcell5 hbl5
              have G8 := hide G5.out
              clear G5 hw8 hA8 hc8 hn8'
              obtain ⟨A6, c6, htv, -⟩ := own_form C0.out.own.rows
              obtain ⟨m, hm⟩ : ∃ m, m = (dqTs zs f k).length := ⟨_, rfl⟩
              have hm3 : m ≤ 3 := by rw [hm, dqTs_len]; omega
              rw [← hm] at htv
              subst htv
              have hmH := hide hm
              clear hm
              have hn8 := hide G8.out.len
              have L8 := hide (show LAt w T (initI z 4) v (dqTs zs f k) vs (.slice A6 m c6) l8 (.slice A8 n8 c8) w8 from by
                have h := C0.out.lat G8.out.low (l := l8) (A := A8) (c := c8) (by rw [hn8.out]; exact G8.out.own)
                rw [hn8.out] at h
                exact h)
              have L9 := hide (L8.out.alloc (Obj.cells #[.slice A8 n8 c8] 66))
              have hR := hide (show (w8.alloc (Obj.cells #[.slice A8 n8 c8] 66)).ownsRow (w.heap.size + 1) 66 1 (.slice A6 m c6) m vs from by rw [hmH.out]; rw [hmH.out] at L9; exact L9.out.cr.own.rows)
              have hsz : w.heap.size + 1 ≤ w8.heap.size := by have := L8.out.cr.blk.lt; have := L8.out.cr.lo; omega
              clear C0
              obtain ⟨⟨t0, t1⟩, t2, t3⟩ := L8.out.cr.cells
              have lT := L8.out.cr.blk.lt
              go_wp2_with (at_builtin; refine wpList_append_lies _ rfl _ _ _ rfl (w.heap.size + 1) 66 i2 _ 1 24 Try.underlying26 hi2.out hx0 hx1 hx2 rfl (by omega) (.slice A6 m c6) m vs rfl hR.out ⟨w8.heap.size, 0, none⟩ 1 1 [.slice A8 n8 c8] rfl rfl (World.news_of_block (cs := #[.slice A8 n8 c8]) (t := 66) (fr := (0, 0)) (heap_alloc_new _ _)) (by simp [Value.oneCell']) (by omega) (by have : maxLen = 9223372036854775807 := rfl; omega) (by omega) (by simp; omega) _ rfl ?_)
              intro g7 cap7 w9 hown7 hgr7 hat7 hlt7
              obtain ⟨⟨⟨s0, s1⟩, s2, s3⟩, hC7⟩ := L9.out.growRows rfl (by rw [← hmH.out]; exact hown7) (by exact hgr7)
              have C7 := hide hC7
              have lT7 : T < w9.heap.size := by have := C7.out.blk.lt; simpa using this
              clear hown7 hgr7 hat7 hC7 L8 L9 hR t0 t1 t2 t3 lT hsz G8
              go_wp2_with fail
              go_roundw
              case rel => exact ⟨k + 1, _, _, by omega, by go_num, hide (fun j hj => by
                rcases Nat.lt_or_ge j k with h | h
                · exact hall.out j h
                · have : j = k := by omega
                  subst this; exact hsr.out), hide (by rw [hstep.out]; exact C7.out)⟩
              case measure => simp [intOf]; omega
            · have hs2 : s = 2 := by simpa using h2
              replace hstep := hide (show dqTs zs f (k + 1) = dqTs zs f k ++ [stealI 0 (stB f) ++ movL (n5 : Int) (stealI 1 (stB f))] from by rw [hstep.out, hn5]; unfold thiefI; rw [if_pos hs2])
              obtain ⟨l5, hl5⟩ : ∃ l, l = stealI 0 (stB f) := ⟨_, rfl⟩
              rw [← hl5] at hstep G5
              replace hn5 := hide hn5
              clear hl5 hs2
              go_wp2_with fail
              refine (kS1.out _).mono ?_
              rintro e w6 hr
              obtain ⟨A6, c6, rfl, hc6, -, hi6, hb6⟩ := hr.at_
              have G6 := hide (G5.out.next hb6)
              have I6 := hide (hi6.more (S' := Old w6.heap.size) (fun b k => k.2))
              clear hr hc6 hi6 hb6 G5 hcell5 hbl5
              have hN1 := hide (stealI_smallS 1 (stB f))
              have hl1 : (stealI 1 (stB f)).length ≤ 12 := by rw [stealI_len]; split <;> omega
              obtain ⟨l1, hll1⟩ : ∃ l, l = stealI 1 (stB f) := ⟨_, rfl⟩
              rw [← hll1] at hN1 hl1 I6 hstep ⊢
              clear hll1
              go_wp2_with fail
              refine (l8moved_any A6 l1 c6 n5 (Old w6.heap.size) w6 (fun _ h => h) I6.out (by omega) hN1.out).mono ?_
              rintro e w7 hr
              obtain ⟨A7, c7, rfl, hc7, -, hi7, hb7⟩ := hr.at_
              have G7 := hide (G6.out.next hb7)
              have hml : (movL (n5 : Int) l1).length = l1.length := movL_len _ _
              have I7 := hide ((hi7.more (S' := Old w7.heap.size) (fun b k => k.2)).ints (by rw [hml]; omega))
              have hfl := flatZ_len (movL (n5 : Int) l1)
              clear hr hc7 hi7 hb7 G6 I6
              rw [hml] at hfl ⊢
              obtain ⟨l7, hl7⟩ : ∃ l, l = movL (n5 : Int) l1 := ⟨_, rfl⟩
              rw [← hl7] at I7 hfl hstep
              have hsz7 := G7.out.low.size
              obtain ⟨m1, hm1⟩ : ∃ m, m = l1.length := ⟨_, rfl⟩
              rw [← hm1] at hl1 hfl ⊢
              clear hl7 hm1 hml
              go_wp2_with (at_builtin; refine wpList_append_src _ rfl _ _ _ rfl wr.heap.size 71 i0 _ 6 48 Try.underlying40 hi0.out hz00 hz01 hz02 rfl (by omega) (.slice A5 n5 c5) n5 (flat l5) rfl G7.out.own (Old w7.heap.size) A7 m1 c7 (flatZ l7) rfl hfl I7.out (by have : maxLen = 9223372036854775807 := rfl; omega) (by omega) (by omega) ?_)
              intro A8 c8 w8 hown8 hgr8 hat8
              have G8 := hide (show GrowI wr A8 c8 (n5 + m1) (l5 ++ l7) w8 from G7.out.more0 (m := m1) (xs := (flatZ l7).map (Value.int .i64)) (flatZ_map l7) hown8 hgr8)
              clear hown8 hgr8 hat8 G7 I7 hfl hsz7
              obtain ⟨n8, hn8'⟩ : ∃ x, x = n5 + m1 := ⟨_, rfl⟩
              obtain ⟨l8, hl8⟩ : ∃ x, x = l5 ++ l7 := ⟨_, rfl⟩
              rw [← hl8] at G8 hstep
              rw [← hn8'] at G8 ⊢
              clear hn8' hl8
              obtain ⟨A6, c6, htv, -⟩ := own_form C0.out.own.rows
              obtain ⟨m, hm⟩ : ∃ m, m = (dqTs zs f k).length := ⟨_, rfl⟩
              have hm3 : m ≤ 3 := by rw [hm, dqTs_len]; omega
              rw [← hm] at htv
              subst htv
              have hmH := hide hm
              clear hm
              have hn8 := hide G8.out.len
              have L8 := hide (show LAt w T (initI z 4) v (dqTs zs f k) vs (.slice A6 m c6) l8 (.slice A8 n8 c8) w8 from by
                have h := C0.out.lat G8.out.low (l := l8) (A := A8) (c := c8) (by rw [hn8.out]; exact G8.out.own)
                rw [hn8.out] at h
                exact h)
              have L9 := hide (L8.out.alloc (Obj.cells #[.slice A8 n8 c8] 66))
              have hR := hide (show (w8.alloc (Obj.cells #[.slice A8 n8 c8] 66)).ownsRow (w.heap.size + 1) 66 1 (.slice A6 m c6) m vs from by rw [hmH.out]; rw [hmH.out] at L9; exact L9.out.cr.own.rows)
              have hsz : w.heap.size + 1 ≤ w8.heap.size := by have := L8.out.cr.blk.lt; have := L8.out.cr.lo; omega
              clear C0
              obtain ⟨⟨t0, t1⟩, t2, t3⟩ := L8.out.cr.cells
              have lT := L8.out.cr.blk.lt
              go_wp2_with (at_builtin; refine wpList_append_lies _ rfl _ _ _ rfl (w.heap.size + 1) 66 i2 _ 1 24 Try.underlying26 hi2.out hx0 hx1 hx2 rfl (by omega) (.slice A6 m c6) m vs rfl hR.out ⟨w8.heap.size, 0, none⟩ 1 1 [.slice A8 n8 c8] rfl rfl (World.news_of_block (cs := #[.slice A8 n8 c8]) (t := 66) (fr := (0, 0)) (heap_alloc_new _ _)) (by simp [Value.oneCell']) (by omega) (by have : maxLen = 9223372036854775807 := rfl; omega) (by omega) (by simp; omega) _ rfl ?_)
              intro g7 cap7 w9 hown7 hgr7 hat7 hlt7
              obtain ⟨⟨⟨s0, s1⟩, s2, s3⟩, hC7⟩ := L9.out.growRows rfl (by rw [← hmH.out]; exact hown7) (by exact hgr7)
              have C7 := hide hC7
              have lT7 : T < w9.heap.size := by have := C7.out.blk.lt; simpa using this
              clear hown7 hgr7 hat7 hC7 L8 L9 hR t0 t1 t2 t3 lT hsz G8
              go_wp2_with fail
              go_roundw
              case rel => exact ⟨k + 1, _, _, by omega, by go_num, hide (fun j hj => by
                rcases Nat.lt_or_ge j k with h | h
                · exact hall.out j h
                · have : j = k := by omega
                  subst this; exact hsr.out), hide (by rw [hstep.out]; exact C7.out)⟩
              case measure => simp [intOf]; omega
          · obtain ⟨hE1, hE2⟩ := hno.out k hlt (by rw [← hs]; exact hsr)
            have hE := hide (And.intro hE1 hE2)
            obtain ⟨u, u', hR⟩ := C0.out.out
            obtain ⟨r0, r1⟩ := (show wr.cell? ⟨w.heap.size, 0, none⟩ = some u ∧ wr.cell? ⟨w.heap.size, 1, none⟩ = some u' from ⟨hR.cell 0, hR.cell 1⟩)
            obtain ⟨r2, r3⟩ := (show wr.frozen? ⟨w.heap.size, 0, none⟩ = false ∧ wr.frozen? ⟨w.heap.size, 1, none⟩ = false from ⟨hR.frozen 0, hR.frozen 1⟩)
            have lR := hR.lt
            have BL := hide C0.out.below
            clear hE1 hE2 hR C0 hs
            by_cases h1 : s < 1
            · have hd1 : decide (s < 1) = true := decide_eq_true h1
              go_wp2_with fail
              refine bodyPost_ret (v := .tuple #[.agg #[.slice none 0 0, .slice none 0 0], .bool false]) (by simp [results, Try.results11, go_sem, r0, r1]; done) rfl ?_
              rw [hE.out.1, hE.out.2]
              exact FenR.no ((BL.out.setCell (p := ⟨w.heap.size, 0, none⟩) (Nat.le_refl _) _).setCell (p := ⟨w.heap.size, 1, none⟩) (Nat.le_refl _) _)
            · have hd1 : decide (s < 1) = false := decide_eq_false h1
              have hd2 : decide (2 < s) = true := decide_eq_true (by omega)
              go_wp2_with fail
              refine bodyPost_ret (v := .tuple #[.agg #[.slice none 0 0, .slice none 0 0], .bool false]) (by simp [results, Try.results11, go_sem, r0, r1]; done) rfl ?_
              rw [hE.out.1, hE.out.2]
              exact FenR.no ((BL.out.setCell (p := ⟨w.heap.size, 0, none⟩) (Nat.le_refl _) _).setCell (p := ⟨w.heap.size, 1, none⟩) (Nat.le_refl _) _)
        · obtain rfl : k = zs.length := by omega
          have hlt' : decide ((zs.length : Int) < (zs.length : Int)) = false := decide_eq_false (by omega)
          have hE := hide (hyes.out hall.out)
          obtain ⟨Av, nv, cv, rfl⟩ := hvf.out
          obtain ⟨A9, c9, rfl, -⟩ := own_form C0.out.own.rows
          obtain ⟨⟨t0, t1⟩, t2, t3⟩ := C0.out.cells
          have lT := C0.out.blk.lt
          obtain ⟨u, u', hR⟩ := C0.out.out
          obtain ⟨r0, r1⟩ := (show wr.cell? ⟨w.heap.size, 0, none⟩ = some u ∧ wr.cell? ⟨w.heap.size, 1, none⟩ = some u' from ⟨hR.cell 0, hR.cell 1⟩)
          obtain ⟨r2, r3⟩ := (show wr.frozen? ⟨w.heap.size, 0, none⟩ = false ∧ wr.frozen? ⟨w.heap.size, 1, none⟩ = false from ⟨hR.frozen 0, hR.frozen 1⟩)
          have lR := hR.lt
          have hTR := hide (show w.heap.size ≠ T from by have := C0.out.lo; omega)
          clear hR hall
          go_wp2_with fail
          refine bodyPost_ret (v := .tuple #[.agg #[.slice Av cv nv, .slice A9 (dqTs zs f zs.length).length c9], .bool true]) (by simp [results, Try.results11, go_sem, r0, r1]; done) rfl ?_
          rw [hE.out.1, hE.out.2]
          refine ⟨_, _, vs, rfl, ?_, (C0.out.below.setCell (p := ⟨w.heap.size, 0, none⟩) (Nat.le_refl _) _).setCell (p := ⟨w.heap.size, 1, none⟩) (Nat.le_refl _) _⟩
          have h1 := C0.out.own.keep (w1 := (wr.setCell ⟨w.heap.size, 0, none⟩ (.slice Av cv nv)).setCell ⟨w.heap.size, 1, none⟩ (.slice A9 (dqTs zs f zs.length).length c9)) (fun b hb _ => (Below.heap_setCell _ _ _ b (by show b ≠ w.heap.size; omega)).trans (Below.heap_setCell _ _ _ b (by show b ≠ w.heap.size; omega)))
          exact ⟨own_base h1.ints (by omega), own_base h1.rows (by omega), fun j hj => own_base (h1.thr j hj) (by omega), h1.apart⟩
end Go.Proofs.Ythgpifeljeldjaa
