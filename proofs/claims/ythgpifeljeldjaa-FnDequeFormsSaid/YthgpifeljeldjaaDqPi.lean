/- The program's DequeProg. -/
import Derived.Test.YthgpifeljeldjaaDqT
import Derived.Deep.RegionHeld3
namespace Go.Proofs.Ythgpifeljeldjaa
open Go.RowKit

set_option maxRecDepth 100000 in
set_option maxHeartbeats 6400000 in
theorem pdeque_no (A : Option Addr) (z f : Int) (zs : List Int) (c : Nat) (S : Nat → Prop) (w : World) (hS : ∀ b, S b → b < w.heap.size) (ha : IntsAt w S A zs) (hno : okQ z zs f = false) :
    Calls Try.prog 10 #[.int .i64 z, .slice A zs.length c, .int .i64 f] w fun e w' => FenR w w' e ⟨[], []⟩ false := by
  have kSt := fun w h => stealsOk_any A zs c S w h
  have kF := fun w => fencesKnown_any f w
  obtain ⟨s1, hs1⟩ : ∃ x, x = (decide (zs.length ≤ 2) && stealsB zs zs.length) := ⟨_, rfl⟩
  obtain ⟨f1, hf1⟩ : ∃ x, x = decide (0 ≤ f ∧ f ≤ 3) := ⟨_, rfl⟩
  rw [← hs1] at kSt
  rw [← hf1] at kF
  have hall : ¬ ((1 ≤ z ∧ z ≤ 4) ∧ s1 = true ∧ f1 = true) := by
    rintro ⟨h1, h2, h3⟩
    rw [h2] at hs1
    rw [h3] at hf1
    have h4 := of_decide_eq_true hf1.symm
    have h5 := (Bool.and_eq_true _ _).mp hs1.symm
    have h6 := of_decide_eq_true h5.1
    unfold okQ at hno
    rw [h5.2, Bool.and_true, decide_eq_false_iff_not] at hno
    omega
  replace kSt := hide kSt
  replace kF := hide kF
  clear hs1 hf1 hno
  obtain ⟨W, hW⟩ : ∃ x, x = w.alloc (Obj.cells #[.slice none 0 0, .slice none 0 0] 28) := ⟨_, rfl⟩
  have hbW : Below w.heap.size w W := by rw [hW]; exact below1 _ _
  have hsW : w.heap.size + 1 ≤ W.heap.size := by rw [hW]; simp
  have R := hide (show Blk W w.heap.size 28 #[.slice none 0 0, .slice none 0 0] from by rw [hW]; exact Blk.new _ _ _)
  have ZW := hide (ha.below hbW hS)
  have BW := hide hbW
  have hSW := hide (fun b (h : S b) => (show b < W.heap.size from Nat.lt_of_lt_of_le (hS b h) hbW.size))
  clear hbW ha hS
  go_enter Try.func10, Try.ntmps10
  go_upto_region 1 with fail
  rw [← hW]
  clear hW
  obtain ⟨r0, r1⟩ := (show W.cell? ⟨w.heap.size, 0, none⟩ = some (Value.slice none 0 0) ∧ W.cell? ⟨w.heap.size, 1, none⟩ = some (Value.slice none 0 0) from ⟨R.out.cell 0, R.out.cell 1⟩)
  obtain ⟨r2, r3⟩ := (show W.frozen? ⟨w.heap.size, 0, none⟩ = false ∧ W.frozen? ⟨w.heap.size, 1, none⟩ = false from ⟨R.out.frozen 0, R.out.frozen 1⟩)
  have lR := R.out.lt
  by_cases h1 : 1 ≤ z
  · have hd1 : decide (z < 1) = false := decide_eq_false (by omega)
    by_cases h4 : z ≤ 4
    · have hd4 : decide (4 < z) = false := decide_eq_false (by omega)
      cases s1
      · clear hall
        go_wp2_with (first | (go_at_call 42; refine (kSt.out _ ZW.out).mono ?_; rintro e wx ⟨rfl, rfl⟩) | (go_at_call 43; refine (kF.out _).mono ?_; rintro e wx ⟨rfl, rfl⟩))
        refine bodyPost_ret (v := .tuple #[.agg #[.slice none 0 0, .slice none 0 0], .bool false]) (by simp [results, Try.results10, go_sem, r0, r1]; done) rfl (FenR.no ?_)
        exact (BW.out.setCell (p := ⟨w.heap.size, 0, none⟩) (Nat.le_refl _) _).setCell (p := ⟨w.heap.size, 1, none⟩) (Nat.le_refl _) _
      · cases f1
        · clear hall
          go_wp2_with (first | (go_at_call 42; refine (kSt.out _ ZW.out).mono ?_; rintro e wx ⟨rfl, rfl⟩) | (go_at_call 43; refine (kF.out _).mono ?_; rintro e wx ⟨rfl, rfl⟩))
          refine bodyPost_ret (v := .tuple #[.agg #[.slice none 0 0, .slice none 0 0], .bool false]) (by simp [results, Try.results10, go_sem, r0, r1]; done) rfl (FenR.no ?_)
          exact (BW.out.setCell (p := ⟨w.heap.size, 0, none⟩) (Nat.le_refl _) _).setCell (p := ⟨w.heap.size, 1, none⟩) (Nat.le_refl _) _
        · exact absurd ⟨⟨h1, h4⟩, rfl, rfl⟩ hall
    · have hd4 : decide (4 < z) = true := decide_eq_true (by omega)
      clear hall
      go_wp2_with (first | (go_at_call 42; refine (kSt.out _ ZW.out).mono ?_; rintro e wx ⟨rfl, rfl⟩) | (go_at_call 43; refine (kF.out _).mono ?_; rintro e wx ⟨rfl, rfl⟩))
      refine bodyPost_ret (v := .tuple #[.agg #[.slice none 0 0, .slice none 0 0], .bool false]) (by simp [results, Try.results10, go_sem, r0, r1]; done) rfl (FenR.no ?_)
      exact (BW.out.setCell (p := ⟨w.heap.size, 0, none⟩) (Nat.le_refl _) _).setCell (p := ⟨w.heap.size, 1, none⟩) (Nat.le_refl _) _
  · have hd1 : decide (z < 1) = true := decide_eq_true (by omega)
    clear hall
    go_wp2_with (first | (go_at_call 42; refine (kSt.out _ ZW.out).mono ?_; rintro e wx ⟨rfl, rfl⟩) | (go_at_call 43; refine (kF.out _).mono ?_; rintro e wx ⟨rfl, rfl⟩))
    refine bodyPost_ret (v := .tuple #[.agg #[.slice none 0 0, .slice none 0 0], .bool false]) (by simp [results, Try.results10, go_sem, r0, r1]; done) rfl (FenR.no ?_)
    exact (BW.out.setCell (p := ⟨w.heap.size, 0, none⟩) (Nat.le_refl _) _).setCell (p := ⟨w.heap.size, 1, none⟩) (Nat.le_refl _) _

/-- What the walk carries. -/
structure DqW (w W : World) (A : Option Addr) (zs : List Int) (S : Nat → Prop) : Prop where
  ints : IntsAt W S A zs
  lt : ∀ b, S b → b < W.heap.size
set_option maxRecDepth 100000 in
set_option maxHeartbeats 12800000 in
theorem pdeque_yes (A : Option Addr) (z f : Int) (zs : List Int) (c : Nat) (S : Nat → Prop) (w : World) (hS : ∀ b, S b → b < w.heap.size) (ha : IntsAt w S A zs) (hok : okQ z zs f = true) :
    Calls Try.prog 10 #[.int .i64 z, .slice A zs.length c, .int .i64 f] w fun e w' => FenR w w' e (dqQ z zs f) true := by
  unfold okQ at hok
  obtain ⟨hok1, hok2⟩ := (Bool.and_eq_true _ _).mp hok
  obtain ⟨h1, h4, hz2, hf0, hf3⟩ := of_decide_eq_true hok1
  have kSt := fun w h => stealsOk_any A zs c S w h
  have kF := fun w => fencesKnown_any f w
  rw [decide_eq_true hz2, hok2, Bool.true_and] at kSt
  rw [decide_eq_true (show 0 ≤ f ∧ f ≤ 3 from ⟨hf0, hf3⟩)] at kF
  have hrng := hide (fun k (hk : k < zs.length) => of_decide_eq_true (allB_at hok2 hk))
  have kI := hide (fun w => dequeInit_any z w h1 h4)
  have kT := hide (fun w => ptake_yes 0 f w (by unfold rfB; exact decide_eq_true ⟨by omega, by omega, hf0, hf3⟩))
  have kTh := hide (fun (s : Int) (h : 1 ≤ s ∧ s ≤ 2) w => thief_any s f w h.1 h.2 ⟨hf0, hf3⟩)
  obtain ⟨i2, hi2, hx0, hx1, hx2⟩ := info_parts Try.infoThr
  replace hi2 := hide hi2
  have hha := hide ha
  have hhS := hide hS
  replace kSt := hide kSt
  replace kF := hide kF
  have hd1 : decide (z < 1) = false := decide_eq_false (by omega)
  have hd4 : decide (4 < z) = false := decide_eq_false (by omega)
  clear hok hok1 hok2 hf0 hf3 h1 h4
  obtain ⟨W, hW⟩ : ∃ x, x = w.alloc (Obj.cells #[.slice none 0 0, .slice none 0 0] 28) := ⟨_, rfl⟩
  have hbW : Below w.heap.size w W := by rw [hW]; exact below1 _ _
  have hsW : w.heap.size + 1 ≤ W.heap.size := by rw [hW]; simp
  have R := hide (show Blk W w.heap.size 28 #[.slice none 0 0, .slice none 0 0] from by rw [hW]; exact Blk.new _ _ _)
  have ZW := hide (ha.below hbW hS)
  have BW := hide hbW
  have hSW := hide (fun b (h : S b) => (show b < W.heap.size from Nat.lt_of_lt_of_le (hS b h) hbW.size))
  clear hbW ha hS
  go_enter Try.func10, Try.ntmps10
  go_upto_region 1 with fail
  rw [← hW]
  clear hW
  obtain ⟨r0, r1⟩ := (show W.cell? ⟨w.heap.size, 0, none⟩ = some (Value.slice none 0 0) ∧ W.cell? ⟨w.heap.size, 1, none⟩ = some (Value.slice none 0 0) from ⟨R.out.cell 0, R.out.cell 1⟩)
  obtain ⟨r2, r3⟩ := (show W.frozen? ⟨w.heap.size, 0, none⟩ = false ∧ W.frozen? ⟨w.heap.size, 1, none⟩ = false from ⟨R.out.frozen 0, R.out.frozen 1⟩)
  have lR := R.out.lt
  go_wp2_with (first | (go_at_call 42; refine (kSt.out _ ZW.out).mono ?_; rintro e wx ⟨rfl, rfl⟩) | (go_at_call 43; refine (kF.out _).mono ?_; rintro e wx ⟨rfl, rfl⟩))
  refine (kI.out _).mono ?_
  rintro e w1 ⟨q1, rfl, ho1, hb1⟩
  clear r0 r1 r2 r3 lR
  have B1 := hide hb1
  have V1 := hide (show w1.ownsRow W.heap.size 3 1 (Value.slice (some ⟨q1, 0, none⟩) 6 6) (initI z 4).length ((initI z 4).map (Value.int .i64)) from by rw [initI_len]; exact ho1)
  clear ho1 hb1 kSt kF kI
  go_wp2_with fail
  refine (kT.out _).mono ?_
  rintro e w2 ⟨A2, c2, rfl, ho2, hb2⟩
  have V2 := own_keep V1.out (fun b _ hlt => hb2.block b hlt)
  have B2 := B1.out.trans (hb2.mono B1.out.size)
  have O2 := own_base ho2 B1.out.size
  obtain ⟨l0, hl0⟩ : ∃ l, l = takeI 0 (tkB f) := ⟨_, rfl⟩
  rw [← hl0] at O2 ⊢
  have C4 := CrAt.start1 (w0 := w) BW.out hsW ⟨_, _, R.out⟩ B2 V2 O2
  have Z4 := hide (ZW.out.below (B2.alloc B2.size (Obj.cells #[.slice A2 l0.length c2] 66)) (fun b h => hSW.out b h))
  obtain ⟨w3, hw3⟩ : ∃ x, x = w2.alloc (Obj.cells #[.slice A2 l0.length c2] 66) := ⟨_, rfl⟩
  obtain ⟨w4, hw4⟩ : ∃ x, x = w3.alloc (Obj.cells #[(Value.slice (some ⟨q1, 0, none⟩) 6 6), .slice (some ⟨w2.heap.size, 0, none⟩) 1 1] 28) := ⟨_, rfl⟩
  rw [← hw3, ← hw4] at C4
  obtain ⟨T, hT⟩ : ∃ x, x = w2.heap.size + 1 := ⟨_, rfl⟩
  rw [← hT] at C4
  have hcs := hide (show ([l0] : List (List InsD)) = dqTs zs f 0 from by rw [hl0]; rfl)
  rw [hcs.out] at C4
  replace C4 := hide C4
  replace hl0 := hide hl0
  clear V2 B2 O2 V1 B1 ho2 hb2 Z4 kT
  go_upto_region 4 with fail
  rw [← hw3, ← hw4, ← hT]
  obtain ⟨tv0, htv0⟩ : ∃ x, x = Value.slice (some ⟨w2.heap.size, 0, none⟩) 1 1 := ⟨_, rfl⟩
  rw [← htv0] at C4
  clear htv0 hw3 hw4 hT hcs hl0
  go_wp2_with fail
  go_loopw [37] (fun i wr => ∃ (k : Nat) (vs : List Value) (tv : Value), k ≤ zs.length ∧ i = .int .i64 k ∧ Hid (CrAt w T (initI z 4) (Value.slice (some ⟨q1, 0, none⟩) 6 6) (dqTs zs f k) vs tv wr)) (fun i _ => zs.length - (intOf i).toNat)
  case atStart => exact ⟨0, _, _, Nat.zero_le _, rfl, C4⟩
  case round =>
    clear C4
    obtain ⟨k, vs, tv, hk, rfl, C0⟩ := hrel
    by_cases hlt : k < zs.length
    · obtain ⟨b, off, rfl, hbS, hc⟩ := (hha.out.below C0.out.below (fun b h => hhS.out b h)).2 (by omega)
      have hcell := hc k hlt
      obtain ⟨s, hs⟩ : ∃ s, s = geti zs k := ⟨_, rfl⟩
      have hsr := hrng.out k hlt
      rw [← hs] at hcell hsr
      have hstep := hide (show dqTs zs f (k + 1) = dqTs zs f k ++ [thiefI s (stB f)] from by rw [hs]; exact dqTs_succ zs f k)
      have hlt' : decide ((k : Int) < (zs.length : Int)) = true := decide_eq_true (by omega)
      have hkl : k < zs.length := hlt
      have hbl := Nat.lt_of_lt_of_le (hhS.out b hbS) C0.out.below.size
      obtain ⟨A6, c6, htv, -⟩ := own_form C0.out.own.rows
      obtain ⟨m, hm⟩ : ∃ m, m = (dqTs zs f k).length := ⟨_, rfl⟩
      have hm3 : m ≤ 3 := by rw [hm, dqTs_len]; omega
      rw [← hm] at htv
      subst htv
      have hmH := hide hm
      clear hs hc hm
      go_upto_region 7 with fail
      have t5 : wr.cell? ⟨T, 1, none⟩ = some (.slice A6 m c6) := C0.out.blk.cell 1
      have lT := hide C0.out.blk.lt
      clear hcell hbl
      refine wp_region_held_drew (S := (fun _ => True)) (by kernel_rfl) ?_ (fun hHeld => ?_)
      · exact trivial
      refine wpAnyH_take (i := 0) (oi := { dst := some 41, op := Op.fieldAddr 28 (Operand.tmp 8) 1, type := 0, pos := "l08_deque.go:147", after := #[], guard := none }) (v := ?_) rfl (by kernel_rfl) (by kernel_rfl) (by kernel_rfl) (fun _ _ _ h => h) (Or.inl ⟨by rfl, ?_⟩) hHeld ?_
      rotate_left
      · (intro wq hSw; (try dsimp only at hSw); first | (go_simp; done) | (go_simp; with_reducible rfl))
      try simp only [Act.put, List.setIfInBounds_toArray, List.set_cons_zero, List.set_cons_succ]
      refine wpAnyH_take (i := 2) (oi := { dst := some 43, op := Op.move (Operand.tmp 10), type := 3, pos := "l08_deque.go:147", after := #[], guard := none }) (v := ?_) rfl (by kernel_rfl) (by kernel_rfl) (by kernel_rfl) (fun _ _ _ h => h) (Or.inl ⟨by rfl, ?_⟩) hHeld ?_
      rotate_left
      · (intro wq hSw; (try dsimp only at hSw); first | (go_simp; done) | (go_simp; with_reducible rfl))
      try simp only [Act.put, List.setIfInBounds_toArray, List.set_cons_zero, List.set_cons_succ]
      refine wpAnyH_take (i := 3) (oi := { dst := some 44, op := Op.move (Operand.tmp 2), type := 3, pos := "l08_deque.go:147", after := #[], guard := none }) (v := ?_) rfl (by kernel_rfl) (by kernel_rfl) (by kernel_rfl) (fun _ _ _ h => h) (Or.inl ⟨by rfl, ?_⟩) hHeld ?_
      rotate_left
      · (intro wq hSw; (try dsimp only at hSw); first | (go_simp; done) | (go_simp; with_reducible rfl))
      try simp only [Act.put, List.setIfInBounds_toArray, List.set_cons_zero, List.set_cons_succ]
      refine wpAnyH_ready (rs := [1, 4]) (by kernel_rfl) (by simp) ?_
      refine AllReadyH.cons (o := { dst := some 42, op := Op.load 26 (Operand.tmp 41), type := 26, pos := "l08_deque.go:147", after := #[{ on := 0, ground := Ground.data }], guard := none }) rfl (fun K hK => ?_) (AllReadyH.cons (o := { dst := some 45, op := Op.call { callee := Callee.value (Operand.func 45), args := #[Operand.tmp 43, Operand.tmp 44], argTypes := #[3, 3] }, type := 66, pos := "l08_deque.go:147", after := #[{ on := 2, ground := Ground.data }, { on := 3, ground := Ground.data }], guard := none }) rfl (fun K hK => ?_) (AllReadyH.nil))
      · go_simp
        refine hK.out _ _ ?_ (fun hHeldN => ?_)
        · exact trivial
        clear hK K hHeld
        have hHeld := hHeldN
        clear hHeldN
        try simp only [Act.put, List.setIfInBounds_toArray, List.set_cons_zero, List.set_cons_succ]
        refine wpAnyH_ready (rs := [4]) (by kernel_rfl) (by simp) ?_
        refine AllReadyH.cons (o := { dst := some 45, op := Op.call { callee := Callee.value (Operand.func 45), args := #[Operand.tmp 43, Operand.tmp 44], argTypes := #[3, 3] }, type := 66, pos := "l08_deque.go:147", after := #[{ on := 2, ground := Ground.data }, { on := 3, ground := Ground.data }], guard := none }) rfl (fun K hK => ?_) (AllReadyH.nil)
        · go_simp
          go_at_call 45
          refine (kTh.out s hsr wr.drew).mono ?_
          rintro e w5 ⟨A5, c5, rfl, ho5, hb5⟩
          have hbb := hide (show Below wr.heap.size wr w5 from ((Below.refl _ _).drew).trans hb5)
          have L5 := hide (C0.out.lat hbb.out ho5)
          have L6 := hide (L5.out.alloc (Obj.cells #[(.slice A5 (thiefI s (stB f)).length c5)] 66))
          have t6 : w5.cell? ⟨T, 1, none⟩ = some (.slice A6 m c6) := L5.out.cr.blk.cell 1
          have t7 : (w5.alloc (Obj.cells #[(.slice A5 (thiefI s (stB f)).length c5)] 66)).cell? ⟨T, 1, none⟩ = some (.slice A6 m c6) := L6.out.cr.blk.cell 1
          have hR := hide (show (w5.alloc (Obj.cells #[(.slice A5 (thiefI s (stB f)).length c5)] 66)).ownsRow (w.heap.size + 1) 66 1 (.slice A6 m c6) m vs from by rw [hmH.out]; rw [hmH.out] at L6; exact L6.out.cr.own.rows)
          have hsz : w.heap.size + 1 ≤ w5.heap.size := by have := L5.out.cr.blk.lt; have := L5.out.cr.lo; omega
          clear ho5 hb5
          refine hK.out _ _ ?_ (fun hHeldN => ?_)
          · exact trivial
          clear hK K hHeld
          have hHeld := hHeldN
          clear hHeldN
          try simp only [Act.put, List.setIfInBounds_toArray, List.set_cons_zero, List.set_cons_succ]
          refine wpAnyH_ready (rs := [5]) (by kernel_rfl) (by simp) ?_
          refine AllReadyH.cons (o := { dst := some 46, op := Op.buildSlice 26 1 #[(0, Operand.tmp 45)], type := 26, pos := "l08_deque.go:147", after := #[{ on := 4, ground := Ground.data }], guard := none }) rfl (fun K hK => ?_) (AllReadyH.nil)
          · go_simp
            refine hK.out _ _ ?_ (fun hHeldN => ?_)
            · exact trivial
            clear hK K hHeld
            have hHeld := hHeldN
            clear hHeldN
            try simp only [Act.put, List.setIfInBounds_toArray, List.set_cons_zero, List.set_cons_succ]
            refine wpAnyH_ready (rs := [6]) (by kernel_rfl) (by simp) ?_
            refine AllReadyH.cons (o := { dst := some 47, op := Op.call { callee := Callee.builtin Builtin.append, args := #[Operand.tmp 42, Operand.tmp 46], argTypes := #[26, 26] }, type := 26, pos := "l08_deque.go:147", after := #[{ on := 1, ground := Ground.data }, { on := 5, ground := Ground.data }, { on := 4, ground := Ground.chain }], guard := none }) rfl (fun K hK => ?_) (AllReadyH.nil)
            · rw [if_pos (by rfl)]
              refine wp_append_lies _ _ _ _ (by rfl) (w.heap.size + 1) 66 i2 _ 1 24 Try.underlying26 hi2.out hx0 hx1 hx2 rfl (by omega) (.slice A6 m c6) m vs (by rfl) hR.out ⟨w5.heap.size, 0, none⟩ 1 1 [(.slice A5 (thiefI s (stB f)).length c5)] (by rfl) (by rfl) (World.news_of_block (cs := #[(.slice A5 (thiefI s (stB f)).length c5)]) (heap_alloc_new _ _)) (by simp [Value.oneCell']) (by omega) (by have : maxLen = 9223372036854775807 := rfl; omega) (by omega) (by simp; omega) _ rfl ?_
              intro g7 cap7 w7 hown7 hgr7 hat7 hlt7
              obtain ⟨⟨⟨s0, s1⟩, s2, s3⟩, hC7⟩ := L6.out.growRows rfl (by rw [← hmH.out]; exact hown7) hgr7
              have C7 := hide hC7
              have lT7 : T < w7.heap.size := by have := C7.out.blk.lt; simpa using this
              clear hown7 hgr7 hat7 hC7
              refine hK.out _ _ ?_ (fun hHeldN => ?_)
              · exact trivial
              clear hK K hHeld
              have hHeld := hHeldN
              clear hHeldN
              try simp only [Act.put, List.setIfInBounds_toArray, List.set_cons_zero, List.set_cons_succ]
              refine wpAnyH_take (i := 7) (oi := { dst := some 48, op := Op.fieldAddr 28 (Operand.tmp 8) 1, type := 0, pos := "l08_deque.go:147", after := #[{ on := 0, ground := Ground.phase }, { on := 1, ground := Ground.phase }, { on := 2, ground := Ground.phase }, { on := 3, ground := Ground.phase }, { on := 4, ground := Ground.phase }, { on := 5, ground := Ground.phase }, { on := 6, ground := Ground.phase }], guard := none }) (v := ?_) rfl (by kernel_rfl) (by kernel_rfl) (by kernel_rfl) (fun _ _ _ h => h) (Or.inl ⟨by rfl, ?_⟩) hHeld ?_
              rotate_left
              · (intro wq hSw; (try dsimp only at hSw); first | (go_simp; done) | (go_simp; with_reducible rfl))
              try simp only [Act.put, List.setIfInBounds_toArray, List.set_cons_zero, List.set_cons_succ]
              refine wpAnyH_ready (rs := [8]) (by kernel_rfl) (by simp) ?_
              refine AllReadyH.cons (o := { dst := none, op := Op.store 26 (Operand.tmp 48) (Operand.tmp 47), type := 0, pos := "l08_deque.go:147", after := #[{ on := 7, ground := Ground.data }, { on := 6, ground := Ground.data }, { on := 6, ground := Ground.chain }, { on := 0, ground := Ground.phase }, { on := 1, ground := Ground.phase }, { on := 2, ground := Ground.phase }, { on := 3, ground := Ground.phase }, { on := 4, ground := Ground.phase }, { on := 5, ground := Ground.phase }, { on := 6, ground := Ground.phase }], guard := none }) rfl (fun K hK => ?_) (AllReadyH.nil)
              · go_simp
                refine hK.out _ _ ?_ (fun hHeldN => ?_)
                · exact trivial
                clear hK K hHeld
                have hHeld := hHeldN
                clear hHeldN
                try simp only [Act.put, List.setIfInBounds_toArray, List.set_cons_zero, List.set_cons_succ]
                refine wpAnyH_done (by kernel_rfl) ?_ _
                go_wp2_with fail
                go_roundw
                case rel => exact ⟨k + 1, _, _, by omega, by go_num, hide (by rw [hstep.out]; exact C7.out)⟩
                case measure => simp [intOf]; omega
      · go_simp
        go_at_call 45
        refine (kTh.out s hsr wr.drew).mono ?_
        rintro e w5 ⟨A5, c5, rfl, ho5, hb5⟩
        have hbb := hide (show Below wr.heap.size wr w5 from ((Below.refl _ _).drew).trans hb5)
        have L5 := hide (C0.out.lat hbb.out ho5)
        have L6 := hide (L5.out.alloc (Obj.cells #[(.slice A5 (thiefI s (stB f)).length c5)] 66))
        have t6 : w5.cell? ⟨T, 1, none⟩ = some (.slice A6 m c6) := L5.out.cr.blk.cell 1
        have t7 : (w5.alloc (Obj.cells #[(.slice A5 (thiefI s (stB f)).length c5)] 66)).cell? ⟨T, 1, none⟩ = some (.slice A6 m c6) := L6.out.cr.blk.cell 1
        have hR := hide (show (w5.alloc (Obj.cells #[(.slice A5 (thiefI s (stB f)).length c5)] 66)).ownsRow (w.heap.size + 1) 66 1 (.slice A6 m c6) m vs from by rw [hmH.out]; rw [hmH.out] at L6; exact L6.out.cr.own.rows)
        have hsz : w.heap.size + 1 ≤ w5.heap.size := by have := L5.out.cr.blk.lt; have := L5.out.cr.lo; omega
        clear ho5 hb5
        refine hK.out _ _ ?_ (fun hHeldN => ?_)
        · exact trivial
        clear hK K hHeld
        have hHeld := hHeldN
        clear hHeldN
        try simp only [Act.put, List.setIfInBounds_toArray, List.set_cons_zero, List.set_cons_succ]
        refine wpAnyH_ready (rs := [1, 5]) (by kernel_rfl) (by simp) ?_
        refine AllReadyH.cons (o := { dst := some 42, op := Op.load 26 (Operand.tmp 41), type := 26, pos := "l08_deque.go:147", after := #[{ on := 0, ground := Ground.data }], guard := none }) rfl (fun K hK => ?_) (AllReadyH.cons (o := { dst := some 46, op := Op.buildSlice 26 1 #[(0, Operand.tmp 45)], type := 26, pos := "l08_deque.go:147", after := #[{ on := 4, ground := Ground.data }], guard := none }) rfl (fun K hK => ?_) (AllReadyH.nil))
        · go_simp
          refine hK.out _ _ ?_ (fun hHeldN => ?_)
          · exact trivial
          clear hK K hHeld
          have hHeld := hHeldN
          clear hHeldN
          try simp only [Act.put, List.setIfInBounds_toArray, List.set_cons_zero, List.set_cons_succ]
          refine wpAnyH_ready (rs := [5]) (by kernel_rfl) (by simp) ?_
          refine AllReadyH.cons (o := { dst := some 46, op := Op.buildSlice 26 1 #[(0, Operand.tmp 45)], type := 26, pos := "l08_deque.go:147", after := #[{ on := 4, ground := Ground.data }], guard := none }) rfl (fun K hK => ?_) (AllReadyH.nil)
          · go_simp
            refine hK.out _ _ ?_ (fun hHeldN => ?_)
            · exact trivial
            clear hK K hHeld
            have hHeld := hHeldN
            clear hHeldN
            try simp only [Act.put, List.setIfInBounds_toArray, List.set_cons_zero, List.set_cons_succ]
            refine wpAnyH_ready (rs := [6]) (by kernel_rfl) (by simp) ?_
            refine AllReadyH.cons (o := { dst := some 47, op := Op.call { callee := Callee.builtin Builtin.append, args := #[Operand.tmp 42, Operand.tmp 46], argTypes := #[26, 26] }, type := 26, pos := "l08_deque.go:147", after := #[{ on := 1, ground := Ground.data }, { on := 5, ground := Ground.data }, { on := 4, ground := Ground.chain }], guard := none }) rfl (fun K hK => ?_) (AllReadyH.nil)
            · rw [if_pos (by rfl)]
              refine wp_append_lies _ _ _ _ (by rfl) (w.heap.size + 1) 66 i2 _ 1 24 Try.underlying26 hi2.out hx0 hx1 hx2 rfl (by omega) (.slice A6 m c6) m vs (by rfl) hR.out ⟨w5.heap.size, 0, none⟩ 1 1 [(.slice A5 (thiefI s (stB f)).length c5)] (by rfl) (by rfl) (World.news_of_block (cs := #[(.slice A5 (thiefI s (stB f)).length c5)]) (heap_alloc_new _ _)) (by simp [Value.oneCell']) (by omega) (by have : maxLen = 9223372036854775807 := rfl; omega) (by omega) (by simp; omega) _ rfl ?_
              intro g7 cap7 w7 hown7 hgr7 hat7 hlt7
              obtain ⟨⟨⟨s0, s1⟩, s2, s3⟩, hC7⟩ := L6.out.growRows rfl (by rw [← hmH.out]; exact hown7) hgr7
              have C7 := hide hC7
              have lT7 : T < w7.heap.size := by have := C7.out.blk.lt; simpa using this
              clear hown7 hgr7 hat7 hC7
              refine hK.out _ _ ?_ (fun hHeldN => ?_)
              · exact trivial
              clear hK K hHeld
              have hHeld := hHeldN
              clear hHeldN
              try simp only [Act.put, List.setIfInBounds_toArray, List.set_cons_zero, List.set_cons_succ]
              refine wpAnyH_take (i := 7) (oi := { dst := some 48, op := Op.fieldAddr 28 (Operand.tmp 8) 1, type := 0, pos := "l08_deque.go:147", after := #[{ on := 0, ground := Ground.phase }, { on := 1, ground := Ground.phase }, { on := 2, ground := Ground.phase }, { on := 3, ground := Ground.phase }, { on := 4, ground := Ground.phase }, { on := 5, ground := Ground.phase }, { on := 6, ground := Ground.phase }], guard := none }) (v := ?_) rfl (by kernel_rfl) (by kernel_rfl) (by kernel_rfl) (fun _ _ _ h => h) (Or.inl ⟨by rfl, ?_⟩) hHeld ?_
              rotate_left
              · (intro wq hSw; (try dsimp only at hSw); first | (go_simp; done) | (go_simp; with_reducible rfl))
              try simp only [Act.put, List.setIfInBounds_toArray, List.set_cons_zero, List.set_cons_succ]
              refine wpAnyH_ready (rs := [8]) (by kernel_rfl) (by simp) ?_
              refine AllReadyH.cons (o := { dst := none, op := Op.store 26 (Operand.tmp 48) (Operand.tmp 47), type := 0, pos := "l08_deque.go:147", after := #[{ on := 7, ground := Ground.data }, { on := 6, ground := Ground.data }, { on := 6, ground := Ground.chain }, { on := 0, ground := Ground.phase }, { on := 1, ground := Ground.phase }, { on := 2, ground := Ground.phase }, { on := 3, ground := Ground.phase }, { on := 4, ground := Ground.phase }, { on := 5, ground := Ground.phase }, { on := 6, ground := Ground.phase }], guard := none }) rfl (fun K hK => ?_) (AllReadyH.nil)
              · go_simp
                refine hK.out _ _ ?_ (fun hHeldN => ?_)
                · exact trivial
                clear hK K hHeld
                have hHeld := hHeldN
                clear hHeldN
                try simp only [Act.put, List.setIfInBounds_toArray, List.set_cons_zero, List.set_cons_succ]
                refine wpAnyH_done (by kernel_rfl) ?_ _
                go_wp2_with fail
                go_roundw
                case rel => exact ⟨k + 1, _, _, by omega, by go_num, hide (by rw [hstep.out]; exact C7.out)⟩
                case measure => simp [intOf]; omega
        · go_simp
          refine hK.out _ _ ?_ (fun hHeldN => ?_)
          · exact trivial
          clear hK K hHeld
          have hHeld := hHeldN
          clear hHeldN
          try simp only [Act.put, List.setIfInBounds_toArray, List.set_cons_zero, List.set_cons_succ]
          refine wpAnyH_ready (rs := [1]) (by kernel_rfl) (by simp) ?_
          refine AllReadyH.cons (o := { dst := some 42, op := Op.load 26 (Operand.tmp 41), type := 26, pos := "l08_deque.go:147", after := #[{ on := 0, ground := Ground.data }], guard := none }) rfl (fun K hK => ?_) (AllReadyH.nil)
          · go_simp
            refine hK.out _ _ ?_ (fun hHeldN => ?_)
            · exact trivial
            clear hK K hHeld
            have hHeld := hHeldN
            clear hHeldN
            try simp only [Act.put, List.setIfInBounds_toArray, List.set_cons_zero, List.set_cons_succ]
            refine wpAnyH_ready (rs := [6]) (by kernel_rfl) (by simp) ?_
            refine AllReadyH.cons (o := { dst := some 47, op := Op.call { callee := Callee.builtin Builtin.append, args := #[Operand.tmp 42, Operand.tmp 46], argTypes := #[26, 26] }, type := 26, pos := "l08_deque.go:147", after := #[{ on := 1, ground := Ground.data }, { on := 5, ground := Ground.data }, { on := 4, ground := Ground.chain }], guard := none }) rfl (fun K hK => ?_) (AllReadyH.nil)
            · rw [if_pos (by rfl)]
              refine wp_append_lies _ _ _ _ (by rfl) (w.heap.size + 1) 66 i2 _ 1 24 Try.underlying26 hi2.out hx0 hx1 hx2 rfl (by omega) (.slice A6 m c6) m vs (by rfl) hR.out ⟨w5.heap.size, 0, none⟩ 1 1 [(.slice A5 (thiefI s (stB f)).length c5)] (by rfl) (by rfl) (World.news_of_block (cs := #[(.slice A5 (thiefI s (stB f)).length c5)]) (heap_alloc_new _ _)) (by simp [Value.oneCell']) (by omega) (by have : maxLen = 9223372036854775807 := rfl; omega) (by omega) (by simp; omega) _ rfl ?_
              intro g7 cap7 w7 hown7 hgr7 hat7 hlt7
              obtain ⟨⟨⟨s0, s1⟩, s2, s3⟩, hC7⟩ := L6.out.growRows rfl (by rw [← hmH.out]; exact hown7) hgr7
              have C7 := hide hC7
              have lT7 : T < w7.heap.size := by have := C7.out.blk.lt; simpa using this
              clear hown7 hgr7 hat7 hC7
              refine hK.out _ _ ?_ (fun hHeldN => ?_)
              · exact trivial
              clear hK K hHeld
              have hHeld := hHeldN
              clear hHeldN
              try simp only [Act.put, List.setIfInBounds_toArray, List.set_cons_zero, List.set_cons_succ]
              refine wpAnyH_take (i := 7) (oi := { dst := some 48, op := Op.fieldAddr 28 (Operand.tmp 8) 1, type := 0, pos := "l08_deque.go:147", after := #[{ on := 0, ground := Ground.phase }, { on := 1, ground := Ground.phase }, { on := 2, ground := Ground.phase }, { on := 3, ground := Ground.phase }, { on := 4, ground := Ground.phase }, { on := 5, ground := Ground.phase }, { on := 6, ground := Ground.phase }], guard := none }) (v := ?_) rfl (by kernel_rfl) (by kernel_rfl) (by kernel_rfl) (fun _ _ _ h => h) (Or.inl ⟨by rfl, ?_⟩) hHeld ?_
              rotate_left
              · (intro wq hSw; (try dsimp only at hSw); first | (go_simp; done) | (go_simp; with_reducible rfl))
              try simp only [Act.put, List.setIfInBounds_toArray, List.set_cons_zero, List.set_cons_succ]
              refine wpAnyH_ready (rs := [8]) (by kernel_rfl) (by simp) ?_
              refine AllReadyH.cons (o := { dst := none, op := Op.store 26 (Operand.tmp 48) (Operand.tmp 47), type := 0, pos := "l08_deque.go:147", after := #[{ on := 7, ground := Ground.data }, { on := 6, ground := Ground.data }, { on := 6, ground := Ground.chain }, { on := 0, ground := Ground.phase }, { on := 1, ground := Ground.phase }, { on := 2, ground := Ground.phase }, { on := 3, ground := Ground.phase }, { on := 4, ground := Ground.phase }, { on := 5, ground := Ground.phase }, { on := 6, ground := Ground.phase }], guard := none }) rfl (fun K hK => ?_) (AllReadyH.nil)
              · go_simp
                refine hK.out _ _ ?_ (fun hHeldN => ?_)
                · exact trivial
                clear hK K hHeld
                have hHeld := hHeldN
                clear hHeldN
                try simp only [Act.put, List.setIfInBounds_toArray, List.set_cons_zero, List.set_cons_succ]
                refine wpAnyH_done (by kernel_rfl) ?_ _
                go_wp2_with fail
                go_roundw
                case rel => exact ⟨k + 1, _, _, by omega, by go_num, hide (by rw [hstep.out]; exact C7.out)⟩
                case measure => simp [intOf]; omega
    · obtain rfl : k = zs.length := by omega
      have hlt' : decide ((zs.length : Int) < (zs.length : Int)) = false := decide_eq_false (by omega)
      obtain ⟨A9, c9, rfl, -⟩ := own_form C0.out.own.rows
      obtain ⟨⟨t0, t1⟩, t2, t3⟩ := C0.out.cells
      have lT := C0.out.blk.lt
      obtain ⟨u, u', hR⟩ := C0.out.out
      obtain ⟨r0, r1⟩ := (show wr.cell? ⟨w.heap.size, 0, none⟩ = some u ∧ wr.cell? ⟨w.heap.size, 1, none⟩ = some u' from ⟨hR.cell 0, hR.cell 1⟩)
      obtain ⟨r2, r3⟩ := (show wr.frozen? ⟨w.heap.size, 0, none⟩ = false ∧ wr.frozen? ⟨w.heap.size, 1, none⟩ = false from ⟨hR.frozen 0, hR.frozen 1⟩)
      have lR := hR.lt
      have hTR := hide (show w.heap.size ≠ T from by have := C0.out.lo; omega)
      clear hR
      go_wp2_with fail
      refine bodyPost_ret (v := .tuple #[.agg #[(Value.slice (some ⟨q1, 0, none⟩) 6 6), .slice A9 (dqTs zs f zs.length).length c9], .bool true]) (by simp [results, Try.results10, go_sem, r0, r1]; done) rfl ?_
      refine ⟨_, _, vs, rfl, ?_, (C0.out.below.setCell (p := ⟨w.heap.size, 0, none⟩) (Nat.le_refl _) _).setCell (p := ⟨w.heap.size, 1, none⟩) (Nat.le_refl _) _⟩
      have h1 := C0.out.own.keep (w1 := (wr.setCell ⟨w.heap.size, 0, none⟩ (Value.slice (some ⟨q1, 0, none⟩) 6 6)).setCell ⟨w.heap.size, 1, none⟩ (.slice A9 (dqTs zs f zs.length).length c9)) (fun b hb _ => (Below.heap_setCell _ _ _ b (by show b ≠ w.heap.size; omega)).trans (Below.heap_setCell _ _ _ b (by show b ≠ w.heap.size; omega)))
      exact ⟨own_base h1.ints (by omega), own_base h1.rows (by omega), fun j hj => own_base (h1.thr j hj) (by omega), h1.apart⟩
end Go.Proofs.Ythgpifeljeldjaa
