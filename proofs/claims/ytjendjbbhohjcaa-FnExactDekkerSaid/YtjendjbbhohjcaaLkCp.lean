/- The program's Dekker. -/
import Derived.Test.YtjendjbbhohjcaaLkC0
import Derived.Test.YtjendjbbhohjcaaPartG
import Derived.Deep.RegionHeld3
namespace Go.Proofs.Ytjendjbbhohjcaa
open Go.RowKit

set_option maxRecDepth 100000 in
set_option maxHeartbeats 12800000 in
theorem pdek_any (f : Bool) (w : World) : Calls Try.prog 51 #[.bool f] w fun e w' => PrgR w w' e (dekP f) := by
  obtain ⟨i2, hi2, hx0, hx1, hx2⟩ := info_parts Try.infoThr
  replace hi2 := hide hi2
  obtain ⟨i0, hi0, hz0, hz1, hz2⟩ := info_parts Try.infoIns
  replace hi0 := hide hi0
  obtain ⟨W, hW⟩ : ∃ x, x = w.alloc (Obj.cells #[.slice none 0 0, .slice none 0 0] 37) := ⟨_, rfl⟩
  have hbW : Below w.heap.size w W := by rw [hW]; exact below1 _ _
  have hsW : w.heap.size + 1 ≤ W.heap.size := by rw [hW]; simp
  have R := hide (show Blk W w.heap.size 37 #[.slice none 0 0, .slice none 0 0] from by rw [hW]; exact Blk.new _ _ _)
  have BW := hide hbW
  clear hbW
  go_enter Try.func51, Try.ntmps51
  go_upto_region 1 with fail
  rw [← hW]
  clear hW
  have C4 := CrAt.start0 (w0 := w) (zs := [0, 0]) (cs := #[.int .i64 0, .int .i64 0]) BW.out hsW ⟨_, _, R.out⟩ (by decide) rfl
  obtain ⟨w3, hw3⟩ : ∃ x, x = W.alloc (Obj.cells #[.int .i64 0, .int .i64 0] 3) := ⟨_, rfl⟩
  obtain ⟨w4, hw4⟩ : ∃ x, x = w3.alloc (Obj.cells #[.slice (some ⟨W.heap.size, 0, none⟩) 2 2, .slice none 0 0] 37) := ⟨_, rfl⟩
  obtain ⟨T, hT⟩ : ∃ x, x = W.heap.size + 1 := ⟨_, rfl⟩
  replace C4 := hide (show CrAt w T [0, 0] (.slice (some ⟨W.heap.size, 0, none⟩) 2 2) (dekTs f 0) [] (.slice none 0 0) w4 from by rw [hT, hw4, hw3]; exact C4)
  go_upto_region 2 with fail
  rw [← hw3, ← hw4, ← hT]
  obtain ⟨A0, hA0⟩ : ∃ A, A = some (⟨W.heap.size, 0, none⟩ : Addr) := ⟨_, rfl⟩
  rw [← hA0] at C4
  clear hw3 hw4 hT
  replace hA0 := hide hA0
  have t0 := C4.out.cells.1.1
  have lT := C4.out.blk.lt
  go_wp2_with fail
  clear t0 lT
  go_loopw [12] (fun i wr => ∃ (k : Nat) (vs : List Value) (tv : Value), k ≤ 2 ∧ i = .int .i64 k ∧ Hid (CrAt w T [0, 0] (.slice A0 2 2) (dekTs f k) vs tv wr)) (fun i _ => 2 - (intOf i).toNat)
  case atStart => exact ⟨0, _, _, Nat.zero_le _, rfl, C4⟩
  case round =>
    clear C4
    obtain ⟨k, vs, tv, hk, rfl, C0⟩ := hrel
    by_cases hlt : k < 2
    · have hlt' : decide ((k : Int) < 2) = true := decide_eq_true (by omega)
      have hk2 : k < 2 := hlt
      have hwr : IntKind.i64.wrap (1 - (k : Int)) = 1 - (k : Int) := by rw [IntKind.wrap_i64]; omega
      have hstep := hide (dekTs_succ f k)
      go_upto_region 7 with fail
      have P1 := hide (lit_at (W := wr) (l := dekC (k : Int)) (n := 2) (cs := #[Value.int .i64 1, Value.int .i64 1, Value.int .i64 0, Value.int .i64 0, Value.int .i64 0, Value.int .i64 1, Value.int .i64 8, Value.int .i64 0, Value.int .i64 1, Value.int .i64 0, Value.int .i64 ((k : Int)), Value.int .i64 0]) (by omega) rfl rfl rfl)
      have B1 := hide (below1 wr (Obj.cells #[Value.int .i64 1, Value.int .i64 1, Value.int .i64 0, Value.int .i64 0, Value.int .i64 0, Value.int .i64 1, Value.int .i64 8, Value.int .i64 0, Value.int .i64 1, Value.int .i64 0, Value.int .i64 ((k : Int)), Value.int .i64 0] 89))
      obtain ⟨w1, hw1⟩ : ∃ wq, wq = wr.alloc (Obj.cells #[Value.int .i64 1, Value.int .i64 1, Value.int .i64 0, Value.int .i64 0, Value.int .i64 0, Value.int .i64 1, Value.int .i64 8, Value.int .i64 0, Value.int .i64 1, Value.int .i64 0, Value.int .i64 ((k : Int)), Value.int .i64 0] 89) := ⟨_, rfl⟩
      have hq1' : wr.heap.size + 1 = w1.heap.size := by rw [hw1]; simp
      rw [← hw1] at P1 B1 ⊢
      clear hw1
      have hb2 := below1 w1 (Obj.cells #[Value.int .i64 7, Value.int .i64 2, Value.int .i64 0, Value.int .i64 0, Value.int .i64 ((1 - (k : Int))), Value.int .i64 0, Value.int .i64 6, Value.int .i64 0, Value.int .i64 2, Value.int .i64 3, Value.int .i64 0, Value.int .i64 0] 89)
      have K2 := hide (lit_at (W := w1) (l := dekL (k : Int)) (n := 2) (cs := #[Value.int .i64 7, Value.int .i64 2, Value.int .i64 0, Value.int .i64 0, Value.int .i64 ((1 - (k : Int))), Value.int .i64 0, Value.int .i64 6, Value.int .i64 0, Value.int .i64 2, Value.int .i64 3, Value.int .i64 0, Value.int .i64 0]) (by omega) rfl rfl rfl)
      have P2 := hide (P1.out.old hb2 (fun _ h => h))
      have B2 := hide (B1.out.trans (hb2.mono B1.out.size))
      obtain ⟨w2, hw2⟩ : ∃ wq, wq = w1.alloc (Obj.cells #[Value.int .i64 7, Value.int .i64 2, Value.int .i64 0, Value.int .i64 0, Value.int .i64 ((1 - (k : Int))), Value.int .i64 0, Value.int .i64 6, Value.int .i64 0, Value.int .i64 2, Value.int .i64 3, Value.int .i64 0, Value.int .i64 0] 89) := ⟨_, rfl⟩
      rw [← hw2] at P2 B2 K2 ⊢
      try rw [hq1']
      obtain ⟨q1, hq1⟩ : ∃ x, x = wr.heap.size := ⟨_, rfl⟩
      obtain ⟨q2, hq2⟩ : ∃ x, x = w1.heap.size := ⟨_, rfl⟩
      rw [← hq1] at P2 ⊢
      rw [← hq2] at K2 ⊢
      clear hw2 hb2 P1 B1 hq1' hq1 hq2 hwr
      obtain ⟨A6, c6, htv, -⟩ := own_form C0.out.own.rows
      obtain ⟨m, hm⟩ : ∃ m, m = (dekTs f k).length := ⟨_, rfl⟩
      have hm3 : m ≤ 3 := by rw [hm, dekTs_len]; omega
      rw [← hm] at htv
      subst htv
      have hmH := hide hm
      clear hm
      have t5 : w2.cell? ⟨T, 1, none⟩ = some (.slice A6 m c6) := (C0.out.next B2.out).blk.cell 1
      have lT := hide (C0.out.next B2.out).blk.lt
      refine wp_region_held_drew (S := (fun _ => True)) (by kernel_rfl) ?_ (fun hHeld => ?_)
      · exact trivial
      refine wpAnyH_take (i := 0) (oi := { dst := some 24, op := Op.fieldAddr 37 (Operand.tmp 3) 1, type := 0, pos := "l11_lock.go:131", after := #[], guard := none }) (v := ?_) rfl (by kernel_rfl) (by kernel_rfl) (by kernel_rfl) (fun _ _ _ h => h) (Or.inl ⟨by rfl, ?_⟩) hHeld ?_
      rotate_left
      · (intro wq hSw; (try dsimp only at hSw); first | (go_simp; done) | (go_simp; with_reducible rfl))
      try simp only [Act.put, List.setIfInBounds_toArray, List.set_cons_zero, List.set_cons_succ]
      refine wpAnyH_take (i := 2) (oi := { dst := some 26, op := Op.move (Operand.tmp 5), type := 43, pos := "l11_lock.go:131", after := #[], guard := none }) (v := ?_) rfl (by kernel_rfl) (by kernel_rfl) (by kernel_rfl) (fun _ _ _ h => h) (Or.inl ⟨by rfl, ?_⟩) hHeld ?_
      rotate_left
      · (intro wq hSw; (try dsimp only at hSw); first | (go_simp; done) | (go_simp; with_reducible rfl))
      try simp only [Act.put, List.setIfInBounds_toArray, List.set_cons_zero, List.set_cons_succ]
      refine wpAnyH_take (i := 3) (oi := { dst := some 27, op := Op.move (Operand.tmp 0), type := 4, pos := "l11_lock.go:131", after := #[], guard := none }) (v := ?_) rfl (by kernel_rfl) (by kernel_rfl) (by kernel_rfl) (fun _ _ _ h => h) (Or.inl ⟨by rfl, ?_⟩) hHeld ?_
      rotate_left
      · (intro wq hSw; (try dsimp only at hSw); first | (go_simp; done) | (go_simp; with_reducible rfl))
      try simp only [Act.put, List.setIfInBounds_toArray, List.set_cons_zero, List.set_cons_succ]
      refine wpAnyH_take (i := 5) (oi := { dst := some 29, op := Op.move (Operand.tmp 6), type := 43, pos := "l11_lock.go:131", after := #[], guard := none }) (v := ?_) rfl (by kernel_rfl) (by kernel_rfl) (by kernel_rfl) (fun _ _ _ h => h) (Or.inl ⟨by rfl, ?_⟩) hHeld ?_
      rotate_left
      · (intro wq hSw; (try dsimp only at hSw); first | (go_simp; done) | (go_simp; with_reducible rfl))
      try simp only [Act.put, List.setIfInBounds_toArray, List.set_cons_zero, List.set_cons_succ]
      refine wpAnyH_ready (rs := [1, 4]) (by kernel_rfl) (by simp) ?_
      refine AllReadyH.cons (o := { dst := some 25, op := Op.load 35 (Operand.tmp 24), type := 35, pos := "l11_lock.go:131", after := #[{ on := 0, ground := Ground.data }], guard := none }) rfl (fun K hK => ?_) (AllReadyH.cons (o := { dst := some 28, op := Op.call { callee := Callee.value (Operand.func 95), args := #[Operand.tmp 27], argTypes := #[4] }, type := 43, pos := "l11_lock.go:131", after := #[{ on := 3, ground := Ground.data }], guard := none }) rfl (fun K hK => ?_) (AllReadyH.nil))
      · go_simp
        refine hK.out _ _ ?_ (fun hHeldN => ?_)
        · exact trivial
        clear hK K hHeld
        have hHeld := hHeldN
        clear hHeldN
        try simp only [Act.put, List.setIfInBounds_toArray, List.set_cons_zero, List.set_cons_succ]
        refine wpAnyH_ready (rs := [4]) (by kernel_rfl) (by simp) ?_
        refine AllReadyH.cons (o := { dst := some 28, op := Op.call { callee := Callee.value (Operand.func 95), args := #[Operand.tmp 27], argTypes := #[4] }, type := 43, pos := "l11_lock.go:131", after := #[{ on := 3, ground := Ground.data }], guard := none }) rfl (fun K hK => ?_) (AllReadyH.nil)
        · go_simp
          go_at_call 95
          refine (fenceIf_any f w2.drew).mono ?_
          rintro e w4 hr
          obtain ⟨A4, c4, rfl, hc4, -, hi4, hb⟩ := hr.at_
          have hb' : Below w2.heap.size w2 w4 := (Below.refl _ _).drew.trans hb
          have F4 := hide (hi4.more (S' := Old w4.heap.size) (fun b k => k.2))
          have P4 := hide (P2.out.old hb' (fun _ h => h))
          have K4 := hide (K2.out.old hb' (fun _ h => h))
          have B4 := hide (B2.out.trans (hb'.mono B2.out.size))
          have t6 : w4.cell? ⟨T, 1, none⟩ = some (.slice A6 m c6) := (C0.out.next B4.out).blk.cell 1
          have t7 : (w4.alloc (Obj.cells #[.slice (some ⟨q1, 0, none⟩) 2 2, .slice A4 (fenL f).length c4, .slice (some ⟨q2, 0, none⟩) 2 2] 43)).cell? ⟨T, 1, none⟩ = some (.slice A6 m c6) := ((C0.out.next B4.out).alloc _).blk.cell 1
          have hc4' := hide hc4
          clear hr hc4 hi4 hb hb'
          refine hK.out _ _ ?_ (fun hHeldN => ?_)
          · exact trivial
          clear hK K hHeld
          have hHeld := hHeldN
          clear hHeldN
          try simp only [Act.put, List.setIfInBounds_toArray, List.set_cons_zero, List.set_cons_succ]
          refine wpAnyH_ready (rs := [6]) (by kernel_rfl) (by simp) ?_
          refine AllReadyH.cons (o := { dst := some 30, op := Op.buildSlice 90 3 #[(0, Operand.tmp 26), (1, Operand.tmp 28), (2, Operand.tmp 29)], type := 90, pos := "l11_lock.go:131", after := #[{ on := 2, ground := Ground.data }, { on := 4, ground := Ground.data }, { on := 5, ground := Ground.data }], guard := none }) rfl (fun K hK => ?_) (AllReadyH.nil)
          · go_simp
            refine hK.out _ _ ?_ (fun hHeldN => ?_)
            · exact trivial
            clear hK K hHeld
            have hHeld := hHeldN
            clear hHeldN
            try simp only [Act.put, List.setIfInBounds_toArray, List.set_cons_zero, List.set_cons_succ]
            refine wpAnyH_ready (rs := [7]) (by kernel_rfl) (by simp) ?_
            refine AllReadyH.cons (o := { dst := some 31, op := Op.call { callee := Callee.value (Operand.func 69), args := #[Operand.tmp 30], argTypes := #[90] }, type := 43, pos := "l11_lock.go:131", after := #[{ on := 6, ground := Ground.data }, { on := 4, ground := Ground.chain }], guard := none }) rfl (fun K hK => ?_) (AllReadyH.nil)
            · go_simp
              go_at_call 69
              have X := Blk.new w4 43 #[.slice (some ⟨q1, 0, none⟩) 2 2, .slice A4 (fenL f).length c4, .slice (some ⟨q2, 0, none⟩) 2 2]
              have hb := below1 w4 (Obj.cells #[.slice (some ⟨q1, 0, none⟩) 2 2, .slice A4 (fenL f).length c4, .slice (some ⟨q2, 0, none⟩) 2 2] 43)
              have HT := three_of (a := dekC (k : Int)) (b := fenL f) (c := dekL (k : Int)) X (Nat.le_refl _) hc4'.out (Nat.le_refl _) (P4.out.old hb (fun _ h => h)) (F4.out.old hb (fun _ h => h)) (K4.out.old hb (fun _ h => h))
              have B6 := hide (B4.out.trans (hb.mono B4.out.size))
              have HJ := hide (joined_any (some ⟨w4.heap.size, 0, none⟩) [dekC (k : Int), fenL f, dekL (k : Int)] 3 _ _ (fun _ h => h) HT (by rw [show [dekC (k : Int), fenL f, dekL (k : Int)].length = 3 from rfl, join_dek, dekT_len]; split <;> omega) (small3 (dekC_small k hk2) (fenL_small f) (dekL_small k hk2)))
              rw [show joinTo [dekC (k : Int), fenL f, dekL (k : Int)] [dekC (k : Int), fenL f, dekL (k : Int)].length = dekT f (k : Int) from join_dek f (k : Int)] at HJ
              clear HT X
              refine HJ.out.mono ?_
              rintro e w5 ⟨A5, c5, rfl, ho5, hb5⟩
              have hbb := hide (B6.out.trans (hb5.mono B6.out.size))
              have ho5' := own_base ho5 (show wr.heap.size ≤ (w4.alloc _).heap.size from B6.out.size)
              have L5 := hide (C0.out.lat hbb.out ho5')
              have L6 := hide (L5.out.alloc (Obj.cells #[(.slice A5 (dekT f (k : Int)).length c5)] 45))
              have t8 : w5.cell? ⟨T, 1, none⟩ = some (.slice A6 m c6) := L5.out.cr.blk.cell 1
              have t9 : (w5.alloc (Obj.cells #[(.slice A5 (dekT f (k : Int)).length c5)] 45)).cell? ⟨T, 1, none⟩ = some (.slice A6 m c6) := L6.out.cr.blk.cell 1
              have hR := hide (show (w5.alloc (Obj.cells #[(.slice A5 (dekT f (k : Int)).length c5)] 45)).ownsRow (w.heap.size + 1) 45 1 (.slice A6 m c6) m vs from by rw [hmH.out]; rw [hmH.out] at L6; exact L6.out.cr.own.rows)
              have hsz : w.heap.size + 1 ≤ w5.heap.size := by have := L5.out.cr.blk.lt; have := L5.out.cr.lo; omega
              clear ho5 hb5 ho5' hb HJ
              refine hK.out _ _ ?_ (fun hHeldN => ?_)
              · exact trivial
              clear hK K hHeld
              have hHeld := hHeldN
              clear hHeldN
              try simp only [Act.put, List.setIfInBounds_toArray, List.set_cons_zero, List.set_cons_succ]
              refine wpAnyH_take (i := 8) (oi := { dst := some 32, op := Op.build 45 #[(0, Operand.tmp 31)], type := 45, pos := "l11_lock.go:131", after := #[{ on := 7, ground := Ground.data }], guard := none }) (v := ?_) rfl (by kernel_rfl) (by kernel_rfl) (by kernel_rfl) (fun _ _ _ h => h) (Or.inl ⟨by rfl, ?_⟩) hHeld ?_
              rotate_left
              · (intro wq hSw; (try dsimp only at hSw); first | (go_simp; done) | (go_simp; with_reducible rfl))
              try simp only [Act.put, List.setIfInBounds_toArray, List.set_cons_zero, List.set_cons_succ]
              refine wpAnyH_ready (rs := [9]) (by kernel_rfl) (by simp) ?_
              refine AllReadyH.cons (o := { dst := some 33, op := Op.buildSlice 35 1 #[(0, Operand.tmp 32)], type := 35, pos := "l11_lock.go:131", after := #[{ on := 8, ground := Ground.data }], guard := none }) rfl (fun K hK => ?_) (AllReadyH.nil)
              · go_simp
                refine hK.out _ _ ?_ (fun hHeldN => ?_)
                · exact trivial
                clear hK K hHeld
                have hHeld := hHeldN
                clear hHeldN
                try simp only [Act.put, List.setIfInBounds_toArray, List.set_cons_zero, List.set_cons_succ]
                refine wpAnyH_ready (rs := [10]) (by kernel_rfl) (by simp) ?_
                refine AllReadyH.cons (o := { dst := some 34, op := Op.call { callee := Callee.builtin Builtin.append, args := #[Operand.tmp 25, Operand.tmp 33], argTypes := #[35, 35] }, type := 35, pos := "l11_lock.go:131", after := #[{ on := 1, ground := Ground.data }, { on := 9, ground := Ground.data }, { on := 7, ground := Ground.chain }], guard := none }) rfl (fun K hK => ?_) (AllReadyH.nil)
                · rw [if_pos (by rfl)]
                  refine wp_append_lies _ _ _ _ (by rfl) (w.heap.size + 1) 45 i2 _ 1 24 Try.underlying35 hi2.out hx0 hx1 hx2 rfl (by omega) (.slice A6 m c6) m vs (by rfl) hR.out ⟨w5.heap.size, 0, none⟩ 1 1 [(.slice A5 (dekT f (k : Int)).length c5)] (by rfl) (by rfl) (World.news_of_block (cs := #[(.slice A5 (dekT f (k : Int)).length c5)]) (heap_alloc_new _ _)) (by simp [Value.oneCell']) (by omega) (by have : maxLen = 9223372036854775807 := rfl; omega) (by omega) (by simp; omega) _ rfl ?_
                  intro g7 cap7 w7 hown7 hgr7 hat7 hlt7
                  obtain ⟨⟨⟨s0, s1⟩, s2, s3⟩, hC7⟩ := L6.out.growRows rfl (by rw [← hmH.out]; exact hown7) hgr7
                  have C7 := hide hC7
                  have lT7 : T < w7.heap.size := by have := C7.out.blk.lt; simpa using this
                  clear hown7 hgr7 hat7 hC7
                  refine hK.out _ _ ?_ (fun hHeldN => ?_)
                  · exact trivial
                  clear hK K hHeld
                  have hHeld := hHeldN
                  clear hHeldN
                  try simp only [Act.put, List.setIfInBounds_toArray, List.set_cons_zero, List.set_cons_succ]
                  refine wpAnyH_take (i := 11) (oi := { dst := some 35, op := Op.fieldAddr 37 (Operand.tmp 3) 1, type := 0, pos := "l11_lock.go:131", after := #[{ on := 0, ground := Ground.phase }, { on := 1, ground := Ground.phase }, { on := 2, ground := Ground.phase }, { on := 3, ground := Ground.phase }, { on := 4, ground := Ground.phase }, { on := 5, ground := Ground.phase }, { on := 6, ground := Ground.phase }, { on := 7, ground := Ground.phase }, { on := 8, ground := Ground.phase }, { on := 9, ground := Ground.phase }, { on := 10, ground := Ground.phase }], guard := none }) (v := ?_) rfl (by kernel_rfl) (by kernel_rfl) (by kernel_rfl) (fun _ _ _ h => h) (Or.inl ⟨by rfl, ?_⟩) hHeld ?_
                  rotate_left
                  · (intro wq hSw; (try dsimp only at hSw); first | (go_simp; done) | (go_simp; with_reducible rfl))
                  try simp only [Act.put, List.setIfInBounds_toArray, List.set_cons_zero, List.set_cons_succ]
                  refine wpAnyH_ready (rs := [12]) (by kernel_rfl) (by simp) ?_
                  refine AllReadyH.cons (o := { dst := none, op := Op.store 35 (Operand.tmp 35) (Operand.tmp 34), type := 0, pos := "l11_lock.go:131", after := #[{ on := 11, ground := Ground.data }, { on := 10, ground := Ground.data }, { on := 10, ground := Ground.chain }, { on := 0, ground := Ground.phase }, { on := 1, ground := Ground.phase }, { on := 2, ground := Ground.phase }, { on := 3, ground := Ground.phase }, { on := 4, ground := Ground.phase }, { on := 5, ground := Ground.phase }, { on := 6, ground := Ground.phase }, { on := 7, ground := Ground.phase }, { on := 8, ground := Ground.phase }, { on := 9, ground := Ground.phase }, { on := 10, ground := Ground.phase }], guard := none }) rfl (fun K hK => ?_) (AllReadyH.nil)
                  · go_simp
                    refine hK.out _ _ ?_ (fun hHeldN => ?_)
                    · exact trivial
                    clear hK K hHeld
                    have hHeld := hHeldN
                    clear hHeldN
                    try simp only [Act.put, List.setIfInBounds_toArray, List.set_cons_zero, List.set_cons_succ]
                    refine wpAnyH_done (by kernel_rfl) ?_ _
                    go_wp2_with fail
                    go_roundw
                    case rel => exact ⟨k + 1, _, _, by omega, by go_num, hide (by rw [hstep.out]; exact C7.out)⟩
                    case measure => simp [intOf]; omega
      · go_simp
        go_at_call 95
        refine (fenceIf_any f w2.drew).mono ?_
        rintro e w4 hr
        obtain ⟨A4, c4, rfl, hc4, -, hi4, hb⟩ := hr.at_
        have hb' : Below w2.heap.size w2 w4 := (Below.refl _ _).drew.trans hb
        have F4 := hide (hi4.more (S' := Old w4.heap.size) (fun b k => k.2))
        have P4 := hide (P2.out.old hb' (fun _ h => h))
        have K4 := hide (K2.out.old hb' (fun _ h => h))
        have B4 := hide (B2.out.trans (hb'.mono B2.out.size))
        have t6 : w4.cell? ⟨T, 1, none⟩ = some (.slice A6 m c6) := (C0.out.next B4.out).blk.cell 1
        have t7 : (w4.alloc (Obj.cells #[.slice (some ⟨q1, 0, none⟩) 2 2, .slice A4 (fenL f).length c4, .slice (some ⟨q2, 0, none⟩) 2 2] 43)).cell? ⟨T, 1, none⟩ = some (.slice A6 m c6) := ((C0.out.next B4.out).alloc _).blk.cell 1
        have hc4' := hide hc4
        clear hr hc4 hi4 hb hb'
        refine hK.out _ _ ?_ (fun hHeldN => ?_)
        · exact trivial
        clear hK K hHeld
        have hHeld := hHeldN
        clear hHeldN
        try simp only [Act.put, List.setIfInBounds_toArray, List.set_cons_zero, List.set_cons_succ]
        refine wpAnyH_ready (rs := [1, 6]) (by kernel_rfl) (by simp) ?_
        refine AllReadyH.cons (o := { dst := some 25, op := Op.load 35 (Operand.tmp 24), type := 35, pos := "l11_lock.go:131", after := #[{ on := 0, ground := Ground.data }], guard := none }) rfl (fun K hK => ?_) (AllReadyH.cons (o := { dst := some 30, op := Op.buildSlice 90 3 #[(0, Operand.tmp 26), (1, Operand.tmp 28), (2, Operand.tmp 29)], type := 90, pos := "l11_lock.go:131", after := #[{ on := 2, ground := Ground.data }, { on := 4, ground := Ground.data }, { on := 5, ground := Ground.data }], guard := none }) rfl (fun K hK => ?_) (AllReadyH.nil))
        · go_simp
          refine hK.out _ _ ?_ (fun hHeldN => ?_)
          · exact trivial
          clear hK K hHeld
          have hHeld := hHeldN
          clear hHeldN
          try simp only [Act.put, List.setIfInBounds_toArray, List.set_cons_zero, List.set_cons_succ]
          refine wpAnyH_ready (rs := [6]) (by kernel_rfl) (by simp) ?_
          refine AllReadyH.cons (o := { dst := some 30, op := Op.buildSlice 90 3 #[(0, Operand.tmp 26), (1, Operand.tmp 28), (2, Operand.tmp 29)], type := 90, pos := "l11_lock.go:131", after := #[{ on := 2, ground := Ground.data }, { on := 4, ground := Ground.data }, { on := 5, ground := Ground.data }], guard := none }) rfl (fun K hK => ?_) (AllReadyH.nil)
          · go_simp
            refine hK.out _ _ ?_ (fun hHeldN => ?_)
            · exact trivial
            clear hK K hHeld
            have hHeld := hHeldN
            clear hHeldN
            try simp only [Act.put, List.setIfInBounds_toArray, List.set_cons_zero, List.set_cons_succ]
            refine wpAnyH_ready (rs := [7]) (by kernel_rfl) (by simp) ?_
            refine AllReadyH.cons (o := { dst := some 31, op := Op.call { callee := Callee.value (Operand.func 69), args := #[Operand.tmp 30], argTypes := #[90] }, type := 43, pos := "l11_lock.go:131", after := #[{ on := 6, ground := Ground.data }, { on := 4, ground := Ground.chain }], guard := none }) rfl (fun K hK => ?_) (AllReadyH.nil)
            · go_simp
              go_at_call 69
              have X := Blk.new w4 43 #[.slice (some ⟨q1, 0, none⟩) 2 2, .slice A4 (fenL f).length c4, .slice (some ⟨q2, 0, none⟩) 2 2]
              have hb := below1 w4 (Obj.cells #[.slice (some ⟨q1, 0, none⟩) 2 2, .slice A4 (fenL f).length c4, .slice (some ⟨q2, 0, none⟩) 2 2] 43)
              have HT := three_of (a := dekC (k : Int)) (b := fenL f) (c := dekL (k : Int)) X (Nat.le_refl _) hc4'.out (Nat.le_refl _) (P4.out.old hb (fun _ h => h)) (F4.out.old hb (fun _ h => h)) (K4.out.old hb (fun _ h => h))
              have B6 := hide (B4.out.trans (hb.mono B4.out.size))
              have HJ := hide (joined_any (some ⟨w4.heap.size, 0, none⟩) [dekC (k : Int), fenL f, dekL (k : Int)] 3 _ _ (fun _ h => h) HT (by rw [show [dekC (k : Int), fenL f, dekL (k : Int)].length = 3 from rfl, join_dek, dekT_len]; split <;> omega) (small3 (dekC_small k hk2) (fenL_small f) (dekL_small k hk2)))
              rw [show joinTo [dekC (k : Int), fenL f, dekL (k : Int)] [dekC (k : Int), fenL f, dekL (k : Int)].length = dekT f (k : Int) from join_dek f (k : Int)] at HJ
              clear HT X
              refine HJ.out.mono ?_
              rintro e w5 ⟨A5, c5, rfl, ho5, hb5⟩
              have hbb := hide (B6.out.trans (hb5.mono B6.out.size))
              have ho5' := own_base ho5 (show wr.heap.size ≤ (w4.alloc _).heap.size from B6.out.size)
              have L5 := hide (C0.out.lat hbb.out ho5')
              have L6 := hide (L5.out.alloc (Obj.cells #[(.slice A5 (dekT f (k : Int)).length c5)] 45))
              have t8 : w5.cell? ⟨T, 1, none⟩ = some (.slice A6 m c6) := L5.out.cr.blk.cell 1
              have t9 : (w5.alloc (Obj.cells #[(.slice A5 (dekT f (k : Int)).length c5)] 45)).cell? ⟨T, 1, none⟩ = some (.slice A6 m c6) := L6.out.cr.blk.cell 1
              have hR := hide (show (w5.alloc (Obj.cells #[(.slice A5 (dekT f (k : Int)).length c5)] 45)).ownsRow (w.heap.size + 1) 45 1 (.slice A6 m c6) m vs from by rw [hmH.out]; rw [hmH.out] at L6; exact L6.out.cr.own.rows)
              have hsz : w.heap.size + 1 ≤ w5.heap.size := by have := L5.out.cr.blk.lt; have := L5.out.cr.lo; omega
              clear ho5 hb5 ho5' hb HJ
              refine hK.out _ _ ?_ (fun hHeldN => ?_)
              · exact trivial
              clear hK K hHeld
              have hHeld := hHeldN
              clear hHeldN
              try simp only [Act.put, List.setIfInBounds_toArray, List.set_cons_zero, List.set_cons_succ]
              refine wpAnyH_take (i := 8) (oi := { dst := some 32, op := Op.build 45 #[(0, Operand.tmp 31)], type := 45, pos := "l11_lock.go:131", after := #[{ on := 7, ground := Ground.data }], guard := none }) (v := ?_) rfl (by kernel_rfl) (by kernel_rfl) (by kernel_rfl) (fun _ _ _ h => h) (Or.inl ⟨by rfl, ?_⟩) hHeld ?_
              rotate_left
              · (intro wq hSw; (try dsimp only at hSw); first | (go_simp; done) | (go_simp; with_reducible rfl))
              try simp only [Act.put, List.setIfInBounds_toArray, List.set_cons_zero, List.set_cons_succ]
              refine wpAnyH_ready (rs := [9]) (by kernel_rfl) (by simp) ?_
              refine AllReadyH.cons (o := { dst := some 33, op := Op.buildSlice 35 1 #[(0, Operand.tmp 32)], type := 35, pos := "l11_lock.go:131", after := #[{ on := 8, ground := Ground.data }], guard := none }) rfl (fun K hK => ?_) (AllReadyH.nil)
              · go_simp
                refine hK.out _ _ ?_ (fun hHeldN => ?_)
                · exact trivial
                clear hK K hHeld
                have hHeld := hHeldN
                clear hHeldN
                try simp only [Act.put, List.setIfInBounds_toArray, List.set_cons_zero, List.set_cons_succ]
                refine wpAnyH_ready (rs := [10]) (by kernel_rfl) (by simp) ?_
                refine AllReadyH.cons (o := { dst := some 34, op := Op.call { callee := Callee.builtin Builtin.append, args := #[Operand.tmp 25, Operand.tmp 33], argTypes := #[35, 35] }, type := 35, pos := "l11_lock.go:131", after := #[{ on := 1, ground := Ground.data }, { on := 9, ground := Ground.data }, { on := 7, ground := Ground.chain }], guard := none }) rfl (fun K hK => ?_) (AllReadyH.nil)
                · rw [if_pos (by rfl)]
                  refine wp_append_lies _ _ _ _ (by rfl) (w.heap.size + 1) 45 i2 _ 1 24 Try.underlying35 hi2.out hx0 hx1 hx2 rfl (by omega) (.slice A6 m c6) m vs (by rfl) hR.out ⟨w5.heap.size, 0, none⟩ 1 1 [(.slice A5 (dekT f (k : Int)).length c5)] (by rfl) (by rfl) (World.news_of_block (cs := #[(.slice A5 (dekT f (k : Int)).length c5)]) (heap_alloc_new _ _)) (by simp [Value.oneCell']) (by omega) (by have : maxLen = 9223372036854775807 := rfl; omega) (by omega) (by simp; omega) _ rfl ?_
                  intro g7 cap7 w7 hown7 hgr7 hat7 hlt7
                  obtain ⟨⟨⟨s0, s1⟩, s2, s3⟩, hC7⟩ := L6.out.growRows rfl (by rw [← hmH.out]; exact hown7) hgr7
                  have C7 := hide hC7
                  have lT7 : T < w7.heap.size := by have := C7.out.blk.lt; simpa using this
                  clear hown7 hgr7 hat7 hC7
                  refine hK.out _ _ ?_ (fun hHeldN => ?_)
                  · exact trivial
                  clear hK K hHeld
                  have hHeld := hHeldN
                  clear hHeldN
                  try simp only [Act.put, List.setIfInBounds_toArray, List.set_cons_zero, List.set_cons_succ]
                  refine wpAnyH_take (i := 11) (oi := { dst := some 35, op := Op.fieldAddr 37 (Operand.tmp 3) 1, type := 0, pos := "l11_lock.go:131", after := #[{ on := 0, ground := Ground.phase }, { on := 1, ground := Ground.phase }, { on := 2, ground := Ground.phase }, { on := 3, ground := Ground.phase }, { on := 4, ground := Ground.phase }, { on := 5, ground := Ground.phase }, { on := 6, ground := Ground.phase }, { on := 7, ground := Ground.phase }, { on := 8, ground := Ground.phase }, { on := 9, ground := Ground.phase }, { on := 10, ground := Ground.phase }], guard := none }) (v := ?_) rfl (by kernel_rfl) (by kernel_rfl) (by kernel_rfl) (fun _ _ _ h => h) (Or.inl ⟨by rfl, ?_⟩) hHeld ?_
                  rotate_left
                  · (intro wq hSw; (try dsimp only at hSw); first | (go_simp; done) | (go_simp; with_reducible rfl))
                  try simp only [Act.put, List.setIfInBounds_toArray, List.set_cons_zero, List.set_cons_succ]
                  refine wpAnyH_ready (rs := [12]) (by kernel_rfl) (by simp) ?_
                  refine AllReadyH.cons (o := { dst := none, op := Op.store 35 (Operand.tmp 35) (Operand.tmp 34), type := 0, pos := "l11_lock.go:131", after := #[{ on := 11, ground := Ground.data }, { on := 10, ground := Ground.data }, { on := 10, ground := Ground.chain }, { on := 0, ground := Ground.phase }, { on := 1, ground := Ground.phase }, { on := 2, ground := Ground.phase }, { on := 3, ground := Ground.phase }, { on := 4, ground := Ground.phase }, { on := 5, ground := Ground.phase }, { on := 6, ground := Ground.phase }, { on := 7, ground := Ground.phase }, { on := 8, ground := Ground.phase }, { on := 9, ground := Ground.phase }, { on := 10, ground := Ground.phase }], guard := none }) rfl (fun K hK => ?_) (AllReadyH.nil)
                  · go_simp
                    refine hK.out _ _ ?_ (fun hHeldN => ?_)
                    · exact trivial
                    clear hK K hHeld
                    have hHeld := hHeldN
                    clear hHeldN
                    try simp only [Act.put, List.setIfInBounds_toArray, List.set_cons_zero, List.set_cons_succ]
                    refine wpAnyH_done (by kernel_rfl) ?_ _
                    go_wp2_with fail
                    go_roundw
                    case rel => exact ⟨k + 1, _, _, by omega, by go_num, hide (by rw [hstep.out]; exact C7.out)⟩
                    case measure => simp [intOf]; omega
        · go_simp
          refine hK.out _ _ ?_ (fun hHeldN => ?_)
          · exact trivial
          clear hK K hHeld
          have hHeld := hHeldN
          clear hHeldN
          try simp only [Act.put, List.setIfInBounds_toArray, List.set_cons_zero, List.set_cons_succ]
          refine wpAnyH_ready (rs := [1, 7]) (by kernel_rfl) (by simp) ?_
          refine AllReadyH.cons (o := { dst := some 25, op := Op.load 35 (Operand.tmp 24), type := 35, pos := "l11_lock.go:131", after := #[{ on := 0, ground := Ground.data }], guard := none }) rfl (fun K hK => ?_) (AllReadyH.cons (o := { dst := some 31, op := Op.call { callee := Callee.value (Operand.func 69), args := #[Operand.tmp 30], argTypes := #[90] }, type := 43, pos := "l11_lock.go:131", after := #[{ on := 6, ground := Ground.data }, { on := 4, ground := Ground.chain }], guard := none }) rfl (fun K hK => ?_) (AllReadyH.nil))
          · go_simp
            refine hK.out _ _ ?_ (fun hHeldN => ?_)
            · exact trivial
            clear hK K hHeld
            have hHeld := hHeldN
            clear hHeldN
            try simp only [Act.put, List.setIfInBounds_toArray, List.set_cons_zero, List.set_cons_succ]
            refine wpAnyH_ready (rs := [7]) (by kernel_rfl) (by simp) ?_
            refine AllReadyH.cons (o := { dst := some 31, op := Op.call { callee := Callee.value (Operand.func 69), args := #[Operand.tmp 30], argTypes := #[90] }, type := 43, pos := "l11_lock.go:131", after := #[{ on := 6, ground := Ground.data }, { on := 4, ground := Ground.chain }], guard := none }) rfl (fun K hK => ?_) (AllReadyH.nil)
            · go_simp
              go_at_call 69
              have X := Blk.new w4 43 #[.slice (some ⟨q1, 0, none⟩) 2 2, .slice A4 (fenL f).length c4, .slice (some ⟨q2, 0, none⟩) 2 2]
              have hb := below1 w4 (Obj.cells #[.slice (some ⟨q1, 0, none⟩) 2 2, .slice A4 (fenL f).length c4, .slice (some ⟨q2, 0, none⟩) 2 2] 43)
              have HT := three_of (a := dekC (k : Int)) (b := fenL f) (c := dekL (k : Int)) X (Nat.le_refl _) hc4'.out (Nat.le_refl _) (P4.out.old hb (fun _ h => h)) (F4.out.old hb (fun _ h => h)) (K4.out.old hb (fun _ h => h))
              have B6 := hide (B4.out.trans (hb.mono B4.out.size))
              have HJ := hide (joined_any (some ⟨w4.heap.size, 0, none⟩) [dekC (k : Int), fenL f, dekL (k : Int)] 3 _ _ (fun _ h => h) HT (by rw [show [dekC (k : Int), fenL f, dekL (k : Int)].length = 3 from rfl, join_dek, dekT_len]; split <;> omega) (small3 (dekC_small k hk2) (fenL_small f) (dekL_small k hk2)))
              rw [show joinTo [dekC (k : Int), fenL f, dekL (k : Int)] [dekC (k : Int), fenL f, dekL (k : Int)].length = dekT f (k : Int) from join_dek f (k : Int)] at HJ
              clear HT X
              refine HJ.out.mono ?_
              rintro e w5 ⟨A5, c5, rfl, ho5, hb5⟩
              have hbb := hide (B6.out.trans (hb5.mono B6.out.size))
              have ho5' := own_base ho5 (show wr.heap.size ≤ (w4.alloc _).heap.size from B6.out.size)
              have L5 := hide (C0.out.lat hbb.out ho5')
              have L6 := hide (L5.out.alloc (Obj.cells #[(.slice A5 (dekT f (k : Int)).length c5)] 45))
              have t8 : w5.cell? ⟨T, 1, none⟩ = some (.slice A6 m c6) := L5.out.cr.blk.cell 1
              have t9 : (w5.alloc (Obj.cells #[(.slice A5 (dekT f (k : Int)).length c5)] 45)).cell? ⟨T, 1, none⟩ = some (.slice A6 m c6) := L6.out.cr.blk.cell 1
              have hR := hide (show (w5.alloc (Obj.cells #[(.slice A5 (dekT f (k : Int)).length c5)] 45)).ownsRow (w.heap.size + 1) 45 1 (.slice A6 m c6) m vs from by rw [hmH.out]; rw [hmH.out] at L6; exact L6.out.cr.own.rows)
              have hsz : w.heap.size + 1 ≤ w5.heap.size := by have := L5.out.cr.blk.lt; have := L5.out.cr.lo; omega
              clear ho5 hb5 ho5' hb HJ
              refine hK.out _ _ ?_ (fun hHeldN => ?_)
              · exact trivial
              clear hK K hHeld
              have hHeld := hHeldN
              clear hHeldN
              try simp only [Act.put, List.setIfInBounds_toArray, List.set_cons_zero, List.set_cons_succ]
              refine wpAnyH_take (i := 8) (oi := { dst := some 32, op := Op.build 45 #[(0, Operand.tmp 31)], type := 45, pos := "l11_lock.go:131", after := #[{ on := 7, ground := Ground.data }], guard := none }) (v := ?_) rfl (by kernel_rfl) (by kernel_rfl) (by kernel_rfl) (fun _ _ _ h => h) (Or.inl ⟨by rfl, ?_⟩) hHeld ?_
              rotate_left
              · (intro wq hSw; (try dsimp only at hSw); first | (go_simp; done) | (go_simp; with_reducible rfl))
              try simp only [Act.put, List.setIfInBounds_toArray, List.set_cons_zero, List.set_cons_succ]
              refine wpAnyH_ready (rs := [9]) (by kernel_rfl) (by simp) ?_
              refine AllReadyH.cons (o := { dst := some 33, op := Op.buildSlice 35 1 #[(0, Operand.tmp 32)], type := 35, pos := "l11_lock.go:131", after := #[{ on := 8, ground := Ground.data }], guard := none }) rfl (fun K hK => ?_) (AllReadyH.nil)
              · go_simp
                refine hK.out _ _ ?_ (fun hHeldN => ?_)
                · exact trivial
                clear hK K hHeld
                have hHeld := hHeldN
                clear hHeldN
                try simp only [Act.put, List.setIfInBounds_toArray, List.set_cons_zero, List.set_cons_succ]
                refine wpAnyH_ready (rs := [10]) (by kernel_rfl) (by simp) ?_
                refine AllReadyH.cons (o := { dst := some 34, op := Op.call { callee := Callee.builtin Builtin.append, args := #[Operand.tmp 25, Operand.tmp 33], argTypes := #[35, 35] }, type := 35, pos := "l11_lock.go:131", after := #[{ on := 1, ground := Ground.data }, { on := 9, ground := Ground.data }, { on := 7, ground := Ground.chain }], guard := none }) rfl (fun K hK => ?_) (AllReadyH.nil)
                · rw [if_pos (by rfl)]
                  refine wp_append_lies _ _ _ _ (by rfl) (w.heap.size + 1) 45 i2 _ 1 24 Try.underlying35 hi2.out hx0 hx1 hx2 rfl (by omega) (.slice A6 m c6) m vs (by rfl) hR.out ⟨w5.heap.size, 0, none⟩ 1 1 [(.slice A5 (dekT f (k : Int)).length c5)] (by rfl) (by rfl) (World.news_of_block (cs := #[(.slice A5 (dekT f (k : Int)).length c5)]) (heap_alloc_new _ _)) (by simp [Value.oneCell']) (by omega) (by have : maxLen = 9223372036854775807 := rfl; omega) (by omega) (by simp; omega) _ rfl ?_
                  intro g7 cap7 w7 hown7 hgr7 hat7 hlt7
                  obtain ⟨⟨⟨s0, s1⟩, s2, s3⟩, hC7⟩ := L6.out.growRows rfl (by rw [← hmH.out]; exact hown7) hgr7
                  have C7 := hide hC7
                  have lT7 : T < w7.heap.size := by have := C7.out.blk.lt; simpa using this
                  clear hown7 hgr7 hat7 hC7
                  refine hK.out _ _ ?_ (fun hHeldN => ?_)
                  · exact trivial
                  clear hK K hHeld
                  have hHeld := hHeldN
                  clear hHeldN
                  try simp only [Act.put, List.setIfInBounds_toArray, List.set_cons_zero, List.set_cons_succ]
                  refine wpAnyH_take (i := 11) (oi := { dst := some 35, op := Op.fieldAddr 37 (Operand.tmp 3) 1, type := 0, pos := "l11_lock.go:131", after := #[{ on := 0, ground := Ground.phase }, { on := 1, ground := Ground.phase }, { on := 2, ground := Ground.phase }, { on := 3, ground := Ground.phase }, { on := 4, ground := Ground.phase }, { on := 5, ground := Ground.phase }, { on := 6, ground := Ground.phase }, { on := 7, ground := Ground.phase }, { on := 8, ground := Ground.phase }, { on := 9, ground := Ground.phase }, { on := 10, ground := Ground.phase }], guard := none }) (v := ?_) rfl (by kernel_rfl) (by kernel_rfl) (by kernel_rfl) (fun _ _ _ h => h) (Or.inl ⟨by rfl, ?_⟩) hHeld ?_
                  rotate_left
                  · (intro wq hSw; (try dsimp only at hSw); first | (go_simp; done) | (go_simp; with_reducible rfl))
                  try simp only [Act.put, List.setIfInBounds_toArray, List.set_cons_zero, List.set_cons_succ]
                  refine wpAnyH_ready (rs := [12]) (by kernel_rfl) (by simp) ?_
                  refine AllReadyH.cons (o := { dst := none, op := Op.store 35 (Operand.tmp 35) (Operand.tmp 34), type := 0, pos := "l11_lock.go:131", after := #[{ on := 11, ground := Ground.data }, { on := 10, ground := Ground.data }, { on := 10, ground := Ground.chain }, { on := 0, ground := Ground.phase }, { on := 1, ground := Ground.phase }, { on := 2, ground := Ground.phase }, { on := 3, ground := Ground.phase }, { on := 4, ground := Ground.phase }, { on := 5, ground := Ground.phase }, { on := 6, ground := Ground.phase }, { on := 7, ground := Ground.phase }, { on := 8, ground := Ground.phase }, { on := 9, ground := Ground.phase }, { on := 10, ground := Ground.phase }], guard := none }) rfl (fun K hK => ?_) (AllReadyH.nil)
                  · go_simp
                    refine hK.out _ _ ?_ (fun hHeldN => ?_)
                    · exact trivial
                    clear hK K hHeld
                    have hHeld := hHeldN
                    clear hHeldN
                    try simp only [Act.put, List.setIfInBounds_toArray, List.set_cons_zero, List.set_cons_succ]
                    refine wpAnyH_done (by kernel_rfl) ?_ _
                    go_wp2_with fail
                    go_roundw
                    case rel => exact ⟨k + 1, _, _, by omega, by go_num, hide (by rw [hstep.out]; exact C7.out)⟩
                    case measure => simp [intOf]; omega
          · go_simp
            go_at_call 69
            have X := Blk.new w4 43 #[.slice (some ⟨q1, 0, none⟩) 2 2, .slice A4 (fenL f).length c4, .slice (some ⟨q2, 0, none⟩) 2 2]
            have hb := below1 w4 (Obj.cells #[.slice (some ⟨q1, 0, none⟩) 2 2, .slice A4 (fenL f).length c4, .slice (some ⟨q2, 0, none⟩) 2 2] 43)
            have HT := three_of (a := dekC (k : Int)) (b := fenL f) (c := dekL (k : Int)) X (Nat.le_refl _) hc4'.out (Nat.le_refl _) (P4.out.old hb (fun _ h => h)) (F4.out.old hb (fun _ h => h)) (K4.out.old hb (fun _ h => h))
            have B6 := hide (B4.out.trans (hb.mono B4.out.size))
            have HJ := hide (joined_any (some ⟨w4.heap.size, 0, none⟩) [dekC (k : Int), fenL f, dekL (k : Int)] 3 _ _ (fun _ h => h) HT (by rw [show [dekC (k : Int), fenL f, dekL (k : Int)].length = 3 from rfl, join_dek, dekT_len]; split <;> omega) (small3 (dekC_small k hk2) (fenL_small f) (dekL_small k hk2)))
            rw [show joinTo [dekC (k : Int), fenL f, dekL (k : Int)] [dekC (k : Int), fenL f, dekL (k : Int)].length = dekT f (k : Int) from join_dek f (k : Int)] at HJ
            clear HT X
            refine HJ.out.mono ?_
            rintro e w5 ⟨A5, c5, rfl, ho5, hb5⟩
            have hbb := hide (B6.out.trans (hb5.mono B6.out.size))
            have ho5' := own_base ho5 (show wr.heap.size ≤ (w4.alloc _).heap.size from B6.out.size)
            have L5 := hide (C0.out.lat hbb.out ho5')
            have L6 := hide (L5.out.alloc (Obj.cells #[(.slice A5 (dekT f (k : Int)).length c5)] 45))
            have t8 : w5.cell? ⟨T, 1, none⟩ = some (.slice A6 m c6) := L5.out.cr.blk.cell 1
            have t9 : (w5.alloc (Obj.cells #[(.slice A5 (dekT f (k : Int)).length c5)] 45)).cell? ⟨T, 1, none⟩ = some (.slice A6 m c6) := L6.out.cr.blk.cell 1
            have hR := hide (show (w5.alloc (Obj.cells #[(.slice A5 (dekT f (k : Int)).length c5)] 45)).ownsRow (w.heap.size + 1) 45 1 (.slice A6 m c6) m vs from by rw [hmH.out]; rw [hmH.out] at L6; exact L6.out.cr.own.rows)
            have hsz : w.heap.size + 1 ≤ w5.heap.size := by have := L5.out.cr.blk.lt; have := L5.out.cr.lo; omega
            clear ho5 hb5 ho5' hb HJ
            refine hK.out _ _ ?_ (fun hHeldN => ?_)
            · exact trivial
            clear hK K hHeld
            have hHeld := hHeldN
            clear hHeldN
            try simp only [Act.put, List.setIfInBounds_toArray, List.set_cons_zero, List.set_cons_succ]
            refine wpAnyH_take (i := 8) (oi := { dst := some 32, op := Op.build 45 #[(0, Operand.tmp 31)], type := 45, pos := "l11_lock.go:131", after := #[{ on := 7, ground := Ground.data }], guard := none }) (v := ?_) rfl (by kernel_rfl) (by kernel_rfl) (by kernel_rfl) (fun _ _ _ h => h) (Or.inl ⟨by rfl, ?_⟩) hHeld ?_
            rotate_left
            · (intro wq hSw; (try dsimp only at hSw); first | (go_simp; done) | (go_simp; with_reducible rfl))
            try simp only [Act.put, List.setIfInBounds_toArray, List.set_cons_zero, List.set_cons_succ]
            refine wpAnyH_ready (rs := [1, 9]) (by kernel_rfl) (by simp) ?_
            refine AllReadyH.cons (o := { dst := some 25, op := Op.load 35 (Operand.tmp 24), type := 35, pos := "l11_lock.go:131", after := #[{ on := 0, ground := Ground.data }], guard := none }) rfl (fun K hK => ?_) (AllReadyH.cons (o := { dst := some 33, op := Op.buildSlice 35 1 #[(0, Operand.tmp 32)], type := 35, pos := "l11_lock.go:131", after := #[{ on := 8, ground := Ground.data }], guard := none }) rfl (fun K hK => ?_) (AllReadyH.nil))
            · go_simp
              refine hK.out _ _ ?_ (fun hHeldN => ?_)
              · exact trivial
              clear hK K hHeld
              have hHeld := hHeldN
              clear hHeldN
              try simp only [Act.put, List.setIfInBounds_toArray, List.set_cons_zero, List.set_cons_succ]
              refine wpAnyH_ready (rs := [9]) (by kernel_rfl) (by simp) ?_
              refine AllReadyH.cons (o := { dst := some 33, op := Op.buildSlice 35 1 #[(0, Operand.tmp 32)], type := 35, pos := "l11_lock.go:131", after := #[{ on := 8, ground := Ground.data }], guard := none }) rfl (fun K hK => ?_) (AllReadyH.nil)
              · go_simp
                refine hK.out _ _ ?_ (fun hHeldN => ?_)
                · exact trivial
                clear hK K hHeld
                have hHeld := hHeldN
                clear hHeldN
                try simp only [Act.put, List.setIfInBounds_toArray, List.set_cons_zero, List.set_cons_succ]
                refine wpAnyH_ready (rs := [10]) (by kernel_rfl) (by simp) ?_
                refine AllReadyH.cons (o := { dst := some 34, op := Op.call { callee := Callee.builtin Builtin.append, args := #[Operand.tmp 25, Operand.tmp 33], argTypes := #[35, 35] }, type := 35, pos := "l11_lock.go:131", after := #[{ on := 1, ground := Ground.data }, { on := 9, ground := Ground.data }, { on := 7, ground := Ground.chain }], guard := none }) rfl (fun K hK => ?_) (AllReadyH.nil)
                · rw [if_pos (by rfl)]
                  refine wp_append_lies _ _ _ _ (by rfl) (w.heap.size + 1) 45 i2 _ 1 24 Try.underlying35 hi2.out hx0 hx1 hx2 rfl (by omega) (.slice A6 m c6) m vs (by rfl) hR.out ⟨w5.heap.size, 0, none⟩ 1 1 [(.slice A5 (dekT f (k : Int)).length c5)] (by rfl) (by rfl) (World.news_of_block (cs := #[(.slice A5 (dekT f (k : Int)).length c5)]) (heap_alloc_new _ _)) (by simp [Value.oneCell']) (by omega) (by have : maxLen = 9223372036854775807 := rfl; omega) (by omega) (by simp; omega) _ rfl ?_
                  intro g7 cap7 w7 hown7 hgr7 hat7 hlt7
                  obtain ⟨⟨⟨s0, s1⟩, s2, s3⟩, hC7⟩ := L6.out.growRows rfl (by rw [← hmH.out]; exact hown7) hgr7
                  have C7 := hide hC7
                  have lT7 : T < w7.heap.size := by have := C7.out.blk.lt; simpa using this
                  clear hown7 hgr7 hat7 hC7
                  refine hK.out _ _ ?_ (fun hHeldN => ?_)
                  · exact trivial
                  clear hK K hHeld
                  have hHeld := hHeldN
                  clear hHeldN
                  try simp only [Act.put, List.setIfInBounds_toArray, List.set_cons_zero, List.set_cons_succ]
                  refine wpAnyH_take (i := 11) (oi := { dst := some 35, op := Op.fieldAddr 37 (Operand.tmp 3) 1, type := 0, pos := "l11_lock.go:131", after := #[{ on := 0, ground := Ground.phase }, { on := 1, ground := Ground.phase }, { on := 2, ground := Ground.phase }, { on := 3, ground := Ground.phase }, { on := 4, ground := Ground.phase }, { on := 5, ground := Ground.phase }, { on := 6, ground := Ground.phase }, { on := 7, ground := Ground.phase }, { on := 8, ground := Ground.phase }, { on := 9, ground := Ground.phase }, { on := 10, ground := Ground.phase }], guard := none }) (v := ?_) rfl (by kernel_rfl) (by kernel_rfl) (by kernel_rfl) (fun _ _ _ h => h) (Or.inl ⟨by rfl, ?_⟩) hHeld ?_
                  rotate_left
                  · (intro wq hSw; (try dsimp only at hSw); first | (go_simp; done) | (go_simp; with_reducible rfl))
                  try simp only [Act.put, List.setIfInBounds_toArray, List.set_cons_zero, List.set_cons_succ]
                  refine wpAnyH_ready (rs := [12]) (by kernel_rfl) (by simp) ?_
                  refine AllReadyH.cons (o := { dst := none, op := Op.store 35 (Operand.tmp 35) (Operand.tmp 34), type := 0, pos := "l11_lock.go:131", after := #[{ on := 11, ground := Ground.data }, { on := 10, ground := Ground.data }, { on := 10, ground := Ground.chain }, { on := 0, ground := Ground.phase }, { on := 1, ground := Ground.phase }, { on := 2, ground := Ground.phase }, { on := 3, ground := Ground.phase }, { on := 4, ground := Ground.phase }, { on := 5, ground := Ground.phase }, { on := 6, ground := Ground.phase }, { on := 7, ground := Ground.phase }, { on := 8, ground := Ground.phase }, { on := 9, ground := Ground.phase }, { on := 10, ground := Ground.phase }], guard := none }) rfl (fun K hK => ?_) (AllReadyH.nil)
                  · go_simp
                    refine hK.out _ _ ?_ (fun hHeldN => ?_)
                    · exact trivial
                    clear hK K hHeld
                    have hHeld := hHeldN
                    clear hHeldN
                    try simp only [Act.put, List.setIfInBounds_toArray, List.set_cons_zero, List.set_cons_succ]
                    refine wpAnyH_done (by kernel_rfl) ?_ _
                    go_wp2_with fail
                    go_roundw
                    case rel => exact ⟨k + 1, _, _, by omega, by go_num, hide (by rw [hstep.out]; exact C7.out)⟩
                    case measure => simp [intOf]; omega
            · go_simp
              refine hK.out _ _ ?_ (fun hHeldN => ?_)
              · exact trivial
              clear hK K hHeld
              have hHeld := hHeldN
              clear hHeldN
              try simp only [Act.put, List.setIfInBounds_toArray, List.set_cons_zero, List.set_cons_succ]
              refine wpAnyH_ready (rs := [1]) (by kernel_rfl) (by simp) ?_
              refine AllReadyH.cons (o := { dst := some 25, op := Op.load 35 (Operand.tmp 24), type := 35, pos := "l11_lock.go:131", after := #[{ on := 0, ground := Ground.data }], guard := none }) rfl (fun K hK => ?_) (AllReadyH.nil)
              · go_simp
                refine hK.out _ _ ?_ (fun hHeldN => ?_)
                · exact trivial
                clear hK K hHeld
                have hHeld := hHeldN
                clear hHeldN
                try simp only [Act.put, List.setIfInBounds_toArray, List.set_cons_zero, List.set_cons_succ]
                refine wpAnyH_ready (rs := [10]) (by kernel_rfl) (by simp) ?_
                refine AllReadyH.cons (o := { dst := some 34, op := Op.call { callee := Callee.builtin Builtin.append, args := #[Operand.tmp 25, Operand.tmp 33], argTypes := #[35, 35] }, type := 35, pos := "l11_lock.go:131", after := #[{ on := 1, ground := Ground.data }, { on := 9, ground := Ground.data }, { on := 7, ground := Ground.chain }], guard := none }) rfl (fun K hK => ?_) (AllReadyH.nil)
                · rw [if_pos (by rfl)]
                  refine wp_append_lies _ _ _ _ (by rfl) (w.heap.size + 1) 45 i2 _ 1 24 Try.underlying35 hi2.out hx0 hx1 hx2 rfl (by omega) (.slice A6 m c6) m vs (by rfl) hR.out ⟨w5.heap.size, 0, none⟩ 1 1 [(.slice A5 (dekT f (k : Int)).length c5)] (by rfl) (by rfl) (World.news_of_block (cs := #[(.slice A5 (dekT f (k : Int)).length c5)]) (heap_alloc_new _ _)) (by simp [Value.oneCell']) (by omega) (by have : maxLen = 9223372036854775807 := rfl; omega) (by omega) (by simp; omega) _ rfl ?_
                  intro g7 cap7 w7 hown7 hgr7 hat7 hlt7
                  obtain ⟨⟨⟨s0, s1⟩, s2, s3⟩, hC7⟩ := L6.out.growRows rfl (by rw [← hmH.out]; exact hown7) hgr7
                  have C7 := hide hC7
                  have lT7 : T < w7.heap.size := by have := C7.out.blk.lt; simpa using this
                  clear hown7 hgr7 hat7 hC7
                  refine hK.out _ _ ?_ (fun hHeldN => ?_)
                  · exact trivial
                  clear hK K hHeld
                  have hHeld := hHeldN
                  clear hHeldN
                  try simp only [Act.put, List.setIfInBounds_toArray, List.set_cons_zero, List.set_cons_succ]
                  refine wpAnyH_take (i := 11) (oi := { dst := some 35, op := Op.fieldAddr 37 (Operand.tmp 3) 1, type := 0, pos := "l11_lock.go:131", after := #[{ on := 0, ground := Ground.phase }, { on := 1, ground := Ground.phase }, { on := 2, ground := Ground.phase }, { on := 3, ground := Ground.phase }, { on := 4, ground := Ground.phase }, { on := 5, ground := Ground.phase }, { on := 6, ground := Ground.phase }, { on := 7, ground := Ground.phase }, { on := 8, ground := Ground.phase }, { on := 9, ground := Ground.phase }, { on := 10, ground := Ground.phase }], guard := none }) (v := ?_) rfl (by kernel_rfl) (by kernel_rfl) (by kernel_rfl) (fun _ _ _ h => h) (Or.inl ⟨by rfl, ?_⟩) hHeld ?_
                  rotate_left
                  · (intro wq hSw; (try dsimp only at hSw); first | (go_simp; done) | (go_simp; with_reducible rfl))
                  try simp only [Act.put, List.setIfInBounds_toArray, List.set_cons_zero, List.set_cons_succ]
                  refine wpAnyH_ready (rs := [12]) (by kernel_rfl) (by simp) ?_
                  refine AllReadyH.cons (o := { dst := none, op := Op.store 35 (Operand.tmp 35) (Operand.tmp 34), type := 0, pos := "l11_lock.go:131", after := #[{ on := 11, ground := Ground.data }, { on := 10, ground := Ground.data }, { on := 10, ground := Ground.chain }, { on := 0, ground := Ground.phase }, { on := 1, ground := Ground.phase }, { on := 2, ground := Ground.phase }, { on := 3, ground := Ground.phase }, { on := 4, ground := Ground.phase }, { on := 5, ground := Ground.phase }, { on := 6, ground := Ground.phase }, { on := 7, ground := Ground.phase }, { on := 8, ground := Ground.phase }, { on := 9, ground := Ground.phase }, { on := 10, ground := Ground.phase }], guard := none }) rfl (fun K hK => ?_) (AllReadyH.nil)
                  · go_simp
                    refine hK.out _ _ ?_ (fun hHeldN => ?_)
                    · exact trivial
                    clear hK K hHeld
                    have hHeld := hHeldN
                    clear hHeldN
                    try simp only [Act.put, List.setIfInBounds_toArray, List.set_cons_zero, List.set_cons_succ]
                    refine wpAnyH_done (by kernel_rfl) ?_ _
                    go_wp2_with fail
                    go_roundw
                    case rel => exact ⟨k + 1, _, _, by omega, by go_num, hide (by rw [hstep.out]; exact C7.out)⟩
                    case measure => simp [intOf]; omega
    · obtain rfl : k = 2 := by omega
      have hlt' : decide (((2 : Nat) : Int) < 2) = false := decide_eq_false (by omega)
      obtain ⟨A9, c9, rfl, -⟩ := own_form C0.out.own.rows
      obtain ⟨⟨t0, t1⟩, t2, t3⟩ := C0.out.cells
      have lT := C0.out.blk.lt
      obtain ⟨u, u', hR⟩ := C0.out.out
      obtain ⟨r0, r1⟩ := (show wr.cell? ⟨w.heap.size, 0, none⟩ = some u ∧ wr.cell? ⟨w.heap.size, 1, none⟩ = some u' from ⟨hR.cell 0, hR.cell 1⟩)
      obtain ⟨r2, r3⟩ := (show wr.frozen? ⟨w.heap.size, 0, none⟩ = false ∧ wr.frozen? ⟨w.heap.size, 1, none⟩ = false from ⟨hR.frozen 0, hR.frozen 1⟩)
      have lR := hR.lt
      have hTR := hide (show w.heap.size ≠ T from by have := C0.out.lo; omega)
      clear hR
      obtain ⟨n9, hn9⟩ : ∃ x, x = (dekTs f 2).length := ⟨_, rfl⟩
      rw [← hn9] at t1
      replace hn9 := hide hn9
      go_wp2_with fail
      refine bodyPost_ret (v := .agg #[.slice A0 2 2, .slice A9 n9 c9]) (by simp [results, Try.results51, go_sem, r0, r1]; done) rfl ?_
      rw [hn9.out]
      refine ⟨_, _, vs, rfl, ?_, (C0.out.below.setCell (p := ⟨w.heap.size, 0, none⟩) (Nat.le_refl _) _).setCell (p := ⟨w.heap.size, 1, none⟩) (Nat.le_refl _) _⟩
      have h1 := C0.out.own.keep (w1 := (wr.setCell ⟨w.heap.size, 0, none⟩ (.slice A0 2 2)).setCell ⟨w.heap.size, 1, none⟩ (.slice A9 (dekTs f 2).length c9)) (fun b hb _ => (Below.heap_setCell _ _ _ b (by show b ≠ w.heap.size; omega)).trans (Below.heap_setCell _ _ _ b (by show b ≠ w.heap.size; omega)))
      exact ⟨own_base h1.ints (by omega), own_base h1.rows (by omega), fun j hj => own_base (h1.thr j hj) (by omega), h1.apart⟩
end Go.Proofs.Ytjendjbbhohjcaa
