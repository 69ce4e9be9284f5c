/- Whether spots stand: the program's spotsOk. -/
import Derived.Test.YtfkaacfeikmabaaMx0
import Derived.Test.YtfkaacfeikmabaaMx10
namespace Go.Proofs.Ytfkaacfeikmabaa
open Go.RowKit

theorem spotB_no {ts : List (List InsD)} {zs : List Int} {n k : Nat} (hk : k < n) (h : spotB ts zs k = false) : spotsB ts zs n = false := allB_no hk h
set_option maxRecDepth 100000 in
set_option maxHeartbeats 12800000 in
theorem spotsOk_any (A A1 A2 : Option Addr) (n1 n c c1 c2 : Nat) (zs : List Int) (ts : List (List InsD)) (S : Nat → Prop) (w : World) (hz : zs.length = n * 2) (hn : n ≤ 1048576) (hS : ∀ b, S b → b < w.heap.size) (hts : ThreadsAt w S A2 ts) (ha : IntsAt w S A zs) :
    Calls Try.prog 65 #[.agg #[.slice A1 n1 c1, .slice A2 ts.length c2], .slice A n c] w fun e w' => e = .returned (.bool (spotsB ts zs n)) ∧ Below w.heap.size w w' := by
  have hb0 := below1 w (Obj.cells #[.slice A1 n1 c1, .slice A2 ts.length c2] 31)
  have X0 := hide (Blk.new w 31 #[.slice A1 n1 c1, .slice A2 ts.length c2])
  have T0 := hide (hts.below hb0 hS)
  have R0 := hide (ha.below hb0 hS)
  obtain ⟨W, hW⟩ : ∃ W, W = w.alloc (Obj.cells #[.slice A1 n1 c1, .slice A2 ts.length c2] 31) := ⟨_, rfl⟩
  rw [← hW] at X0 T0 R0 hb0
  have hB0 := hide hb0
  have hS1 := hide (fun b (h : S b) => (show b < W.heap.size from Nat.lt_of_lt_of_le (hS b h) hb0.size))
  have hlW : w.heap.size < W.heap.size := X0.out.lt
  clear hts ha hb0
  go_enter Try.func65, Try.ntmps65
  go_wp2_with fail
  rw [← hW]
  clear hW
  go_loopw [9] (fun i wr => ∃ (k : Nat), k ≤ n ∧ i = .int .i64 k ∧ Hid (∀ j, j < k → spotB ts zs j = true) ∧ Hid (Below W.heap.size W wr)) (fun i _ => n - (intOf i).toNat)
  case atStart => exact ⟨0, Nat.zero_le _, rfl, hide (fun j hj => by omega), hide (Below.refl _ _)⟩
  case round =>
    obtain ⟨k, hk, rfl, hj, hb⟩ := hrel
    by_cases hlt : k < n
    · have ha1 := R0.out.below hb.out (fun b h => hS1.out b h)
      obtain ⟨b, off, rfl, hbS, d0, d1⟩ := ha1.two hz hlt
      have hbW := Nat.lt_of_lt_of_le (hS1.out b hbS) hb.out.size
      have hlt' : decide ((k : Int) < (n : Int)) = true := decide_eq_true (by omega)
      have hkn : k < n := hlt
      have X1 := hide (X0.out.below hb.out X0.out.lt)
      have T1 := hide (T0.out.below hb.out (fun b h => hS1.out b h))
      have hbs := below1 wr (Obj.cells #[.int .i64 (geti zs (k * 2)), .int .i64 (geti zs (k * 2 + 1))] 105)
      have Z1 := hide (Blk.new wr 105 #[.int .i64 (geti zs (k * 2)), .int .i64 (geti zs (k * 2 + 1))])
      have X2 := hide (X1.out.below hbs X1.out.lt)
      have hT2a := T1.out.below hbs (fun b h => Nat.lt_of_lt_of_le (hS1.out b h) hb.out.size)
      have B2a := hb.out.trans (hbs.mono hb.out.size)
      have ha2 := ha1.below hbs (fun b h => Nat.lt_of_lt_of_le (hS1.out b h) hb.out.size)
      go_wp2_with fail
      obtain ⟨w2, hw2⟩ : ∃ wq, wq = wr.alloc (Obj.cells #[.int .i64 (geti zs (k * 2)), .int .i64 (geti zs (k * 2 + 1))] 105) := ⟨_, rfl⟩
      rw [← hw2] at Z1 X2 hT2a B2a ha2 ⊢
      obtain ⟨Y, hY⟩ : ∃ Y, Y = wr.heap.size := ⟨_, rfl⟩
      rw [← hY] at Z1 ⊢
      have B2 := hide B2a
      have hT2 := hide (show ThreadsAt w2.drew S A2 ts from hT2a.below ((Below.refl w2.heap.size w2).drew) (fun b h => Nat.lt_of_lt_of_le (hS1.out b h) B2a.size))
      have hlt2 := hide (fun b (h : S b) => (show b < w2.drew.heap.size from Nat.lt_of_lt_of_le (hS1.out b h) B2a.size))
      have hA2 := hide ha2
      have hzW : W.heap.size ≤ w2.heap.size := B2a.size
      clear d0 d1 hw2 hY X1 T1 hbs hT2a B2a ha1 ha2 hbW
      cases hs : standB ts (geti zs (k * 2)) (geti zs (k * 2 + 1))
      · have hE := hide (spotB_no hkn (show spotB ts zs k = false from by unfold spotB spT spA; rw [hs]; rfl))
        have hst := hide hs
        have hCb := hide (fun w' (hb : Below w2.heap.size w2 w') => (show ((fun w' => (w'.cell? ⟨w.heap.size, 0, none⟩ = some (.slice A1 n1 c1) ∧ w'.cell? ⟨w.heap.size, 1, none⟩ = some (.slice A2 ts.length c2)) ∧ w'.cell? ⟨Y, 0, none⟩ = some (.int .i64 (geti zs (k * 2))) ∧ w'.cell? ⟨Y, 1, none⟩ = some (.int .i64 (geti zs (k * 2 + 1)))) : World → Prop) w' from ⟨⟨(X2.out.below hb X2.out.lt).cell 0, (X2.out.below hb X2.out.lt).cell 1⟩, (Z1.out.below hb Z1.out.lt).cell 0, (Z1.out.below hb Z1.out.lt).cell 1⟩))
        clear hs
        refine wp_region_held_drew (S := (fun w' => (w'.cell? ⟨w.heap.size, 0, none⟩ = some (.slice A1 n1 c1) ∧ w'.cell? ⟨w.heap.size, 1, none⟩ = some (.slice A2 ts.length c2)) ∧ w'.cell? ⟨Y, 0, none⟩ = some (.int .i64 (geti zs (k * 2))) ∧ w'.cell? ⟨Y, 1, none⟩ = some (.int .i64 (geti zs (k * 2 + 1))))) (by kernel_rfl) ?_ (fun hHeld => ?_)
        · exact hCb.out _ (Below.refl _ _).drew
        refine wpAnyH_take (i := 0) (oi := { dst := some 14, op := Op.load 105 (Operand.tmp 6), type := 105, pos := "l07_fence.go:25", after := #[], guard := none }) (v := ?_) rfl (by kernel_rfl) (by kernel_rfl) (by kernel_rfl) (fun _ _ _ h => h) (Or.inl ⟨by rfl, ?_⟩) hHeld ?_
        rotate_left
        · (intro wq hSw; (try dsimp only at hSw); first | (go_simp; done) | (go_simp; with_reducible rfl))
        try simp only [Act.put, qa, qb, qc]
        refine wpAnyH_take (i := 1) (oi := { dst := some 15, op := Op.load 31 (Operand.tmp 2), type := 31, pos := "l07_fence.go:25", after := #[], guard := none }) (v := ?_) rfl (by kernel_rfl) (by kernel_rfl) (by kernel_rfl) (fun _ _ _ h => h) (Or.inl ⟨by rfl, ?_⟩) hHeld ?_
        rotate_left
        · (intro wq hSw; (try dsimp only at hSw); first | (go_simp; done) | (go_simp; with_reducible rfl))
        try simp only [Act.put, qa, qb, qc]
        refine wpAnyH_ready (rs := [2]) (by kernel_rfl) (by simp) ?_
        refine AllReadyH.cons (o := { dst := some 16, op := Op.call { callee := Callee.value (Operand.func 139), args := #[Operand.tmp 14, Operand.tmp 15], argTypes := #[105, 31] }, type := 4, pos := "l07_fence.go:25", after := #[{ on := 0, ground := Ground.data }, { on := 1, ground := Ground.data }], guard := none }) rfl (fun K hK => ?_) AllReadyH.nil
        go_simp
        go_at_call 139; have ks := standsIn_any (geti zs (k * 2)) (geti zs (k * 2 + 1)) A1 A2 n1 c1 c2 ts _ w2.drew hlt2.out hT2.out; rw [hst.out] at ks; refine ks.mono ?_; rintro e w3 ⟨rfl, hb3⟩; have hb3 := hide (show Below w2.heap.size w2 w3 from ((Below.refl _ _).drew).trans hb3); have B3 := hide (B2.out.trans (hb3.out.mono hzW)); clear ks
        refine hK.out _ _ ?_ (fun hHeldN => ?_)
        · exact hCb.out _ hb3.out
        clear hK K hHeld
        have hHeld := hHeldN
        clear hHeldN
        try simp only [Act.put, qa, qb, qc]
        refine wpAnyH_take (i := 3) (oi := { dst := some 17, op := Op.unOp UnOp.not 4 (Operand.tmp 16), type := 4, pos := "l07_fence.go:25", after := #[{ on := 2, ground := Ground.data }], guard := none }) (v := ?_) rfl (by kernel_rfl) (by kernel_rfl) (by kernel_rfl) (fun _ _ _ h => h) (Or.inl ⟨by rfl, ?_⟩) hHeld ?_
        rotate_left
        · (intro wq hSw; (try dsimp only at hSw); first | (go_simp; done) | (go_simp; with_reducible rfl))
        try simp only [Act.put, qa, qb, qc]
        refine wpAnyH_take (i := 4) (oi := { dst := some 18, op := Op.move (Operand.tmp 17), type := 4, pos := "l07_fence.go:25", after := #[{ on := 3, ground := Ground.data }, { on := 2, ground := Ground.chain }], guard := none }) (v := ?_) rfl (by kernel_rfl) (by kernel_rfl) (by kernel_rfl) (fun _ _ _ h => h) (Or.inl ⟨by rfl, ?_⟩) hHeld ?_
        rotate_left
        · (intro wq hSw; (try dsimp only at hSw); first | (go_simp; done) | (go_simp; with_reducible rfl))
        try simp only [Act.put, qa, qb, qc]
        refine wpAnyH_take (i := 5) (oi := { dst := some 19, op := Op.move (Operand.tmp 5), type := 3, pos := "l07_fence.go:25", after := #[{ on := 4, ground := Ground.guard }], guard := some (4, false) }) (v := undef) rfl (by kernel_rfl) (by kernel_rfl) (by kernel_rfl) (fun _ _ _ h => h) (Or.inr ⟨by rfl, rfl⟩) hHeld ?_
        try simp only [Act.put, qa, qb, qc]
        refine wpAnyH_take (i := 6) (oi := { dst := some 20, op := Op.binOp BinOp.gtr 3 (Operand.tmp 19) (Operand.const (Value.int IntKind.i64 0)) 3, type := 4, pos := "l07_fence.go:25", after := #[{ on := 5, ground := Ground.data }, { on := 4, ground := Ground.guard }], guard := some (4, false) }) (v := undef) rfl (by kernel_rfl) (by kernel_rfl) (by kernel_rfl) (fun _ _ _ h => h) (Or.inr ⟨by rfl, rfl⟩) hHeld ?_
        try simp only [Act.put, qa, qb, qc]
        refine wpAnyH_take (i := 7) (oi := { dst := some 21, op := Op.move (Operand.tmp 20), type := 4, pos := "l07_fence.go:25", after := #[{ on := 6, ground := Ground.data }, { on := 4, ground := Ground.chain }, { on := 4, ground := Ground.guard }], guard := some (4, false) }) (v := undef) rfl (by kernel_rfl) (by kernel_rfl) (by kernel_rfl) (fun _ _ _ h => h) (Or.inr ⟨by rfl, rfl⟩) hHeld ?_
        try simp only [Act.put, qa, qb, qc]
        refine wpAnyH_take (i := 8) (oi := { dst := some 22, op := Op.move (Operand.tmp 1), type := 35, pos := "l07_fence.go:25", after := #[{ on := 7, ground := Ground.guard }], guard := some (7, true) }) (v := undef) rfl (by kernel_rfl) (by kernel_rfl) (by kernel_rfl) (fun _ _ _ h => h) (Or.inr ⟨by rfl, rfl⟩) hHeld ?_
        try simp only [Act.put, qa, qb, qc]
        refine wpAnyH_take (i := 9) (oi := { dst := some 23, op := Op.move (Operand.tmp 5), type := 3, pos := "l07_fence.go:25", after := #[{ on := 7, ground := Ground.guard }], guard := some (7, true) }) (v := undef) rfl (by kernel_rfl) (by kernel_rfl) (by kernel_rfl) (fun _ _ _ h => h) (Or.inr ⟨by rfl, rfl⟩) hHeld ?_
        try simp only [Act.put, qa, qb, qc]
        refine wpAnyH_take (i := 10) (oi := { dst := some 24, op := Op.binOp BinOp.sub 3 (Operand.tmp 23) (Operand.const (Value.int IntKind.i64 1)) 3, type := 3, pos := "l07_fence.go:25", after := #[{ on := 9, ground := Ground.data }, { on := 7, ground := Ground.guard }], guard := some (7, true) }) (v := undef) rfl (by kernel_rfl) (by kernel_rfl) (by kernel_rfl) (fun _ _ _ h => h) (Or.inr ⟨by rfl, rfl⟩) hHeld ?_
        try simp only [Act.put, qa, qb, qc]
        refine wpAnyH_take (i := 11) (oi := { dst := some 25, op := Op.indexAddr 35 (Operand.tmp 22) (Operand.tmp 24), type := 0, pos := "l07_fence.go:25", after := #[{ on := 8, ground := Ground.data }, { on := 10, ground := Ground.data }, { on := 7, ground := Ground.guard }], guard := some (7, true) }) (v := undef) rfl (by kernel_rfl) (by kernel_rfl) (by kernel_rfl) (fun _ _ _ h => h) (Or.inr ⟨by rfl, rfl⟩) hHeld ?_
        try simp only [Act.put, qa, qb, qc]
        refine wpAnyH_take (i := 12) (oi := { dst := some 26, op := Op.load 105 (Operand.tmp 25), type := 105, pos := "l07_fence.go:25", after := #[{ on := 11, ground := Ground.data }, { on := 7, ground := Ground.guard }], guard := some (7, true) }) (v := undef) rfl (by kernel_rfl) (by kernel_rfl) (by kernel_rfl) (fun _ _ _ h => h) (Or.inr ⟨by rfl, rfl⟩) hHeld ?_
        try simp only [Act.put, qa, qb, qc]
        refine wpAnyH_take (i := 13) (oi := { dst := some 27, op := Op.load 105 (Operand.tmp 6), type := 105, pos := "l07_fence.go:25", after := #[{ on := 7, ground := Ground.guard }], guard := some (7, true) }) (v := undef) rfl (by kernel_rfl) (by kernel_rfl) (by kernel_rfl) (fun _ _ _ h => h) (Or.inr ⟨by rfl, rfl⟩) hHeld ?_
        try simp only [Act.put, qa, qb, qc]
        refine wpAnyH_take (i := 14) (oi := { dst := some 28, op := Op.call { callee := Callee.value (Operand.func 140), args := #[Operand.tmp 26, Operand.tmp 27], argTypes := #[105, 105] }, type := 3, pos := "l07_fence.go:25", after := #[{ on := 12, ground := Ground.data }, { on := 13, ground := Ground.data }, { on := 7, ground := Ground.chain }, { on := 7, ground := Ground.guard }], guard := some (7, true) }) (v := undef) rfl (by kernel_rfl) (by kernel_rfl) (by kernel_rfl) (fun _ _ _ h => h) (Or.inr ⟨by rfl, rfl⟩) hHeld ?_
        try simp only [Act.put, qa, qb, qc]
        refine wpAnyH_take (i := 15) (oi := { dst := some 29, op := Op.binOp BinOp.geq 3 (Operand.tmp 28) (Operand.const (Value.int IntKind.i64 0)) 3, type := 4, pos := "l07_fence.go:25", after := #[{ on := 14, ground := Ground.data }, { on := 7, ground := Ground.guard }], guard := some (7, true) }) (v := undef) rfl (by kernel_rfl) (by kernel_rfl) (by kernel_rfl) (fun _ _ _ h => h) (Or.inr ⟨by rfl, rfl⟩) hHeld ?_
        try simp only [Act.put, qa, qb, qc]
        refine wpAnyH_take (i := 16) (oi := { dst := some 30, op := Op.pick (Operand.tmp 21) (Operand.tmp 29) (Operand.const (Value.bool false)), type := 4, pos := "l07_fence.go:25", after := #[{ on := 7, ground := Ground.data }, { on := 15, ground := Ground.data }, { on := 4, ground := Ground.guard }], guard := some (4, false) }) (v := undef) rfl (by kernel_rfl) (by kernel_rfl) (by kernel_rfl) (fun _ _ _ h => h) (Or.inr ⟨by rfl, rfl⟩) hHeld ?_
        try simp only [Act.put, qa, qb, qc]
        refine wpAnyH_take (i := 17) (oi := { dst := some 31, op := Op.pick (Operand.tmp 18) (Operand.const (Value.bool true)) (Operand.tmp 30), type := 4, pos := "l07_fence.go:25", after := #[{ on := 4, ground := Ground.data }, { on := 16, ground := Ground.data }], guard := none }) (v := ?_) rfl (by kernel_rfl) (by kernel_rfl) (by kernel_rfl) (fun _ _ _ h => h) (Or.inl ⟨by rfl, ?_⟩) hHeld ?_
        rotate_left
        · (intro wq hSw; (try dsimp only at hSw); first | (go_simp; done) | (go_simp; with_reducible rfl))
        try simp only [Act.put, qa, qb, qc]
        refine wpAnyH_done (by kernel_rfl) ?_ _
        clear hHeld
        go_wp2_with fail
        go_ret
        exact ⟨ret_bool hE.out.symm, hB0.out.trans (B3.out.mono (Nat.le_of_lt hlW))⟩
      · have hst := hide hs
        rcases Nat.eq_zero_or_pos k with rfl | hpos
        · have hE := hide (show spotB ts zs 0 = true from by unfold spotB spT spA; rw [hs]; rfl)
          have hCb := hide (fun w' (hb : Below w2.heap.size w2 w') => (show ((fun w' => (w'.cell? ⟨w.heap.size, 0, none⟩ = some (.slice A1 n1 c1) ∧ w'.cell? ⟨w.heap.size, 1, none⟩ = some (.slice A2 ts.length c2)) ∧ w'.cell? ⟨Y, 0, none⟩ = some (.int .i64 (geti zs (0 * 2))) ∧ w'.cell? ⟨Y, 1, none⟩ = some (.int .i64 (geti zs (0 * 2 + 1)))) : World → Prop) w' from ⟨⟨(X2.out.below hb X2.out.lt).cell 0, (X2.out.below hb X2.out.lt).cell 1⟩, (Z1.out.below hb Z1.out.lt).cell 0, (Z1.out.below hb Z1.out.lt).cell 1⟩))
          clear hs
          refine wp_region_held_drew (S := (fun w' => (w'.cell? ⟨w.heap.size, 0, none⟩ = some (.slice A1 n1 c1) ∧ w'.cell? ⟨w.heap.size, 1, none⟩ = some (.slice A2 ts.length c2)) ∧ w'.cell? ⟨Y, 0, none⟩ = some (.int .i64 (geti zs (0 * 2))) ∧ w'.cell? ⟨Y, 1, none⟩ = some (.int .i64 (geti zs (0 * 2 + 1))))) (by kernel_rfl) ?_ (fun hHeld => ?_)
          · exact hCb.out _ (Below.refl _ _).drew
          refine wpAnyH_take (i := 0) (oi := { dst := some 14, op := Op.load 105 (Operand.tmp 6), type := 105, pos := "l07_fence.go:25", after := #[], guard := none }) (v := ?_) rfl (by kernel_rfl) (by kernel_rfl) (by kernel_rfl) (fun _ _ _ h => h) (Or.inl ⟨by rfl, ?_⟩) hHeld ?_
          rotate_left
          · (intro wq hSw; (try dsimp only at hSw); first | (go_simp; done) | (go_simp; with_reducible rfl))
          try simp only [Act.put, qa, qb, qc]
          refine wpAnyH_take (i := 1) (oi := { dst := some 15, op := Op.load 31 (Operand.tmp 2), type := 31, pos := "l07_fence.go:25", after := #[], guard := none }) (v := ?_) rfl (by kernel_rfl) (by kernel_rfl) (by kernel_rfl) (fun _ _ _ h => h) (Or.inl ⟨by rfl, ?_⟩) hHeld ?_
          rotate_left
          · (intro wq hSw; (try dsimp only at hSw); first | (go_simp; done) | (go_simp; with_reducible rfl))
          try simp only [Act.put, qa, qb, qc]
          refine wpAnyH_ready (rs := [2]) (by kernel_rfl) (by simp) ?_
          refine AllReadyH.cons (o := { dst := some 16, op := Op.call { callee := Callee.value (Operand.func 139), args := #[Operand.tmp 14, Operand.tmp 15], argTypes := #[105, 31] }, type := 4, pos := "l07_fence.go:25", after := #[{ on := 0, ground := Ground.data }, { on := 1, ground := Ground.data }], guard := none }) rfl (fun K hK => ?_) AllReadyH.nil
          go_simp
          go_at_call 139; have ks := standsIn_any (geti zs (0 * 2)) (geti zs (0 * 2 + 1)) A1 A2 n1 c1 c2 ts _ w2.drew hlt2.out hT2.out; rw [hst.out] at ks; refine ks.mono ?_; rintro e w3 ⟨rfl, hb3⟩; have hb3 := hide (show Below w2.heap.size w2 w3 from ((Below.refl _ _).drew).trans hb3); have B3 := hide (B2.out.trans (hb3.out.mono hzW)); clear ks
          refine hK.out _ _ ?_ (fun hHeldN => ?_)
          · exact hCb.out _ hb3.out
          clear hK K hHeld
          have hHeld := hHeldN
          clear hHeldN
          try simp only [Act.put, qa, qb, qc]
          refine wpAnyH_take (i := 3) (oi := { dst := some 17, op := Op.unOp UnOp.not 4 (Operand.tmp 16), type := 4, pos := "l07_fence.go:25", after := #[{ on := 2, ground := Ground.data }], guard := none }) (v := ?_) rfl (by kernel_rfl) (by kernel_rfl) (by kernel_rfl) (fun _ _ _ h => h) (Or.inl ⟨by rfl, ?_⟩) hHeld ?_
          rotate_left
          · (intro wq hSw; (try dsimp only at hSw); first | (go_simp; done) | (go_simp; with_reducible rfl))
          try simp only [Act.put, qa, qb, qc]
          refine wpAnyH_take (i := 4) (oi := { dst := some 18, op := Op.move (Operand.tmp 17), type := 4, pos := "l07_fence.go:25", after := #[{ on := 3, ground := Ground.data }, { on := 2, ground := Ground.chain }], guard := none }) (v := ?_) rfl (by kernel_rfl) (by kernel_rfl) (by kernel_rfl) (fun _ _ _ h => h) (Or.inl ⟨by rfl, ?_⟩) hHeld ?_
          rotate_left
          · (intro wq hSw; (try dsimp only at hSw); first | (go_simp; done) | (go_simp; with_reducible rfl))
          try simp only [Act.put, qa, qb, qc]
          refine wpAnyH_take (i := 5) (oi := { dst := some 19, op := Op.move (Operand.tmp 5), type := 3, pos := "l07_fence.go:25", after := #[{ on := 4, ground := Ground.guard }], guard := some (4, false) }) (v := ?_) rfl (by kernel_rfl) (by kernel_rfl) (by kernel_rfl) (fun _ _ _ h => h) (Or.inl ⟨by rfl, ?_⟩) hHeld ?_
          rotate_left
          · (intro wq hSw; (try dsimp only at hSw); first | (go_simp; done) | (go_simp; with_reducible rfl))
          try simp only [Act.put, qa, qb, qc]
          refine wpAnyH_take (i := 6) (oi := { dst := some 20, op := Op.binOp BinOp.gtr 3 (Operand.tmp 19) (Operand.const (Value.int IntKind.i64 0)) 3, type := 4, pos := "l07_fence.go:25", after := #[{ on := 5, ground := Ground.data }, { on := 4, ground := Ground.guard }], guard := some (4, false) }) (v := ?_) rfl (by kernel_rfl) (by kernel_rfl) (by kernel_rfl) (fun _ _ _ h => h) (Or.inl ⟨by rfl, ?_⟩) hHeld ?_
          rotate_left
          · (intro wq hSw; (try dsimp only at hSw); first | (go_simp; done) | (go_simp; with_reducible rfl))
          try simp only [Act.put, qa, qb, qc]
          refine wpAnyH_take (i := 7) (oi := { dst := some 21, op := Op.move (Operand.tmp 20), type := 4, pos := "l07_fence.go:25", after := #[{ on := 6, ground := Ground.data }, { on := 4, ground := Ground.chain }, { on := 4, ground := Ground.guard }], guard := some (4, false) }) (v := ?_) rfl (by kernel_rfl) (by kernel_rfl) (by kernel_rfl) (fun _ _ _ h => h) (Or.inl ⟨by rfl, ?_⟩) hHeld ?_
          rotate_left
          · (intro wq hSw; (try dsimp only at hSw); first | (go_simp; done) | (go_simp; with_reducible rfl))
          try simp only [Act.put, qa, qb, qc]
          refine wpAnyH_take (i := 8) (oi := { dst := some 22, op := Op.move (Operand.tmp 1), type := 35, pos := "l07_fence.go:25", after := #[{ on := 7, ground := Ground.guard }], guard := some (7, true) }) (v := undef) rfl (by kernel_rfl) (by kernel_rfl) (by kernel_rfl) (fun _ _ _ h => h) (Or.inr ⟨by rfl, rfl⟩) hHeld ?_
          try simp only [Act.put, qa, qb, qc]
          refine wpAnyH_take (i := 9) (oi := { dst := some 23, op := Op.move (Operand.tmp 5), type := 3, pos := "l07_fence.go:25", after := #[{ on := 7, ground := Ground.guard }], guard := some (7, true) }) (v := undef) rfl (by kernel_rfl) (by kernel_rfl) (by kernel_rfl) (fun _ _ _ h => h) (Or.inr ⟨by rfl, rfl⟩) hHeld ?_
          try simp only [Act.put, qa, qb, qc]
          refine wpAnyH_take (i := 10) (oi := { dst := some 24, op := Op.binOp BinOp.sub 3 (Operand.tmp 23) (Operand.const (Value.int IntKind.i64 1)) 3, type := 3, pos := "l07_fence.go:25", after := #[{ on := 9, ground := Ground.data }, { on := 7, ground := Ground.guard }], guard := some (7, true) }) (v := undef) rfl (by kernel_rfl) (by kernel_rfl) (by kernel_rfl) (fun _ _ _ h => h) (Or.inr ⟨by rfl, rfl⟩) hHeld ?_
          try simp only [Act.put, qa, qb, qc]
          refine wpAnyH_take (i := 11) (oi := { dst := some 25, op := Op.indexAddr 35 (Operand.tmp 22) (Operand.tmp 24), type := 0, pos := "l07_fence.go:25", after := #[{ on := 8, ground := Ground.data }, { on := 10, ground := Ground.data }, { on := 7, ground := Ground.guard }], guard := some (7, true) }) (v := undef) rfl (by kernel_rfl) (by kernel_rfl) (by kernel_rfl) (fun _ _ _ h => h) (Or.inr ⟨by rfl, rfl⟩) hHeld ?_
          try simp only [Act.put, qa, qb, qc]
          refine wpAnyH_take (i := 12) (oi := { dst := some 26, op := Op.load 105 (Operand.tmp 25), type := 105, pos := "l07_fence.go:25", after := #[{ on := 11, ground := Ground.data }, { on := 7, ground := Ground.guard }], guard := some (7, true) }) (v := undef) rfl (by kernel_rfl) (by kernel_rfl) (by kernel_rfl) (fun _ _ _ h => h) (Or.inr ⟨by rfl, rfl⟩) hHeld ?_
          try simp only [Act.put, qa, qb, qc]
          refine wpAnyH_take (i := 13) (oi := { dst := some 27, op := Op.load 105 (Operand.tmp 6), type := 105, pos := "l07_fence.go:25", after := #[{ on := 7, ground := Ground.guard }], guard := some (7, true) }) (v := undef) rfl (by kernel_rfl) (by kernel_rfl) (by kernel_rfl) (fun _ _ _ h => h) (Or.inr ⟨by rfl, rfl⟩) hHeld ?_
          try simp only [Act.put, qa, qb, qc]
          refine wpAnyH_take (i := 14) (oi := { dst := some 28, op := Op.call { callee := Callee.value (Operand.func 140), args := #[Operand.tmp 26, Operand.tmp 27], argTypes := #[105, 105] }, type := 3, pos := "l07_fence.go:25", after := #[{ on := 12, ground := Ground.data }, { on := 13, ground := Ground.data }, { on := 7, ground := Ground.chain }, { on := 7, ground := Ground.guard }], guard := some (7, true) }) (v := undef) rfl (by kernel_rfl) (by kernel_rfl) (by kernel_rfl) (fun _ _ _ h => h) (Or.inr ⟨by rfl, rfl⟩) hHeld ?_
          try simp only [Act.put, qa, qb, qc]
          refine wpAnyH_take (i := 15) (oi := { dst := some 29, op := Op.binOp BinOp.geq 3 (Operand.tmp 28) (Operand.const (Value.int IntKind.i64 0)) 3, type := 4, pos := "l07_fence.go:25", after := #[{ on := 14, ground := Ground.data }, { on := 7, ground := Ground.guard }], guard := some (7, true) }) (v := undef) rfl (by kernel_rfl) (by kernel_rfl) (by kernel_rfl) (fun _ _ _ h => h) (Or.inr ⟨by rfl, rfl⟩) hHeld ?_
          try simp only [Act.put, qa, qb, qc]
          refine wpAnyH_take (i := 16) (oi := { dst := some 30, op := Op.pick (Operand.tmp 21) (Operand.tmp 29) (Operand.const (Value.bool false)), type := 4, pos := "l07_fence.go:25", after := #[{ on := 7, ground := Ground.data }, { on := 15, ground := Ground.data }, { on := 4, ground := Ground.guard }], guard := some (4, false) }) (v := ?_) rfl (by kernel_rfl) (by kernel_rfl) (by kernel_rfl) (fun _ _ _ h => h) (Or.inl ⟨by rfl, ?_⟩) hHeld ?_
          rotate_left
          · (intro wq hSw; (try dsimp only at hSw); first | (go_simp; done) | (go_simp; with_reducible rfl))
          try simp only [Act.put, qa, qb, qc]
          refine wpAnyH_take (i := 17) (oi := { dst := some 31, op := Op.pick (Operand.tmp 18) (Operand.const (Value.bool true)) (Operand.tmp 30), type := 4, pos := "l07_fence.go:25", after := #[{ on := 4, ground := Ground.data }, { on := 16, ground := Ground.data }], guard := none }) (v := ?_) rfl (by kernel_rfl) (by kernel_rfl) (by kernel_rfl) (fun _ _ _ h => h) (Or.inl ⟨by rfl, ?_⟩) hHeld ?_
          rotate_left
          · (intro wq hSw; (try dsimp only at hSw); first | (go_simp; done) | (go_simp; with_reducible rfl))
          try simp only [Act.put, qa, qb, qc]
          refine wpAnyH_done (by kernel_rfl) ?_ _
          clear hHeld
          go_wp2_with fail
          go_roundw
          case rel => exact ⟨1, by omega, by go_num, hide (fun j hj1 => (show 0 = j by omega) ▸ hE.out), B3⟩
          case measure => simp [intOf]; omega
        · obtain ⟨j, rfl⟩ : ∃ j, k = j + 1 := ⟨k - 1, by omega⟩
          obtain ⟨b9, off9, e9, hbS2, e0, e1⟩ := hA2.out.two hz (show j < n by omega)
          cases e9
          have hl9 := hlt2.out b hbS2
          have hCb := hide (fun w' (hb : Below w2.heap.size w2 w') => (show ((fun w' => (w'.cell? ⟨w.heap.size, 0, none⟩ = some (.slice A1 n1 c1) ∧ w'.cell? ⟨w.heap.size, 1, none⟩ = some (.slice A2 ts.length c2)) ∧ (w'.cell? ⟨Y, 0, none⟩ = some (.int .i64 (geti zs ((j + 1) * 2))) ∧ w'.cell? ⟨Y, 1, none⟩ = some (.int .i64 (geti zs ((j + 1) * 2 + 1)))) ∧ w'.cell? ⟨b, off + j * 2, none⟩ = some (.int .i64 (geti zs (j * 2))) ∧ w'.cell? ⟨b, off + j * 2 + 1, none⟩ = some (.int .i64 (geti zs (j * 2 + 1)))) : World → Prop) w' from ⟨⟨(X2.out.below hb X2.out.lt).cell 0, (X2.out.below hb X2.out.lt).cell 1⟩, ⟨(Z1.out.below hb Z1.out.lt).cell 0, (Z1.out.below hb Z1.out.lt).cell 1⟩, (hb.cell (p := ⟨b, off + j * 2, none⟩) hl9).trans e0, (hb.cell (p := ⟨b, off + j * 2 + 1, none⟩) hl9).trans e1⟩))
          have hS2 := hide (show spotB ts zs (j + 1) = aheadB (geti zs (j * 2)) (geti zs (j * 2 + 1)) (geti zs ((j + 1) * 2)) (geti zs ((j + 1) * 2 + 1)) from by unfold spotB spT spA; rw [hs]; simp)
          have hca := cmpS_ahead (geti zs (j * 2)) (geti zs (j * 2 + 1)) (geti zs ((j + 1) * 2)) (geti zs ((j + 1) * 2 + 1))
          have hwj : IntKind.i64.wrap ((j : Int) + 1 - 1) = (j : Int) := by rw [show (j : Int) + 1 - 1 = (j : Int) by omega]; exact (IntWalk.i64_left _).trans (by unfold RowKit.wrap64; omega)
          have hwj2 : IntKind.i64.wrap (j : Int) = (j : Int) := (IntWalk.i64_left _).trans (by unfold RowKit.wrap64; omega)
          have hjn : j < n := by omega
          have hpos' : decide ((0 : Int) < (j : Int) + 1) = true := decide_eq_true (by omega)
          clear hs hpos e0 e1
          cases hq : aheadB (geti zs (j * 2)) (geti zs (j * 2 + 1)) (geti zs ((j + 1) * 2)) (geti zs ((j + 1) * 2 + 1))
          · have hE := hide (spotB_no hkn (show spotB ts zs (j + 1) = false from by rw [hS2.out, hq]))
            rw [hq] at hca
            simp only [Bool.not_false] at hca
            clear hq
            refine wp_region_held_drew (S := (fun w' => (w'.cell? ⟨w.heap.size, 0, none⟩ = some (.slice A1 n1 c1) ∧ w'.cell? ⟨w.heap.size, 1, none⟩ = some (.slice A2 ts.length c2)) ∧ (w'.cell? ⟨Y, 0, none⟩ = some (.int .i64 (geti zs ((j + 1) * 2))) ∧ w'.cell? ⟨Y, 1, none⟩ = some (.int .i64 (geti zs ((j + 1) * 2 + 1)))) ∧ w'.cell? ⟨b, off + j * 2, none⟩ = some (.int .i64 (geti zs (j * 2))) ∧ w'.cell? ⟨b, off + j * 2 + 1, none⟩ = some (.int .i64 (geti zs (j * 2 + 1))))) (by kernel_rfl) ?_ (fun hHeld => ?_)
            · exact hCb.out _ (Below.refl _ _).drew
            refine wpAnyH_take (i := 0) (oi := { dst := some 14, op := Op.load 105 (Operand.tmp 6), type := 105, pos := "l07_fence.go:25", after := #[], guard := none }) (v := ?_) rfl (by kernel_rfl) (by kernel_rfl) (by kernel_rfl) (fun _ _ _ h => h) (Or.inl ⟨by rfl, ?_⟩) hHeld ?_
            rotate_left
            · (intro wq hSw; (try dsimp only at hSw); first | (go_simp; done) | (go_simp; with_reducible rfl))
            try simp only [Act.put, qa, qb, qc]
            refine wpAnyH_take (i := 1) (oi := { dst := some 15, op := Op.load 31 (Operand.tmp 2), type := 31, pos := "l07_fence.go:25", after := #[], guard := none }) (v := ?_) rfl (by kernel_rfl) (by kernel_rfl) (by kernel_rfl) (fun _ _ _ h => h) (Or.inl ⟨by rfl, ?_⟩) hHeld ?_
            rotate_left
            · (intro wq hSw; (try dsimp only at hSw); first | (go_simp; done) | (go_simp; with_reducible rfl))
            try simp only [Act.put, qa, qb, qc]
            refine wpAnyH_ready (rs := [2]) (by kernel_rfl) (by simp) ?_
            refine AllReadyH.cons (o := { dst := some 16, op := Op.call { callee := Callee.value (Operand.func 139), args := #[Operand.tmp 14, Operand.tmp 15], argTypes := #[105, 31] }, type := 4, pos := "l07_fence.go:25", after := #[{ on := 0, ground := Ground.data }, { on := 1, ground := Ground.data }], guard := none }) rfl (fun K hK => ?_) AllReadyH.nil
            go_simp
            go_at_call 139; have ks := standsIn_any (geti zs ((j + 1) * 2)) (geti zs ((j + 1) * 2 + 1)) A1 A2 n1 c1 c2 ts _ w2.drew hlt2.out hT2.out; rw [hst.out] at ks; refine ks.mono ?_; rintro e w3 ⟨rfl, hb3⟩; have hb3 := hide (show Below w2.heap.size w2 w3 from ((Below.refl _ _).drew).trans hb3); have B3 := hide (B2.out.trans (hb3.out.mono hzW)); clear ks
            refine hK.out _ _ ?_ (fun hHeldN => ?_)
            · exact hCb.out _ hb3.out
            clear hK K hHeld
            have hHeld := hHeldN
            clear hHeldN
            try simp only [Act.put, qa, qb, qc]
            refine wpAnyH_take (i := 3) (oi := { dst := some 17, op := Op.unOp UnOp.not 4 (Operand.tmp 16), type := 4, pos := "l07_fence.go:25", after := #[{ on := 2, ground := Ground.data }], guard := none }) (v := ?_) rfl (by kernel_rfl) (by kernel_rfl) (by kernel_rfl) (fun _ _ _ h => h) (Or.inl ⟨by rfl, ?_⟩) hHeld ?_
            rotate_left
            · (intro wq hSw; (try dsimp only at hSw); first | (go_simp; done) | (go_simp; with_reducible rfl))
            try simp only [Act.put, qa, qb, qc]
            refine wpAnyH_take (i := 4) (oi := { dst := some 18, op := Op.move (Operand.tmp 17), type := 4, pos := "l07_fence.go:25", after := #[{ on := 3, ground := Ground.data }, { on := 2, ground := Ground.chain }], guard := none }) (v := ?_) rfl (by kernel_rfl) (by kernel_rfl) (by kernel_rfl) (fun _ _ _ h => h) (Or.inl ⟨by rfl, ?_⟩) hHeld ?_
            rotate_left
            · (intro wq hSw; (try dsimp only at hSw); first | (go_simp; done) | (go_simp; with_reducible rfl))
            try simp only [Act.put, qa, qb, qc]
            refine wpAnyH_take (i := 5) (oi := { dst := some 19, op := Op.move (Operand.tmp 5), type := 3, pos := "l07_fence.go:25", after := #[{ on := 4, ground := Ground.guard }], guard := some (4, false) }) (v := ?_) rfl (by kernel_rfl) (by kernel_rfl) (by kernel_rfl) (fun _ _ _ h => h) (Or.inl ⟨by rfl, ?_⟩) hHeld ?_
            rotate_left
            · (intro wq hSw; (try dsimp only at hSw); first | (go_simp; done) | (go_simp; with_reducible rfl))
            try simp only [Act.put, qa, qb, qc]
            refine wpAnyH_take (i := 6) (oi := { dst := some 20, op := Op.binOp BinOp.gtr 3 (Operand.tmp 19) (Operand.const (Value.int IntKind.i64 0)) 3, type := 4, pos := "l07_fence.go:25", after := #[{ on := 5, ground := Ground.data }, { on := 4, ground := Ground.guard }], guard := some (4, false) }) (v := ?_) rfl (by kernel_rfl) (by kernel_rfl) (by kernel_rfl) (fun _ _ _ h => h) (Or.inl ⟨by rfl, ?_⟩) hHeld ?_
            rotate_left
            · (intro wq hSw; (try dsimp only at hSw); first | (go_simp; done) | (go_simp; with_reducible rfl))
            try simp only [Act.put, qa, qb, qc]
            refine wpAnyH_take (i := 7) (oi := { dst := some 21, op := Op.move (Operand.tmp 20), type := 4, pos := "l07_fence.go:25", after := #[{ on := 6, ground := Ground.data }, { on := 4, ground := Ground.chain }, { on := 4, ground := Ground.guard }], guard := some (4, false) }) (v := ?_) rfl (by kernel_rfl) (by kernel_rfl) (by kernel_rfl) (fun _ _ _ h => h) (Or.inl ⟨by rfl, ?_⟩) hHeld ?_
            rotate_left
            · (intro wq hSw; (try dsimp only at hSw); first | (go_simp; done) | (go_simp; with_reducible rfl))
            try simp only [Act.put, qa, qb, qc]
            refine wpAnyH_take (i := 8) (oi := { dst := some 22, op := Op.move (Operand.tmp 1), type := 35, pos := "l07_fence.go:25", after := #[{ on := 7, ground := Ground.guard }], guard := some (7, true) }) (v := ?_) rfl (by kernel_rfl) (by kernel_rfl) (by kernel_rfl) (fun _ _ _ h => h) (Or.inl ⟨by rfl, ?_⟩) hHeld ?_
            rotate_left
            · (intro wq hSw; (try dsimp only at hSw); first | (go_simp; done) | (go_simp; with_reducible rfl))
            try simp only [Act.put, qa, qb, qc]
            refine wpAnyH_take (i := 9) (oi := { dst := some 23, op := Op.move (Operand.tmp 5), type := 3, pos := "l07_fence.go:25", after := #[{ on := 7, ground := Ground.guard }], guard := some (7, true) }) (v := ?_) rfl (by kernel_rfl) (by kernel_rfl) (by kernel_rfl) (fun _ _ _ h => h) (Or.inl ⟨by rfl, ?_⟩) hHeld ?_
            rotate_left
            · (intro wq hSw; (try dsimp only at hSw); first | (go_simp; done) | (go_simp; with_reducible rfl))
            try simp only [Act.put, qa, qb, qc]
            refine wpAnyH_take (i := 10) (oi := { dst := some 24, op := Op.binOp BinOp.sub 3 (Operand.tmp 23) (Operand.const (Value.int IntKind.i64 1)) 3, type := 3, pos := "l07_fence.go:25", after := #[{ on := 9, ground := Ground.data }, { on := 7, ground := Ground.guard }], guard := some (7, true) }) (v := ?_) rfl (by kernel_rfl) (by kernel_rfl) (by kernel_rfl) (fun _ _ _ h => h) (Or.inl ⟨by rfl, ?_⟩) hHeld ?_
            rotate_left
            · (intro wq hSw; (try dsimp only at hSw); first | (go_simp; done) | (go_simp; with_reducible rfl))
            try simp only [Act.put, qa, qb, qc]
            refine wpAnyH_take (i := 11) (oi := { dst := some 25, op := Op.indexAddr 35 (Operand.tmp 22) (Operand.tmp 24), type := 0, pos := "l07_fence.go:25", after := #[{ on := 8, ground := Ground.data }, { on := 10, ground := Ground.data }, { on := 7, ground := Ground.guard }], guard := some (7, true) }) (v := ?_) rfl (by kernel_rfl) (by kernel_rfl) (by kernel_rfl) (fun _ _ _ h => h) (Or.inl ⟨by rfl, ?_⟩) hHeld ?_
            rotate_left
            · (intro wq hSw; (try dsimp only at hSw); first | (go_simp; done) | (go_simp; with_reducible rfl))
            try simp only [Act.put, qa, qb, qc]
            refine wpAnyH_take (i := 12) (oi := { dst := some 26, op := Op.load 105 (Operand.tmp 25), type := 105, pos := "l07_fence.go:25", after := #[{ on := 11, ground := Ground.data }, { on := 7, ground := Ground.guard }], guard := some (7, true) }) (v := ?_) rfl (by kernel_rfl) (by kernel_rfl) (by kernel_rfl) (fun _ _ _ h => h) (Or.inl ⟨by rfl, ?_⟩) hHeld ?_
            rotate_left
            · (intro wq hSw; (try dsimp only at hSw); first | (go_simp; done) | (go_simp; with_reducible rfl))
            try simp only [Act.put, qa, qb, qc]
            refine wpAnyH_take (i := 13) (oi := { dst := some 27, op := Op.load 105 (Operand.tmp 6), type := 105, pos := "l07_fence.go:25", after := #[{ on := 7, ground := Ground.guard }], guard := some (7, true) }) (v := ?_) rfl (by kernel_rfl) (by kernel_rfl) (by kernel_rfl) (fun _ _ _ h => h) (Or.inl ⟨by rfl, ?_⟩) hHeld ?_
            rotate_left
            · (intro wq hSw; (try dsimp only at hSw); first | (go_simp; done) | (go_simp; with_reducible rfl))
            try simp only [Act.put, qa, qb, qc]
            refine wpAnyH_ready (rs := [14]) (by kernel_rfl) (by simp) ?_
            refine AllReadyH.cons (o := { dst := some 28, op := Op.call { callee := Callee.value (Operand.func 140), args := #[Operand.tmp 26, Operand.tmp 27], argTypes := #[105, 105] }, type := 3, pos := "l07_fence.go:25", after := #[{ on := 12, ground := Ground.data }, { on := 13, ground := Ground.data }, { on := 7, ground := Ground.chain }, { on := 7, ground := Ground.guard }], guard := some (7, true) }) rfl (fun K hK => ?_) AllReadyH.nil
            go_simp
            go_at_call 140; refine (spCompare_any _ _ _ _ _).mono ?_; rintro e w4 ⟨rfl, hb4⟩; have B4 := hide (B3.out.trans (hb4.mono (by have := B3.out.size; omega))); have hb4 := hide (hb3.out.trans (hb4.mono hb3.out.size))
            refine hK.out _ _ ?_ (fun hHeldN => ?_)
            · exact hCb.out _ hb4.out
            clear hK K hHeld
            have hHeld := hHeldN
            clear hHeldN
            try simp only [Act.put, qa, qb, qc]
            refine wpAnyH_take (i := 15) (oi := { dst := some 29, op := Op.binOp BinOp.geq 3 (Operand.tmp 28) (Operand.const (Value.int IntKind.i64 0)) 3, type := 4, pos := "l07_fence.go:25", after := #[{ on := 14, ground := Ground.data }, { on := 7, ground := Ground.guard }], guard := some (7, true) }) (v := ?_) rfl (by kernel_rfl) (by kernel_rfl) (by kernel_rfl) (fun _ _ _ h => h) (Or.inl ⟨by rfl, ?_⟩) hHeld ?_
            rotate_left
            · (intro wq hSw; (try dsimp only at hSw); first | (go_simp; done) | (go_simp; with_reducible rfl))
            try simp only [Act.put, qa, qb, qc]
            refine wpAnyH_take (i := 16) (oi := { dst := some 30, op := Op.pick (Operand.tmp 21) (Operand.tmp 29) (Operand.const (Value.bool false)), type := 4, pos := "l07_fence.go:25", after := #[{ on := 7, ground := Ground.data }, { on := 15, ground := Ground.data }, { on := 4, ground := Ground.guard }], guard := some (4, false) }) (v := ?_) rfl (by kernel_rfl) (by kernel_rfl) (by kernel_rfl) (fun _ _ _ h => h) (Or.inl ⟨by rfl, ?_⟩) hHeld ?_
            rotate_left
            · (intro wq hSw; (try dsimp only at hSw); first | (go_simp; done) | (go_simp; with_reducible rfl))
            try simp only [Act.put, qa, qb, qc]
            refine wpAnyH_take (i := 17) (oi := { dst := some 31, op := Op.pick (Operand.tmp 18) (Operand.const (Value.bool true)) (Operand.tmp 30), type := 4, pos := "l07_fence.go:25", after := #[{ on := 4, ground := Ground.data }, { on := 16, ground := Ground.data }], guard := none }) (v := ?_) rfl (by kernel_rfl) (by kernel_rfl) (by kernel_rfl) (fun _ _ _ h => h) (Or.inl ⟨by rfl, ?_⟩) hHeld ?_
            rotate_left
            · (intro wq hSw; (try dsimp only at hSw); first | (go_simp; done) | (go_simp; with_reducible rfl))
            try simp only [Act.put, qa, qb, qc]
            refine wpAnyH_done (by kernel_rfl) ?_ _
            clear hHeld
            go_wp2_with fail
            go_ret
            exact ⟨ret_bool hE.out.symm, hB0.out.trans (B4.out.mono (Nat.le_of_lt hlW))⟩
          · have hE := hide (show spotB ts zs (j + 1) = true from by rw [hS2.out, hq])
            rw [hq] at hca
            simp only [Bool.not_true] at hca
            clear hq
            refine wp_region_held_drew (S := (fun w' => (w'.cell? ⟨w.heap.size, 0, none⟩ = some (.slice A1 n1 c1) ∧ w'.cell? ⟨w.heap.size, 1, none⟩ = some (.slice A2 ts.length c2)) ∧ (w'.cell? ⟨Y, 0, none⟩ = some (.int .i64 (geti zs ((j + 1) * 2))) ∧ w'.cell? ⟨Y, 1, none⟩ = some (.int .i64 (geti zs ((j + 1) * 2 + 1)))) ∧ w'.cell? ⟨b, off + j * 2, none⟩ = some (.int .i64 (geti zs (j * 2))) ∧ w'.cell? ⟨b, off + j * 2 + 1, none⟩ = some (.int .i64 (geti zs (j * 2 + 1))))) (by kernel_rfl) ?_ (fun hHeld => ?_)
            · exact hCb.out _ (Below.refl _ _).drew
            refine wpAnyH_take (i := 0) (oi := { dst := some 14, op := Op.load 105 (Operand.tmp 6), type := 105, pos := "l07_fence.go:25", after := #[], guard := none }) (v := ?_) rfl (by kernel_rfl) (by kernel_rfl) (by kernel_rfl) (fun _ _ _ h => h) (Or.inl ⟨by rfl, ?_⟩) hHeld ?_
            rotate_left
            · (intro wq hSw; (try dsimp only at hSw); first | (go_simp; done) | (go_simp; with_reducible rfl))
            try simp only [Act.put, qa, qb, qc]
            refine wpAnyH_take (i := 1) (oi := { dst := some 15, op := Op.load 31 (Operand.tmp 2), type := 31, pos := "l07_fence.go:25", after := #[], guard := none }) (v := ?_) rfl (by kernel_rfl) (by kernel_rfl) (by kernel_rfl) (fun _ _ _ h => h) (Or.inl ⟨by rfl, ?_⟩) hHeld ?_
            rotate_left
            · (intro wq hSw; (try dsimp only at hSw); first | (go_simp; done) | (go_simp; with_reducible rfl))
            try simp only [Act.put, qa, qb, qc]
            refine wpAnyH_ready (rs := [2]) (by kernel_rfl) (by simp) ?_
            refine AllReadyH.cons (o := { dst := some 16, op := Op.call { callee := Callee.value (Operand.func 139), args := #[Operand.tmp 14, Operand.tmp 15], argTypes := #[105, 31] }, type := 4, pos := "l07_fence.go:25", after := #[{ on := 0, ground := Ground.data }, { on := 1, ground := Ground.data }], guard := none }) rfl (fun K hK => ?_) AllReadyH.nil
            go_simp
            go_at_call 139; have ks := standsIn_any (geti zs ((j + 1) * 2)) (geti zs ((j + 1) * 2 + 1)) A1 A2 n1 c1 c2 ts _ w2.drew hlt2.out hT2.out; rw [hst.out] at ks; refine ks.mono ?_; rintro e w3 ⟨rfl, hb3⟩; have hb3 := hide (show Below w2.heap.size w2 w3 from ((Below.refl _ _).drew).trans hb3); have B3 := hide (B2.out.trans (hb3.out.mono hzW)); clear ks
            refine hK.out _ _ ?_ (fun hHeldN => ?_)
            · exact hCb.out _ hb3.out
            clear hK K hHeld
            have hHeld := hHeldN
            clear hHeldN
            try simp only [Act.put, qa, qb, qc]
            refine wpAnyH_take (i := 3) (oi := { dst := some 17, op := Op.unOp UnOp.not 4 (Operand.tmp 16), type := 4, pos := "l07_fence.go:25", after := #[{ on := 2, ground := Ground.data }], guard := none }) (v := ?_) rfl (by kernel_rfl) (by kernel_rfl) (by kernel_rfl) (fun _ _ _ h => h) (Or.inl ⟨by rfl, ?_⟩) hHeld ?_
            rotate_left
            · (intro wq hSw; (try dsimp only at hSw); first | (go_simp; done) | (go_simp; with_reducible rfl))
            try simp only [Act.put, qa, qb, qc]
            refine wpAnyH_take (i := 4) (oi := { dst := some 18, op := Op.move (Operand.tmp 17), type := 4, pos := "l07_fence.go:25", after := #[{ on := 3, ground := Ground.data }, { on := 2, ground := Ground.chain }], guard := none }) (v := ?_) rfl (by kernel_rfl) (by kernel_rfl) (by kernel_rfl) (fun _ _ _ h => h) (Or.inl ⟨by rfl, ?_⟩) hHeld ?_
            rotate_left
            · (intro wq hSw; (try dsimp only at hSw); first | (go_simp; done) | (go_simp; with_reducible rfl))
            try simp only [Act.put, qa, qb, qc]
            refine wpAnyH_take (i := 5) (oi := { dst := some 19, op := Op.move (Operand.tmp 5), type := 3, pos := "l07_fence.go:25", after := #[{ on := 4, ground := Ground.guard }], guard := some (4, false) }) (v := ?_) rfl (by kernel_rfl) (by kernel_rfl) (by kernel_rfl) (fun _ _ _ h => h) (Or.inl ⟨by rfl, ?_⟩) hHeld ?_
            rotate_left
            · (intro wq hSw; (try dsimp only at hSw); first | (go_simp; done) | (go_simp; with_reducible rfl))
            try simp only [Act.put, qa, qb, qc]
            refine wpAnyH_take (i := 6) (oi := { dst := some 20, op := Op.binOp BinOp.gtr 3 (Operand.tmp 19) (Operand.const (Value.int IntKind.i64 0)) 3, type := 4, pos := "l07_fence.go:25", after := #[{ on := 5, ground := Ground.data }, { on := 4, ground := Ground.guard }], guard := some (4, false) }) (v := ?_) rfl (by kernel_rfl) (by kernel_rfl) (by kernel_rfl) (fun _ _ _ h => h) (Or.inl ⟨by rfl, ?_⟩) hHeld ?_
            rotate_left
            · (intro wq hSw; (try dsimp only at hSw); first | (go_simp; done) | (go_simp; with_reducible rfl))
            try simp only [Act.put, qa, qb, qc]
            refine wpAnyH_take (i := 7) (oi := { dst := some 21, op := Op.move (Operand.tmp 20), type := 4, pos := "l07_fence.go:25", after := #[{ on := 6, ground := Ground.data }, { on := 4, ground := Ground.chain }, { on := 4, ground := Ground.guard }], guard := some (4, false) }) (v := ?_) rfl (by kernel_rfl) (by kernel_rfl) (by kernel_rfl) (fun _ _ _ h => h) (Or.inl ⟨by rfl, ?_⟩) hHeld ?_
            rotate_left
            · (intro wq hSw; (try dsimp only at hSw); first | (go_simp; done) | (go_simp; with_reducible rfl))
            try simp only [Act.put, qa, qb, qc]
            refine wpAnyH_take (i := 8) (oi := { dst := some 22, op := Op.move (Operand.tmp 1), type := 35, pos := "l07_fence.go:25", after := #[{ on := 7, ground := Ground.guard }], guard := some (7, true) }) (v := ?_) rfl (by kernel_rfl) (by kernel_rfl) (by kernel_rfl) (fun _ _ _ h => h) (Or.inl ⟨by rfl, ?_⟩) hHeld ?_
            rotate_left
            · (intro wq hSw; (try dsimp only at hSw); first | (go_simp; done) | (go_simp; with_reducible rfl))
            try simp only [Act.put, qa, qb, qc]
            refine wpAnyH_take (i := 9) (oi := { dst := some 23, op := Op.move (Operand.tmp 5), type := 3, pos := "l07_fence.go:25", after := #[{ on := 7, ground := Ground.guard }], guard := some (7, true) }) (v := ?_) rfl (by kernel_rfl) (by kernel_rfl) (by kernel_rfl) (fun _ _ _ h => h) (Or.inl ⟨by rfl, ?_⟩) hHeld ?_
            rotate_left
            · (intro wq hSw; (try dsimp only at hSw); first | (go_simp; done) | (go_simp; with_reducible rfl))
            try simp only [Act.put, qa, qb, qc]
            refine wpAnyH_take (i := 10) (oi := { dst := some 24, op := Op.binOp BinOp.sub 3 (Operand.tmp 23) (Operand.const (Value.int IntKind.i64 1)) 3, type := 3, pos := "l07_fence.go:25", after := #[{ on := 9, ground := Ground.data }, { on := 7, ground := Ground.guard }], guard := some (7, true) }) (v := ?_) rfl (by kernel_rfl) (by kernel_rfl) (by kernel_rfl) (fun _ _ _ h => h) (Or.inl ⟨by rfl, ?_⟩) hHeld ?_
            rotate_left
            · (intro wq hSw; (try dsimp only at hSw); first | (go_simp; done) | (go_simp; with_reducible rfl))
            try simp only [Act.put, qa, qb, qc]
            refine wpAnyH_take (i := 11) (oi := { dst := some 25, op := Op.indexAddr 35 (Operand.tmp 22) (Operand.tmp 24), type := 0, pos := "l07_fence.go:25", after := #[{ on := 8, ground := Ground.data }, { on := 10, ground := Ground.data }, { on := 7, ground := Ground.guard }], guard := some (7, true) }) (v := ?_) rfl (by kernel_rfl) (by kernel_rfl) (by kernel_rfl) (fun _ _ _ h => h) (Or.inl ⟨by rfl, ?_⟩) hHeld ?_
            rotate_left
            · (intro wq hSw; (try dsimp only at hSw); first | (go_simp; done) | (go_simp; with_reducible rfl))
            try simp only [Act.put, qa, qb, qc]
            refine wpAnyH_take (i := 12) (oi := { dst := some 26, op := Op.load 105 (Operand.tmp 25), type := 105, pos := "l07_fence.go:25", after := #[{ on := 11, ground := Ground.data }, { on := 7, ground := Ground.guard }], guard := some (7, true) }) (v := ?_) rfl (by kernel_rfl) (by kernel_rfl) (by kernel_rfl) (fun _ _ _ h => h) (Or.inl ⟨by rfl, ?_⟩) hHeld ?_
            rotate_left
            · (intro wq hSw; (try dsimp only at hSw); first | (go_simp; done) | (go_simp; with_reducible rfl))
            try simp only [Act.put, qa, qb, qc]
            refine wpAnyH_take (i := 13) (oi := { dst := some 27, op := Op.load 105 (Operand.tmp 6), type := 105, pos := "l07_fence.go:25", after := #[{ on := 7, ground := Ground.guard }], guard := some (7, true) }) (v := ?_) rfl (by kernel_rfl) (by kernel_rfl) (by kernel_rfl) (fun _ _ _ h => h) (Or.inl ⟨by rfl, ?_⟩) hHeld ?_
            rotate_left
            · (intro wq hSw; (try dsimp only at hSw); first | (go_simp; done) | (go_simp; with_reducible rfl))
            try simp only [Act.put, qa, qb, qc]
            refine wpAnyH_ready (rs := [14]) (by kernel_rfl) (by simp) ?_
            refine AllReadyH.cons (o := { dst := some 28, op := Op.call { callee := Callee.value (Operand.func 140), args := #[Operand.tmp 26, Operand.tmp 27], argTypes := #[105, 105] }, type := 3, pos := "l07_fence.go:25", after := #[{ on := 12, ground := Ground.data }, { on := 13, ground := Ground.data }, { on := 7, ground := Ground.chain }, { on := 7, ground := Ground.guard }], guard := some (7, true) }) rfl (fun K hK => ?_) AllReadyH.nil
            go_simp
            go_at_call 140; refine (spCompare_any _ _ _ _ _).mono ?_; rintro e w4 ⟨rfl, hb4⟩; have B4 := hide (B3.out.trans (hb4.mono (by have := B3.out.size; omega))); have hb4 := hide (hb3.out.trans (hb4.mono hb3.out.size))
            refine hK.out _ _ ?_ (fun hHeldN => ?_)
            · exact hCb.out _ hb4.out
            clear hK K hHeld
            have hHeld := hHeldN
            clear hHeldN
            try simp only [Act.put, qa, qb, qc]
            refine wpAnyH_take (i := 15) (oi := { dst := some 29, op := Op.binOp BinOp.geq 3 (Operand.tmp 28) (Operand.const (Value.int IntKind.i64 0)) 3, type := 4, pos := "l07_fence.go:25", after := #[{ on := 14, ground := Ground.data }, { on := 7, ground := Ground.guard }], guard := some (7, true) }) (v := ?_) rfl (by kernel_rfl) (by kernel_rfl) (by kernel_rfl) (fun _ _ _ h => h) (Or.inl ⟨by rfl, ?_⟩) hHeld ?_
            rotate_left
            · (intro wq hSw; (try dsimp only at hSw); first | (go_simp; done) | (go_simp; with_reducible rfl))
            try simp only [Act.put, qa, qb, qc]
            refine wpAnyH_take (i := 16) (oi := { dst := some 30, op := Op.pick (Operand.tmp 21) (Operand.tmp 29) (Operand.const (Value.bool false)), type := 4, pos := "l07_fence.go:25", after := #[{ on := 7, ground := Ground.data }, { on := 15, ground := Ground.data }, { on := 4, ground := Ground.guard }], guard := some (4, false) }) (v := ?_) rfl (by kernel_rfl) (by kernel_rfl) (by kernel_rfl) (fun _ _ _ h => h) (Or.inl ⟨by rfl, ?_⟩) hHeld ?_
            rotate_left
            · (intro wq hSw; (try dsimp only at hSw); first | (go_simp; done) | (go_simp; with_reducible rfl))
            try simp only [Act.put, qa, qb, qc]
            refine wpAnyH_take (i := 17) (oi := { dst := some 31, op := Op.pick (Operand.tmp 18) (Operand.const (Value.bool true)) (Operand.tmp 30), type := 4, pos := "l07_fence.go:25", after := #[{ on := 4, ground := Ground.data }, { on := 16, ground := Ground.data }], guard := none }) (v := ?_) rfl (by kernel_rfl) (by kernel_rfl) (by kernel_rfl) (fun _ _ _ h => h) (Or.inl ⟨by rfl, ?_⟩) hHeld ?_
            rotate_left
            · (intro wq hSw; (try dsimp only at hSw); first | (go_simp; done) | (go_simp; with_reducible rfl))
            try simp only [Act.put, qa, qb, qc]
            refine wpAnyH_done (by kernel_rfl) ?_ _
            clear hHeld
            go_wp2_with fail
            go_roundw
            case rel => exact ⟨j + 1 + 1, by omega, by go_num, hide (fun i hi => by
              rcases Nat.lt_or_ge i (j + 1) with h | h
              · exact hj.out i h
              · obtain rfl : i = j + 1 := by omega
                exact hE.out), B4⟩
            case measure => simp [intOf]; omega
    · obtain rfl : k = n := by omega
      have hlt' : decide ((k : Int) < (k : Int)) = false := decide_eq_false (by omega)
      have hE := hide (show spotsB ts zs k = true from allB_yes hj.out)
      go_wp2_with fail
      go_ret
      exact ⟨ret_bool hE.out.symm, hB0.out.trans (hb.out.mono (Nat.le_of_lt hlW))⟩
end Go.Proofs.Ytfkaacfeikmabaa
