/- The model's TakenOften. -/
import Derived.Test.YtjendjbbhohjcaaTkN
import Derived.Deep.RegionHeld3
namespace Go.Proofs.Ytjendjbbhohjcaa
open Go.RowKit

set_option maxRecDepth 100000 in
set_option maxHeartbeats 6400000 in
theorem soften_any (A : Option Addr) (rs : List Int) (c n : Nat) (S : Nat → Prop) (w : World) (hz : rs.length = n) (hS : ∀ b, S b → b < w.heap.size) (ha : IntsAt w S A rs) (hn : n ≤ 1048576) :
    Calls Try.prog 37 #[.agg #[.slice A n c]] w fun e w' => e = .returned (.bool (oftenB rs n)) ∧ Below w.heap.size w w' := by
  obtain ⟨W, hW⟩ : ∃ x, x = w.alloc (Obj.cells #[.slice A n c] 25) := ⟨_, rfl⟩
  have hbW : Below w.heap.size w W := by rw [hW]; exact below1 _ _
  have X : Blk W w.heap.size 25 #[.slice A n c] := by rw [hW]; exact Blk.new _ _ _
  have hC := hide (fun w' (hb : Below W.heap.size W w') => (show (fun w' : World => w'.cell? ⟨w.heap.size, 0, none⟩ = some (.slice A n c)) w' from (X.below hb X.lt).cell 0))
  have Z := hide ((ha.below hbW hS).more (S' := Old W.heap.size) (fun b h => Nat.lt_of_lt_of_le (hS b h) hbW.size))
  have BW := hide hbW
  replace hz := hide hz
  obtain ⟨m, hm⟩ : ∃ x, x = (gotTo rs n).length := ⟨_, rfl⟩
  obtain ⟨u, hu⟩ : ∃ x, x = (uniqI (gotTo rs n)).length := ⟨_, rfl⟩
  have hE := hide (show decide (u < m) = oftenB rs n from by unfold oftenB; rw [← hm, ← hu])
  have kT := fun A' w' c' S' (h1 : rs.length = n) (h2 : ∀ b, S' b → b < w'.heap.size) (h3 : IntsAt w' S' A' rs) => staken_any A' rs c' n S' w' h1 h2 h3 hn
  have kG := fun A' w' c' S' (h1 : rs.length = n) (h2 : ∀ b, S' b → b < w'.heap.size) (h3 : IntsAt w' S' A' rs) => sgot_any A' rs c' n S' w' h1 h2 h3 hn
  rw [← hu] at kT
  rw [← hm] at kG
  clear hbW ha hS hm hu X
  go_enter Try.func37, Try.ntmps37
  go_upto_region 1 with fail
  rw [← hW]
  clear hW
  refine wp_region_held_drew (S := (fun w' : World => w'.cell? ⟨w.heap.size, 0, none⟩ = some (.slice A n c))) (by kernel_rfl) ?_ (fun hHeld => ?_)
  · exact hC.out _ (Below.refl _ _).drew
  refine wpAnyH_take (i := 0) (oi := { dst := some 3, op := Op.load 25 (Operand.tmp 1), type := 25, pos := "l08_deque.go:110", after := #[], guard := none }) (v := ?_) rfl (by kernel_rfl) (by kernel_rfl) (by kernel_rfl) (fun _ _ _ h => h) (Or.inl ⟨by rfl, ?_⟩) hHeld ?_
  rotate_left
  · (intro wq hSw; (try dsimp only at hSw); first | (go_simp; done) | (go_simp; with_reducible rfl))
  try simp only [Act.put, List.setIfInBounds_toArray, List.set_cons_zero, List.set_cons_succ]
  refine wpAnyH_take (i := 3) (oi := { dst := some 6, op := Op.load 25 (Operand.tmp 1), type := 25, pos := "l08_deque.go:110", after := #[], guard := none }) (v := ?_) rfl (by kernel_rfl) (by kernel_rfl) (by kernel_rfl) (fun _ _ _ h => h) (Or.inl ⟨by rfl, ?_⟩) hHeld ?_
  rotate_left
  · (intro wq hSw; (try dsimp only at hSw); first | (go_simp; done) | (go_simp; with_reducible rfl))
  try simp only [Act.put, List.setIfInBounds_toArray, List.set_cons_zero, List.set_cons_succ]
  refine wpAnyH_ready (rs := [1]) (by kernel_rfl) (by simp) ?_
  refine AllReadyH.cons (o := { dst := some 4, op := Op.call { callee := Callee.value (Operand.func 29), args := #[Operand.tmp 3], argTypes := #[25] }, type := 23, pos := "l08_deque.go:110", after := #[{ on := 0, ground := Ground.data }], guard := none }) rfl (fun K hK => ?_) (AllReadyH.nil)
  · go_simp
    go_at_call 29
    refine (kT A W.drew c (Old W.heap.size) hz.out (fun b h => Nat.lt_of_lt_of_le h ((Below.refl W.heap.size W).drew).size) (Z.out.below ((Below.refl W.heap.size W).drew) (fun _ h => h))).mono ?_
    rintro e w1 ⟨A1, c1, rfl, -, hb⟩
    have Bd1 := hide (show Below W.heap.size W w1 from ((Below.refl W.heap.size W).drew).trans (hb.mono ((Below.refl W.heap.size W).drew).size))
    clear hb
    refine hK.out _ _ ?_ (fun hHeldN => ?_)
    · exact (hC.out _ Bd1.out)
    clear hK K hHeld
    have hHeld := hHeldN
    clear hHeldN
    try simp only [Act.put, List.setIfInBounds_toArray, List.set_cons_zero, List.set_cons_succ]
    refine wpAnyH_take (i := 2) (oi := { dst := some 5, op := Op.call { callee := Callee.builtin Builtin.len, args := #[Operand.tmp 4], argTypes := #[23] }, type := 3, pos := "l08_deque.go:110", after := #[{ on := 1, ground := Ground.data }], guard := none }) (v := ?_) rfl (by kernel_rfl) (by kernel_rfl) (by kernel_rfl) (fun _ _ _ h => h) (Or.inl ⟨by rfl, ?_⟩) hHeld ?_
    rotate_left
    · (intro wq hSw; (try dsimp only at hSw); first | (go_simp; done) | (go_simp; with_reducible rfl))
    try simp only [Act.put, List.setIfInBounds_toArray, List.set_cons_zero, List.set_cons_succ]
    refine wpAnyH_ready (rs := [4]) (by kernel_rfl) (by simp) ?_
    refine AllReadyH.cons (o := { dst := some 7, op := Op.call { callee := Callee.value (Operand.func 75), args := #[Operand.tmp 6], argTypes := #[25] }, type := 23, pos := "l08_deque.go:110", after := #[{ on := 3, ground := Ground.data }, { on := 1, ground := Ground.chain }], guard := none }) rfl (fun K hK => ?_) (AllReadyH.nil)
    · go_simp
      go_at_call 75
      refine (kG A w1 c (Old W.heap.size) hz.out (fun b h => Nat.lt_of_lt_of_le h (Bd1.out).size) (Z.out.below (Bd1.out) (fun _ h => h))).mono ?_
      rintro e w4 ⟨A4, c4, rfl, -, hb⟩
      have Bd4 := hide (show Below W.heap.size W w4 from (Bd1.out).trans (hb.mono (Bd1.out).size))
      clear hb
      refine hK.out _ _ ?_ (fun hHeldN => ?_)
      · exact (hC.out _ Bd4.out)
      clear hK K hHeld
      have hHeld := hHeldN
      clear hHeldN
      try simp only [Act.put, List.setIfInBounds_toArray, List.set_cons_zero, List.set_cons_succ]
      refine wpAnyH_take (i := 5) (oi := { dst := some 8, op := Op.call { callee := Callee.builtin Builtin.len, args := #[Operand.tmp 7], argTypes := #[23] }, type := 3, pos := "l08_deque.go:110", after := #[{ on := 4, ground := Ground.data }], guard := none }) (v := ?_) rfl (by kernel_rfl) (by kernel_rfl) (by kernel_rfl) (fun _ _ _ h => h) (Or.inl ⟨by rfl, ?_⟩) hHeld ?_
      rotate_left
      · (intro wq hSw; (try dsimp only at hSw); first | (go_simp; done) | (go_simp; with_reducible rfl))
      try simp only [Act.put, List.setIfInBounds_toArray, List.set_cons_zero, List.set_cons_succ]
      refine wpAnyH_take (i := 6) (oi := { dst := some 9, op := Op.binOp BinOp.lss 3 (Operand.tmp 5) (Operand.tmp 8) 3, type := 4, pos := "l08_deque.go:110", after := #[{ on := 2, ground := Ground.data }, { on := 5, ground := Ground.data }], guard := none }) (v := ?_) rfl (by kernel_rfl) (by kernel_rfl) (by kernel_rfl) (fun _ _ _ h => h) (Or.inl ⟨by rfl, ?_⟩) hHeld ?_
      rotate_left
      · (intro wq hSw; (try dsimp only at hSw); first | (go_simp; done) | (go_simp; with_reducible rfl))
      try simp only [Act.put, List.setIfInBounds_toArray, List.set_cons_zero, List.set_cons_succ]
      refine wpAnyH_take (i := 7) (oi := { dst := some 2, op := Op.assign (Operand.tmp 9), type := 4, pos := "l08_deque.go:110", after := #[{ on := 6, ground := Ground.data }, { on := 4, ground := Ground.chain }, { on := 0, ground := Ground.phase }, { on := 1, ground := Ground.phase }, { on := 2, ground := Ground.phase }, { on := 3, ground := Ground.phase }, { on := 4, ground := Ground.phase }, { on := 5, ground := Ground.phase }, { on := 6, ground := Ground.phase }], guard := none }) (v := ?_) rfl (by kernel_rfl) (by kernel_rfl) (by kernel_rfl) (fun _ _ _ h => h) (Or.inl ⟨by rfl, ?_⟩) hHeld ?_
      rotate_left
      · (intro wq hSw; (try dsimp only at hSw); first | (go_simp; done) | (go_simp; with_reducible rfl))
      try simp only [Act.put, List.setIfInBounds_toArray, List.set_cons_zero, List.set_cons_succ]
      refine wpAnyH_done (by kernel_rfl) ?_ _
      go_wp2_with fail
      go_ret
      exact ⟨ret_bool hE.out, BW.out.trans (Bd4.out.mono BW.out.size)⟩
end Go.Proofs.Ytjendjbbhohjcaa
