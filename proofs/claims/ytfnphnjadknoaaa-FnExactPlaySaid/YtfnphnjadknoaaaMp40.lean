/- The model's l9steal where it steals. -/
import Derived.Test.YtfnphnjadknoaaaMp0
import Derived.Test.YtfnphnjadknoaaaMp22
import Derived.Test.YtfnphnjadknoaaaMp35
namespace Go.Proofs.Ytfnphnjadknoaaa
open Go.RowKit

set_option maxRecDepth 100000 in
set_option maxHeartbeats 3200000 in
theorem lsteal_any (f : Nat → Nat) (B g : Nat) (x : PV) (p : PoolD) (W V : Nat) (w : World) (hI : Hid (PInv p (-1))) (hW : W < p.dq.length) (hV : V < p.dq.length) (hWV : W ≠ V) (hne : 0 < (getq p.dq V).length) (hB : B ≤ w.heap.size) (h : BoxO w f B g x p) :
    Calls Try.prog 57 #[.pointer (some ⟨g, 0, none⟩), .int .i64 W, .int .i64 V] w fun e w' => e = .returned (.bool true) ∧ ∃ f' rv, BoxO w' f' B g { x with rv := rv } (stealP p W V) ∧ OwnC f B w w' ∧ ∀ b, b < w.heap.size → f' b = f b := by
  obtain ⟨i1, hi1, hy0, hy1, hy2⟩ := info_parts Try.infoInt
  obtain ⟨bD, oD, cD, hD, fD, lbD, xh, zh⟩ := h.pool.rows.heads.one hV
  have hE := h.pool.rows.each V hV
  obtain ⟨n, hn⟩ : ∃ n, (getq p.dq V).length = n + 1 := ⟨(getq p.dq V).length - 1, by omega⟩
  have h30 := hI.out.tree.top
  have hrl := hI.out.row_len hV
  have hrlW := hI.out.row_len hW
  obtain ⟨qR, oR, cR, hv0, fR, -, lbR, hcR⟩ := hE.at_ (k := 0) (by omega)
  obtain ⟨hle, hmax⟩ : (getq p.dq V).length ≤ cR ∧ cR ≤ 9223372036854775807 := by
    rcases hE with ⟨e, e2⟩ | ⟨q', off', c', cs, e, h1, h2, -⟩
    · omega
    · rw [hv0] at e
      cases e
      exact ⟨h1, h2⟩
  have xz := (hcR 0 (by omega)).1
  rw [Nat.add_zero] at xz
  obtain ⟨z, hz⟩ : ∃ z, z = geti (getq p.dq V) 0 := ⟨_, rfl⟩
  replace xz : w.cell? ⟨qR, oR, none⟩ = some (.int .i64 z) := by rw [hz]; exact xz
  rw [hv0, hn] at xh
  have hlen1 : (getq p.dq V).tail.length = n := by rw [List.length_tail]; omega
  have hinn : CellsAt w (if cR = 1 then some ⟨qR, oR, none⟩ else some ⟨qR, oR + 1, none⟩) (n * 1) (gI (getq p.dq V).tail) := by
    refine ⟨fun j hj => by unfold gI; rfl, fun hp => ⟨qR, oR + 1, by rw [if_neg (by omega)], fun j hj => ?_⟩⟩
    rw [gI_tail, Nat.add_assoc, Nat.add_comm 1 j]
    exact (hcR (j + 1) (by omega)).1
  have hin := hide (fun wx (hb : Below w.heap.size w wx) => hinn.next hb)
  obtain ⟨⟨-, x1, -, -, -, -, -⟩, xl⟩ := box7 h.box
  rw [hD] at x1
  have fg := h.fg
  have ngD : g ≠ bD := fun e => by rw [← e] at fD; omega
  have hS := hide (show ∀ wx, Lab f (9 + V * 2) B w wx → (wx.cell? ⟨g, 1, none⟩ = some (.slice (some ⟨bD, oD, none⟩) p.dq.length cD)) ∧ wx.cell? ⟨bD, oD + V, none⟩ = some (.slice (some ⟨qR, oR, none⟩) (n + 1) cR) ∧ wx.frozen? ⟨bD, oD + V, none⟩ = false from fun wx hb => by
    have kc : ∀ q o', f q ≠ 9 + V * 2 → q < w.heap.size → wx.cell? ⟨q, o', none⟩ = w.cell? ⟨q, o', none⟩ ∧ wx.frozen? ⟨q, o', none⟩ = w.frozen? ⟨q, o', none⟩ := fun q o' hf hl => by
      have := hb.block q hl (fun e => hf e.1)
      constructor
      · simp [World.cell?, this]
      · simp [World.frozen?, this]
    exact ⟨(kc g 1 (by omega) h.box.lt).1.trans x1, (kc bD _ (by omega) lbD).1.trans xh, (kc bD _ (by omega) lbD).2.trans zh⟩)
  have y13 := (hS.out w (Lab.refl _ _ _ _)).2.1
  have hSr := hide (show ∀ v7 w7 f7, Sl 3 1 w7 f7 (9 + V * 2) B v7 n (gI (getq p.dq V).tail) → Sl 3 1 w7 f7 (9 + V * 2) B v7 (getq p.dq V).tail.length (gI (getq p.dq V).tail) from fun v7 w7 f7 hh => by rw [hlen1]; exact hh)
  have hT := hide (show stealP p W V = { p with dq := (p.dq.set V (getq p.dq V).tail).set W (getq p.dq W ++ [z]) } from by rw [hz]; rfl)
  have hWl : (W : Int) < p.dq.length := by omega
  have hVl : (V : Int) < p.dq.length := by omega
  have hWVi : ¬ ((W : Int) = (V : Int)) := by omega
  have hn30 : n < 31 := by omega
  have hnc : n < cR := by omega
  have hcI : (1 : Int) ≤ (n : Int) + 1 := by omega
  have hWVb : ((W : Int) == (V : Int)) = false := by simpa using hWVi
  have hWVn : (W == V) = false := by simpa using hWV
  have hn1 : ((n : Int) + 1 == 0) = false := by
    have : ¬ ((n : Int) + 1 = 0) := by omega
    simpa using this
  replace hz := hide hz
  replace hn := hide hn
  replace hlen1 := hide hlen1
  replace h := hide h
  replace hv0 := hide hv0
  replace hD := hide hD
  clear hinn hcR hE
  go_enter Try.func57, Try.ntmps57
  go_upto_region 4 with fail
  refine wp_region_held_drew (S := (fun w' : World => w'.cell? ⟨g, 1, none⟩ = some (.slice (some ⟨bD, oD, none⟩) p.dq.length cD))) (by kernel_rfl) ?_ (fun hHeld => ?_)
  · exact (hS.out _ (Lab.refl _ _ _ _).drew).1
  refine wpAnyH_take (i := 0) (oi := { dst := some 33, op := Op.move (.tmp 0), type := 85, pos := "l09_jobs.go:195", after := #[], guard := none }) (v := ?_) rfl (by kernel_rfl) (by kernel_rfl) (by kernel_rfl) (fun _ _ _ h => h) (Or.inl ⟨by rfl, ?_⟩) hHeld ?_
  rotate_left
  · (intro wq hSw; (try dsimp only at hSw); first | (go_simp; done) | (go_simp; with_reducible rfl))
  try simp only [Act.put, qa, qb, qc]
  refine wpAnyH_take (i := 1) (oi := { dst := some 34, op := Op.nilCheck (.tmp 33), type := 0, pos := "l09_jobs.go:195", after := #[⟨0, .data⟩], guard := none }) (v := ?_) rfl (by kernel_rfl) (by kernel_rfl) (by kernel_rfl) (fun _ _ _ h => h) (Or.inl ⟨by rfl, ?_⟩) hHeld ?_
  rotate_left
  · (intro wq hSw; (try dsimp only at hSw); first | (go_simp; done) | (go_simp; with_reducible rfl))
  try simp only [Act.put, qa, qb, qc]
  refine wpAnyH_take (i := 2) (oi := { dst := some 35, op := Op.fieldAddr 28 (.tmp 34) 1, type := 0, pos := "l09_jobs.go:195", after := #[⟨1, .data⟩], guard := none }) (v := ?_) rfl (by kernel_rfl) (by kernel_rfl) (by kernel_rfl) (fun _ _ _ h => h) (Or.inl ⟨by rfl, ?_⟩) hHeld ?_
  rotate_left
  · (intro wq hSw; (try dsimp only at hSw); first | (go_simp; done) | (go_simp; with_reducible rfl))
  try simp only [Act.put, qa, qb, qc]
  refine wpAnyH_take (i := 3) (oi := { dst := some 36, op := Op.load 24 (.tmp 35), type := 24, pos := "l09_jobs.go:195", after := #[⟨2, .data⟩], guard := none }) (v := ?_) rfl (by kernel_rfl) (by kernel_rfl) (by kernel_rfl) (fun _ _ _ h => h) (Or.inl ⟨by rfl, ?_⟩) hHeld ?_
  rotate_left
  · (intro wq hSw; (try dsimp only at hSw); first | (go_simp; done) | (go_simp; with_reducible rfl))
  try simp only [Act.put, qa, qb, qc]
  refine wpAnyH_take (i := 4) (oi := { dst := some 37, op := Op.move (.tmp 2), type := 3, pos := "l09_jobs.go:195", after := #[], guard := none }) (v := ?_) rfl (by kernel_rfl) (by kernel_rfl) (by kernel_rfl) (fun _ _ _ h => h) (Or.inl ⟨by rfl, ?_⟩) hHeld ?_
  rotate_left
  · (intro wq hSw; (try dsimp only at hSw); first | (go_simp; done) | (go_simp; with_reducible rfl))
  try simp only [Act.put, qa, qb, qc]
  refine wpAnyH_take (i := 6) (oi := { dst := some 39, op := Op.move (.tmp 0), type := 85, pos := "l09_jobs.go:195", after := #[], guard := none }) (v := ?_) rfl (by kernel_rfl) (by kernel_rfl) (by kernel_rfl) (fun _ _ _ h => h) (Or.inl ⟨by rfl, ?_⟩) hHeld ?_
  rotate_left
  · (intro wq hSw; (try dsimp only at hSw); first | (go_simp; done) | (go_simp; with_reducible rfl))
  try simp only [Act.put, qa, qb, qc]
  refine wpAnyH_take (i := 7) (oi := { dst := some 40, op := Op.nilCheck (.tmp 39), type := 0, pos := "l09_jobs.go:195", after := #[⟨6, .data⟩], guard := none }) (v := ?_) rfl (by kernel_rfl) (by kernel_rfl) (by kernel_rfl) (fun _ _ _ h => h) (Or.inl ⟨by rfl, ?_⟩) hHeld ?_
  rotate_left
  · (intro wq hSw; (try dsimp only at hSw); first | (go_simp; done) | (go_simp; with_reducible rfl))
  try simp only [Act.put, qa, qb, qc]
  refine wpAnyH_take (i := 8) (oi := { dst := some 41, op := Op.fieldAddr 28 (.tmp 40) 1, type := 0, pos := "l09_jobs.go:195", after := #[⟨7, .data⟩], guard := none }) (v := ?_) rfl (by kernel_rfl) (by kernel_rfl) (by kernel_rfl) (fun _ _ _ h => h) (Or.inl ⟨by rfl, ?_⟩) hHeld ?_
  rotate_left
  · (intro wq hSw; (try dsimp only at hSw); first | (go_simp; done) | (go_simp; with_reducible rfl))
  try simp only [Act.put, qa, qb, qc]
  refine wpAnyH_take (i := 9) (oi := { dst := some 42, op := Op.load 24 (.tmp 41), type := 24, pos := "l09_jobs.go:195", after := #[⟨8, .data⟩], guard := none }) (v := ?_) rfl (by kernel_rfl) (by kernel_rfl) (by kernel_rfl) (fun _ _ _ h => h) (Or.inl ⟨by rfl, ?_⟩) hHeld ?_
  rotate_left
  · (intro wq hSw; (try dsimp only at hSw); first | (go_simp; done) | (go_simp; with_reducible rfl))
  try simp only [Act.put, qa, qb, qc]
  refine wpAnyH_take (i := 10) (oi := { dst := some 43, op := Op.move (.tmp 2), type := 3, pos := "l09_jobs.go:195", after := #[], guard := none }) (v := ?_) rfl (by kernel_rfl) (by kernel_rfl) (by kernel_rfl) (fun _ _ _ h => h) (Or.inl ⟨by rfl, ?_⟩) hHeld ?_
  rotate_left
  · (intro wq hSw; (try dsimp only at hSw); first | (go_simp; done) | (go_simp; with_reducible rfl))
  try simp only [Act.put, qa, qb, qc]
  refine wpAnyH_take (i := 11) (oi := { dst := some 44, op := Op.indexAddr 24 (.tmp 42) (.tmp 43), type := 0, pos := "l09_jobs.go:195", after := #[⟨9, .data⟩, ⟨10, .data⟩], guard := none }) (v := ?_) rfl (by kernel_rfl) (by kernel_rfl) (by kernel_rfl) (fun _ _ _ h => h) (Or.inl ⟨by rfl, ?_⟩) hHeld ?_
  rotate_left
  · (intro wq hSw; (try dsimp only at hSw); first | (go_simp; done) | (go_simp; with_reducible rfl))
  try simp only [Act.put, qa, qb, qc]
  refine wpAnyH_take (i := 12) (oi := { dst := some 45, op := Op.fieldAddr 35 (.tmp 44) 0, type := 0, pos := "l09_jobs.go:195", after := #[⟨11, .data⟩], guard := none }) (v := ?_) rfl (by kernel_rfl) (by kernel_rfl) (by kernel_rfl) (fun _ _ _ h => h) (Or.inl ⟨by rfl, ?_⟩) hHeld ?_
  rotate_left
  · (intro wq hSw; (try dsimp only at hSw); first | (go_simp; done) | (go_simp; with_reducible rfl))
  try simp only [Act.put, qa, qb, qc]
  refine wpAnyH_ready (rs := [5, 13]) (by kernel_rfl) (by simp) ?_
  refine AllReadyH.cons (o := { dst := some 38, op := Op.buildSlice 26 0 #[], type := 26, pos := "l09_jobs.go:195", after := #[], guard := none }) rfl (fun K hK => ?_) (AllReadyH.cons (o := { dst := some 46, op := Op.load 26 (.tmp 45), type := 26, pos := "l09_jobs.go:195", after := #[⟨12, .data⟩], guard := none }) rfl (fun K hK => ?_) (AllReadyH.nil))
  · go_simp
    obtain ⟨w5, hw5⟩ : ∃ x, x = (w.alloc (Obj.cells #[] 3)).drew := ⟨_, rfl⟩
    rw [← hw5]
    have hb5 := hide (show Below w.heap.size w w5 from by rw [hw5]; exact (below1 _ _).drew)
    have hq5 := hide (show Blk w5 w.heap.size 3 #[] from by rw [hw5]; exact (Blk.new w 3 #[]).below (Below.refl _ _).drew (Blk.new w 3 #[]).lt)
    have L5 := hide (show Lab f (9 + V * 2) B w w5 from .of_below hb5.out)
    have y13 := (hS.out w5 L5.out).2.1
    clear hw5
    refine hK.out _ _ ?_ (fun hHeldN => ?_)
    · exact (by first | exact (hS.out _ (Lab.refl _ _ _ _)).1 | exact (hS.out _ (Lab.refl _ _ _ _).drew).1 | exact (hS.out _ L5.out).1)
    clear hK K hHeld
    have hHeld := hHeldN
    clear hHeldN
    try simp only [Act.put, qa, qb, qc]
    refine wpAnyH_ready (rs := [13]) (by kernel_rfl) (by simp) ?_
    refine AllReadyH.cons (o := { dst := some 46, op := Op.load 26 (.tmp 45), type := 26, pos := "l09_jobs.go:195", after := #[⟨12, .data⟩], guard := none }) rfl (fun K hK => ?_) (AllReadyH.nil)
    · go_simp
      refine hK.out _ _ ?_ (fun hHeldN => ?_)
      · exact (by first | exact (hS.out _ (Lab.refl _ _ _ _)).1 | exact (hS.out _ (Lab.refl _ _ _ _).drew).1 | exact (hS.out _ L5.out).1)
      clear hK K hHeld
      have hHeld := hHeldN
      clear hHeldN
      try simp only [Act.put, qa, qb, qc]
      refine wpAnyH_take (i := 14) (oi := { dst := some 47, op := Op.slice 26 (.tmp 46) (some (.const (Value.int IntKind.i64 1))) none none, type := 26, pos := "l09_jobs.go:195", after := #[⟨13, .data⟩], guard := none }) (v := ?_) rfl (by kernel_rfl) (by kernel_rfl) (by kernel_rfl) (fun _ _ _ h => h) (Or.inl ⟨by rfl, ?_⟩) hHeld ?_
      rotate_left
      · (intro wq hSw; (try dsimp only at hSw); first | (go_simp; done) | (go_simp; with_reducible rfl))
      try simp only [Act.put, qa, qb, qc]
      refine wpAnyH_ready (rs := [15]) (by kernel_rfl) (by simp) ?_
      refine AllReadyH.cons (o := { dst := some 48, op := Op.call { callee := Callee.builtin Builtin.append, args := #[.tmp 38, .tmp 47], argTypes := #[26, 26] }, type := 26, pos := "l09_jobs.go:195", after := #[⟨5, .data⟩, ⟨14, .data⟩], guard := none }) rfl (fun K hK => ?_) (AllReadyH.nil)
      · rw [if_pos (by rfl)]
        refine wp_append_empty _ _ _ _ (by rfl) 3 i1 _ 1 8 Try.underlying26 hi1 hy0 hy1 hy2 rfl (by omega) w.heap.size (by rfl) (f := lab f w.heap.size (9 + V * 2)) (l := (9 + V * 2)) (B := B) hq5.out (lab_at _ _ _) hB _ n (cR - 1) (gI (getq p.dq V).tail) (by rfl) (hin.out w5 hb5.out) (by have : maxLen = 9223372036854775807 := rfl; omega) (by omega) ?_
        intro v6 w6 f6 hS6 hb6 hf6
        have hff6 := hide (show ∀ b, b < w.heap.size → f6 b = f b from fun b hb => (hf6 b (Nat.lt_of_lt_of_le hb hb5.out.size)).trans (lab_old hb))
        have L6 := hide (show Lab f (9 + V * 2) B w w6 from .of_below (below_then hb5.out hb6))
        obtain ⟨A6, c6, hv6⟩ := hS6.form
        subst hv6
        replace hS6 := hide hS6
        obtain ⟨hSw6, y6, z6⟩ := hS.out w6 L6.out
        clear hb6 hf6 y13
        refine hK.out _ _ ?_ (fun hHeldN => ?_)
        · exact hSw6
        clear hK K hHeld
        have hHeld := hHeldN
        clear hHeldN
        try simp only [Act.put, qa, qb, qc]
        refine wpAnyH_take (i := 16) (oi := { dst := some 49, op := Op.indexAddr 24 (.tmp 36) (.tmp 37), type := 0, pos := "l09_jobs.go:195", after := #[⟨3, .data⟩, ⟨4, .data⟩, ⟨0, .phase⟩, ⟨1, .phase⟩, ⟨2, .phase⟩, ⟨3, .phase⟩, ⟨4, .phase⟩, ⟨5, .phase⟩, ⟨6, .phase⟩, ⟨7, .phase⟩, ⟨8, .phase⟩, ⟨9, .phase⟩, ⟨10, .phase⟩, ⟨11, .phase⟩, ⟨12, .phase⟩, ⟨13, .phase⟩, ⟨14, .phase⟩, ⟨15, .phase⟩], guard := none }) (v := ?_) rfl (by kernel_rfl) (by kernel_rfl) (by kernel_rfl) (fun _ _ _ h => h) (Or.inl ⟨by rfl, ?_⟩) hHeld ?_
        rotate_left
        · (intro wq hSw; (try dsimp only at hSw); first | (go_simp; done) | (go_simp; with_reducible rfl))
        try simp only [Act.put, qa, qb, qc]
        refine wpAnyH_take (i := 17) (oi := { dst := some 50, op := Op.fieldAddr 35 (.tmp 49) 0, type := 0, pos := "l09_jobs.go:195", after := #[⟨16, .data⟩, ⟨0, .phase⟩, ⟨1, .phase⟩, ⟨2, .phase⟩, ⟨3, .phase⟩, ⟨4, .phase⟩, ⟨5, .phase⟩, ⟨6, .phase⟩, ⟨7, .phase⟩, ⟨8, .phase⟩, ⟨9, .phase⟩, ⟨10, .phase⟩, ⟨11, .phase⟩, ⟨12, .phase⟩, ⟨13, .phase⟩, ⟨14, .phase⟩, ⟨15, .phase⟩], guard := none }) (v := ?_) rfl (by kernel_rfl) (by kernel_rfl) (by kernel_rfl) (fun _ _ _ h => h) (Or.inl ⟨by rfl, ?_⟩) hHeld ?_
        rotate_left
        · (intro wq hSw; (try dsimp only at hSw); first | (go_simp; done) | (go_simp; with_reducible rfl))
        try simp only [Act.put, qa, qb, qc]
        refine wpAnyH_ready (rs := [18]) (by kernel_rfl) (by simp) ?_
        refine AllReadyH.cons (o := { dst := none, op := Op.store 26 (.tmp 50) (.tmp 48), type := 0, pos := "l09_jobs.go:195", after := #[⟨17, .data⟩, ⟨15, .data⟩, ⟨15, .chain⟩, ⟨0, .phase⟩, ⟨1, .phase⟩, ⟨2, .phase⟩, ⟨3, .phase⟩, ⟨4, .phase⟩, ⟨5, .phase⟩, ⟨6, .phase⟩, ⟨7, .phase⟩, ⟨8, .phase⟩, ⟨9, .phase⟩, ⟨10, .phase⟩, ⟨11, .phase⟩, ⟨12, .phase⟩, ⟨13, .phase⟩, ⟨14, .phase⟩, ⟨15, .phase⟩], guard := none }) rfl (fun K hK => ?_) (AllReadyH.nil)
        · go_simp
          refine hK.out _ _ ?_ (fun hHeldN => ?_)
          · exact cell_far hSw6 ngD
          clear hK K hHeld
          have hHeld := hHeldN
          clear hHeldN
          try simp only [Act.put, qa, qb, qc]
          refine wpAnyH_done (by kernel_rfl) ?_ _
          clear hHeld
          have s1 := h.out.put_row hV L6.out hff6.out (r := (getq p.dq V).tail) (hSr.out _ _ _ hS6.out) hD.out
          obtain ⟨w8, hw8⟩ : ∃ x, x = w6.setCell ⟨bD, oD + V, none⟩ (.slice A6 n c6) := ⟨_, rfl⟩
          rw [← hw8] at s1
          have hC8 := hide s1.1
          have hO8 := hide s1.2
          go_upto_region 5 with fail
          rw [← hw8]
          have hB8 : B ≤ w8.heap.size := Nat.le_trans hB s1.2.size
          clear hw8 s1 hS6 L6 L5 hSw6 y6 z6 xh zh xz hq5 hb5 hSr hS hin x1
          have hW8 : W < ({ p with dq := p.dq.set V (getq p.dq V).tail } : PoolD).dq.length := by show W < (p.dq.set V _).length; rw [List.length_set]; exact hW
          obtain ⟨⟨-, x1, -, -, -, -, -⟩, -⟩ := box7 hC8.out.box
          rw [show x.D = .slice (some ⟨bD, oD, none⟩) p.dq.length cD from hD.out] at x1
          replace x1 : w8.cell? ⟨g, 1, none⟩ = some (.slice (some ⟨bD, oD, none⟩) p.dq.length cD) := x1
          obtain ⟨bE, oE, cE, hE8, fE, lbE, xE, zE⟩ := hC8.out.pool.rows.heads.one hW8
          have hD8 := hide (show x.D = .slice (some ⟨bD, oD, none⟩) (p.dq.set V (getq p.dq V).tail).length cD from by rw [List.length_set]; exact hD.out)
          have hE8' : x.D = .slice (some ⟨bE, oE, none⟩) (p.dq.set V (getq p.dq V).tail).length cE := hE8
          rw [hD8.out] at hE8'
          cases hE8'
          clear hE8
          have hSW0 := hC8.out.pool.rows.each W hW8
          have hgW : getq (p.dq.set V (getq p.dq V).tail) W = getq p.dq W := getq_far hWV
          have hSW1 : Sl 3 1 w8 f6 (9 + W * 2) B (updV x.rv V (.slice A6 n c6) W) (getq (p.dq.set V (getq p.dq V).tail) W).length (gI (getq (p.dq.set V (getq p.dq V).tail) W)) := hSW0
          rw [hgW, updV_far hWV] at hSW1
          replace xE : w8.cell? ⟨bD, oD + W, none⟩ = some (updV x.rv V (.slice A6 n c6) W) := xE
          rw [updV_far hWV] at xE
          obtain ⟨AW, cW, hvW⟩ := hSW1.form
          rw [hvW] at xE hSW1
          have hSW := hide hSW1
          have fg8 := hC8.out.fg
          have hS8 := hide (show ∀ wx, Lab f6 (9 + W * 2) B w8 wx → (wx.cell? ⟨g, 1, none⟩ = some (.slice (some ⟨bD, oD, none⟩) p.dq.length cD)) ∧ wx.cell? ⟨bD, oD + W, none⟩ = some (.slice AW (getq p.dq W).length cW) ∧ wx.frozen? ⟨bD, oD + W, none⟩ = false from fun wx hb => by
            have kc : ∀ q o', f6 q ≠ 9 + W * 2 → q < w8.heap.size → wx.cell? ⟨q, o', none⟩ = w8.cell? ⟨q, o', none⟩ ∧ wx.frozen? ⟨q, o', none⟩ = w8.frozen? ⟨q, o', none⟩ := fun q o' hf hl => by
              have := hb.block q hl (fun e => hf e.1)
              constructor
              · simp [World.cell?, this]
              · simp [World.frozen?, this]
            exact ⟨(kc g 1 (by omega) hC8.out.box.lt).1.trans x1, (kc bD _ (by omega) lbE).1.trans xE, (kc bD _ (by omega) lbE).2.trans zE⟩)
          have y12 := (hS8.out w8 (Lab.refl _ _ _ _)).2.1
          have hSr8 := hide (show ∀ A7 c7 w7 f7, Sl 3 1 w7 f7 (9 + W * 2) B (.slice A7 ((getq p.dq W).length + 1) c7) ((getq p.dq W).length + 1) (gThen (gI (getq p.dq W)) ((getq p.dq W).length * 1) (fun _ => .int .i64 z)) → Sl 3 1 w7 f7 (9 + W * 2) B (.slice A7 ((getq p.dq W).length + 1) c7) (getq p.dq W ++ [z]).length (gI (getq p.dq W ++ [z])) from fun A7 c7 w7 f7 hh => by
            rw [List.length_append]
            refine hh.congr (fun k hk => ?_)
            by_cases h1 : k < (getq p.dq W).length
            · rw [gThen_lo (by omega)]
              unfold gI geti
              rw [List.getD_eq_getElem?_getD, List.getD_eq_getElem?_getD, List.getElem?_append_left (by omega)]
            · obtain rfl : k = (getq p.dq W).length := by omega
              rw [gThen_hi (by omega)]
              unfold gI geti
              simp [List.getD_eq_getElem?_getD])
          replace hvW := hide hvW
          replace hgW := hide hgW
          clear hSW0 hSW1 fE lbE xE zE fg8
          refine wp_region_held_drew (S := (fun w' : World => w'.cell? ⟨g, 1, none⟩ = some (.slice (some ⟨bD, oD, none⟩) p.dq.length cD))) (by kernel_rfl) ?_ (fun hHeld => ?_)
          · exact (hS8.out _ (Lab.refl _ _ _ _).drew).1
          refine wpAnyH_take (i := 0) (oi := { dst := some 51, op := Op.move (.tmp 0), type := 85, pos := "l09_jobs.go:196", after := #[], guard := none }) (v := ?_) rfl (by kernel_rfl) (by kernel_rfl) (by kernel_rfl) (fun _ _ _ h => h) (Or.inl ⟨by rfl, ?_⟩) hHeld ?_
          rotate_left
          · (intro wq hSw; (try dsimp only at hSw); first | (go_simp; done) | (go_simp; with_reducible rfl))
          try simp only [Act.put, qa, qb, qc]
          refine wpAnyH_take (i := 1) (oi := { dst := some 52, op := Op.nilCheck (.tmp 51), type := 0, pos := "l09_jobs.go:196", after := #[⟨0, .data⟩], guard := none }) (v := ?_) rfl (by kernel_rfl) (by kernel_rfl) (by kernel_rfl) (fun _ _ _ h => h) (Or.inl ⟨by rfl, ?_⟩) hHeld ?_
          rotate_left
          · (intro wq hSw; (try dsimp only at hSw); first | (go_simp; done) | (go_simp; with_reducible rfl))
          try simp only [Act.put, qa, qb, qc]
          refine wpAnyH_take (i := 2) (oi := { dst := some 53, op := Op.fieldAddr 28 (.tmp 52) 1, type := 0, pos := "l09_jobs.go:196", after := #[⟨1, .data⟩], guard := none }) (v := ?_) rfl (by kernel_rfl) (by kernel_rfl) (by kernel_rfl) (fun _ _ _ h => h) (Or.inl ⟨by rfl, ?_⟩) hHeld ?_
          rotate_left
          · (intro wq hSw; (try dsimp only at hSw); first | (go_simp; done) | (go_simp; with_reducible rfl))
          try simp only [Act.put, qa, qb, qc]
          refine wpAnyH_take (i := 3) (oi := { dst := some 54, op := Op.load 24 (.tmp 53), type := 24, pos := "l09_jobs.go:196", after := #[⟨2, .data⟩], guard := none }) (v := ?_) rfl (by kernel_rfl) (by kernel_rfl) (by kernel_rfl) (fun _ _ _ h => h) (Or.inl ⟨by rfl, ?_⟩) hHeld ?_
          rotate_left
          · (intro wq hSw; (try dsimp only at hSw); first | (go_simp; done) | (go_simp; with_reducible rfl))
          try simp only [Act.put, qa, qb, qc]
          refine wpAnyH_take (i := 4) (oi := { dst := some 55, op := Op.move (.tmp 1), type := 3, pos := "l09_jobs.go:196", after := #[], guard := none }) (v := ?_) rfl (by kernel_rfl) (by kernel_rfl) (by kernel_rfl) (fun _ _ _ h => h) (Or.inl ⟨by rfl, ?_⟩) hHeld ?_
          rotate_left
          · (intro wq hSw; (try dsimp only at hSw); first | (go_simp; done) | (go_simp; with_reducible rfl))
          try simp only [Act.put, qa, qb, qc]
          refine wpAnyH_take (i := 5) (oi := { dst := some 56, op := Op.move (.tmp 0), type := 85, pos := "l09_jobs.go:196", after := #[], guard := none }) (v := ?_) rfl (by kernel_rfl) (by kernel_rfl) (by kernel_rfl) (fun _ _ _ h => h) (Or.inl ⟨by rfl, ?_⟩) hHeld ?_
          rotate_left
          · (intro wq hSw; (try dsimp only at hSw); first | (go_simp; done) | (go_simp; with_reducible rfl))
          try simp only [Act.put, qa, qb, qc]
          refine wpAnyH_take (i := 6) (oi := { dst := some 57, op := Op.nilCheck (.tmp 56), type := 0, pos := "l09_jobs.go:196", after := #[⟨5, .data⟩], guard := none }) (v := ?_) rfl (by kernel_rfl) (by kernel_rfl) (by kernel_rfl) (fun _ _ _ h => h) (Or.inl ⟨by rfl, ?_⟩) hHeld ?_
          rotate_left
          · (intro wq hSw; (try dsimp only at hSw); first | (go_simp; done) | (go_simp; with_reducible rfl))
          try simp only [Act.put, qa, qb, qc]
          refine wpAnyH_take (i := 7) (oi := { dst := some 58, op := Op.fieldAddr 28 (.tmp 57) 1, type := 0, pos := "l09_jobs.go:196", after := #[⟨6, .data⟩], guard := none }) (v := ?_) rfl (by kernel_rfl) (by kernel_rfl) (by kernel_rfl) (fun _ _ _ h => h) (Or.inl ⟨by rfl, ?_⟩) hHeld ?_
          rotate_left
          · (intro wq hSw; (try dsimp only at hSw); first | (go_simp; done) | (go_simp; with_reducible rfl))
          try simp only [Act.put, qa, qb, qc]
          refine wpAnyH_take (i := 8) (oi := { dst := some 59, op := Op.load 24 (.tmp 58), type := 24, pos := "l09_jobs.go:196", after := #[⟨7, .data⟩], guard := none }) (v := ?_) rfl (by kernel_rfl) (by kernel_rfl) (by kernel_rfl) (fun _ _ _ h => h) (Or.inl ⟨by rfl, ?_⟩) hHeld ?_
          rotate_left
          · (intro wq hSw; (try dsimp only at hSw); first | (go_simp; done) | (go_simp; with_reducible rfl))
          try simp only [Act.put, qa, qb, qc]
          refine wpAnyH_take (i := 9) (oi := { dst := some 60, op := Op.move (.tmp 1), type := 3, pos := "l09_jobs.go:196", after := #[], guard := none }) (v := ?_) rfl (by kernel_rfl) (by kernel_rfl) (by kernel_rfl) (fun _ _ _ h => h) (Or.inl ⟨by rfl, ?_⟩) hHeld ?_
          rotate_left
          · (intro wq hSw; (try dsimp only at hSw); first | (go_simp; done) | (go_simp; with_reducible rfl))
          try simp only [Act.put, qa, qb, qc]
          refine wpAnyH_take (i := 10) (oi := { dst := some 61, op := Op.indexAddr 24 (.tmp 59) (.tmp 60), type := 0, pos := "l09_jobs.go:196", after := #[⟨8, .data⟩, ⟨9, .data⟩], guard := none }) (v := ?_) rfl (by kernel_rfl) (by kernel_rfl) (by kernel_rfl) (fun _ _ _ h => h) (Or.inl ⟨by rfl, ?_⟩) hHeld ?_
          rotate_left
          · (intro wq hSw; (try dsimp only at hSw); first | (go_simp; done) | (go_simp; with_reducible rfl))
          try simp only [Act.put, qa, qb, qc]
          refine wpAnyH_take (i := 11) (oi := { dst := some 62, op := Op.fieldAddr 35 (.tmp 61) 0, type := 0, pos := "l09_jobs.go:196", after := #[⟨10, .data⟩], guard := none }) (v := ?_) rfl (by kernel_rfl) (by kernel_rfl) (by kernel_rfl) (fun _ _ _ h => h) (Or.inl ⟨by rfl, ?_⟩) hHeld ?_
          rotate_left
          · (intro wq hSw; (try dsimp only at hSw); first | (go_simp; done) | (go_simp; with_reducible rfl))
          try simp only [Act.put, qa, qb, qc]
          refine wpAnyH_take (i := 13) (oi := { dst := some 64, op := Op.move (.tmp 7), type := 3, pos := "l09_jobs.go:196", after := #[], guard := none }) (v := ?_) rfl (by kernel_rfl) (by kernel_rfl) (by kernel_rfl) (fun _ _ _ h => h) (Or.inl ⟨by rfl, ?_⟩) hHeld ?_
          rotate_left
          · (intro wq hSw; (try dsimp only at hSw); first | (go_simp; done) | (go_simp; with_reducible rfl))
          try simp only [Act.put, qa, qb, qc]
          refine wpAnyH_ready (rs := [12, 14]) (by kernel_rfl) (by simp) ?_
          refine AllReadyH.cons (o := { dst := some 63, op := Op.load 26 (.tmp 62), type := 26, pos := "l09_jobs.go:196", after := #[⟨11, .data⟩], guard := none }) rfl (fun K hK => ?_) (AllReadyH.cons (o := { dst := some 65, op := Op.buildSlice 26 1 #[(0, .tmp 64)], type := 26, pos := "l09_jobs.go:196", after := #[⟨13, .data⟩], guard := none }) rfl (fun K hK => ?_) (AllReadyH.nil))
          · go_simp
            refine hK.out _ _ ?_ (fun hHeldN => ?_)
            · exact (by first | exact (hS8.out _ (Lab.refl _ _ _ _)).1 | exact (hS8.out _ (Lab.refl _ _ _ _).drew).1 | exact (hS8.out _ L9.out).1)
            clear hK K hHeld
            have hHeld := hHeldN
            clear hHeldN
            try simp only [Act.put, qa, qb, qc]
            refine wpAnyH_ready (rs := [14]) (by kernel_rfl) (by simp) ?_
            refine AllReadyH.cons (o := { dst := some 65, op := Op.buildSlice 26 1 #[(0, .tmp 64)], type := 26, pos := "l09_jobs.go:196", after := #[⟨13, .data⟩], guard := none }) rfl (fun K hK => ?_) (AllReadyH.nil)
            · go_simp
              obtain ⟨w9, hw9⟩ : ∃ x, x = (w8.alloc (Obj.cells #[.int .i64 z] 3)).drew := ⟨_, rfl⟩
              rw [← hw9]
              have hb9 := hide (show Below w8.heap.size w8 w9 from by rw [hw9]; exact (below1 _ _).drew)
              have hz9 := hide (show CellsAt w9 (some ⟨w8.heap.size, 0, none⟩) (1 * 1) (fun _ => .int .i64 z) from by
                have hq := (Blk.new w8 3 #[.int .i64 z]).below (Below.refl _ _).drew (Blk.new w8 3 #[.int .i64 z]).lt
                rw [← hw9] at hq
                refine ⟨fun _ _ => rfl, fun _ => ⟨_, 0, rfl, fun j hj => ?_⟩⟩
                obtain rfl : j = 0 := by omega
                simpa using hq.cell 0)
              have L9 := hide (show Lab f6 (9 + W * 2) B w8 w9 from .of_below hb9.out)
              have y12 := (hS8.out w9 L9.out).2.1
              clear hw9
              refine hK.out _ _ ?_ (fun hHeldN => ?_)
              · exact (by first | exact (hS8.out _ (Lab.refl _ _ _ _)).1 | exact (hS8.out _ (Lab.refl _ _ _ _).drew).1 | exact (hS8.out _ L9.out).1)
              clear hK K hHeld
              have hHeld := hHeldN
              clear hHeldN
              try simp only [Act.put, qa, qb, qc]
              refine wpAnyH_ready (rs := [15]) (by kernel_rfl) (by simp) ?_
              refine AllReadyH.cons (o := { dst := some 66, op := Op.call { callee := Callee.builtin Builtin.append, args := #[.tmp 63, .tmp 65], argTypes := #[26, 26] }, type := 26, pos := "l09_jobs.go:196", after := #[⟨12, .data⟩, ⟨14, .data⟩], guard := none }) rfl (fun K hK => ?_) (AllReadyH.nil)
              · rw [if_pos (by rfl)]
                refine wp_append_slv _ _ _ _ (by rfl) 3 i1 _ 1 8 Try.underlying26 hi1 hy0 hy1 hy2 rfl (by omega) (.slice AW (getq p.dq W).length cW) (getq p.dq W).length (gI (getq p.dq W)) (by rfl) (hSW.out.next hb9.out) (some ⟨w8.heap.size, 0, none⟩) 1 1 (fun _ => .int .i64 z) (by rfl) hz9.out (by have : maxLen = 9223372036854775807 := rfl; omega) (by omega) (Nat.le_trans hB8 hb9.out.size) ?_
                intro v10 w10 f10 hS10 hL10 hf10
                have L10 := hide (L9.out.trans hL10)
                have hff10 := hide (show ∀ b, b < w8.heap.size → f10 b = f6 b from fun b hb => hf10 b (Nat.lt_of_lt_of_le hb hb9.out.size))
                obtain ⟨A10, c10, hv10⟩ := hS10.form
                subst hv10
                replace hS10 := hide hS10
                obtain ⟨hSw10, y10, z10⟩ := hS8.out w10 L10.out
                clear hL10 hf10 y12
                refine hK.out _ _ ?_ (fun hHeldN => ?_)
                · exact hSw10
                clear hK K hHeld
                have hHeld := hHeldN
                clear hHeldN
                try simp only [Act.put, qa, qb, qc]
                refine wpAnyH_take (i := 16) (oi := { dst := some 67, op := Op.indexAddr 24 (.tmp 54) (.tmp 55), type := 0, pos := "l09_jobs.go:196", after := #[⟨3, .data⟩, ⟨4, .data⟩, ⟨0, .phase⟩, ⟨1, .phase⟩, ⟨2, .phase⟩, ⟨3, .phase⟩, ⟨4, .phase⟩, ⟨5, .phase⟩, ⟨6, .phase⟩, ⟨7, .phase⟩, ⟨8, .phase⟩, ⟨9, .phase⟩, ⟨10, .phase⟩, ⟨11, .phase⟩, ⟨12, .phase⟩, ⟨13, .phase⟩, ⟨14, .phase⟩, ⟨15, .phase⟩], guard := none }) (v := ?_) rfl (by kernel_rfl) (by kernel_rfl) (by kernel_rfl) (fun _ _ _ h => h) (Or.inl ⟨by rfl, ?_⟩) hHeld ?_
                rotate_left
                · (intro wq hSw; (try dsimp only at hSw); first | (go_simp; done) | (go_simp; with_reducible rfl))
                try simp only [Act.put, qa, qb, qc]
                refine wpAnyH_take (i := 17) (oi := { dst := some 68, op := Op.fieldAddr 35 (.tmp 67) 0, type := 0, pos := "l09_jobs.go:196", after := #[⟨16, .data⟩, ⟨0, .phase⟩, ⟨1, .phase⟩, ⟨2, .phase⟩, ⟨3, .phase⟩, ⟨4, .phase⟩, ⟨5, .phase⟩, ⟨6, .phase⟩, ⟨7, .phase⟩, ⟨8, .phase⟩, ⟨9, .phase⟩, ⟨10, .phase⟩, ⟨11, .phase⟩, ⟨12, .phase⟩, ⟨13, .phase⟩, ⟨14, .phase⟩, ⟨15, .phase⟩], guard := none }) (v := ?_) rfl (by kernel_rfl) (by kernel_rfl) (by kernel_rfl) (fun _ _ _ h => h) (Or.inl ⟨by rfl, ?_⟩) hHeld ?_
                rotate_left
                · (intro wq hSw; (try dsimp only at hSw); first | (go_simp; done) | (go_simp; with_reducible rfl))
                try simp only [Act.put, qa, qb, qc]
                refine wpAnyH_ready (rs := [18]) (by kernel_rfl) (by simp) ?_
                refine AllReadyH.cons (o := { dst := none, op := Op.store 26 (.tmp 68) (.tmp 66), type := 0, pos := "l09_jobs.go:196", after := #[⟨17, .data⟩, ⟨15, .data⟩, ⟨15, .chain⟩, ⟨0, .phase⟩, ⟨1, .phase⟩, ⟨2, .phase⟩, ⟨3, .phase⟩, ⟨4, .phase⟩, ⟨5, .phase⟩, ⟨6, .phase⟩, ⟨7, .phase⟩, ⟨8, .phase⟩, ⟨9, .phase⟩, ⟨10, .phase⟩, ⟨11, .phase⟩, ⟨12, .phase⟩, ⟨13, .phase⟩, ⟨14, .phase⟩, ⟨15, .phase⟩], guard := none }) rfl (fun K hK => ?_) (AllReadyH.nil)
                · go_simp
                  refine hK.out _ _ ?_ (fun hHeldN => ?_)
                  · exact cell_far hSw10 ngD
                  clear hK K hHeld
                  have hHeld := hHeldN
                  clear hHeldN
                  try simp only [Act.put, qa, qb, qc]
                  refine wpAnyH_done (by kernel_rfl) ?_ _
                  clear hHeld
                  have s2 := hC8.out.put_row hW8 L10.out hff10.out (r := getq p.dq W ++ [z]) (hSr8.out _ _ _ _ hS10.out) hD8.out
                  go_wp2_with fail
                  all_goals
                    go_ret
                    refine ⟨rfl, f10, ?_, hO8.out.then_ hff6.out s2.2, fun b hb => (hff10.out b (Nat.lt_of_lt_of_le hb hO8.out.size)).trans (hff6.out b hb)⟩
                    rw [hT.out]
                    exact ⟨_, s2.1⟩
          · go_simp
            obtain ⟨w9, hw9⟩ : ∃ x, x = (w8.alloc (Obj.cells #[.int .i64 z] 3)).drew := ⟨_, rfl⟩
            rw [← hw9]
            have hb9 := hide (show Below w8.heap.size w8 w9 from by rw [hw9]; exact (below1 _ _).drew)
            have hz9 := hide (show CellsAt w9 (some ⟨w8.heap.size, 0, none⟩) (1 * 1) (fun _ => .int .i64 z) from by
              have hq := (Blk.new w8 3 #[.int .i64 z]).below (Below.refl _ _).drew (Blk.new w8 3 #[.int .i64 z]).lt
              rw [← hw9] at hq
              refine ⟨fun _ _ => rfl, fun _ => ⟨_, 0, rfl, fun j hj => ?_⟩⟩
              obtain rfl : j = 0 := by omega
              simpa using hq.cell 0)
            have L9 := hide (show Lab f6 (9 + W * 2) B w8 w9 from .of_below hb9.out)
            have y12 := (hS8.out w9 L9.out).2.1
            clear hw9
            refine hK.out _ _ ?_ (fun hHeldN => ?_)
            · exact (by first | exact (hS8.out _ (Lab.refl _ _ _ _)).1 | exact (hS8.out _ (Lab.refl _ _ _ _).drew).1 | exact (hS8.out _ L9.out).1)
            clear hK K hHeld
            have hHeld := hHeldN
            clear hHeldN
            try simp only [Act.put, qa, qb, qc]
            refine wpAnyH_ready (rs := [12]) (by kernel_rfl) (by simp) ?_
            refine AllReadyH.cons (o := { dst := some 63, op := Op.load 26 (.tmp 62), type := 26, pos := "l09_jobs.go:196", after := #[⟨11, .data⟩], guard := none }) rfl (fun K hK => ?_) (AllReadyH.nil)
            · go_simp
              refine hK.out _ _ ?_ (fun hHeldN => ?_)
              · exact (by first | exact (hS8.out _ (Lab.refl _ _ _ _)).1 | exact (hS8.out _ (Lab.refl _ _ _ _).drew).1 | exact (hS8.out _ L9.out).1)
              clear hK K hHeld
              have hHeld := hHeldN
              clear hHeldN
              try simp only [Act.put, qa, qb, qc]
              refine wpAnyH_ready (rs := [15]) (by kernel_rfl) (by simp) ?_
              refine AllReadyH.cons (o := { dst := some 66, op := Op.call { callee := Callee.builtin Builtin.append, args := #[.tmp 63, .tmp 65], argTypes := #[26, 26] }, type := 26, pos := "l09_jobs.go:196", after := #[⟨12, .data⟩, ⟨14, .data⟩], guard := none }) rfl (fun K hK => ?_) (AllReadyH.nil)
              · rw [if_pos (by rfl)]
                refine wp_append_slv _ _ _ _ (by rfl) 3 i1 _ 1 8 Try.underlying26 hi1 hy0 hy1 hy2 rfl (by omega) (.slice AW (getq p.dq W).length cW) (getq p.dq W).length (gI (getq p.dq W)) (by rfl) (hSW.out.next hb9.out) (some ⟨w8.heap.size, 0, none⟩) 1 1 (fun _ => .int .i64 z) (by rfl) hz9.out (by have : maxLen = 9223372036854775807 := rfl; omega) (by omega) (Nat.le_trans hB8 hb9.out.size) ?_
                intro v10 w10 f10 hS10 hL10 hf10
                have L10 := hide (L9.out.trans hL10)
                have hff10 := hide (show ∀ b, b < w8.heap.size → f10 b = f6 b from fun b hb => hf10 b (Nat.lt_of_lt_of_le hb hb9.out.size))
                obtain ⟨A10, c10, hv10⟩ := hS10.form
                subst hv10
                replace hS10 := hide hS10
                obtain ⟨hSw10, y10, z10⟩ := hS8.out w10 L10.out
                clear hL10 hf10 y12
                refine hK.out _ _ ?_ (fun hHeldN => ?_)
                · exact hSw10
                clear hK K hHeld
                have hHeld := hHeldN
                clear hHeldN
                try simp only [Act.put, qa, qb, qc]
                refine wpAnyH_take (i := 16) (oi := { dst := some 67, op := Op.indexAddr 24 (.tmp 54) (.tmp 55), type := 0, pos := "l09_jobs.go:196", after := #[⟨3, .data⟩, ⟨4, .data⟩, ⟨0, .phase⟩, ⟨1, .phase⟩, ⟨2, .phase⟩, ⟨3, .phase⟩, ⟨4, .phase⟩, ⟨5, .phase⟩, ⟨6, .phase⟩, ⟨7, .phase⟩, ⟨8, .phase⟩, ⟨9, .phase⟩, ⟨10, .phase⟩, ⟨11, .phase⟩, ⟨12, .phase⟩, ⟨13, .phase⟩, ⟨14, .phase⟩, ⟨15, .phase⟩], guard := none }) (v := ?_) rfl (by kernel_rfl) (by kernel_rfl) (by kernel_rfl) (fun _ _ _ h => h) (Or.inl ⟨by rfl, ?_⟩) hHeld ?_
                rotate_left
                · (intro wq hSw; (try dsimp only at hSw); first | (go_simp; done) | (go_simp; with_reducible rfl))
                try simp only [Act.put, qa, qb, qc]
                refine wpAnyH_take (i := 17) (oi := { dst := some 68, op := Op.fieldAddr 35 (.tmp 67) 0, type := 0, pos := "l09_jobs.go:196", after := #[⟨16, .data⟩, ⟨0, .phase⟩, ⟨1, .phase⟩, ⟨2, .phase⟩, ⟨3, .phase⟩, ⟨4, .phase⟩, ⟨5, .phase⟩, ⟨6, .phase⟩, ⟨7, .phase⟩, ⟨8, .phase⟩, ⟨9, .phase⟩, ⟨10, .phase⟩, ⟨11, .phase⟩, ⟨12, .phase⟩, ⟨13, .phase⟩, ⟨14, .phase⟩, ⟨15, .phase⟩], guard := none }) (v := ?_) rfl (by kernel_rfl) (by kernel_rfl) (by kernel_rfl) (fun _ _ _ h => h) (Or.inl ⟨by rfl, ?_⟩) hHeld ?_
                rotate_left
                · (intro wq hSw; (try dsimp only at hSw); first | (go_simp; done) | (go_simp; with_reducible rfl))
                try simp only [Act.put, qa, qb, qc]
                refine wpAnyH_ready (rs := [18]) (by kernel_rfl) (by simp) ?_
                refine AllReadyH.cons (o := { dst := none, op := Op.store 26 (.tmp 68) (.tmp 66), type := 0, pos := "l09_jobs.go:196", after := #[⟨17, .data⟩, ⟨15, .data⟩, ⟨15, .chain⟩, ⟨0, .phase⟩, ⟨1, .phase⟩, ⟨2, .phase⟩, ⟨3, .phase⟩, ⟨4, .phase⟩, ⟨5, .phase⟩, ⟨6, .phase⟩, ⟨7, .phase⟩, ⟨8, .phase⟩, ⟨9, .phase⟩, ⟨10, .phase⟩, ⟨11, .phase⟩, ⟨12, .phase⟩, ⟨13, .phase⟩, ⟨14, .phase⟩, ⟨15, .phase⟩], guard := none }) rfl (fun K hK => ?_) (AllReadyH.nil)
                · go_simp
                  refine hK.out _ _ ?_ (fun hHeldN => ?_)
                  · exact cell_far hSw10 ngD
                  clear hK K hHeld
                  have hHeld := hHeldN
                  clear hHeldN
                  try simp only [Act.put, qa, qb, qc]
                  refine wpAnyH_done (by kernel_rfl) ?_ _
                  clear hHeld
                  have s2 := hC8.out.put_row hW8 L10.out hff10.out (r := getq p.dq W ++ [z]) (hSr8.out _ _ _ _ hS10.out) hD8.out
                  go_wp2_with fail
                  all_goals
                    go_ret
                    refine ⟨rfl, f10, ?_, hO8.out.then_ hff6.out s2.2, fun b hb => (hff10.out b (Nat.lt_of_lt_of_le hb hO8.out.size)).trans (hff6.out b hb)⟩
                    rw [hT.out]
                    exact ⟨_, s2.1⟩
  · go_simp
    refine hK.out _ _ ?_ (fun hHeldN => ?_)
    · exact (by first | exact (hS.out _ (Lab.refl _ _ _ _)).1 | exact (hS.out _ (Lab.refl _ _ _ _).drew).1 | exact (hS.out _ L5.out).1)
    clear hK K hHeld
    have hHeld := hHeldN
    clear hHeldN
    try simp only [Act.put, qa, qb, qc]
    refine wpAnyH_take (i := 14) (oi := { dst := some 47, op := Op.slice 26 (.tmp 46) (some (.const (Value.int IntKind.i64 1))) none none, type := 26, pos := "l09_jobs.go:195", after := #[⟨13, .data⟩], guard := none }) (v := ?_) rfl (by kernel_rfl) (by kernel_rfl) (by kernel_rfl) (fun _ _ _ h => h) (Or.inl ⟨by rfl, ?_⟩) hHeld ?_
    rotate_left
    · (intro wq hSw; (try dsimp only at hSw); first | (go_simp; done) | (go_simp; with_reducible rfl))
    try simp only [Act.put, qa, qb, qc]
    refine wpAnyH_ready (rs := [5]) (by kernel_rfl) (by simp) ?_
    refine AllReadyH.cons (o := { dst := some 38, op := Op.buildSlice 26 0 #[], type := 26, pos := "l09_jobs.go:195", after := #[], guard := none }) rfl (fun K hK => ?_) (AllReadyH.nil)
    · go_simp
      obtain ⟨w5, hw5⟩ : ∃ x, x = (w.alloc (Obj.cells #[] 3)).drew := ⟨_, rfl⟩
      rw [← hw5]
      have hb5 := hide (show Below w.heap.size w w5 from by rw [hw5]; exact (below1 _ _).drew)
      have hq5 := hide (show Blk w5 w.heap.size 3 #[] from by rw [hw5]; exact (Blk.new w 3 #[]).below (Below.refl _ _).drew (Blk.new w 3 #[]).lt)
      have L5 := hide (show Lab f (9 + V * 2) B w w5 from .of_below hb5.out)
      have y13 := (hS.out w5 L5.out).2.1
      clear hw5
      refine hK.out _ _ ?_ (fun hHeldN => ?_)
      · exact (by first | exact (hS.out _ (Lab.refl _ _ _ _)).1 | exact (hS.out _ (Lab.refl _ _ _ _).drew).1 | exact (hS.out _ L5.out).1)
      clear hK K hHeld
      have hHeld := hHeldN
      clear hHeldN
      try simp only [Act.put, qa, qb, qc]
      refine wpAnyH_ready (rs := [15]) (by kernel_rfl) (by simp) ?_
      refine AllReadyH.cons (o := { dst := some 48, op := Op.call { callee := Callee.builtin Builtin.append, args := #[.tmp 38, .tmp 47], argTypes := #[26, 26] }, type := 26, pos := "l09_jobs.go:195", after := #[⟨5, .data⟩, ⟨14, .data⟩], guard := none }) rfl (fun K hK => ?_) (AllReadyH.nil)
      · rw [if_pos (by rfl)]
        refine wp_append_empty _ _ _ _ (by rfl) 3 i1 _ 1 8 Try.underlying26 hi1 hy0 hy1 hy2 rfl (by omega) w.heap.size (by rfl) (f := lab f w.heap.size (9 + V * 2)) (l := (9 + V * 2)) (B := B) hq5.out (lab_at _ _ _) hB _ n (cR - 1) (gI (getq p.dq V).tail) (by rfl) (hin.out w5 hb5.out) (by have : maxLen = 9223372036854775807 := rfl; omega) (by omega) ?_
        intro v6 w6 f6 hS6 hb6 hf6
        have hff6 := hide (show ∀ b, b < w.heap.size → f6 b = f b from fun b hb => (hf6 b (Nat.lt_of_lt_of_le hb hb5.out.size)).trans (lab_old hb))
        have L6 := hide (show Lab f (9 + V * 2) B w w6 from .of_below (below_then hb5.out hb6))
        obtain ⟨A6, c6, hv6⟩ := hS6.form
        subst hv6
        replace hS6 := hide hS6
        obtain ⟨hSw6, y6, z6⟩ := hS.out w6 L6.out
        clear hb6 hf6 y13
        refine hK.out _ _ ?_ (fun hHeldN => ?_)
        · exact hSw6
        clear hK K hHeld
        have hHeld := hHeldN
        clear hHeldN
        try simp only [Act.put, qa, qb, qc]
        refine wpAnyH_take (i := 16) (oi := { dst := some 49, op := Op.indexAddr 24 (.tmp 36) (.tmp 37), type := 0, pos := "l09_jobs.go:195", after := #[⟨3, .data⟩, ⟨4, .data⟩, ⟨0, .phase⟩, ⟨1, .phase⟩, ⟨2, .phase⟩, ⟨3, .phase⟩, ⟨4, .phase⟩, ⟨5, .phase⟩, ⟨6, .phase⟩, ⟨7, .phase⟩, ⟨8, .phase⟩, ⟨9, .phase⟩, ⟨10, .phase⟩, ⟨11, .phase⟩, ⟨12, .phase⟩, ⟨13, .phase⟩, ⟨14, .phase⟩, ⟨15, .phase⟩], guard := none }) (v := ?_) rfl (by kernel_rfl) (by kernel_rfl) (by kernel_rfl) (fun _ _ _ h => h) (Or.inl ⟨by rfl, ?_⟩) hHeld ?_
        rotate_left
        · (intro wq hSw; (try dsimp only at hSw); first | (go_simp; done) | (go_simp; with_reducible rfl))
        try simp only [Act.put, qa, qb, qc]
        refine wpAnyH_take (i := 17) (oi := { dst := some 50, op := Op.fieldAddr 35 (.tmp 49) 0, type := 0, pos := "l09_jobs.go:195", after := #[⟨16, .data⟩, ⟨0, .phase⟩, ⟨1, .phase⟩, ⟨2, .phase⟩, ⟨3, .phase⟩, ⟨4, .phase⟩, ⟨5, .phase⟩, ⟨6, .phase⟩, ⟨7, .phase⟩, ⟨8, .phase⟩, ⟨9, .phase⟩, ⟨10, .phase⟩, ⟨11, .phase⟩, ⟨12, .phase⟩, ⟨13, .phase⟩, ⟨14, .phase⟩, ⟨15, .phase⟩], guard := none }) (v := ?_) rfl (by kernel_rfl) (by kernel_rfl) (by kernel_rfl) (fun _ _ _ h => h) (Or.inl ⟨by rfl, ?_⟩) hHeld ?_
        rotate_left
        · (intro wq hSw; (try dsimp only at hSw); first | (go_simp; done) | (go_simp; with_reducible rfl))
        try simp only [Act.put, qa, qb, qc]
        refine wpAnyH_ready (rs := [18]) (by kernel_rfl) (by simp) ?_
        refine AllReadyH.cons (o := { dst := none, op := Op.store 26 (.tmp 50) (.tmp 48), type := 0, pos := "l09_jobs.go:195", after := #[⟨17, .data⟩, ⟨15, .data⟩, ⟨15, .chain⟩, ⟨0, .phase⟩, ⟨1, .phase⟩, ⟨2, .phase⟩, ⟨3, .phase⟩, ⟨4, .phase⟩, ⟨5, .phase⟩, ⟨6, .phase⟩, ⟨7, .phase⟩, ⟨8, .phase⟩, ⟨9, .phase⟩, ⟨10, .phase⟩, ⟨11, .phase⟩, ⟨12, .phase⟩, ⟨13, .phase⟩, ⟨14, .phase⟩, ⟨15, .phase⟩], guard := none }) rfl (fun K hK => ?_) (AllReadyH.nil)
        · go_simp
          refine hK.out _ _ ?_ (fun hHeldN => ?_)
          · exact cell_far hSw6 ngD
          clear hK K hHeld
          have hHeld := hHeldN
          clear hHeldN
          try simp only [Act.put, qa, qb, qc]
          refine wpAnyH_done (by kernel_rfl) ?_ _
          clear hHeld
          have s1 := h.out.put_row hV L6.out hff6.out (r := (getq p.dq V).tail) (hSr.out _ _ _ hS6.out) hD.out
          obtain ⟨w8, hw8⟩ : ∃ x, x = w6.setCell ⟨bD, oD + V, none⟩ (.slice A6 n c6) := ⟨_, rfl⟩
          rw [← hw8] at s1
          have hC8 := hide s1.1
          have hO8 := hide s1.2
          go_upto_region 5 with fail
          rw [← hw8]
          have hB8 : B ≤ w8.heap.size := Nat.le_trans hB s1.2.size
          clear hw8 s1 hS6 L6 L5 hSw6 y6 z6 xh zh xz hq5 hb5 hSr hS hin x1
          have hW8 : W < ({ p with dq := p.dq.set V (getq p.dq V).tail } : PoolD).dq.length := by show W < (p.dq.set V _).length; rw [List.length_set]; exact hW
          obtain ⟨⟨-, x1, -, -, -, -, -⟩, -⟩ := box7 hC8.out.box
          rw [show x.D = .slice (some ⟨bD, oD, none⟩) p.dq.length cD from hD.out] at x1
          replace x1 : w8.cell? ⟨g, 1, none⟩ = some (.slice (some ⟨bD, oD, none⟩) p.dq.length cD) := x1
          obtain ⟨bE, oE, cE, hE8, fE, lbE, xE, zE⟩ := hC8.out.pool.rows.heads.one hW8
          have hD8 := hide (show x.D = .slice (some ⟨bD, oD, none⟩) (p.dq.set V (getq p.dq V).tail).length cD from by rw [List.length_set]; exact hD.out)
          have hE8' : x.D = .slice (some ⟨bE, oE, none⟩) (p.dq.set V (getq p.dq V).tail).length cE := hE8
          rw [hD8.out] at hE8'
          cases hE8'
          clear hE8
          have hSW0 := hC8.out.pool.rows.each W hW8
          have hgW : getq (p.dq.set V (getq p.dq V).tail) W = getq p.dq W := getq_far hWV
          have hSW1 : Sl 3 1 w8 f6 (9 + W * 2) B (updV x.rv V (.slice A6 n c6) W) (getq (p.dq.set V (getq p.dq V).tail) W).length (gI (getq (p.dq.set V (getq p.dq V).tail) W)) := hSW0
          rw [hgW, updV_far hWV] at hSW1
          replace xE : w8.cell? ⟨bD, oD + W, none⟩ = some (updV x.rv V (.slice A6 n c6) W) := xE
          rw [updV_far hWV] at xE
          obtain ⟨AW, cW, hvW⟩ := hSW1.form
          rw [hvW] at xE hSW1
          have hSW := hide hSW1
          have fg8 := hC8.out.fg
          have hS8 := hide (show ∀ wx, Lab f6 (9 + W * 2) B w8 wx → (wx.cell? ⟨g, 1, none⟩ = some (.slice (some ⟨bD, oD, none⟩) p.dq.length cD)) ∧ wx.cell? ⟨bD, oD + W, none⟩ = some (.slice AW (getq p.dq W).length cW) ∧ wx.frozen? ⟨bD, oD + W, none⟩ = false from fun wx hb => by
            have kc : ∀ q o', f6 q ≠ 9 + W * 2 → q < w8.heap.size → wx.cell? ⟨q, o', none⟩ = w8.cell? ⟨q, o', none⟩ ∧ wx.frozen? ⟨q, o', none⟩ = w8.frozen? ⟨q, o', none⟩ := fun q o' hf hl => by
              have := hb.block q hl (fun e => hf e.1)
              constructor
              · simp [World.cell?, this]
              · simp [World.frozen?, this]
            exact ⟨(kc g 1 (by omega) hC8.out.box.lt).1.trans x1, (kc bD _ (by omega) lbE).1.trans xE, (kc bD _ (by omega) lbE).2.trans zE⟩)
          have y12 := (hS8.out w8 (Lab.refl _ _ _ _)).2.1
          have hSr8 := hide (show ∀ A7 c7 w7 f7, Sl 3 1 w7 f7 (9 + W * 2) B (.slice A7 ((getq p.dq W).length + 1) c7) ((getq p.dq W).length + 1) (gThen (gI (getq p.dq W)) ((getq p.dq W).length * 1) (fun _ => .int .i64 z)) → Sl 3 1 w7 f7 (9 + W * 2) B (.slice A7 ((getq p.dq W).length + 1) c7) (getq p.dq W ++ [z]).length (gI (getq p.dq W ++ [z])) from fun A7 c7 w7 f7 hh => by
            rw [List.length_append]
            refine hh.congr (fun k hk => ?_)
            by_cases h1 : k < (getq p.dq W).length
            · rw [gThen_lo (by omega)]
              unfold gI geti
              rw [List.getD_eq_getElem?_getD, List.getD_eq_getElem?_getD, List.getElem?_append_left (by omega)]
            · obtain rfl : k = (getq p.dq W).length := by omega
              rw [gThen_hi (by omega)]
              unfold gI geti
              simp [List.getD_eq_getElem?_getD])
          replace hvW := hide hvW
          replace hgW := hide hgW
          clear hSW0 hSW1 fE lbE xE zE fg8
          refine wp_region_held_drew (S := (fun w' : World => w'.cell? ⟨g, 1, none⟩ = some (.slice (some ⟨bD, oD, none⟩) p.dq.length cD))) (by kernel_rfl) ?_ (fun hHeld => ?_)
          · exact (hS8.out _ (Lab.refl _ _ _ _).drew).1
          refine wpAnyH_take (i := 0) (oi := { dst := some 51, op := Op.move (.tmp 0), type := 85, pos := "l09_jobs.go:196", after := #[], guard := none }) (v := ?_) rfl (by kernel_rfl) (by kernel_rfl) (by kernel_rfl) (fun _ _ _ h => h) (Or.inl ⟨by rfl, ?_⟩) hHeld ?_
          rotate_left
          · (intro wq hSw; (try dsimp only at hSw); first | (go_simp; done) | (go_simp; with_reducible rfl))
          try simp only [Act.put, qa, qb, qc]
          refine wpAnyH_take (i := 1) (oi := { dst := some 52, op := Op.nilCheck (.tmp 51), type := 0, pos := "l09_jobs.go:196", after := #[⟨0, .data⟩], guard := none }) (v := ?_) rfl (by kernel_rfl) (by kernel_rfl) (by kernel_rfl) (fun _ _ _ h => h) (Or.inl ⟨by rfl, ?_⟩) hHeld ?_
          rotate_left
          · (intro wq hSw; (try dsimp only at hSw); first | (go_simp; done) | (go_simp; with_reducible rfl))
          try simp only [Act.put, qa, qb, qc]
          refine wpAnyH_take (i := 2) (oi := { dst := some 53, op := Op.fieldAddr 28 (.tmp 52) 1, type := 0, pos := "l09_jobs.go:196", after := #[⟨1, .data⟩], guard := none }) (v := ?_) rfl (by kernel_rfl) (by kernel_rfl) (by kernel_rfl) (fun _ _ _ h => h) (Or.inl ⟨by rfl, ?_⟩) hHeld ?_
          rotate_left
          · (intro wq hSw; (try dsimp only at hSw); first | (go_simp; done) | (go_simp; with_reducible rfl))
          try simp only [Act.put, qa, qb, qc]
          refine wpAnyH_take (i := 3) (oi := { dst := some 54, op := Op.load 24 (.tmp 53), type := 24, pos := "l09_jobs.go:196", after := #[⟨2, .data⟩], guard := none }) (v := ?_) rfl (by kernel_rfl) (by kernel_rfl) (by kernel_rfl) (fun _ _ _ h => h) (Or.inl ⟨by rfl, ?_⟩) hHeld ?_
          rotate_left
          · (intro wq hSw; (try dsimp only at hSw); first | (go_simp; done) | (go_simp; with_reducible rfl))
          try simp only [Act.put, qa, qb, qc]
          refine wpAnyH_take (i := 4) (oi := { dst := some 55, op := Op.move (.tmp 1), type := 3, pos := "l09_jobs.go:196", after := #[], guard := none }) (v := ?_) rfl (by kernel_rfl) (by kernel_rfl) (by kernel_rfl) (fun _ _ _ h => h) (Or.inl ⟨by rfl, ?_⟩) hHeld ?_
          rotate_left
          · (intro wq hSw; (try dsimp only at hSw); first | (go_simp; done) | (go_simp; with_reducible rfl))
          try simp only [Act.put, qa, qb, qc]
          refine wpAnyH_take (i := 5) (oi := { dst := some 56, op := Op.move (.tmp 0), type := 85, pos := "l09_jobs.go:196", after := #[], guard := none }) (v := ?_) rfl (by kernel_rfl) (by kernel_rfl) (by kernel_rfl) (fun _ _ _ h => h) (Or.inl ⟨by rfl, ?_⟩) hHeld ?_
          rotate_left
          · (intro wq hSw; (try dsimp only at hSw); first | (go_simp; done) | (go_simp; with_reducible rfl))
          try simp only [Act.put, qa, qb, qc]
          refine wpAnyH_take (i := 6) (oi := { dst := some 57, op := Op.nilCheck (.tmp 56), type := 0, pos := "l09_jobs.go:196", after := #[⟨5, .data⟩], guard := none }) (v := ?_) rfl (by kernel_rfl) (by kernel_rfl) (by kernel_rfl) (fun _ _ _ h => h) (Or.inl ⟨by rfl, ?_⟩) hHeld ?_
          rotate_left
          · (intro wq hSw; (try dsimp only at hSw); first | (go_simp; done) | (go_simp; with_reducible rfl))
          try simp only [Act.put, qa, qb, qc]
          refine wpAnyH_take (i := 7) (oi := { dst := some 58, op := Op.fieldAddr 28 (.tmp 57) 1, type := 0, pos := "l09_jobs.go:196", after := #[⟨6, .data⟩], guard := none }) (v := ?_) rfl (by kernel_rfl) (by kernel_rfl) (by kernel_rfl) (fun _ _ _ h => h) (Or.inl ⟨by rfl, ?_⟩) hHeld ?_
          rotate_left
          · (intro wq hSw; (try dsimp only at hSw); first | (go_simp; done) | (go_simp; with_reducible rfl))
          try simp only [Act.put, qa, qb, qc]
          refine wpAnyH_take (i := 8) (oi := { dst := some 59, op := Op.load 24 (.tmp 58), type := 24, pos := "l09_jobs.go:196", after := #[⟨7, .data⟩], guard := none }) (v := ?_) rfl (by kernel_rfl) (by kernel_rfl) (by kernel_rfl) (fun _ _ _ h => h) (Or.inl ⟨by rfl, ?_⟩) hHeld ?_
          rotate_left
          · (intro wq hSw; (try dsimp only at hSw); first | (go_simp; done) | (go_simp; with_reducible rfl))
          try simp only [Act.put, qa, qb, qc]
          refine wpAnyH_take (i := 9) (oi := { dst := some 60, op := Op.move (.tmp 1), type := 3, pos := "l09_jobs.go:196", after := #[], guard := none }) (v := ?_) rfl (by kernel_rfl) (by kernel_rfl) (by kernel_rfl) (fun _ _ _ h => h) (Or.inl ⟨by rfl, ?_⟩) hHeld ?_
          rotate_left
          · (intro wq hSw; (try dsimp only at hSw); first | (go_simp; done) | (go_simp; with_reducible rfl))
          try simp only [Act.put, qa, qb, qc]
          refine wpAnyH_take (i := 10) (oi := { dst := some 61, op := Op.indexAddr 24 (.tmp 59) (.tmp 60), type := 0, pos := "l09_jobs.go:196", after := #[⟨8, .data⟩, ⟨9, .data⟩], guard := none }) (v := ?_) rfl (by kernel_rfl) (by kernel_rfl) (by kernel_rfl) (fun _ _ _ h => h) (Or.inl ⟨by rfl, ?_⟩) hHeld ?_
          rotate_left
          · (intro wq hSw; (try dsimp only at hSw); first | (go_simp; done) | (go_simp; with_reducible rfl))
          try simp only [Act.put, qa, qb, qc]
          refine wpAnyH_take (i := 11) (oi := { dst := some 62, op := Op.fieldAddr 35 (.tmp 61) 0, type := 0, pos := "l09_jobs.go:196", after := #[⟨10, .data⟩], guard := none }) (v := ?_) rfl (by kernel_rfl) (by kernel_rfl) (by kernel_rfl) (fun _ _ _ h => h) (Or.inl ⟨by rfl, ?_⟩) hHeld ?_
          rotate_left
          · (intro wq hSw; (try dsimp only at hSw); first | (go_simp; done) | (go_simp; with_reducible rfl))
          try simp only [Act.put, qa, qb, qc]
          refine wpAnyH_take (i := 13) (oi := { dst := some 64, op := Op.move (.tmp 7), type := 3, pos := "l09_jobs.go:196", after := #[], guard := none }) (v := ?_) rfl (by kernel_rfl) (by kernel_rfl) (by kernel_rfl) (fun _ _ _ h => h) (Or.inl ⟨by rfl, ?_⟩) hHeld ?_
          rotate_left
          · (intro wq hSw; (try dsimp only at hSw); first | (go_simp; done) | (go_simp; with_reducible rfl))
          try simp only [Act.put, qa, qb, qc]
          refine wpAnyH_ready (rs := [12, 14]) (by kernel_rfl) (by simp) ?_
          refine AllReadyH.cons (o := { dst := some 63, op := Op.load 26 (.tmp 62), type := 26, pos := "l09_jobs.go:196", after := #[⟨11, .data⟩], guard := none }) rfl (fun K hK => ?_) (AllReadyH.cons (o := { dst := some 65, op := Op.buildSlice 26 1 #[(0, .tmp 64)], type := 26, pos := "l09_jobs.go:196", after := #[⟨13, .data⟩], guard := none }) rfl (fun K hK => ?_) (AllReadyH.nil))
          · go_simp
            refine hK.out _ _ ?_ (fun hHeldN => ?_)
            · exact (by first | exact (hS8.out _ (Lab.refl _ _ _ _)).1 | exact (hS8.out _ (Lab.refl _ _ _ _).drew).1 | exact (hS8.out _ L9.out).1)
            clear hK K hHeld
            have hHeld := hHeldN
            clear hHeldN
            try simp only [Act.put, qa, qb, qc]
            refine wpAnyH_ready (rs := [14]) (by kernel_rfl) (by simp) ?_
            refine AllReadyH.cons (o := { dst := some 65, op := Op.buildSlice 26 1 #[(0, .tmp 64)], type := 26, pos := "l09_jobs.go:196", after := #[⟨13, .data⟩], guard := none }) rfl (fun K hK => ?_) (AllReadyH.nil)
            · go_simp
              obtain ⟨w9, hw9⟩ : ∃ x, x = (w8.alloc (Obj.cells #[.int .i64 z] 3)).drew := ⟨_, rfl⟩
              rw [← hw9]
              have hb9 := hide (show Below w8.heap.size w8 w9 from by rw [hw9]; exact (below1 _ _).drew)
              have hz9 := hide (show CellsAt w9 (some ⟨w8.heap.size, 0, none⟩) (1 * 1) (fun _ => .int .i64 z) from by
                have hq := (Blk.new w8 3 #[.int .i64 z]).below (Below.refl _ _).drew (Blk.new w8 3 #[.int .i64 z]).lt
                rw [← hw9] at hq
                refine ⟨fun _ _ => rfl, fun _ => ⟨_, 0, rfl, fun j hj => ?_⟩⟩
                obtain rfl : j = 0 := by omega
                simpa using hq.cell 0)
              have L9 := hide (show Lab f6 (9 + W * 2) B w8 w9 from .of_below hb9.out)
              have y12 := (hS8.out w9 L9.out).2.1
              clear hw9
              refine hK.out _ _ ?_ (fun hHeldN => ?_)
              · exact (by first | exact (hS8.out _ (Lab.refl _ _ _ _)).1 | exact (hS8.out _ (Lab.refl _ _ _ _).drew).1 | exact (hS8.out _ L9.out).1)
              clear hK K hHeld
              have hHeld := hHeldN
              clear hHeldN
              try simp only [Act.put, qa, qb, qc]
              refine wpAnyH_ready (rs := [15]) (by kernel_rfl) (by simp) ?_
              refine AllReadyH.cons (o := { dst := some 66, op := Op.call { callee := Callee.builtin Builtin.append, args := #[.tmp 63, .tmp 65], argTypes := #[26, 26] }, type := 26, pos := "l09_jobs.go:196", after := #[⟨12, .data⟩, ⟨14, .data⟩], guard := none }) rfl (fun K hK => ?_) (AllReadyH.nil)
              · rw [if_pos (by rfl)]
                refine wp_append_slv _ _ _ _ (by rfl) 3 i1 _ 1 8 Try.underlying26 hi1 hy0 hy1 hy2 rfl (by omega) (.slice AW (getq p.dq W).length cW) (getq p.dq W).length (gI (getq p.dq W)) (by rfl) (hSW.out.next hb9.out) (some ⟨w8.heap.size, 0, none⟩) 1 1 (fun _ => .int .i64 z) (by rfl) hz9.out (by have : maxLen = 9223372036854775807 := rfl; omega) (by omega) (Nat.le_trans hB8 hb9.out.size) ?_
                intro v10 w10 f10 hS10 hL10 hf10
                have L10 := hide (L9.out.trans hL10)
                have hff10 := hide (show ∀ b, b < w8.heap.size → f10 b = f6 b from fun b hb => hf10 b (Nat.lt_of_lt_of_le hb hb9.out.size))
                obtain ⟨A10, c10, hv10⟩ := hS10.form
                subst hv10
                replace hS10 := hide hS10
                obtain ⟨hSw10, y10, z10⟩ := hS8.out w10 L10.out
                clear hL10 hf10 y12
                refine hK.out _ _ ?_ (fun hHeldN => ?_)
                · exact hSw10
                clear hK K hHeld
                have hHeld := hHeldN
                clear hHeldN
                try simp only [Act.put, qa, qb, qc]
                refine wpAnyH_take (i := 16) (oi := { dst := some 67, op := Op.indexAddr 24 (.tmp 54) (.tmp 55), type := 0, pos := "l09_jobs.go:196", after := #[⟨3, .data⟩, ⟨4, .data⟩, ⟨0, .phase⟩, ⟨1, .phase⟩, ⟨2, .phase⟩, ⟨3, .phase⟩, ⟨4, .phase⟩, ⟨5, .phase⟩, ⟨6, .phase⟩, ⟨7, .phase⟩, ⟨8, .phase⟩, ⟨9, .phase⟩, ⟨10, .phase⟩, ⟨11, .phase⟩, ⟨12, .phase⟩, ⟨13, .phase⟩, ⟨14, .phase⟩, ⟨15, .phase⟩], guard := none }) (v := ?_) rfl (by kernel_rfl) (by kernel_rfl) (by kernel_rfl) (fun _ _ _ h => h) (Or.inl ⟨by rfl, ?_⟩) hHeld ?_
                rotate_left
                · (intro wq hSw; (try dsimp only at hSw); first | (go_simp; done) | (go_simp; with_reducible rfl))
                try simp only [Act.put, qa, qb, qc]
                refine wpAnyH_take (i := 17) (oi := { dst := some 68, op := Op.fieldAddr 35 (.tmp 67) 0, type := 0, pos := "l09_jobs.go:196", after := #[⟨16, .data⟩, ⟨0, .phase⟩, ⟨1, .phase⟩, ⟨2, .phase⟩, ⟨3, .phase⟩, ⟨4, .phase⟩, ⟨5, .phase⟩, ⟨6, .phase⟩, ⟨7, .phase⟩, ⟨8, .phase⟩, ⟨9, .phase⟩, ⟨10, .phase⟩, ⟨11, .phase⟩, ⟨12, .phase⟩, ⟨13, .phase⟩, ⟨14, .phase⟩, ⟨15, .phase⟩], guard := none }) (v := ?_) rfl (by kernel_rfl) (by kernel_rfl) (by kernel_rfl) (fun _ _ _ h => h) (Or.inl ⟨by rfl, ?_⟩) hHeld ?_
                rotate_left
                · (intro wq hSw; (try dsimp only at hSw); first | (go_simp; done) | (go_simp; with_reducible rfl))
                try simp only [Act.put, qa, qb, qc]
                refine wpAnyH_ready (rs := [18]) (by kernel_rfl) (by simp) ?_
                refine AllReadyH.cons (o := { dst := none, op := Op.store 26 (.tmp 68) (.tmp 66), type := 0, pos := "l09_jobs.go:196", after := #[⟨17, .data⟩, ⟨15, .data⟩, ⟨15, .chain⟩, ⟨0, .phase⟩, ⟨1, .phase⟩, ⟨2, .phase⟩, ⟨3, .phase⟩, ⟨4, .phase⟩, ⟨5, .phase⟩, ⟨6, .phase⟩, ⟨7, .phase⟩, ⟨8, .phase⟩, ⟨9, .phase⟩, ⟨10, .phase⟩, ⟨11, .phase⟩, ⟨12, .phase⟩, ⟨13, .phase⟩, ⟨14, .phase⟩, ⟨15, .phase⟩], guard := none }) rfl (fun K hK => ?_) (AllReadyH.nil)
                · go_simp
                  refine hK.out _ _ ?_ (fun hHeldN => ?_)
                  · exact cell_far hSw10 ngD
                  clear hK K hHeld
                  have hHeld := hHeldN
                  clear hHeldN
                  try simp only [Act.put, qa, qb, qc]
                  refine wpAnyH_done (by kernel_rfl) ?_ _
                  clear hHeld
                  have s2 := hC8.out.put_row hW8 L10.out hff10.out (r := getq p.dq W ++ [z]) (hSr8.out _ _ _ _ hS10.out) hD8.out
                  go_wp2_with fail
                  all_goals
                    go_ret
                    refine ⟨rfl, f10, ?_, hO8.out.then_ hff6.out s2.2, fun b hb => (hff10.out b (Nat.lt_of_lt_of_le hb hO8.out.size)).trans (hff6.out b hb)⟩
                    rw [hT.out]
                    exact ⟨_, s2.1⟩
          · go_simp
            obtain ⟨w9, hw9⟩ : ∃ x, x = (w8.alloc (Obj.cells #[.int .i64 z] 3)).drew := ⟨_, rfl⟩
            rw [← hw9]
            have hb9 := hide (show Below w8.heap.size w8 w9 from by rw [hw9]; exact (below1 _ _).drew)
            have hz9 := hide (show CellsAt w9 (some ⟨w8.heap.size, 0, none⟩) (1 * 1) (fun _ => .int .i64 z) from by
              have hq := (Blk.new w8 3 #[.int .i64 z]).below (Below.refl _ _).drew (Blk.new w8 3 #[.int .i64 z]).lt
              rw [← hw9] at hq
              refine ⟨fun _ _ => rfl, fun _ => ⟨_, 0, rfl, fun j hj => ?_⟩⟩
              obtain rfl : j = 0 := by omega
              simpa using hq.cell 0)
            have L9 := hide (show Lab f6 (9 + W * 2) B w8 w9 from .of_below hb9.out)
            have y12 := (hS8.out w9 L9.out).2.1
            clear hw9
            refine hK.out _ _ ?_ (fun hHeldN => ?_)
            · exact (by first | exact (hS8.out _ (Lab.refl _ _ _ _)).1 | exact (hS8.out _ (Lab.refl _ _ _ _).drew).1 | exact (hS8.out _ L9.out).1)
            clear hK K hHeld
            have hHeld := hHeldN
            clear hHeldN
            try simp only [Act.put, qa, qb, qc]
            refine wpAnyH_ready (rs := [12]) (by kernel_rfl) (by simp) ?_
            refine AllReadyH.cons (o := { dst := some 63, op := Op.load 26 (.tmp 62), type := 26, pos := "l09_jobs.go:196", after := #[⟨11, .data⟩], guard := none }) rfl (fun K hK => ?_) (AllReadyH.nil)
            · go_simp
              refine hK.out _ _ ?_ (fun hHeldN => ?_)
              · exact (by first | exact (hS8.out _ (Lab.refl _ _ _ _)).1 | exact (hS8.out _ (Lab.refl _ _ _ _).drew).1 | exact (hS8.out _ L9.out).1)
              clear hK K hHeld
              have hHeld := hHeldN
              clear hHeldN
              try simp only [Act.put, qa, qb, qc]
              refine wpAnyH_ready (rs := [15]) (by kernel_rfl) (by simp) ?_
              refine AllReadyH.cons (o := { dst := some 66, op := Op.call { callee := Callee.builtin Builtin.append, args := #[.tmp 63, .tmp 65], argTypes := #[26, 26] }, type := 26, pos := "l09_jobs.go:196", after := #[⟨12, .data⟩, ⟨14, .data⟩], guard := none }) rfl (fun K hK => ?_) (AllReadyH.nil)
              · rw [if_pos (by rfl)]
                refine wp_append_slv _ _ _ _ (by rfl) 3 i1 _ 1 8 Try.underlying26 hi1 hy0 hy1 hy2 rfl (by omega) (.slice AW (getq p.dq W).length cW) (getq p.dq W).length (gI (getq p.dq W)) (by rfl) (hSW.out.next hb9.out) (some ⟨w8.heap.size, 0, none⟩) 1 1 (fun _ => .int .i64 z) (by rfl) hz9.out (by have : maxLen = 9223372036854775807 := rfl; omega) (by omega) (Nat.le_trans hB8 hb9.out.size) ?_
                intro v10 w10 f10 hS10 hL10 hf10
                have L10 := hide (L9.out.trans hL10)
                have hff10 := hide (show ∀ b, b < w8.heap.size → f10 b = f6 b from fun b hb => hf10 b (Nat.lt_of_lt_of_le hb hb9.out.size))
                obtain ⟨A10, c10, hv10⟩ := hS10.form
                subst hv10
                replace hS10 := hide hS10
                obtain ⟨hSw10, y10, z10⟩ := hS8.out w10 L10.out
                clear hL10 hf10 y12
                refine hK.out _ _ ?_ (fun hHeldN => ?_)
                · exact hSw10
                clear hK K hHeld
                have hHeld := hHeldN
                clear hHeldN
                try simp only [Act.put, qa, qb, qc]
                refine wpAnyH_take (i := 16) (oi := { dst := some 67, op := Op.indexAddr 24 (.tmp 54) (.tmp 55), type := 0, pos := "l09_jobs.go:196", after := #[⟨3, .data⟩, ⟨4, .data⟩, ⟨0, .phase⟩, ⟨1, .phase⟩, ⟨2, .phase⟩, ⟨3, .phase⟩, ⟨4, .phase⟩, ⟨5, .phase⟩, ⟨6, .phase⟩, ⟨7, .phase⟩, ⟨8, .phase⟩, ⟨9, .phase⟩, ⟨10, .phase⟩, ⟨11, .phase⟩, ⟨12, .phase⟩, ⟨13, .phase⟩, ⟨14, .phase⟩, ⟨15, .phase⟩], guard := none }) (v := ?_) rfl (by kernel_rfl) (by kernel_rfl) (by kernel_rfl) (fun _ _ _ h => h) (Or.inl ⟨by rfl, ?_⟩) hHeld ?_
                rotate_left
                · (intro wq hSw; (try dsimp only at hSw); first | (go_simp; done) | (go_simp; with_reducible rfl))
                try simp only [Act.put, qa, qb, qc]
                refine wpAnyH_take (i := 17) (oi := { dst := some 68, op := Op.fieldAddr 35 (.tmp 67) 0, type := 0, pos := "l09_jobs.go:196", after := #[⟨16, .data⟩, ⟨0, .phase⟩, ⟨1, .phase⟩, ⟨2, .phase⟩, ⟨3, .phase⟩, ⟨4, .phase⟩, ⟨5, .phase⟩, ⟨6, .phase⟩, ⟨7, .phase⟩, ⟨8, .phase⟩, ⟨9, .phase⟩, ⟨10, .phase⟩, ⟨11, .phase⟩, ⟨12, .phase⟩, ⟨13, .phase⟩, ⟨14, .phase⟩, ⟨15, .phase⟩], guard := none }) (v := ?_) rfl (by kernel_rfl) (by kernel_rfl) (by kernel_rfl) (fun _ _ _ h => h) (Or.inl ⟨by rfl, ?_⟩) hHeld ?_
                rotate_left
                · (intro wq hSw; (try dsimp only at hSw); first | (go_simp; done) | (go_simp; with_reducible rfl))
                try simp only [Act.put, qa, qb, qc]
                refine wpAnyH_ready (rs := [18]) (by kernel_rfl) (by simp) ?_
                refine AllReadyH.cons (o := { dst := none, op := Op.store 26 (.tmp 68) (.tmp 66), type := 0, pos := "l09_jobs.go:196", after := #[⟨17, .data⟩, ⟨15, .data⟩, ⟨15, .chain⟩, ⟨0, .phase⟩, ⟨1, .phase⟩, ⟨2, .phase⟩, ⟨3, .phase⟩, ⟨4, .phase⟩, ⟨5, .phase⟩, ⟨6, .phase⟩, ⟨7, .phase⟩, ⟨8, .phase⟩, ⟨9, .phase⟩, ⟨10, .phase⟩, ⟨11, .phase⟩, ⟨12, .phase⟩, ⟨13, .phase⟩, ⟨14, .phase⟩, ⟨15, .phase⟩], guard := none }) rfl (fun K hK => ?_) (AllReadyH.nil)
                · go_simp
                  refine hK.out _ _ ?_ (fun hHeldN => ?_)
                  · exact cell_far hSw10 ngD
                  clear hK K hHeld
                  have hHeld := hHeldN
                  clear hHeldN
                  try simp only [Act.put, qa, qb, qc]
                  refine wpAnyH_done (by kernel_rfl) ?_ _
                  clear hHeld
                  have s2 := hC8.out.put_row hW8 L10.out hff10.out (r := getq p.dq W ++ [z]) (hSr8.out _ _ _ _ hS10.out) hD8.out
                  go_wp2_with fail
                  all_goals
                    go_ret
                    refine ⟨rfl, f10, ?_, hO8.out.then_ hff6.out s2.2, fun b hb => (hff10.out b (Nat.lt_of_lt_of_le hb hO8.out.size)).trans (hff6.out b hb)⟩
                    rw [hT.out]
                    exact ⟨_, s2.1⟩
end Go.Proofs.Ytfnphnjadknoaaa
