/- spec.DrawTaken: an outcome drawn. -/
import Derived.Test.YthgpifeljeldjaaDqF
import Derived.Deep.RegionHeld3
namespace Go.Proofs.Ythgpifeljeldjaa
open Go.RowKit

/-- An outcome that is drawn beside a cursor, since the world W: its box T, its row. -/
structure TkC (g T : Nat) (W : World) (A : Option Addr) (c p : Nat) (zs : List Int) (w : World) : Prop where
  cur : Cur w g
  blk : Blk w T 33 #[.slice A p c]
  row : w.ownsRow W.heap.size 3 1 (.slice A p c) p (zs.map (Value.int .i64))
  os : w.os = W.os
  tape : w.tape = W.tape
  output : w.output = W.output
  size : W.heap.size ≤ w.heap.size
  keep : ∀ k, k < W.heap.size → k ≠ g → k ≠ T → w.heap[k]? = W.heap[k]?
  lt : g < T ∧ T < W.heap.size
section
variable {g T c c' p : Nat} {W w w' : World} {A A' : Option Addr} {zs : List Int} {x : Int}
theorem TkC.call (h : TkC g T W A c p zs w) (hc : Cur w' g) (ho : Only g w w') : TkC g T W A c p zs w' :=
  ⟨hc, h.blk.only ho (by have := h.lt; omega), own_keep h.row (fun b hb hlt => ho.block b hlt (by have := h.lt; omega)), ho.os.trans h.os, ho.tape.trans h.tape, ho.output.trans h.output, Nat.le_trans h.size ho.size, fun k hk h1 h2 => (ho.block k (Nat.lt_of_lt_of_le hk h.size) h1).trans (h.keep k hk h1 h2), h.lt⟩
theorem TkC.next (h : TkC g T W A c p zs w) (hb : Below w.heap.size w w') : TkC g T W A c p zs w' :=
  h.call (h.cur.below (hb.mono (by have := h.cur.lt; omega))) (Only.of_below hb)
theorem TkC.len (h : TkC g T W A c p zs w) : zs.length = p := by simpa using h.row.1
theorem TkC.more (h : TkC g T W A c p zs w) (hown : w'.ownsRow W.heap.size 3 1 (.slice A' (p + 1) c') (p + 1) (zs.map (Value.int .i64) ++ [Value.int .i64 x])) (hg : w.grownBy w' (Value.slice A p c).ownBlock) :
    (w'.cell? ⟨T, 0, none⟩ = some (.slice A p c) ∧ w'.frozen? ⟨T, 0, none⟩ = false) ∧ TkC g T W A' c' (p + 1) (zs ++ [x]) (w'.setCell ⟨T, 0, none⟩ (.slice A' (p + 1) c')) := by
  have hl := h.lt
  have hz := h.size
  have hf : ∀ k, k < W.heap.size → some k ≠ (Value.slice A p c).ownBlock := fun k hk => own_far h.row hk
  have hB : Blk w' T 33 #[.slice A p c] := (hg.block T h.blk.lt (hf T hl.2)).trans h.blk
  have hgw : w'.heap[g]? = w.heap[g]? := hg.block g h.cur.lt (hf g (by omega))
  refine ⟨⟨hB.cell 0, hB.frozen 0⟩, ?_, hB.set_ 0 _, own_keep (by simpa using hown) (fun b hb _ => Below.heap_setCell w' ⟨T, 0, none⟩ _ b (by show b ≠ T; omega)), hg.os.trans h.os, hg.tape.trans h.tape, hg.output.trans h.output, by simpa using Nat.le_trans hz hg.size, fun k hk h1 h2 => ?_, hl⟩
  · obtain ⟨B, n, d, i, y, h1, h2, h3⟩ := h.cur
    refine ⟨B, n, d, i, y, Blk.far (show Blk w' g 79 #[.slice B n d, .int .i64 i, .int .i64 y] from hgw.trans h1) (by show g ≠ T; omega) _, h2, h3.keep (fun b o hb => ?_)⟩
    have hb' : b < g := hb
    have e := hg.block b (by omega) (hf b (by omega))
    rw [World.cell?_setCell_other w' ⟨T, 0, none⟩ ⟨b, o, none⟩ _ (by intro e; cases e; omega)]
    simp only [World.cell?, e]
  · rw [Below.heap_setCell w' ⟨T, 0, none⟩ _ k (by show k ≠ T; exact h2)]
    exact (hg.block k (by omega) (hf k hk)).trans (h.keep k hk h1 h2)
end
set_option maxRecDepth 100000 in
set_option maxHeartbeats 6400000 in
theorem drawTk_any (A : Option Addr) (n c : Nat) (w : World) (hn : n ≤ c) (ha : BytesAt w (Old w.heap.size) A n) :
    Calls Try.prog 13 #[.slice A n c] w fun e w' => ∃ (rs : List Int) (A' : Option Addr) (c' : Nat), e = .returned (.agg #[.slice A' rs.length c']) ∧ rs.length ≤ 16 ∧ IntsAt w' (Old w'.heap.size) A' rs ∧ Below w.heap.size w w' := by
  obtain ⟨i1, hi1, hy0, hy1, hy2⟩ := info_parts Try.infoInt
  replace hi1 := hide hi1
  obtain ⟨V, hV⟩ : ∃ y, y = w.alloc (Obj.cells #[.slice none 0 0] 33) := ⟨_, rfl⟩
  have hbV : Below w.heap.size w V := by rw [hV]; exact below1 _ _
  have R0 := hide (show Blk V w.heap.size 33 #[.slice none 0 0] from by rw [hV]; exact Blk.new _ _ _)
  have hlV : w.heap.size < V.heap.size := by rw [hV]; simp
  have kN := hide (l1New_any A n c V hn (BytesAt.old ha hbV hbV.size))
  have BV := hide hbV
  clear hn ha hbV
  go_enter Try.func13, Try.ntmps13
  go_upto_region 1 with fail
  rw [← hV]
  clear hV
  go_wp2_with fail
  refine kN.out.mono ?_
  rintro e w1 ⟨g, rfl, hgV, hcur, hb1⟩
  have X1 := Blk.new w1 33 #[.slice none 0 0]
  have hg1 := hcur.lt
  obtain ⟨W, hW⟩ : ∃ y, y = w1.alloc (Obj.cells #[.slice none 0 0] 33) := ⟨_, rfl⟩
  have hbW : Below w1.heap.size w1 W := by rw [hW]; exact below1 _ _
  rw [← hW] at X1
  obtain ⟨T, hT⟩ : ∃ y, y = w1.heap.size := ⟨_, rfl⟩
  rw [← hT] at X1 hg1
  have C0 := hide (show TkC g T W none 0 0 [] W from ⟨hcur.below (hbW.mono (by omega)), X1, ⟨rfl, .inl ⟨rfl, rfl⟩⟩, rfl, rfl, rfl, Nat.le_refl _, fun _ _ _ _ => rfl, ⟨hg1, X1.lt⟩⟩)
  have BW := hide (show Below V.heap.size V W from hb1.trans (hbW.mono hb1.size))
  have hgVh := hide hgV
  clear kN hcur hb1 hbW X1 hg1 hgV
  go_upto_region 3 with fail
  rw [← hW, ← hT]
  clear hW hT
  go_wp2_with fail
  refine (l1Below_any g 16 _ (by omega) (by omega) C0.out.cur).mono ?_
  rintro e w2 ⟨k0, rfl, hk0, hc2, ho2⟩
  have C2 := hide (C0.out.call hc2 ho2)
  have hk1 := hk0.2 (by omega)
  clear C0 hc2 ho2 hk0
  go_wp2_with fail
  go_loopw [5] (fun i wr => ∃ (k : Int) (p : Nat) (zs : List Int) (A' : Option Addr) (c' : Nat), (0 ≤ k ∧ (p : Int) + k ≤ 15) ∧ i = .int .i64 k ∧ Hid (TkC g T W A' c' p zs wr)) (fun i _ => (intOf i).toNat)
  case atStart => exact ⟨k0, 0, [], none, 0, by omega, rfl, C2⟩
  case round =>
    clear C2
    obtain ⟨k, p, zs, A1, c1, ⟨hk, hpk⟩, rfl, C0⟩ := hrel
    by_cases hlt : 0 < k
    · have hd : decide (0 < k) = true := decide_eq_true hlt
      have hw2 : IntKind.i64.wrap (k - 1) = k - 1 := by rw [IntKind.wrap_i64]; omega
      have hp4 : p ≤ 15 := by omega
      have t0 : wr.cell? ⟨T, 0, none⟩ = some (.slice A1 p c1) := C0.out.blk.cell 0
      have lT := hide C0.out.blk.lt
      go_upto_region 6 with fail
      refine wp_region_held_drew (S := (fun _ => True)) (by kernel_rfl) ?_ (fun hHeld => ?_)
      · exact trivial
      refine wpAnyH_take (i := 0) (oi := { dst := some 14, op := Op.fieldAddr 33 (Operand.tmp 4) 0, type := 0, pos := "l08_deque.go:135", after := #[], guard := none }) (v := ?_) rfl (by kernel_rfl) (by kernel_rfl) (by kernel_rfl) (fun _ _ _ h => h) (Or.inl ⟨by rfl, ?_⟩) hHeld ?_
      rotate_left
      · (intro wq hSw; (try dsimp only at hSw); first | (go_simp; done) | (go_simp; with_reducible rfl))
      try simp only [Act.put, List.setIfInBounds_toArray, List.set_cons_zero, List.set_cons_succ]
      refine wpAnyH_take (i := 2) (oi := { dst := some 16, op := Op.move (Operand.tmp 3), type := 57, pos := "l08_deque.go:135", after := #[], guard := none }) (v := ?_) rfl (by kernel_rfl) (by kernel_rfl) (by kernel_rfl) (fun _ _ _ h => h) (Or.inl ⟨by rfl, ?_⟩) hHeld ?_
      rotate_left
      · (intro wq hSw; (try dsimp only at hSw); first | (go_simp; done) | (go_simp; with_reducible rfl))
      try simp only [Act.put, List.setIfInBounds_toArray, List.set_cons_zero, List.set_cons_succ]
      refine wpAnyH_ready (rs := [1, 3]) (by kernel_rfl) (by simp) ?_
      refine AllReadyH.cons (o := { dst := some 15, op := Op.load 23 (Operand.tmp 14), type := 23, pos := "l08_deque.go:135", after := #[{ on := 0, ground := Ground.data }], guard := none }) rfl (fun K hK => ?_) (AllReadyH.cons (o := { dst := some 17, op := Op.buildSlice 23 6 #[(0, Operand.const (Value.int IntKind.i64 0)), (1, Operand.const (Value.int IntKind.i64 0)), (2, Operand.const (Value.int IntKind.i64 11)), (3, Operand.const (Value.int IntKind.i64 12)), (4, Operand.const (Value.int IntKind.i64 13)), (5, Operand.const (Value.int IntKind.i64 (-1)))], type := 23, pos := "l08_deque.go:135", after := #[], guard := none }) rfl (fun K hK => ?_) (AllReadyH.nil))
      · go_simp
        refine hK.out _ _ ?_ (fun hHeldN => ?_)
        · exact trivial
        clear hK K hHeld
        have hHeld := hHeldN
        clear hHeldN
        try simp only [Act.put, List.setIfInBounds_toArray, List.set_cons_zero, List.set_cons_succ]
        refine wpAnyH_ready (rs := [3]) (by kernel_rfl) (by simp) ?_
        refine AllReadyH.cons (o := { dst := some 17, op := Op.buildSlice 23 6 #[(0, Operand.const (Value.int IntKind.i64 0)), (1, Operand.const (Value.int IntKind.i64 0)), (2, Operand.const (Value.int IntKind.i64 11)), (3, Operand.const (Value.int IntKind.i64 12)), (4, Operand.const (Value.int IntKind.i64 13)), (5, Operand.const (Value.int IntKind.i64 (-1)))], type := 23, pos := "l08_deque.go:135", after := #[], guard := none }) rfl (fun K hK => ?_) (AllReadyH.nil)
        · go_simp
          obtain ⟨w3, hw3⟩ : ∃ x, x = (wr.alloc (Obj.cells #[Value.int .i64 0, Value.int .i64 0, Value.int .i64 11, Value.int .i64 12, Value.int .i64 13, Value.int .i64 (-1)] 3)).drew := ⟨_, rfl⟩
          rw [← hw3]
          have hsz3 : w3.heap.size = wr.heap.size + 1 := by rw [hw3]; simp [World.drew]
          have hI3 : IntsAt w3 (fun b => b < w3.heap.size ∧ b ≠ g) (some ⟨wr.heap.size, 0, none⟩) [0, 0, 11, 12, 13, -1] := by
            refine ⟨by simp, fun _ => ⟨_, 0, rfl, ⟨by omega, by have := C0.out.cur.lt; omega⟩, fun k hk => ?_⟩⟩
            rw [hw3, show (World.drew (wr.alloc (Obj.cells #[Value.int .i64 0, Value.int .i64 0, Value.int .i64 11, Value.int .i64 12, Value.int .i64 13, Value.int .i64 (-1)] 3))).cell? ⟨wr.heap.size, 0 + k, none⟩ = (wr.alloc (Obj.cells #[Value.int .i64 0, Value.int .i64 0, Value.int .i64 11, Value.int .i64 12, Value.int .i64 13, Value.int .i64 (-1)] 3)).cell? ⟨wr.heap.size, 0 + k, none⟩ from rfl, (Blk.new wr 3 #[Value.int .i64 0, Value.int .i64 0, Value.int .i64 11, Value.int .i64 12, Value.int .i64 13, Value.int .i64 (-1)]).cell]
            match k, hk with
            | 0, _ => rfl
            | 1, _ => rfl
            | 2, _ => rfl
            | 3, _ => rfl
            | 4, _ => rfl
            | 5, _ => rfl
          have C3 := hide (show TkC g T W A1 c1 p zs w3 from by rw [hw3]; exact (C0.out.next (below1 _ _)).next (Below.refl _ _).drew)
          have kP := hide (l1PickInt_any g (some ⟨wr.heap.size, 0, none⟩) [0, 0, 11, 12, 13, -1] 6 w3 (by simp) (by simp) hI3 C3.out.cur)
          have t3 : w3.cell? ⟨T, 0, none⟩ = some (.slice A1 p c1) := C3.out.blk.cell 0
          clear hw3 hsz3 hI3
          refine hK.out _ _ ?_ (fun hHeldN => ?_)
          · exact trivial
          clear hK K hHeld
          have hHeld := hHeldN
          clear hHeldN
          try simp only [Act.put, List.setIfInBounds_toArray, List.set_cons_zero, List.set_cons_succ]
          refine wpAnyH_ready (rs := [4]) (by kernel_rfl) (by simp) ?_
          refine AllReadyH.cons (o := { dst := some 18, op := Op.call { callee := Callee.value (Operand.func 41), args := #[Operand.tmp 16, Operand.tmp 17], argTypes := #[57, 23] }, type := 3, pos := "l08_deque.go:135", after := #[{ on := 2, ground := Ground.data }, { on := 3, ground := Ground.data }], guard := none }) rfl (fun K hK => ?_) (AllReadyH.nil)
          · go_simp
            go_at_call 41
            refine kP.out.mono ?_
            rintro e w4 ⟨j, hj, rfl, hc4, ho4⟩
            have C4 := hide (C3.out.call hc4 ho4)
            obtain ⟨y, hy⟩ : ∃ y, y = geti [0, 0, 11, 12, 13, -1] j := ⟨_, rfl⟩
            rw [← hy]
            have t4 : w4.cell? ⟨T, 0, none⟩ = some (.slice A1 p c1) := C4.out.blk.cell 0
            clear hy hj hc4 ho4 kP
            refine hK.out _ _ ?_ (fun hHeldN => ?_)
            · exact trivial
            clear hK K hHeld
            have hHeld := hHeldN
            clear hHeldN
            try simp only [Act.put, List.setIfInBounds_toArray, List.set_cons_zero, List.set_cons_succ]
            refine wpAnyH_ready (rs := [5]) (by kernel_rfl) (by simp) ?_
            refine AllReadyH.cons (o := { dst := some 19, op := Op.buildSlice 23 1 #[(0, Operand.tmp 18)], type := 23, pos := "l08_deque.go:135", after := #[{ on := 4, ground := Ground.data }], guard := none }) rfl (fun K hK => ?_) (AllReadyH.nil)
            · go_simp
              have C5 := hide (C4.out.next (below1 w4 (Obj.cells #[.int .i64 y] 3)))
              have t5 : (w4.alloc (Obj.cells #[.int .i64 y] 3)).cell? ⟨T, 0, none⟩ = some (.slice A1 p c1) := C5.out.blk.cell 0
              have hsz := C4.out.size
              refine hK.out _ _ ?_ (fun hHeldN => ?_)
              · exact trivial
              clear hK K hHeld
              have hHeld := hHeldN
              clear hHeldN
              try simp only [Act.put, List.setIfInBounds_toArray, List.set_cons_zero, List.set_cons_succ]
              refine wpAnyH_ready (rs := [6]) (by kernel_rfl) (by simp) ?_
              refine AllReadyH.cons (o := { dst := some 20, op := Op.call { callee := Callee.builtin Builtin.append, args := #[Operand.tmp 15, Operand.tmp 19], argTypes := #[23, 23] }, type := 23, pos := "l08_deque.go:135", after := #[{ on := 1, ground := Ground.data }, { on := 5, ground := Ground.data }, { on := 4, ground := Ground.chain }], guard := none }) rfl (fun K hK => ?_) (AllReadyH.nil)
              · rw [if_pos (by rfl)]
                refine wp_append_lies _ _ _ _ (by rfl) W.heap.size 3 i1 _ 1 8 Try.underlying23 hi1.out hy0 hy1 hy2 rfl (by omega) (.slice A1 p c1) p (zs.map (Value.int .i64)) (by rfl) C5.out.row ⟨w4.heap.size, 0, none⟩ 1 1 [.int .i64 y] (by rfl) (by rfl) (World.news_of_block (cs := #[.int .i64 y]) (heap_alloc_new _ _)) (by simp [Value.oneCell']) (by omega) (by have : maxLen = 9223372036854775807 := rfl; omega) (by omega) (by simp; omega) _ rfl ?_
                intro g7 cap7 w7 hown7 hgr7 hat7 hlt7
                obtain ⟨⟨s0, s1⟩, hC7⟩ := C5.out.more hown7 hgr7
                have C7 := hide hC7
                have lT7 : T < w7.heap.size := by have := C7.out.blk.lt; simpa using this
                clear hown7 hgr7 hat7 hC7 hsz
                refine hK.out _ _ ?_ (fun hHeldN => ?_)
                · exact trivial
                clear hK K hHeld
                have hHeld := hHeldN
                clear hHeldN
                try simp only [Act.put, List.setIfInBounds_toArray, List.set_cons_zero, List.set_cons_succ]
                refine wpAnyH_take (i := 7) (oi := { dst := some 21, op := Op.fieldAddr 33 (Operand.tmp 4) 0, type := 0, pos := "l08_deque.go:135", after := #[{ on := 0, ground := Ground.phase }, { on := 1, ground := Ground.phase }, { on := 2, ground := Ground.phase }, { on := 3, ground := Ground.phase }, { on := 4, ground := Ground.phase }, { on := 5, ground := Ground.phase }, { on := 6, ground := Ground.phase }], guard := none }) (v := ?_) rfl (by kernel_rfl) (by kernel_rfl) (by kernel_rfl) (fun _ _ _ h => h) (Or.inl ⟨by rfl, ?_⟩) hHeld ?_
                rotate_left
                · (intro wq hSw; (try dsimp only at hSw); first | (go_simp; done) | (go_simp; with_reducible rfl))
                try simp only [Act.put, List.setIfInBounds_toArray, List.set_cons_zero, List.set_cons_succ]
                refine wpAnyH_ready (rs := [8]) (by kernel_rfl) (by simp) ?_
                refine AllReadyH.cons (o := { dst := none, op := Op.store 23 (Operand.tmp 21) (Operand.tmp 20), type := 0, pos := "l08_deque.go:135", after := #[{ on := 7, ground := Ground.data }, { on := 6, ground := Ground.data }, { on := 6, ground := Ground.chain }, { on := 0, ground := Ground.phase }, { on := 1, ground := Ground.phase }, { on := 2, ground := Ground.phase }, { on := 3, ground := Ground.phase }, { on := 4, ground := Ground.phase }, { on := 5, ground := Ground.phase }, { on := 6, ground := Ground.phase }], guard := none }) rfl (fun K hK => ?_) (AllReadyH.nil)
                · go_simp
                  refine hK.out _ _ ?_ (fun hHeldN => ?_)
                  · exact trivial
                  clear hK K hHeld
                  have hHeld := hHeldN
                  clear hHeldN
                  try simp only [Act.put, List.setIfInBounds_toArray, List.set_cons_zero, List.set_cons_succ]
                  refine wpAnyH_done (by kernel_rfl) ?_ _
                  go_wp2_with fail
                  go_roundw
                  case rel => exact ⟨k - 1, p + 1, _, _, _, by omega, by first | rfl | (rw [hw2]), C7⟩
                  case measure => simp [intOf]; omega
      · go_simp
        obtain ⟨w3, hw3⟩ : ∃ x, x = (wr.alloc (Obj.cells #[Value.int .i64 0, Value.int .i64 0, Value.int .i64 11, Value.int .i64 12, Value.int .i64 13, Value.int .i64 (-1)] 3)).drew := ⟨_, rfl⟩
        rw [← hw3]
        have hsz3 : w3.heap.size = wr.heap.size + 1 := by rw [hw3]; simp [World.drew]
        have hI3 : IntsAt w3 (fun b => b < w3.heap.size ∧ b ≠ g) (some ⟨wr.heap.size, 0, none⟩) [0, 0, 11, 12, 13, -1] := by
          refine ⟨by simp, fun _ => ⟨_, 0, rfl, ⟨by omega, by have := C0.out.cur.lt; omega⟩, fun k hk => ?_⟩⟩
          rw [hw3, show (World.drew (wr.alloc (Obj.cells #[Value.int .i64 0, Value.int .i64 0, Value.int .i64 11, Value.int .i64 12, Value.int .i64 13, Value.int .i64 (-1)] 3))).cell? ⟨wr.heap.size, 0 + k, none⟩ = (wr.alloc (Obj.cells #[Value.int .i64 0, Value.int .i64 0, Value.int .i64 11, Value.int .i64 12, Value.int .i64 13, Value.int .i64 (-1)] 3)).cell? ⟨wr.heap.size, 0 + k, none⟩ from rfl, (Blk.new wr 3 #[Value.int .i64 0, Value.int .i64 0, Value.int .i64 11, Value.int .i64 12, Value.int .i64 13, Value.int .i64 (-1)]).cell]
          match k, hk with
          | 0, _ => rfl
          | 1, _ => rfl
          | 2, _ => rfl
          | 3, _ => rfl
          | 4, _ => rfl
          | 5, _ => rfl
        have C3 := hide (show TkC g T W A1 c1 p zs w3 from by rw [hw3]; exact (C0.out.next (below1 _ _)).next (Below.refl _ _).drew)
        have kP := hide (l1PickInt_any g (some ⟨wr.heap.size, 0, none⟩) [0, 0, 11, 12, 13, -1] 6 w3 (by simp) (by simp) hI3 C3.out.cur)
        have t3 : w3.cell? ⟨T, 0, none⟩ = some (.slice A1 p c1) := C3.out.blk.cell 0
        clear hw3 hsz3 hI3
        refine hK.out _ _ ?_ (fun hHeldN => ?_)
        · exact trivial
        clear hK K hHeld
        have hHeld := hHeldN
        clear hHeldN
        try simp only [Act.put, List.setIfInBounds_toArray, List.set_cons_zero, List.set_cons_succ]
        refine wpAnyH_ready (rs := [1, 4]) (by kernel_rfl) (by simp) ?_
        refine AllReadyH.cons (o := { dst := some 15, op := Op.load 23 (Operand.tmp 14), type := 23, pos := "l08_deque.go:135", after := #[{ on := 0, ground := Ground.data }], guard := none }) rfl (fun K hK => ?_) (AllReadyH.cons (o := { dst := some 18, op := Op.call { callee := Callee.value (Operand.func 41), args := #[Operand.tmp 16, Operand.tmp 17], argTypes := #[57, 23] }, type := 3, pos := "l08_deque.go:135", after := #[{ on := 2, ground := Ground.data }, { on := 3, ground := Ground.data }], guard := none }) rfl (fun K hK => ?_) (AllReadyH.nil))
        · go_simp
          refine hK.out _ _ ?_ (fun hHeldN => ?_)
          · exact trivial
          clear hK K hHeld
          have hHeld := hHeldN
          clear hHeldN
          try simp only [Act.put, List.setIfInBounds_toArray, List.set_cons_zero, List.set_cons_succ]
          refine wpAnyH_ready (rs := [4]) (by kernel_rfl) (by simp) ?_
          refine AllReadyH.cons (o := { dst := some 18, op := Op.call { callee := Callee.value (Operand.func 41), args := #[Operand.tmp 16, Operand.tmp 17], argTypes := #[57, 23] }, type := 3, pos := "l08_deque.go:135", after := #[{ on := 2, ground := Ground.data }, { on := 3, ground := Ground.data }], guard := none }) rfl (fun K hK => ?_) (AllReadyH.nil)
          · go_simp
            go_at_call 41
            refine kP.out.mono ?_
            rintro e w4 ⟨j, hj, rfl, hc4, ho4⟩
            have C4 := hide (C3.out.call hc4 ho4)
            obtain ⟨y, hy⟩ : ∃ y, y = geti [0, 0, 11, 12, 13, -1] j := ⟨_, rfl⟩
            rw [← hy]
            have t4 : w4.cell? ⟨T, 0, none⟩ = some (.slice A1 p c1) := C4.out.blk.cell 0
            clear hy hj hc4 ho4 kP
            refine hK.out _ _ ?_ (fun hHeldN => ?_)
            · exact trivial
            clear hK K hHeld
            have hHeld := hHeldN
            clear hHeldN
            try simp only [Act.put, List.setIfInBounds_toArray, List.set_cons_zero, List.set_cons_succ]
            refine wpAnyH_ready (rs := [5]) (by kernel_rfl) (by simp) ?_
            refine AllReadyH.cons (o := { dst := some 19, op := Op.buildSlice 23 1 #[(0, Operand.tmp 18)], type := 23, pos := "l08_deque.go:135", after := #[{ on := 4, ground := Ground.data }], guard := none }) rfl (fun K hK => ?_) (AllReadyH.nil)
            · go_simp
              have C5 := hide (C4.out.next (below1 w4 (Obj.cells #[.int .i64 y] 3)))
              have t5 : (w4.alloc (Obj.cells #[.int .i64 y] 3)).cell? ⟨T, 0, none⟩ = some (.slice A1 p c1) := C5.out.blk.cell 0
              have hsz := C4.out.size
              refine hK.out _ _ ?_ (fun hHeldN => ?_)
              · exact trivial
              clear hK K hHeld
              have hHeld := hHeldN
              clear hHeldN
              try simp only [Act.put, List.setIfInBounds_toArray, List.set_cons_zero, List.set_cons_succ]
              refine wpAnyH_ready (rs := [6]) (by kernel_rfl) (by simp) ?_
              refine AllReadyH.cons (o := { dst := some 20, op := Op.call { callee := Callee.builtin Builtin.append, args := #[Operand.tmp 15, Operand.tmp 19], argTypes := #[23, 23] }, type := 23, pos := "l08_deque.go:135", after := #[{ on := 1, ground := Ground.data }, { on := 5, ground := Ground.data }, { on := 4, ground := Ground.chain }], guard := none }) rfl (fun K hK => ?_) (AllReadyH.nil)
              · rw [if_pos (by rfl)]
                refine wp_append_lies _ _ _ _ (by rfl) W.heap.size 3 i1 _ 1 8 Try.underlying23 hi1.out hy0 hy1 hy2 rfl (by omega) (.slice A1 p c1) p (zs.map (Value.int .i64)) (by rfl) C5.out.row ⟨w4.heap.size, 0, none⟩ 1 1 [.int .i64 y] (by rfl) (by rfl) (World.news_of_block (cs := #[.int .i64 y]) (heap_alloc_new _ _)) (by simp [Value.oneCell']) (by omega) (by have : maxLen = 9223372036854775807 := rfl; omega) (by omega) (by simp; omega) _ rfl ?_
                intro g7 cap7 w7 hown7 hgr7 hat7 hlt7
                obtain ⟨⟨s0, s1⟩, hC7⟩ := C5.out.more hown7 hgr7
                have C7 := hide hC7
                have lT7 : T < w7.heap.size := by have := C7.out.blk.lt; simpa using this
                clear hown7 hgr7 hat7 hC7 hsz
                refine hK.out _ _ ?_ (fun hHeldN => ?_)
                · exact trivial
                clear hK K hHeld
                have hHeld := hHeldN
                clear hHeldN
                try simp only [Act.put, List.setIfInBounds_toArray, List.set_cons_zero, List.set_cons_succ]
                refine wpAnyH_take (i := 7) (oi := { dst := some 21, op := Op.fieldAddr 33 (Operand.tmp 4) 0, type := 0, pos := "l08_deque.go:135", after := #[{ on := 0, ground := Ground.phase }, { on := 1, ground := Ground.phase }, { on := 2, ground := Ground.phase }, { on := 3, ground := Ground.phase }, { on := 4, ground := Ground.phase }, { on := 5, ground := Ground.phase }, { on := 6, ground := Ground.phase }], guard := none }) (v := ?_) rfl (by kernel_rfl) (by kernel_rfl) (by kernel_rfl) (fun _ _ _ h => h) (Or.inl ⟨by rfl, ?_⟩) hHeld ?_
                rotate_left
                · (intro wq hSw; (try dsimp only at hSw); first | (go_simp; done) | (go_simp; with_reducible rfl))
                try simp only [Act.put, List.setIfInBounds_toArray, List.set_cons_zero, List.set_cons_succ]
                refine wpAnyH_ready (rs := [8]) (by kernel_rfl) (by simp) ?_
                refine AllReadyH.cons (o := { dst := none, op := Op.store 23 (Operand.tmp 21) (Operand.tmp 20), type := 0, pos := "l08_deque.go:135", after := #[{ on := 7, ground := Ground.data }, { on := 6, ground := Ground.data }, { on := 6, ground := Ground.chain }, { on := 0, ground := Ground.phase }, { on := 1, ground := Ground.phase }, { on := 2, ground := Ground.phase }, { on := 3, ground := Ground.phase }, { on := 4, ground := Ground.phase }, { on := 5, ground := Ground.phase }, { on := 6, ground := Ground.phase }], guard := none }) rfl (fun K hK => ?_) (AllReadyH.nil)
                · go_simp
                  refine hK.out _ _ ?_ (fun hHeldN => ?_)
                  · exact trivial
                  clear hK K hHeld
                  have hHeld := hHeldN
                  clear hHeldN
                  try simp only [Act.put, List.setIfInBounds_toArray, List.set_cons_zero, List.set_cons_succ]
                  refine wpAnyH_done (by kernel_rfl) ?_ _
                  go_wp2_with fail
                  go_roundw
                  case rel => exact ⟨k - 1, p + 1, _, _, _, by omega, by first | rfl | (rw [hw2]), C7⟩
                  case measure => simp [intOf]; omega
        · go_simp
          go_at_call 41
          refine kP.out.mono ?_
          rintro e w4 ⟨j, hj, rfl, hc4, ho4⟩
          have C4 := hide (C3.out.call hc4 ho4)
          obtain ⟨y, hy⟩ : ∃ y, y = geti [0, 0, 11, 12, 13, -1] j := ⟨_, rfl⟩
          rw [← hy]
          have t4 : w4.cell? ⟨T, 0, none⟩ = some (.slice A1 p c1) := C4.out.blk.cell 0
          clear hy hj hc4 ho4 kP
          refine hK.out _ _ ?_ (fun hHeldN => ?_)
          · exact trivial
          clear hK K hHeld
          have hHeld := hHeldN
          clear hHeldN
          try simp only [Act.put, List.setIfInBounds_toArray, List.set_cons_zero, List.set_cons_succ]
          refine wpAnyH_ready (rs := [1, 5]) (by kernel_rfl) (by simp) ?_
          refine AllReadyH.cons (o := { dst := some 15, op := Op.load 23 (Operand.tmp 14), type := 23, pos := "l08_deque.go:135", after := #[{ on := 0, ground := Ground.data }], guard := none }) rfl (fun K hK => ?_) (AllReadyH.cons (o := { dst := some 19, op := Op.buildSlice 23 1 #[(0, Operand.tmp 18)], type := 23, pos := "l08_deque.go:135", after := #[{ on := 4, ground := Ground.data }], guard := none }) rfl (fun K hK => ?_) (AllReadyH.nil))
          · go_simp
            refine hK.out _ _ ?_ (fun hHeldN => ?_)
            · exact trivial
            clear hK K hHeld
            have hHeld := hHeldN
            clear hHeldN
            try simp only [Act.put, List.setIfInBounds_toArray, List.set_cons_zero, List.set_cons_succ]
            refine wpAnyH_ready (rs := [5]) (by kernel_rfl) (by simp) ?_
            refine AllReadyH.cons (o := { dst := some 19, op := Op.buildSlice 23 1 #[(0, Operand.tmp 18)], type := 23, pos := "l08_deque.go:135", after := #[{ on := 4, ground := Ground.data }], guard := none }) rfl (fun K hK => ?_) (AllReadyH.nil)
            · go_simp
              have C5 := hide (C4.out.next (below1 w4 (Obj.cells #[.int .i64 y] 3)))
              have t5 : (w4.alloc (Obj.cells #[.int .i64 y] 3)).cell? ⟨T, 0, none⟩ = some (.slice A1 p c1) := C5.out.blk.cell 0
              have hsz := C4.out.size
              refine hK.out _ _ ?_ (fun hHeldN => ?_)
              · exact trivial
              clear hK K hHeld
              have hHeld := hHeldN
              clear hHeldN
              try simp only [Act.put, List.setIfInBounds_toArray, List.set_cons_zero, List.set_cons_succ]
              refine wpAnyH_ready (rs := [6]) (by kernel_rfl) (by simp) ?_
              refine AllReadyH.cons (o := { dst := some 20, op := Op.call { callee := Callee.builtin Builtin.append, args := #[Operand.tmp 15, Operand.tmp 19], argTypes := #[23, 23] }, type := 23, pos := "l08_deque.go:135", after := #[{ on := 1, ground := Ground.data }, { on := 5, ground := Ground.data }, { on := 4, ground := Ground.chain }], guard := none }) rfl (fun K hK => ?_) (AllReadyH.nil)
              · rw [if_pos (by rfl)]
                refine wp_append_lies _ _ _ _ (by rfl) W.heap.size 3 i1 _ 1 8 Try.underlying23 hi1.out hy0 hy1 hy2 rfl (by omega) (.slice A1 p c1) p (zs.map (Value.int .i64)) (by rfl) C5.out.row ⟨w4.heap.size, 0, none⟩ 1 1 [.int .i64 y] (by rfl) (by rfl) (World.news_of_block (cs := #[.int .i64 y]) (heap_alloc_new _ _)) (by simp [Value.oneCell']) (by omega) (by have : maxLen = 9223372036854775807 := rfl; omega) (by omega) (by simp; omega) _ rfl ?_
                intro g7 cap7 w7 hown7 hgr7 hat7 hlt7
                obtain ⟨⟨s0, s1⟩, hC7⟩ := C5.out.more hown7 hgr7
                have C7 := hide hC7
                have lT7 : T < w7.heap.size := by have := C7.out.blk.lt; simpa using this
                clear hown7 hgr7 hat7 hC7 hsz
                refine hK.out _ _ ?_ (fun hHeldN => ?_)
                · exact trivial
                clear hK K hHeld
                have hHeld := hHeldN
                clear hHeldN
                try simp only [Act.put, List.setIfInBounds_toArray, List.set_cons_zero, List.set_cons_succ]
                refine wpAnyH_take (i := 7) (oi := { dst := some 21, op := Op.fieldAddr 33 (Operand.tmp 4) 0, type := 0, pos := "l08_deque.go:135", after := #[{ on := 0, ground := Ground.phase }, { on := 1, ground := Ground.phase }, { on := 2, ground := Ground.phase }, { on := 3, ground := Ground.phase }, { on := 4, ground := Ground.phase }, { on := 5, ground := Ground.phase }, { on := 6, ground := Ground.phase }], guard := none }) (v := ?_) rfl (by kernel_rfl) (by kernel_rfl) (by kernel_rfl) (fun _ _ _ h => h) (Or.inl ⟨by rfl, ?_⟩) hHeld ?_
                rotate_left
                · (intro wq hSw; (try dsimp only at hSw); first | (go_simp; done) | (go_simp; with_reducible rfl))
                try simp only [Act.put, List.setIfInBounds_toArray, List.set_cons_zero, List.set_cons_succ]
                refine wpAnyH_ready (rs := [8]) (by kernel_rfl) (by simp) ?_
                refine AllReadyH.cons (o := { dst := none, op := Op.store 23 (Operand.tmp 21) (Operand.tmp 20), type := 0, pos := "l08_deque.go:135", after := #[{ on := 7, ground := Ground.data }, { on := 6, ground := Ground.data }, { on := 6, ground := Ground.chain }, { on := 0, ground := Ground.phase }, { on := 1, ground := Ground.phase }, { on := 2, ground := Ground.phase }, { on := 3, ground := Ground.phase }, { on := 4, ground := Ground.phase }, { on := 5, ground := Ground.phase }, { on := 6, ground := Ground.phase }], guard := none }) rfl (fun K hK => ?_) (AllReadyH.nil)
                · go_simp
                  refine hK.out _ _ ?_ (fun hHeldN => ?_)
                  · exact trivial
                  clear hK K hHeld
                  have hHeld := hHeldN
                  clear hHeldN
                  try simp only [Act.put, List.setIfInBounds_toArray, List.set_cons_zero, List.set_cons_succ]
                  refine wpAnyH_done (by kernel_rfl) ?_ _
                  go_wp2_with fail
                  go_roundw
                  case rel => exact ⟨k - 1, p + 1, _, _, _, by omega, by first | rfl | (rw [hw2]), C7⟩
                  case measure => simp [intOf]; omega
          · go_simp
            have C5 := hide (C4.out.next (below1 w4 (Obj.cells #[.int .i64 y] 3)))
            have t5 : (w4.alloc (Obj.cells #[.int .i64 y] 3)).cell? ⟨T, 0, none⟩ = some (.slice A1 p c1) := C5.out.blk.cell 0
            have hsz := C4.out.size
            refine hK.out _ _ ?_ (fun hHeldN => ?_)
            · exact trivial
            clear hK K hHeld
            have hHeld := hHeldN
            clear hHeldN
            try simp only [Act.put, List.setIfInBounds_toArray, List.set_cons_zero, List.set_cons_succ]
            refine wpAnyH_ready (rs := [1]) (by kernel_rfl) (by simp) ?_
            refine AllReadyH.cons (o := { dst := some 15, op := Op.load 23 (Operand.tmp 14), type := 23, pos := "l08_deque.go:135", after := #[{ on := 0, ground := Ground.data }], guard := none }) rfl (fun K hK => ?_) (AllReadyH.nil)
            · go_simp
              refine hK.out _ _ ?_ (fun hHeldN => ?_)
              · exact trivial
              clear hK K hHeld
              have hHeld := hHeldN
              clear hHeldN
              try simp only [Act.put, List.setIfInBounds_toArray, List.set_cons_zero, List.set_cons_succ]
              refine wpAnyH_ready (rs := [6]) (by kernel_rfl) (by simp) ?_
              refine AllReadyH.cons (o := { dst := some 20, op := Op.call { callee := Callee.builtin Builtin.append, args := #[Operand.tmp 15, Operand.tmp 19], argTypes := #[23, 23] }, type := 23, pos := "l08_deque.go:135", after := #[{ on := 1, ground := Ground.data }, { on := 5, ground := Ground.data }, { on := 4, ground := Ground.chain }], guard := none }) rfl (fun K hK => ?_) (AllReadyH.nil)
              · rw [if_pos (by rfl)]
                refine wp_append_lies _ _ _ _ (by rfl) W.heap.size 3 i1 _ 1 8 Try.underlying23 hi1.out hy0 hy1 hy2 rfl (by omega) (.slice A1 p c1) p (zs.map (Value.int .i64)) (by rfl) C5.out.row ⟨w4.heap.size, 0, none⟩ 1 1 [.int .i64 y] (by rfl) (by rfl) (World.news_of_block (cs := #[.int .i64 y]) (heap_alloc_new _ _)) (by simp [Value.oneCell']) (by omega) (by have : maxLen = 9223372036854775807 := rfl; omega) (by omega) (by simp; omega) _ rfl ?_
                intro g7 cap7 w7 hown7 hgr7 hat7 hlt7
                obtain ⟨⟨s0, s1⟩, hC7⟩ := C5.out.more hown7 hgr7
                have C7 := hide hC7
                have lT7 : T < w7.heap.size := by have := C7.out.blk.lt; simpa using this
                clear hown7 hgr7 hat7 hC7 hsz
                refine hK.out _ _ ?_ (fun hHeldN => ?_)
                · exact trivial
                clear hK K hHeld
                have hHeld := hHeldN
                clear hHeldN
                try simp only [Act.put, List.setIfInBounds_toArray, List.set_cons_zero, List.set_cons_succ]
                refine wpAnyH_take (i := 7) (oi := { dst := some 21, op := Op.fieldAddr 33 (Operand.tmp 4) 0, type := 0, pos := "l08_deque.go:135", after := #[{ on := 0, ground := Ground.phase }, { on := 1, ground := Ground.phase }, { on := 2, ground := Ground.phase }, { on := 3, ground := Ground.phase }, { on := 4, ground := Ground.phase }, { on := 5, ground := Ground.phase }, { on := 6, ground := Ground.phase }], guard := none }) (v := ?_) rfl (by kernel_rfl) (by kernel_rfl) (by kernel_rfl) (fun _ _ _ h => h) (Or.inl ⟨by rfl, ?_⟩) hHeld ?_
                rotate_left
                · (intro wq hSw; (try dsimp only at hSw); first | (go_simp; done) | (go_simp; with_reducible rfl))
                try simp only [Act.put, List.setIfInBounds_toArray, List.set_cons_zero, List.set_cons_succ]
                refine wpAnyH_ready (rs := [8]) (by kernel_rfl) (by simp) ?_
                refine AllReadyH.cons (o := { dst := none, op := Op.store 23 (Operand.tmp 21) (Operand.tmp 20), type := 0, pos := "l08_deque.go:135", after := #[{ on := 7, ground := Ground.data }, { on := 6, ground := Ground.data }, { on := 6, ground := Ground.chain }, { on := 0, ground := Ground.phase }, { on := 1, ground := Ground.phase }, { on := 2, ground := Ground.phase }, { on := 3, ground := Ground.phase }, { on := 4, ground := Ground.phase }, { on := 5, ground := Ground.phase }, { on := 6, ground := Ground.phase }], guard := none }) rfl (fun K hK => ?_) (AllReadyH.nil)
                · go_simp
                  refine hK.out _ _ ?_ (fun hHeldN => ?_)
                  · exact trivial
                  clear hK K hHeld
                  have hHeld := hHeldN
                  clear hHeldN
                  try simp only [Act.put, List.setIfInBounds_toArray, List.set_cons_zero, List.set_cons_succ]
                  refine wpAnyH_done (by kernel_rfl) ?_ _
                  go_wp2_with fail
                  go_roundw
                  case rel => exact ⟨k - 1, p + 1, _, _, _, by omega, by first | rfl | (rw [hw2]), C7⟩
                  case measure => simp [intOf]; omega
    · have hd : decide (0 < k) = false := decide_eq_false hlt
      have t0 : wr.cell? ⟨T, 0, none⟩ = some (.slice A1 p c1) := C0.out.blk.cell 0
      have lT := C0.out.blk.lt
      have hzl := C0.out.lt
      have hgV := hgVh.out
      have hVW := BW.out.size
      have hRW : Blk W w.heap.size 33 #[.slice none 0 0] := R0.out.below BW.out R0.out.lt
      have hR : Blk wr w.heap.size 33 #[.slice none 0 0] := (C0.out.keep w.heap.size hRW.lt (by omega) (by omega)).trans hRW
      have r0 := hR.cell 0
      have r1 := hR.frozen 0
      simp only [List.getElem?_toArray, List.getElem?_cons_zero] at r0
      have lR := hR.lt
      have hTR := hide (show w.heap.size ≠ T from by omega)
      have hlen := hide C0.out.len
      clear hRW hR
      go_wp2_with fail
      refine bodyPost_ret (v := .agg #[.slice A1 p c1]) (by simp [results, Try.results13, go_sem, r0]; done) rfl ⟨zs, A1, ⟨c1, by rw [hlen.out]⟩, by rw [hlen.out]; omega, ?_, ?_⟩
      · refine (((RvT.of_own C0.out.row).intsN (by rw [hlen.out]; omega) rfl).keep (w' := wr.setCell ⟨w.heap.size, 0, none⟩ (.slice A1 p c1)) (S' := Old (wr.setCell ⟨w.heap.size, 0, none⟩ (.slice A1 p c1)).heap.size) (fun b o hb => World.cell?_setCell_other wr ⟨w.heap.size, 0, none⟩ ⟨b, o, none⟩ _ (by intro e; cases e; have := hb.1; omega)) (fun b hb => by have := hb.2; show b < _; simpa using this))
      · refine Below.setCell (p := ⟨w.heap.size, 0, none⟩) (BV.out.trans ⟨C0.out.os.trans BW.out.os, C0.out.tape.trans BW.out.tape, C0.out.output.trans BW.out.output, by have := C0.out.size; have := BV.out.size; omega, fun j hj => ?_⟩) (Nat.le_refl _) _
        have h1 := BV.out.size
        exact (C0.out.keep j (by omega) (by omega) (by omega)).trans (BW.out.block j (by omega))
end Go.Proofs.Ythgpifeljeldjaa
