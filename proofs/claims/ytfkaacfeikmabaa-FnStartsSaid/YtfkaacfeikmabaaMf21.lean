/- The program's viewStart: the histories and the views of a beginning of KdView. -/
import Derived.Test.YtfkaacfeikmabaaMf0
import Derived.Test.YtfkaacfeikmabaaMf15
import Derived.Test.YtfkaacfeikmabaaMf20
import Derived.Deep.RegionLaw
import Derived.Deep.DeepCutAuto
import Derived.Deep.DrawnRows
namespace Go.Proofs.Ytfkaacfeikmabaa
open Go.RowKit

attribute [local go_sem ↓] Go.wp_at_zero Go.wp_at_succ

structure VwC (w0 : World) (C cs : Array Value) (T q L n1 : Nat) (w : World) : Prop where
  below : Below w0.heap.size w0 w
  box : Blk w w0.heap.size 135 C
  blk : Blk w T 144 cs
  ids : RowT 3 w q (idsL n1)
  pos : w0.heap.size < T ∧ w0.heap.size < q ∧ T ≠ q ∧ T < L ∧ q < L ∧ L ≤ w.heap.size
section
variable {w0 w w' w1 : World} {C cs : Array Value} {T q L n1 m sz : Nat} {v : Value} {e : TypeId} {xs : List Value}
theorem VwC.next (h : VwC w0 C cs T q L n1 w) (hb : Below w.heap.size w w') : VwC w0 C cs T q L n1 w' :=
  ⟨below_then h.below hb, h.box.below hb h.box.lt, h.blk.below hb h.blk.lt, h.ids.below hb, ⟨h.pos.1, h.pos.2.1, h.pos.2.2.1, h.pos.2.2.2.1, h.pos.2.2.2.2.1, Nat.le_trans h.pos.2.2.2.2.2 hb.size⟩⟩
theorem VwC.alloc (h : VwC w0 C cs T q L n1 w) (o : Obj) : VwC w0 C cs T q L n1 (w.alloc o) := h.next (below1 w o)
theorem VwC.drew (h : VwC w0 C cs T q L n1 w) : VwC w0 C cs T q L n1 w.drew := h.next (Below.refl _ _).drew
theorem VwC.grown (h : VwC w0 C cs T q L n1 w) {B : Nat} (hv : w.ownsRow B e sz v m xs) (hB : L ≤ B) (hg : w.grownBy w1 v.ownBlock) : VwC w0 C cs T q L n1 w1 := by
  have hf : ∀ k, k < L → some k ≠ v.ownBlock := fun _ hk => own_far hv (by omega)
  obtain ⟨p1, p2, p3, p4, p5, p6⟩ := h.pos
  have hb : Below L w w1 := ⟨hg.os, hg.tape, hg.output, hg.size, fun k hk => hg.block k (by omega) (hf k hk)⟩
  refine ⟨h.below.trans (hb.mono (by omega)), h.box.below hb (by omega), h.blk.below hb p4, ?_, ⟨p1, p2, p3, p4, p5, Nat.le_trans p6 hg.size⟩⟩
  obtain ⟨ds, h1, h2⟩ := h.ids
  exact ⟨ds, h1.below hb p5, h2⟩
theorem VwC.set (h : VwC w0 C cs T q L n1 w) (i : Nat) (u : Value) : VwC w0 C (cs.setIfInBounds i u) T q L n1 (w.setCell ⟨T, i, none⟩ u) := by
  obtain ⟨p1, p2, p3, p4, p5, p6⟩ := h.pos
  obtain ⟨ds, h1, h2⟩ := h.ids
  exact ⟨h.below.setCell (by show w0.heap.size ≤ T; omega) _, h.box.far (by show w0.heap.size ≠ T; omega) _, h.blk.set_ _ _, ⟨ds, h1.far (by show q ≠ T; omega) _, h2⟩, ⟨p1, p2, p3, p4, p5, by simpa [World.setCell] using p6⟩⟩
end
def VwOut (w : World) (p : ProgD) (A1 A2 Ap Af : Option Addr) (c1 c2 np cp nf cf : Nat) (e : Ending) (w' : World) : Prop :=
  ∃ (T q L : Nat) (A5 A6 : Option Addr) (c5 c6 hm : Nat) (los his pq : Nat → Nat) (qs : Nat → Nat → Nat) (rs : List RowD), e = .returned (.pointer (some ⟨T, 0, none⟩)) ∧
    VwC w #[.slice A1 p.init.length c1, .slice A2 p.ts.length c2, .slice Ap np cp, .slice Af nf cf] #[.slice A1 p.init.length c1, .slice A2 p.ts.length c2, .slice Ap np cp, .slice Af nf cf, .slice A5 p.init.length c5, .slice A6 p.ts.length c6, (.slice (some ⟨q, 0, none⟩) p.init.length p.init.length), (.int .i64 (p.init.length : Int))] T q L p.init.length w' ∧
    HistsI w' ⟨L, hm, A5, p.init.length, c5, histK p.init p.init.length, los, his, pq, qs⟩ ∧
    RowsI 69 3 w' hm w'.heap.size A6 rs ∧ rs.length = p.ts.length ∧ (∀ k, k < rs.length → (getr rs k).n = p.init.length ∧ (getr rs k).zs = idsL p.init.length) ∧ L ≤ hm ∧ hm ≤ w'.heap.size

set_option maxRecDepth 100000 in
set_option maxHeartbeats 25600000 in
theorem viewStart_any (p : ProgD) (A1 A2 Ap Af : Option Addr) (c1 c2 np cp nf cf n : Nat) (w : World) (hn : n ≤ w.heap.size) (hi : IntsAt w (Old n) A1 p.init) (h1 : 1 ≤ p.init.length) (h6 : p.init.length ≤ 6) (h3 : p.ts.length ≤ 3) :
    Calls Try.prog 149 #[.agg #[.slice A1 p.init.length c1, .slice A2 p.ts.length c2, .slice Ap np cp, .slice Af nf cf]] w fun e w' => VwOut w p A1 A2 Ap Af c1 c2 np cp nf cf e w' := by
  have B0 := below1 w (Obj.cells #[.slice A1 p.init.length c1, .slice A2 p.ts.length c2, .slice Ap np cp, .slice Af nf cf] 135)
  have X0 := Blk.new w 135 #[.slice A1 p.init.length c1, .slice A2 p.ts.length c2, .slice Ap np cp, .slice Af nf cf]
  obtain ⟨w0, hw0⟩ : ∃ q, q = w.alloc (Obj.cells #[.slice A1 p.init.length c1, .slice A2 p.ts.length c2, .slice Ap np cp, .slice Af nf cf] 135) := ⟨_, rfl⟩
  rw [← hw0] at B0 X0
  have x0 : w0.cell? ⟨w.heap.size, 0, none⟩ = some (.slice A1 p.init.length c1) := X0.cell 0
  have x1 : w0.cell? ⟨w.heap.size, 1, none⟩ = some (.slice A2 p.ts.length c2) := X0.cell 1
  have x2 : w0.cell? ⟨w.heap.size, 2, none⟩ = some (.slice Ap np cp) := X0.cell 2
  have x3 : w0.cell? ⟨w.heap.size, 3, none⟩ = some (.slice Af nf cf) := X0.cell 3
  have lx := X0.lt
  obtain ⟨bi, oi, rfl, hbi, hint⟩ := hi.2 (by omega)
  have hbi : bi < n := hbi
  replace hint := hide hint
  have X0d := hide (show Blk w0.drew w.heap.size 135 #[.slice (some ⟨bi, oi, none⟩) p.init.length c1, .slice A2 p.ts.length c2, .slice Ap np cp, .slice Af nf cf] from X0)
  replace B0 := hide B0
  clear X0 hi
  have hCx := hide (fun (W : World) (h : Blk W w.heap.size 135 #[.slice (some ⟨bi, oi, none⟩) p.init.length c1, .slice A2 p.ts.length c2, .slice Ap np cp, .slice Af nf cf]) => show W.cell? ⟨w.heap.size, 0, none⟩ = some (.slice (some ⟨bi, oi, none⟩) p.init.length c1) ∧ W.cell? ⟨w.heap.size, 1, none⟩ = some (.slice A2 p.ts.length c2) ∧ W.cell? ⟨w.heap.size, 2, none⟩ = some (.slice Ap np cp) ∧ W.cell? ⟨w.heap.size, 3, none⟩ = some (.slice Af nf cf) from ⟨h.cell 0, h.cell 1, h.cell 2, h.cell 3⟩)
  obtain ⟨i2, hi2, hx0, hx1, hx2⟩ := info_parts Try.infoHistU
  obtain ⟨i3, hi3, hf0, hf1, hf2⟩ := info_parts Try.infoFileS
  replace hi2 := hide hi2
  replace hi3 := hide hi3
  go_enter Try.func149, Try.ntmps149
  go_wp2_with fail
  rw [← hw0]
  clear hw0
  refine wp_region_held_drew (S := (fun wq : World => wq.cell? ⟨w.heap.size, 0, none⟩ = some (.slice (some ⟨bi, oi, none⟩) p.init.length c1) ∧ wq.cell? ⟨w.heap.size, 1, none⟩ = some (.slice A2 p.ts.length c2) ∧ wq.cell? ⟨w.heap.size, 2, none⟩ = some (.slice Ap np cp) ∧ wq.cell? ⟨w.heap.size, 3, none⟩ = some (.slice Af nf cf))) (by kernel_rfl) ?_ (fun hHeld => ?_)
  · exact hCx.out _ X0d.out
  refine wpAnyH_take (i := 0) (oi := { dst := some 7, op := Op.load 135 (Operand.tmp 1), type := 135, pos := "l02_state.go:144", after := #[], guard := none }) (v := ?_) rfl (by kernel_rfl) (by kernel_rfl) (by kernel_rfl) (fun _ _ _ h => h) (Or.inl ⟨by rfl, ?_⟩) hHeld ?_
  rotate_left
  · (intro wq hSw; (try dsimp only at hSw); first | (go_simp; done) | (go_simp; with_reducible rfl))
  try simp only [Act.put, qa, qb, qc]
  refine wpAnyH_take (i := 1) (oi := { dst := some 8, op := Op.load 135 (Operand.tmp 1), type := 135, pos := "l02_state.go:144", after := #[], guard := none }) (v := ?_) rfl (by kernel_rfl) (by kernel_rfl) (by kernel_rfl) (fun _ _ _ h => h) (Or.inl ⟨by rfl, ?_⟩) hHeld ?_
  rotate_left
  · (intro wq hSw; (try dsimp only at hSw); first | (go_simp; done) | (go_simp; with_reducible rfl))
  try simp only [Act.put, qa, qb, qc]
  refine wpAnyH_take (i := 4) (oi := { dst := some 11, op := Op.load 135 (Operand.tmp 1), type := 135, pos := "l02_state.go:144", after := #[], guard := none }) (v := ?_) rfl (by kernel_rfl) (by kernel_rfl) (by kernel_rfl) (fun _ _ _ h => h) (Or.inl ⟨by rfl, ?_⟩) hHeld ?_
  rotate_left
  · (intro wq hSw; (try dsimp only at hSw); first | (go_simp; done) | (go_simp; with_reducible rfl))
  try simp only [Act.put, qa, qb, qc]
  refine wpAnyH_ready (rs := [2]) (by kernel_rfl) (by simp) ?_
  refine AllReadyH.cons (o := { dst := some 9, op := Op.call { callee := Callee.value (Operand.func 103), args := #[Operand.tmp 8], argTypes := #[135] }, type := 3, pos := "l02_state.go:144", after := #[{ on := 1, ground := Ground.data }], guard := none }) rfl (fun K hK => ?_) (AllReadyH.nil)
  · go_simp
    go_at_call 103; refine (comCells_any (some ⟨bi, oi, none⟩) A2 Ap Af p.init.length p.ts.length np nf c1 c2 cp cf _).mono ?_; rintro e wa ⟨rfl, hba⟩
    have Xa := hide (X0d.out.below hba X0d.out.lt)
    have Ba := hide (B0.out.drew.trans (hba.mono B0.out.size))
    refine hK.out _ _ ?_ (fun hHeldN => ?_)
    · exact hCx.out _ Xa.out
    clear hK K hHeld
    have hHeld := hHeldN
    clear hHeldN
    try simp only [Act.put, qa, qb, qc]
    refine wpAnyH_ready (rs := [3]) (by kernel_rfl) (by simp) ?_
    refine AllReadyH.cons (o := { dst := some 10, op := Op.call { callee := Callee.value (Operand.func 187), args := #[Operand.tmp 9], argTypes := #[3] }, type := 22, pos := "l02_state.go:144", after := #[{ on := 2, ground := Ground.data }, { on := 2, ground := Ground.chain }], guard := none }) rfl (fun K hK => ?_) (AllReadyH.nil)
    · go_simp
      go_at_call 187; refine (firstView_any p.init.length _ (by omega)).mono ?_; rintro e wb ⟨rfl, hrow, hbb⟩
      have Xb := hide (Xa.out.below hbb Xa.out.lt)
      have Bb := hide (Ba.out.trans (hbb.mono Ba.out.size))
      have Qb := hide hrow
      clear hrow
      refine hK.out _ _ ?_ (fun hHeldN => ?_)
      · exact hCx.out _ Xb.out
      clear hK K hHeld
      have hHeld := hHeldN
      clear hHeldN
      try simp only [Act.put, qa, qb, qc]
      refine wpAnyH_ready (rs := [5]) (by kernel_rfl) (by simp) ?_
      refine AllReadyH.cons (o := { dst := some 12, op := Op.call { callee := Callee.value (Operand.func 103), args := #[Operand.tmp 11], argTypes := #[135] }, type := 3, pos := "l02_state.go:144", after := #[{ on := 4, ground := Ground.data }, { on := 3, ground := Ground.chain }], guard := none }) rfl (fun K hK => ?_) (AllReadyH.nil)
      · go_simp
        go_at_call 103; refine (comCells_any (some ⟨bi, oi, none⟩) A2 Ap Af p.init.length p.ts.length np nf c1 c2 cp cf _).mono ?_; rintro e wc ⟨rfl, hbc⟩
        have Xc := hide (Xb.out.below hbc Xb.out.lt)
        have Bc := hide (Bb.out.trans (hbc.mono Bb.out.size))
        have Qc := hide (Qb.out.below hbc)
        have Xe := hide (Xc.out.alloc (Obj.cells #[.slice (some ⟨bi, oi, none⟩) p.init.length c1, .slice A2 p.ts.length c2, .slice Ap np cp, .slice Af nf cf, (.slice none 0 0), (.slice none 0 0), (.slice (some ⟨wa.heap.size, 0, none⟩) p.init.length p.init.length), (.int .i64 (p.init.length : Int))] 144))
        refine hK.out _ _ ?_ (fun hHeldN => ?_)
        · exact hCx.out _ Xc.out
        clear hK K hHeld
        have hHeld := hHeldN
        clear hHeldN
        try simp only [Act.put, qa, qb, qc]
        refine wpAnyH_take (i := 6) (oi := { dst := some 13, op := Op.build 144 #[(0, Operand.tmp 7), (3, Operand.tmp 10), (4, Operand.tmp 12)], type := 144, pos := "l02_state.go:144", after := #[{ on := 0, ground := Ground.data }, { on := 3, ground := Ground.data }, { on := 5, ground := Ground.data }], guard := none }) (v := ?_) rfl (by kernel_rfl) (by kernel_rfl) (by kernel_rfl) (fun _ _ _ h => h) (Or.inl ⟨by rfl, ?_⟩) hHeld ?_
        rotate_left
        · (intro wq hSw; (try dsimp only at hSw); first | (go_simp; done) | (go_simp; with_reducible rfl))
        try simp only [Act.put, qa, qb, qc]
        refine wpAnyH_ready (rs := [7]) (by kernel_rfl) (by simp) ?_
        refine AllReadyH.cons (o := { dst := some 14, op := Op.box 144 (Operand.tmp 13), type := 142, pos := "l02_state.go:144", after := #[{ on := 6, ground := Ground.data }], guard := none }) rfl (fun K hK => ?_) (AllReadyH.nil)
        · go_simp
          refine hK.out _ _ ?_ (fun hHeldN => ?_)
          · exact hCx.out _ Xe.out
          clear hK K hHeld
          have hHeld := hHeldN
          clear hHeldN
          try simp only [Act.put, qa, qb, qc]
          refine wpAnyH_take (i := 8) (oi := { dst := some 3, op := Op.assign (Operand.tmp 14), type := 142, pos := "l02_state.go:144", after := #[{ on := 7, ground := Ground.data }, { on := 5, ground := Ground.chain }, { on := 0, ground := Ground.phase }, { on := 1, ground := Ground.phase }, { on := 2, ground := Ground.phase }, { on := 3, ground := Ground.phase }, { on := 4, ground := Ground.phase }, { on := 5, ground := Ground.phase }, { on := 6, ground := Ground.phase }, { on := 7, ground := Ground.phase }], guard := none }) (v := ?_) rfl (by kernel_rfl) (by kernel_rfl) (by kernel_rfl) (fun _ _ _ h => h) (Or.inl ⟨by rfl, ?_⟩) hHeld ?_
          rotate_left
          · (intro wq hSw; (try dsimp only at hSw); first | (go_simp; done) | (go_simp; with_reducible rfl))
          try simp only [Act.put, qa, qb, qc]
          refine wpAnyH_done (by kernel_rfl) ?_ _
          have hza : w.heap.size < wa.heap.size := Nat.lt_of_lt_of_le X0d.out.lt hba.size
          have hzb : wa.heap.size < wb.heap.size := Qb.out.lt
          have hzc := hbc.size
          obtain ⟨q, hq⟩ : ∃ q, q = wa.heap.size := ⟨_, rfl⟩
          obtain ⟨T, hT⟩ : ∃ T, T = wc.heap.size := ⟨_, rfl⟩
          have hR := hide (show VwC w #[.slice (some ⟨bi, oi, none⟩) p.init.length c1, .slice A2 p.ts.length c2, .slice Ap np cp, .slice Af nf cf] #[.slice (some ⟨bi, oi, none⟩) p.init.length c1, .slice A2 p.ts.length c2, .slice Ap np cp, .slice Af nf cf, (.slice none 0 0), (.slice none 0 0), (.slice (some ⟨q, 0, none⟩) p.init.length p.init.length), (.int .i64 (p.init.length : Int))] T q (T + 1) p.init.length (wc.alloc (Obj.cells #[.slice (some ⟨bi, oi, none⟩) p.init.length c1, .slice A2 p.ts.length c2, .slice Ap np cp, .slice Af nf cf, (.slice none 0 0), (.slice none 0 0), (.slice (some ⟨q, 0, none⟩) p.init.length p.init.length), (.int .i64 (p.init.length : Int))] 144)) from by
            subst hq
            subst hT
            exact ⟨Bc.out.alloc Bc.out.size _, Xe.out, Blk.new _ _ _, Qc.out.below (below1 _ _), ⟨by omega, by omega, by omega, by omega, by omega, by simp⟩⟩)
          obtain ⟨wd, hwd⟩ : ∃ x, x = wc.alloc (Obj.cells #[.slice (some ⟨bi, oi, none⟩) p.init.length c1, .slice A2 p.ts.length c2, .slice Ap np cp, .slice Af nf cf, (.slice none 0 0), (.slice none 0 0), (.slice (some ⟨q, 0, none⟩) p.init.length p.init.length), (.int .i64 (p.init.length : Int))] 144) := ⟨_, rfl⟩
          rw [← hwd] at hR
          rw [← hq, ← hT] at *
          rw [← hwd]
          clear hwd hza hzb hzc hba hbb hbc Xa Xb Xc Xe Ba Bb Bc Qb Qc hHeld
          have d0 : wd.cell? ⟨w.heap.size, 0, none⟩ = some (.slice (some ⟨bi, oi, none⟩) p.init.length c1) := hR.out.box.cell 0
          have ld : w.heap.size < wd.heap.size := hR.out.box.lt
          go_wp2_with fail
          go_loopw [19] (fun iv wr => ∃ (k : Nat) (hv : Value) (los his pq : Nat → Nat) (qs : Nat → Nat → Nat), k ≤ p.init.length ∧ iv = .int .i64 k ∧ VwC w #[.slice (some ⟨bi, oi, none⟩) p.init.length c1, .slice A2 p.ts.length c2, .slice Ap np cp, .slice Af nf cf] #[.slice (some ⟨bi, oi, none⟩) p.init.length c1, .slice A2 p.ts.length c2, .slice Ap np cp, .slice Af nf cf, hv, (.slice none 0 0), (.slice (some ⟨q, 0, none⟩) p.init.length p.init.length), (.int .i64 (p.init.length : Int))] T q (T + 1) p.init.length wr ∧ HUp wr (T + 1) hv (histK p.init k) los his pq qs) (fun iv _ => p.init.length - (intOf iv).toNat)
          case atStart => exact ⟨0, _, _, _, _, _, Nat.zero_le _, rfl, hR.out, HUp.nil _ _⟩
          case round =>
            obtain ⟨k, hv, los, his, pq, qs, hk, rfl, hRr, hU⟩ := hrel
            clear hR d0 ld
            have b1 := hRr.box.cell 1
            have b0 := hRr.box.cell 0
            have b2 := hRr.box.cell 2
            have b3 := hRr.box.cell 3
            have lb := hRr.box.lt
            simp only [List.getElem?_toArray, List.getElem?_cons_zero, List.getElem?_cons_succ] at b0 b1 b2 b3
            have hpos := hRr.pos
            by_cases hlt : k < p.init.length
            · have hlt' : (k : Int) < (p.init.length : Int) := by omega
              have hc0 : wr.cell? ⟨bi, oi + k, none⟩ = some (.int .i64 (geti p.init k)) := (hRr.below.cell (p := ⟨bi, oi + k, none⟩) (by show bi < w.heap.size; omega)).trans (hint.out k hlt)
              have hbir : bi < wr.heap.size := by omega
              obtain ⟨val, hval⟩ : ∃ val, val = geti p.init k := ⟨_, rfl⟩
              rw [← hval] at hc0
              have hsucc := hide (histK_succ p.init k)
              rw [← hval] at hsucc
              have Rr := hide hRr
              have Ur := hide hU
              clear hval hRr hU
              go_wp2_with fail
              refine (comCells_any (some ⟨bi, oi, none⟩) A2 Ap Af p.init.length p.ts.length np nf c1 c2 cp cf _).mono ?_
              rintro e wu ⟨rfl, hbu⟩
              go_wp2_with fail
              refine (firstView_any p.init.length _ (by omega)).mono ?_
              rintro e wv ⟨rfl, hrow, hbv⟩
              have hzu := hbu.size
              have hzv : wu.heap.size < wv.heap.size := hrow.lt
              have Rv := hide ((Rr.out.next hbu).next hbv)
              have Uv := hide ((Ur.out.next hbu).next hbv)
              have lT := Rv.out.blk.lt
              clear hbu hbv
              go_wp2_with fail
              obtain ⟨wp, hwp⟩ : ∃ x, x = wv.alloc (Obj.cells #[.int .i64 (k : Int), .int .i64 val, .bool false, .slice (some ⟨wu.heap.size, 0, none⟩) p.init.length p.init.length] 86) := ⟨_, rfl⟩
              have hzp : wp.heap.size = wv.heap.size + 1 := by rw [hwp]; simp
              have PX := hide (show Blk wp.drew wv.heap.size 86 #[.int .i64 (k : Int), .int .i64 val, .bool false, .slice (some ⟨wu.heap.size, 0, none⟩) p.init.length p.init.length] from by rw [hwp]; exact Blk.new wv _ _)
              have R0 := hide (show VwC w #[.slice (some ⟨bi, oi, none⟩) p.init.length c1, .slice A2 p.ts.length c2, .slice Ap np cp, .slice Af nf cf] #[.slice (some ⟨bi, oi, none⟩) p.init.length c1, .slice A2 p.ts.length c2, .slice Ap np cp, .slice Af nf cf, hv, (.slice none 0 0), (.slice (some ⟨q, 0, none⟩) p.init.length p.init.length), (.int .i64 (p.init.length : Int))] T q (T + 1) p.init.length wp.drew from by rw [hwp]; exact (Rv.out.alloc _).drew)
              have U0 := hide (show HUp wp.drew (T + 1) hv (histK p.init k) los his pq qs from by rw [hwp]; exact (Uv.out.alloc _).drew)
              have Q0 := hide (show RowT 3 wp.drew wu.heap.size (idsL p.init.length) from by rw [hwp]; exact (hrow.below (below1 _ _)).below (Below.refl _ _).drew)
              have hzw : wr.heap.size ≤ wp.heap.size := by omega
              have hup : wu.heap.size < wp.heap.size := by omega
              rw [← hwp]
              clear hwp Rv Uv hrow hzp
              have R1 := hide (R0.out.alloc (Obj.cells #[.int .i64 (k : Int), .int .i64 val, .bool false, .slice (some ⟨wu.heap.size, 0, none⟩) p.init.length p.init.length] 86))
              have U1 := hide (U0.out.alloc (Obj.cells #[.int .i64 (k : Int), .int .i64 val, .bool false, .slice (some ⟨wu.heap.size, 0, none⟩) p.init.length p.init.length] 86))
              have R2 := hide (R1.out.alloc (Obj.cells #[.slice (some ⟨wp.heap.size, 0, none⟩) 1 1] 84))
              have U2 := hide (U1.out.alloc (Obj.cells #[.slice (some ⟨wp.heap.size, 0, none⟩) 1 1] 84))
              have PO1 := hide (post_own (lo := wr.heap.size) (Blk.new wp.drew 86 #[.int .i64 (k : Int), .int .i64 val, .bool false, .slice (some ⟨wu.heap.size, 0, none⟩) p.init.length p.init.length]) (Q0.out.below (below1 _ _)) (Nat.le_refl _) hzu (by exact hup) h6)
              have PO2 := hide (PO1.out.next (below1 _ (Obj.cells #[.slice (some ⟨wp.heap.size, 0, none⟩) 1 1] 84)))
              have hnew : ((wp.drew.alloc (Obj.cells #[.int .i64 (k : Int), .int .i64 val, .bool false, .slice (some ⟨wu.heap.size, 0, none⟩) p.init.length p.init.length] 86)).alloc (Obj.cells #[.slice (some ⟨wp.heap.size, 0, none⟩) 1 1] 84)).heap[wp.heap.size + 1]? = some (.cells #[.slice (some ⟨wp.heap.size, 0, none⟩) 1 1] 84 (0, 0)) := by
                have := heap_alloc_new (wp.drew.alloc (Obj.cells #[.int .i64 (k : Int), .int .i64 val, .bool false, .slice (some ⟨wu.heap.size, 0, none⟩) p.init.length p.init.length] 86)) (.cells #[.slice (some ⟨wp.heap.size, 0, none⟩) 1 1] 84)
                rw [World.size_alloc] at this
                exact this
              replace hnew := hide hnew
              have f0 : wp.cell? ⟨T, 4, none⟩ = some hv := R0.out.blk.cell 4
              have f1 : (wp.alloc (Obj.cells #[.int .i64 (k : Int), .int .i64 val, .bool false, .slice (some ⟨wu.heap.size, 0, none⟩) p.init.length p.init.length] 86)).cell? ⟨T, 4, none⟩ = some hv := R1.out.blk.cell 4
              have f2 : ((wp.alloc (Obj.cells #[.int .i64 (k : Int), .int .i64 val, .bool false, .slice (some ⟨wu.heap.size, 0, none⟩) p.init.length p.init.length] 86)).alloc (Obj.cells #[.slice (some ⟨wp.heap.size, 0, none⟩) 1 1] 84)).cell? ⟨T, 4, none⟩ = some hv := R2.out.blk.cell 4
              have lTp : T < wp.heap.size := R0.out.blk.lt
              have hPx := hide (fun (W : World) (h : Blk W wv.heap.size 86 #[.int .i64 (k : Int), .int .i64 val, .bool false, .slice (some ⟨wu.heap.size, 0, none⟩) p.init.length p.init.length]) => show W.cell? ⟨wv.heap.size, 0, none⟩ = some (.int .i64 (k : Int)) ∧ W.cell? ⟨wv.heap.size, 1, none⟩ = some (.int .i64 val) ∧ W.cell? ⟨wv.heap.size, 2, none⟩ = some (.bool false) ∧ W.cell? ⟨wv.heap.size, 3, none⟩ = some (.slice (some ⟨wu.heap.size, 0, none⟩) p.init.length p.init.length) from ⟨h.cell 0, h.cell 1, h.cell 2, h.cell 3⟩)
              refine wp_region_held_drew (S := (fun wq : World => wq.cell? ⟨wv.heap.size, 0, none⟩ = some (.int .i64 (k : Int)) ∧ wq.cell? ⟨wv.heap.size, 1, none⟩ = some (.int .i64 val) ∧ wq.cell? ⟨wv.heap.size, 2, none⟩ = some (.bool false) ∧ wq.cell? ⟨wv.heap.size, 3, none⟩ = some (.slice (some ⟨wu.heap.size, 0, none⟩) p.init.length p.init.length))) (by kernel_rfl) ?_ (fun hHeld => ?_)
              · exact hPx.out _ PX.out
              refine wpAnyH_take (i := 0) (oi := { dst := some 30, op := Op.move (Operand.tmp 3), type := 142, pos := "l02_state.go:147", after := #[], guard := none }) (v := ?_) rfl (by kernel_rfl) (by kernel_rfl) (by kernel_rfl) (fun _ _ _ h => h) (Or.inl ⟨by rfl, ?_⟩) hHeld ?_
              rotate_left
              · (intro wq hSw; (try dsimp only at hSw); first | (go_simp; done) | (go_simp; with_reducible rfl))
              try simp only [Act.put, qa, qb, qc]
              refine wpAnyH_take (i := 1) (oi := { dst := some 31, op := Op.move (Operand.tmp 3), type := 142, pos := "l02_state.go:147", after := #[], guard := none }) (v := ?_) rfl (by kernel_rfl) (by kernel_rfl) (by kernel_rfl) (fun _ _ _ h => h) (Or.inl ⟨by rfl, ?_⟩) hHeld ?_
              rotate_left
              · (intro wq hSw; (try dsimp only at hSw); first | (go_simp; done) | (go_simp; with_reducible rfl))
              try simp only [Act.put, qa, qb, qc]
              refine wpAnyH_take (i := 2) (oi := { dst := some 32, op := Op.nilCheck (Operand.tmp 31), type := 0, pos := "l02_state.go:147", after := #[{ on := 1, ground := Ground.data }], guard := none }) (v := ?_) rfl (by kernel_rfl) (by kernel_rfl) (by kernel_rfl) (fun _ _ _ h => h) (Or.inl ⟨by rfl, ?_⟩) hHeld ?_
              rotate_left
              · (intro wq hSw; (try dsimp only at hSw); first | (go_simp; done) | (go_simp; with_reducible rfl))
              try simp only [Act.put, qa, qb, qc]
              refine wpAnyH_take (i := 3) (oi := { dst := some 33, op := Op.fieldAddr 144 (Operand.tmp 32) 1, type := 0, pos := "l02_state.go:147", after := #[{ on := 2, ground := Ground.data }], guard := none }) (v := ?_) rfl (by kernel_rfl) (by kernel_rfl) (by kernel_rfl) (fun _ _ _ h => h) (Or.inl ⟨by rfl, ?_⟩) hHeld ?_
              rotate_left
              · (intro wq hSw; (try dsimp only at hSw); first | (go_simp; done) | (go_simp; with_reducible rfl))
              try simp only [Act.put, qa, qb, qc]
              refine wpAnyH_take (i := 5) (oi := { dst := some 35, op := Op.load 86 (Operand.tmp 6), type := 86, pos := "l02_state.go:147", after := #[], guard := none }) (v := ?_) rfl (by kernel_rfl) (by kernel_rfl) (by kernel_rfl) (fun _ _ _ h => h) (Or.inl ⟨by rfl, ?_⟩) hHeld ?_
              rotate_left
              · (intro wq hSw; (try dsimp only at hSw); first | (go_simp; done) | (go_simp; with_reducible rfl))
              try simp only [Act.put, qa, qb, qc]
              refine wpAnyH_ready (rs := [4, 6]) (by kernel_rfl) (by simp) ?_
              refine AllReadyH.cons (o := { dst := some 34, op := Op.load 46 (Operand.tmp 33), type := 46, pos := "l02_state.go:147", after := #[{ on := 3, ground := Ground.data }], guard := none }) rfl (fun K hK => ?_) (AllReadyH.cons (o := { dst := some 36, op := Op.buildSlice 82 1 #[(0, Operand.tmp 35)], type := 82, pos := "l02_state.go:147", after := #[{ on := 5, ground := Ground.data }], guard := none }) rfl (fun K hK => ?_) (AllReadyH.nil))
              · go_simp
                refine hK.out _ _ ?_ (fun hHeldN => ?_)
                · exact hHeld
                clear hK K hHeld
                have hHeld := hHeldN
                clear hHeldN
                try simp only [Act.put, qa, qb, qc]
                refine wpAnyH_ready (rs := [6]) (by kernel_rfl) (by simp) ?_
                refine AllReadyH.cons (o := { dst := some 36, op := Op.buildSlice 82 1 #[(0, Operand.tmp 35)], type := 82, pos := "l02_state.go:147", after := #[{ on := 5, ground := Ground.data }], guard := none }) rfl (fun K hK => ?_) (AllReadyH.nil)
                · go_simp
                  refine hK.out _ _ ?_ (fun hHeldN => ?_)
                  · exact hPx.out _ (PX.out.alloc _)
                  clear hK K hHeld
                  have hHeld := hHeldN
                  clear hHeldN
                  try simp only [Act.put, qa, qb, qc]
                  refine wpAnyH_take (i := 7) (oi := { dst := some 37, op := Op.build 84 #[(0, Operand.tmp 36)], type := 84, pos := "l02_state.go:147", after := #[{ on := 6, ground := Ground.data }], guard := none }) (v := ?_) rfl (by kernel_rfl) (by kernel_rfl) (by kernel_rfl) (fun _ _ _ h => h) (Or.inl ⟨by rfl, ?_⟩) hHeld ?_
                  rotate_left
                  · (intro wq hSw; (try dsimp only at hSw); first | (go_simp; done) | (go_simp; with_reducible rfl))
                  try simp only [Act.put, qa, qb, qc]
                  refine wpAnyH_ready (rs := [8]) (by kernel_rfl) (by simp) ?_
                  refine AllReadyH.cons (o := { dst := some 38, op := Op.buildSlice 46 1 #[(0, Operand.tmp 37)], type := 46, pos := "l02_state.go:147", after := #[{ on := 7, ground := Ground.data }], guard := none }) rfl (fun K hK => ?_) (AllReadyH.nil)
                  · go_simp
                    refine hK.out _ _ ?_ (fun hHeldN => ?_)
                    · exact hPx.out _ ((PX.out.alloc _).alloc _)
                    clear hK K hHeld
                    have hHeld := hHeldN
                    clear hHeldN
                    try simp only [Act.put, qa, qb, qc]
                    refine wpAnyH_ready (rs := [9]) (by kernel_rfl) (by simp) ?_
                    refine AllReadyH.cons (o := { dst := some 39, op := Op.call { callee := Callee.builtin Builtin.append, args := #[Operand.tmp 34, Operand.tmp 38], argTypes := #[46, 46] }, type := 46, pos := "l02_state.go:147", after := #[{ on := 4, ground := Ground.data }, { on := 8, ground := Ground.data }], guard := none }) rfl (fun K hK => ?_) (AllReadyH.nil)
                    · rw [if_pos (by rfl)]
                      refine wp_append_lies _ _ _ _ (by rfl) (T + 1) 84 i2 _ 1 24 Try.underlying46 hi2.out hx0 hx1 hx2 rfl (by omega) hv (histK p.init k).length ((List.range (histK p.init k).length).map (hval (histK p.init k) pq)) (by rfl) U2.out.own ⟨wp.heap.size + 1, 0, none⟩ 1 1 [.slice (some ⟨wp.heap.size, 0, none⟩) 1 1] (by rfl) (by rfl) (World.news_of_block hnew.out) (by simp [Value.oneCell']) (by omega) (by have : maxLen = 9223372036854775807 := rfl; rw [histK_len]; omega) (by rw [histK_len]; omega) (by simp; omega) _ (by rfl) ?_
                      intro gg cap w5 hown5 hgr5 hat hlt5
                      have U5 := hide (U2.out.more PO2.out (by show T + 1 ≤ wr.heap.size; omega) (fun j hj => (Ur.out.rng j hj).2) (by simp) (fun x hx => (own_lt Ur.out.own hx).2.1) rfl hown5 hgr5 (hat.elim (fun e => .inl e.symm) (fun e => .inr (by rw [e]; rfl))))
                      have R5 := hide (R2.out.grown U2.out.own (Nat.le_refl _) hgr5)
                      have X5 := hide (show Blk w5 wv.heap.size 86 #[.int .i64 (k : Int), .int .i64 val, .bool false, .slice (some ⟨wu.heap.size, 0, none⟩) p.init.length p.init.length] from (hgr5.block _ (Nat.lt_trans PX.out.lt (by simp; omega)) (fun e => by
                        obtain ⟨_, _, cur, h2⟩ := own_lt U2.out.own e.symm
                        have h3 : ((wp.drew.alloc (Obj.cells #[.int .i64 (k : Int), .int .i64 val, .bool false, .slice (some ⟨wu.heap.size, 0, none⟩) p.init.length p.init.length] 86)).alloc (Obj.cells #[.slice (some ⟨wp.heap.size, 0, none⟩) 1 1] 84)).heap[wv.heap.size]? = some (.cells #[.int .i64 (k : Int), .int .i64 val, .bool false, .slice (some ⟨wu.heap.size, 0, none⟩) p.init.length p.init.length] 86 (0, 0)) := (PX.out.alloc _).alloc _
                        rw [h2] at h3
                        cases h3)).trans ((PX.out.alloc _).alloc _))
                      have f5 : w5.cell? ⟨T, 4, none⟩ = some hv := R5.out.blk.cell 4
                      have z5 := R5.out.blk.frozen 4
                      have l5 := R5.out.blk.lt
                      clear hown5 hgr5 hat
                      refine hK.out _ _ ?_ (fun hHeldN => ?_)
                      · exact hPx.out _ X5.out
                      clear hK K hHeld
                      have hHeld := hHeldN
                      clear hHeldN
                      try simp only [Act.put, qa, qb, qc]
                      refine wpAnyH_take (i := 10) (oi := { dst := some 40, op := Op.nilCheck (Operand.tmp 30), type := 0, pos := "l02_state.go:147", after := #[{ on := 0, ground := Ground.data }, { on := 0, ground := Ground.phase }, { on := 1, ground := Ground.phase }, { on := 2, ground := Ground.phase }, { on := 3, ground := Ground.phase }, { on := 4, ground := Ground.phase }, { on := 5, ground := Ground.phase }, { on := 6, ground := Ground.phase }, { on := 7, ground := Ground.phase }, { on := 8, ground := Ground.phase }, { on := 9, ground := Ground.phase }], guard := none }) (v := ?_) rfl (by kernel_rfl) (by kernel_rfl) (by kernel_rfl) (fun _ _ _ h => h) (Or.inl ⟨by rfl, ?_⟩) hHeld ?_
                      rotate_left
                      · (intro wq hSw; (try dsimp only at hSw); first | (go_simp; done) | (go_simp; with_reducible rfl))
                      try simp only [Act.put, qa, qb, qc]
                      refine wpAnyH_take (i := 11) (oi := { dst := some 41, op := Op.fieldAddr 144 (Operand.tmp 40) 1, type := 0, pos := "l02_state.go:147", after := #[{ on := 10, ground := Ground.data }, { on := 0, ground := Ground.phase }, { on := 1, ground := Ground.phase }, { on := 2, ground := Ground.phase }, { on := 3, ground := Ground.phase }, { on := 4, ground := Ground.phase }, { on := 5, ground := Ground.phase }, { on := 6, ground := Ground.phase }, { on := 7, ground := Ground.phase }, { on := 8, ground := Ground.phase }, { on := 9, ground := Ground.phase }], guard := none }) (v := ?_) rfl (by kernel_rfl) (by kernel_rfl) (by kernel_rfl) (fun _ _ _ h => h) (Or.inl ⟨by rfl, ?_⟩) hHeld ?_
                      rotate_left
                      · (intro wq hSw; (try dsimp only at hSw); first | (go_simp; done) | (go_simp; with_reducible rfl))
                      try simp only [Act.put, qa, qb, qc]
                      refine wpAnyH_ready (rs := [12]) (by kernel_rfl) (by simp) ?_
                      refine AllReadyH.cons (o := { dst := none, op := Op.store 46 (Operand.tmp 41) (Operand.tmp 39), type := 0, pos := "l02_state.go:147", after := #[{ on := 11, ground := Ground.data }, { on := 9, ground := Ground.data }, { on := 9, ground := Ground.chain }, { on := 0, ground := Ground.phase }, { on := 1, ground := Ground.phase }, { on := 2, ground := Ground.phase }, { on := 3, ground := Ground.phase }, { on := 4, ground := Ground.phase }, { on := 5, ground := Ground.phase }, { on := 6, ground := Ground.phase }, { on := 7, ground := Ground.phase }, { on := 8, ground := Ground.phase }, { on := 9, ground := Ground.phase }], guard := none }) rfl (fun K hK => ?_) (AllReadyH.nil)
                      · go_simp
                        refine hK.out _ _ ?_ (fun hHeldN => ?_)
                        · exact hPx.out _ (X5.out.far (by show wv.heap.size ≠ T; omega) _)
                        clear hK K hHeld
                        have hHeld := hHeldN
                        clear hHeldN
                        try simp only [Act.put, qa, qb, qc]
                        refine wpAnyH_done (by kernel_rfl) ?_ _
                        have R6 := hide (show VwC w #[.slice (some ⟨bi, oi, none⟩) p.init.length c1, .slice A2 p.ts.length c2, .slice Ap np cp, .slice Af nf cf] #[.slice (some ⟨bi, oi, none⟩) p.init.length c1, .slice A2 p.ts.length c2, .slice Ap np cp, .slice Af nf cf, .slice (some ⟨gg, 0, none⟩) ((histK p.init k).length + 1) cap, (.slice none 0 0), (.slice (some ⟨q, 0, none⟩) p.init.length p.init.length), (.int .i64 (p.init.length : Int))] T q (T + 1) p.init.length _ from R5.out.set 4 (.slice (some ⟨gg, 0, none⟩) ((histK p.init k).length + 1) cap))
                        have U6 := hide (U5.out.setCell (a := ⟨T, 4, none⟩) (by show T < T + 1; omega) (.slice (some ⟨gg, 0, none⟩) ((histK p.init k).length + 1) cap))
                        go_wp2_with fail
                        go_roundw
                        case rel => exact ⟨k + 1, _, _, _, _, _, by omega, by go_num, R6.out, by rw [hsucc.out]; exact U6.out⟩
                        case measure => simp [intOf]; omega
              · go_simp
                refine hK.out _ _ ?_ (fun hHeldN => ?_)
                · exact hPx.out _ (PX.out.alloc _)
                clear hK K hHeld
                have hHeld := hHeldN
                clear hHeldN
                try simp only [Act.put, qa, qb, qc]
                refine wpAnyH_take (i := 7) (oi := { dst := some 37, op := Op.build 84 #[(0, Operand.tmp 36)], type := 84, pos := "l02_state.go:147", after := #[{ on := 6, ground := Ground.data }], guard := none }) (v := ?_) rfl (by kernel_rfl) (by kernel_rfl) (by kernel_rfl) (fun _ _ _ h => h) (Or.inl ⟨by rfl, ?_⟩) hHeld ?_
                rotate_left
                · (intro wq hSw; (try dsimp only at hSw); first | (go_simp; done) | (go_simp; with_reducible rfl))
                try simp only [Act.put, qa, qb, qc]
                refine wpAnyH_ready (rs := [4, 8]) (by kernel_rfl) (by simp) ?_
                refine AllReadyH.cons (o := { dst := some 34, op := Op.load 46 (Operand.tmp 33), type := 46, pos := "l02_state.go:147", after := #[{ on := 3, ground := Ground.data }], guard := none }) rfl (fun K hK => ?_) (AllReadyH.cons (o := { dst := some 38, op := Op.buildSlice 46 1 #[(0, Operand.tmp 37)], type := 46, pos := "l02_state.go:147", after := #[{ on := 7, ground := Ground.data }], guard := none }) rfl (fun K hK => ?_) (AllReadyH.nil))
                · go_simp
                  refine hK.out _ _ ?_ (fun hHeldN => ?_)
                  · exact hHeld
                  clear hK K hHeld
                  have hHeld := hHeldN
                  clear hHeldN
                  try simp only [Act.put, qa, qb, qc]
                  refine wpAnyH_ready (rs := [8]) (by kernel_rfl) (by simp) ?_
                  refine AllReadyH.cons (o := { dst := some 38, op := Op.buildSlice 46 1 #[(0, Operand.tmp 37)], type := 46, pos := "l02_state.go:147", after := #[{ on := 7, ground := Ground.data }], guard := none }) rfl (fun K hK => ?_) (AllReadyH.nil)
                  · go_simp
                    refine hK.out _ _ ?_ (fun hHeldN => ?_)
                    · exact hPx.out _ ((PX.out.alloc _).alloc _)
                    clear hK K hHeld
                    have hHeld := hHeldN
                    clear hHeldN
                    try simp only [Act.put, qa, qb, qc]
                    refine wpAnyH_ready (rs := [9]) (by kernel_rfl) (by simp) ?_
                    refine AllReadyH.cons (o := { dst := some 39, op := Op.call { callee := Callee.builtin Builtin.append, args := #[Operand.tmp 34, Operand.tmp 38], argTypes := #[46, 46] }, type := 46, pos := "l02_state.go:147", after := #[{ on := 4, ground := Ground.data }, { on := 8, ground := Ground.data }], guard := none }) rfl (fun K hK => ?_) (AllReadyH.nil)
                    · rw [if_pos (by rfl)]
                      refine wp_append_lies _ _ _ _ (by rfl) (T + 1) 84 i2 _ 1 24 Try.underlying46 hi2.out hx0 hx1 hx2 rfl (by omega) hv (histK p.init k).length ((List.range (histK p.init k).length).map (hval (histK p.init k) pq)) (by rfl) U2.out.own ⟨wp.heap.size + 1, 0, none⟩ 1 1 [.slice (some ⟨wp.heap.size, 0, none⟩) 1 1] (by rfl) (by rfl) (World.news_of_block hnew.out) (by simp [Value.oneCell']) (by omega) (by have : maxLen = 9223372036854775807 := rfl; rw [histK_len]; omega) (by rw [histK_len]; omega) (by simp; omega) _ (by rfl) ?_
                      intro gg cap w5 hown5 hgr5 hat hlt5
                      have U5 := hide (U2.out.more PO2.out (by show T + 1 ≤ wr.heap.size; omega) (fun j hj => (Ur.out.rng j hj).2) (by simp) (fun x hx => (own_lt Ur.out.own hx).2.1) rfl hown5 hgr5 (hat.elim (fun e => .inl e.symm) (fun e => .inr (by rw [e]; rfl))))
                      have R5 := hide (R2.out.grown U2.out.own (Nat.le_refl _) hgr5)
                      have X5 := hide (show Blk w5 wv.heap.size 86 #[.int .i64 (k : Int), .int .i64 val, .bool false, .slice (some ⟨wu.heap.size, 0, none⟩) p.init.length p.init.length] from (hgr5.block _ (Nat.lt_trans PX.out.lt (by simp; omega)) (fun e => by
                        obtain ⟨_, _, cur, h2⟩ := own_lt U2.out.own e.symm
                        have h3 : ((wp.drew.alloc (Obj.cells #[.int .i64 (k : Int), .int .i64 val, .bool false, .slice (some ⟨wu.heap.size, 0, none⟩) p.init.length p.init.length] 86)).alloc (Obj.cells #[.slice (some ⟨wp.heap.size, 0, none⟩) 1 1] 84)).heap[wv.heap.size]? = some (.cells #[.int .i64 (k : Int), .int .i64 val, .bool false, .slice (some ⟨wu.heap.size, 0, none⟩) p.init.length p.init.length] 86 (0, 0)) := (PX.out.alloc _).alloc _
                        rw [h2] at h3
                        cases h3)).trans ((PX.out.alloc _).alloc _))
                      have f5 : w5.cell? ⟨T, 4, none⟩ = some hv := R5.out.blk.cell 4
                      have z5 := R5.out.blk.frozen 4
                      have l5 := R5.out.blk.lt
                      clear hown5 hgr5 hat
                      refine hK.out _ _ ?_ (fun hHeldN => ?_)
                      · exact hPx.out _ X5.out
                      clear hK K hHeld
                      have hHeld := hHeldN
                      clear hHeldN
                      try simp only [Act.put, qa, qb, qc]
                      refine wpAnyH_take (i := 10) (oi := { dst := some 40, op := Op.nilCheck (Operand.tmp 30), type := 0, pos := "l02_state.go:147", after := #[{ on := 0, ground := Ground.data }, { on := 0, ground := Ground.phase }, { on := 1, ground := Ground.phase }, { on := 2, ground := Ground.phase }, { on := 3, ground := Ground.phase }, { on := 4, ground := Ground.phase }, { on := 5, ground := Ground.phase }, { on := 6, ground := Ground.phase }, { on := 7, ground := Ground.phase }, { on := 8, ground := Ground.phase }, { on := 9, ground := Ground.phase }], guard := none }) (v := ?_) rfl (by kernel_rfl) (by kernel_rfl) (by kernel_rfl) (fun _ _ _ h => h) (Or.inl ⟨by rfl, ?_⟩) hHeld ?_
                      rotate_left
                      · (intro wq hSw; (try dsimp only at hSw); first | (go_simp; done) | (go_simp; with_reducible rfl))
                      try simp only [Act.put, qa, qb, qc]
                      refine wpAnyH_take (i := 11) (oi := { dst := some 41, op := Op.fieldAddr 144 (Operand.tmp 40) 1, type := 0, pos := "l02_state.go:147", after := #[{ on := 10, ground := Ground.data }, { on := 0, ground := Ground.phase }, { on := 1, ground := Ground.phase }, { on := 2, ground := Ground.phase }, { on := 3, ground := Ground.phase }, { on := 4, ground := Ground.phase }, { on := 5, ground := Ground.phase }, { on := 6, ground := Ground.phase }, { on := 7, ground := Ground.phase }, { on := 8, ground := Ground.phase }, { on := 9, ground := Ground.phase }], guard := none }) (v := ?_) rfl (by kernel_rfl) (by kernel_rfl) (by kernel_rfl) (fun _ _ _ h => h) (Or.inl ⟨by rfl, ?_⟩) hHeld ?_
                      rotate_left
                      · (intro wq hSw; (try dsimp only at hSw); first | (go_simp; done) | (go_simp; with_reducible rfl))
                      try simp only [Act.put, qa, qb, qc]
                      refine wpAnyH_ready (rs := [12]) (by kernel_rfl) (by simp) ?_
                      refine AllReadyH.cons (o := { dst := none, op := Op.store 46 (Operand.tmp 41) (Operand.tmp 39), type := 0, pos := "l02_state.go:147", after := #[{ on := 11, ground := Ground.data }, { on := 9, ground := Ground.data }, { on := 9, ground := Ground.chain }, { on := 0, ground := Ground.phase }, { on := 1, ground := Ground.phase }, { on := 2, ground := Ground.phase }, { on := 3, ground := Ground.phase }, { on := 4, ground := Ground.phase }, { on := 5, ground := Ground.phase }, { on := 6, ground := Ground.phase }, { on := 7, ground := Ground.phase }, { on := 8, ground := Ground.phase }, { on := 9, ground := Ground.phase }], guard := none }) rfl (fun K hK => ?_) (AllReadyH.nil)
                      · go_simp
                        refine hK.out _ _ ?_ (fun hHeldN => ?_)
                        · exact hPx.out _ (X5.out.far (by show wv.heap.size ≠ T; omega) _)
                        clear hK K hHeld
                        have hHeld := hHeldN
                        clear hHeldN
                        try simp only [Act.put, qa, qb, qc]
                        refine wpAnyH_done (by kernel_rfl) ?_ _
                        have R6 := hide (show VwC w #[.slice (some ⟨bi, oi, none⟩) p.init.length c1, .slice A2 p.ts.length c2, .slice Ap np cp, .slice Af nf cf] #[.slice (some ⟨bi, oi, none⟩) p.init.length c1, .slice A2 p.ts.length c2, .slice Ap np cp, .slice Af nf cf, .slice (some ⟨gg, 0, none⟩) ((histK p.init k).length + 1) cap, (.slice none 0 0), (.slice (some ⟨q, 0, none⟩) p.init.length p.init.length), (.int .i64 (p.init.length : Int))] T q (T + 1) p.init.length _ from R5.out.set 4 (.slice (some ⟨gg, 0, none⟩) ((histK p.init k).length + 1) cap))
                        have U6 := hide (U5.out.setCell (a := ⟨T, 4, none⟩) (by show T < T + 1; omega) (.slice (some ⟨gg, 0, none⟩) ((histK p.init k).length + 1) cap))
                        go_wp2_with fail
                        go_roundw
                        case rel => exact ⟨k + 1, _, _, _, _, _, by omega, by go_num, R6.out, by rw [hsucc.out]; exact U6.out⟩
                        case measure => simp [intOf]; omega
                · go_simp
                  refine hK.out _ _ ?_ (fun hHeldN => ?_)
                  · exact hPx.out _ ((PX.out.alloc _).alloc _)
                  clear hK K hHeld
                  have hHeld := hHeldN
                  clear hHeldN
                  try simp only [Act.put, qa, qb, qc]
                  refine wpAnyH_ready (rs := [4]) (by kernel_rfl) (by simp) ?_
                  refine AllReadyH.cons (o := { dst := some 34, op := Op.load 46 (Operand.tmp 33), type := 46, pos := "l02_state.go:147", after := #[{ on := 3, ground := Ground.data }], guard := none }) rfl (fun K hK => ?_) (AllReadyH.nil)
                  · go_simp
                    refine hK.out _ _ ?_ (fun hHeldN => ?_)
                    · exact hHeld
                    clear hK K hHeld
                    have hHeld := hHeldN
                    clear hHeldN
                    try simp only [Act.put, qa, qb, qc]
                    refine wpAnyH_ready (rs := [9]) (by kernel_rfl) (by simp) ?_
                    refine AllReadyH.cons (o := { dst := some 39, op := Op.call { callee := Callee.builtin Builtin.append, args := #[Operand.tmp 34, Operand.tmp 38], argTypes := #[46, 46] }, type := 46, pos := "l02_state.go:147", after := #[{ on := 4, ground := Ground.data }, { on := 8, ground := Ground.data }], guard := none }) rfl (fun K hK => ?_) (AllReadyH.nil)
                    · rw [if_pos (by rfl)]
                      refine wp_append_lies _ _ _ _ (by rfl) (T + 1) 84 i2 _ 1 24 Try.underlying46 hi2.out hx0 hx1 hx2 rfl (by omega) hv (histK p.init k).length ((List.range (histK p.init k).length).map (hval (histK p.init k) pq)) (by rfl) U2.out.own ⟨wp.heap.size + 1, 0, none⟩ 1 1 [.slice (some ⟨wp.heap.size, 0, none⟩) 1 1] (by rfl) (by rfl) (World.news_of_block hnew.out) (by simp [Value.oneCell']) (by omega) (by have : maxLen = 9223372036854775807 := rfl; rw [histK_len]; omega) (by rw [histK_len]; omega) (by simp; omega) _ (by rfl) ?_
                      intro gg cap w5 hown5 hgr5 hat hlt5
                      have U5 := hide (U2.out.more PO2.out (by show T + 1 ≤ wr.heap.size; omega) (fun j hj => (Ur.out.rng j hj).2) (by simp) (fun x hx => (own_lt Ur.out.own hx).2.1) rfl hown5 hgr5 (hat.elim (fun e => .inl e.symm) (fun e => .inr (by rw [e]; rfl))))
                      have R5 := hide (R2.out.grown U2.out.own (Nat.le_refl _) hgr5)
                      have X5 := hide (show Blk w5 wv.heap.size 86 #[.int .i64 (k : Int), .int .i64 val, .bool false, .slice (some ⟨wu.heap.size, 0, none⟩) p.init.length p.init.length] from (hgr5.block _ (Nat.lt_trans PX.out.lt (by simp; omega)) (fun e => by
                        obtain ⟨_, _, cur, h2⟩ := own_lt U2.out.own e.symm
                        have h3 : ((wp.drew.alloc (Obj.cells #[.int .i64 (k : Int), .int .i64 val, .bool false, .slice (some ⟨wu.heap.size, 0, none⟩) p.init.length p.init.length] 86)).alloc (Obj.cells #[.slice (some ⟨wp.heap.size, 0, none⟩) 1 1] 84)).heap[wv.heap.size]? = some (.cells #[.int .i64 (k : Int), .int .i64 val, .bool false, .slice (some ⟨wu.heap.size, 0, none⟩) p.init.length p.init.length] 86 (0, 0)) := (PX.out.alloc _).alloc _
                        rw [h2] at h3
                        cases h3)).trans ((PX.out.alloc _).alloc _))
                      have f5 : w5.cell? ⟨T, 4, none⟩ = some hv := R5.out.blk.cell 4
                      have z5 := R5.out.blk.frozen 4
                      have l5 := R5.out.blk.lt
                      clear hown5 hgr5 hat
                      refine hK.out _ _ ?_ (fun hHeldN => ?_)
                      · exact hPx.out _ X5.out
                      clear hK K hHeld
                      have hHeld := hHeldN
                      clear hHeldN
                      try simp only [Act.put, qa, qb, qc]
                      refine wpAnyH_take (i := 10) (oi := { dst := some 40, op := Op.nilCheck (Operand.tmp 30), type := 0, pos := "l02_state.go:147", after := #[{ on := 0, ground := Ground.data }, { on := 0, ground := Ground.phase }, { on := 1, ground := Ground.phase }, { on := 2, ground := Ground.phase }, { on := 3, ground := Ground.phase }, { on := 4, ground := Ground.phase }, { on := 5, ground := Ground.phase }, { on := 6, ground := Ground.phase }, { on := 7, ground := Ground.phase }, { on := 8, ground := Ground.phase }, { on := 9, ground := Ground.phase }], guard := none }) (v := ?_) rfl (by kernel_rfl) (by kernel_rfl) (by kernel_rfl) (fun _ _ _ h => h) (Or.inl ⟨by rfl, ?_⟩) hHeld ?_
                      rotate_left
                      · (intro wq hSw; (try dsimp only at hSw); first | (go_simp; done) | (go_simp; with_reducible rfl))
                      try simp only [Act.put, qa, qb, qc]
                      refine wpAnyH_take (i := 11) (oi := { dst := some 41, op := Op.fieldAddr 144 (Operand.tmp 40) 1, type := 0, pos := "l02_state.go:147", after := #[{ on := 10, ground := Ground.data }, { on := 0, ground := Ground.phase }, { on := 1, ground := Ground.phase }, { on := 2, ground := Ground.phase }, { on := 3, ground := Ground.phase }, { on := 4, ground := Ground.phase }, { on := 5, ground := Ground.phase }, { on := 6, ground := Ground.phase }, { on := 7, ground := Ground.phase }, { on := 8, ground := Ground.phase }, { on := 9, ground := Ground.phase }], guard := none }) (v := ?_) rfl (by kernel_rfl) (by kernel_rfl) (by kernel_rfl) (fun _ _ _ h => h) (Or.inl ⟨by rfl, ?_⟩) hHeld ?_
                      rotate_left
                      · (intro wq hSw; (try dsimp only at hSw); first | (go_simp; done) | (go_simp; with_reducible rfl))
                      try simp only [Act.put, qa, qb, qc]
                      refine wpAnyH_ready (rs := [12]) (by kernel_rfl) (by simp) ?_
                      refine AllReadyH.cons (o := { dst := none, op := Op.store 46 (Operand.tmp 41) (Operand.tmp 39), type := 0, pos := "l02_state.go:147", after := #[{ on := 11, ground := Ground.data }, { on := 9, ground := Ground.data }, { on := 9, ground := Ground.chain }, { on := 0, ground := Ground.phase }, { on := 1, ground := Ground.phase }, { on := 2, ground := Ground.phase }, { on := 3, ground := Ground.phase }, { on := 4, ground := Ground.phase }, { on := 5, ground := Ground.phase }, { on := 6, ground := Ground.phase }, { on := 7, ground := Ground.phase }, { on := 8, ground := Ground.phase }, { on := 9, ground := Ground.phase }], guard := none }) rfl (fun K hK => ?_) (AllReadyH.nil)
                      · go_simp
                        refine hK.out _ _ ?_ (fun hHeldN => ?_)
                        · exact hPx.out _ (X5.out.far (by show wv.heap.size ≠ T; omega) _)
                        clear hK K hHeld
                        have hHeld := hHeldN
                        clear hHeldN
                        try simp only [Act.put, qa, qb, qc]
                        refine wpAnyH_done (by kernel_rfl) ?_ _
                        have R6 := hide (show VwC w #[.slice (some ⟨bi, oi, none⟩) p.init.length c1, .slice A2 p.ts.length c2, .slice Ap np cp, .slice Af nf cf] #[.slice (some ⟨bi, oi, none⟩) p.init.length c1, .slice A2 p.ts.length c2, .slice Ap np cp, .slice Af nf cf, .slice (some ⟨gg, 0, none⟩) ((histK p.init k).length + 1) cap, (.slice none 0 0), (.slice (some ⟨q, 0, none⟩) p.init.length p.init.length), (.int .i64 (p.init.length : Int))] T q (T + 1) p.init.length _ from R5.out.set 4 (.slice (some ⟨gg, 0, none⟩) ((histK p.init k).length + 1) cap))
                        have U6 := hide (U5.out.setCell (a := ⟨T, 4, none⟩) (by show T < T + 1; omega) (.slice (some ⟨gg, 0, none⟩) ((histK p.init k).length + 1) cap))
                        go_wp2_with fail
                        go_roundw
                        case rel => exact ⟨k + 1, _, _, _, _, _, by omega, by go_num, R6.out, by rw [hsucc.out]; exact U6.out⟩
                        case measure => simp [intOf]; omega
            · obtain rfl : k = p.init.length := by omega
              obtain ⟨A5, c5, rfl, hH⟩ := hU.toI (by rw [histK_len]; omega)
              rw [histK_len] at hH hRr
              obtain ⟨hm, hhm⟩ : ∃ hm, hm = wr.heap.size := ⟨_, rfl⟩
              rw [← hhm] at hH
              have hmB : T + 1 ≤ hm := by omega
              have hmS : hm ≤ wr.heap.size := by omega
              have V0 := hide (RowsUp.nil 69 wr hm)
              replace hRr := hide hRr
              replace hH := hide hH
              clear hU hhm
              go_wp2_with fail
              go_loopw [47] (fun iv wr => ∃ (vv : Value) (rs : List RowD), rs.length ≤ p.ts.length ∧ iv = .int .i64 (rs.length : Int) ∧ VwC w #[.slice (some ⟨bi, oi, none⟩) p.init.length c1, .slice A2 p.ts.length c2, .slice Ap np cp, .slice Af nf cf] #[.slice (some ⟨bi, oi, none⟩) p.init.length c1, .slice A2 p.ts.length c2, .slice Ap np cp, .slice Af nf cf, .slice A5 p.init.length c5, vv, (.slice (some ⟨q, 0, none⟩) p.init.length p.init.length), (.int .i64 (p.init.length : Int))] T q (T + 1) p.init.length wr ∧ HistsI wr ⟨T + 1, hm, A5, p.init.length, c5, histK p.init p.init.length, los, his, pq, qs⟩ ∧ RowsUp 69 wr hm vv rs ∧ Hid (∀ j, j < rs.length → (getr rs j).n = p.init.length ∧ (getr rs j).zs = idsL p.init.length) ∧ hm ≤ wr.heap.size) (fun iv _ => p.ts.length - (intOf iv).toNat)
              case atStart => exact ⟨_, [], Nat.zero_le _, rfl, hRr.out, hH.out, V0.out, hide (fun j hj => by simp at hj), hmS⟩
              case round =>
                obtain ⟨vv, rs, hk2, rfl, hRq, hHq, hVq, hall, hmw⟩ := hrel
                clear hRr hH V0 b0 b1 b2 b3 lb hpos hmS
                have hpos := hRq.pos
                by_cases hlt : rs.length < p.ts.length
                · have hlt' : (rs.length : Int) < (p.ts.length : Int) := by omega
                  have f0 : wr.cell? ⟨T, 5, none⟩ = some vv := hRq.blk.cell 5
                  have lr : T < wr.heap.size := hRq.blk.lt
                  have R0 := hide hRq.drew
                  have H0 := hide (show HistsI wr.drew _ from hHq.keep (fun b _ _ _ => rfl))
                  have V0 := hide hVq.drew
                  clear hRq hHq hVq
                  go_wp2_with fail
                  refine wp_region_held_drew (S := (fun wq : World => wq.cell? ⟨w.heap.size, 0, none⟩ = some (.slice (some ⟨bi, oi, none⟩) p.init.length c1) ∧ wq.cell? ⟨w.heap.size, 1, none⟩ = some (.slice A2 p.ts.length c2) ∧ wq.cell? ⟨w.heap.size, 2, none⟩ = some (.slice Ap np cp) ∧ wq.cell? ⟨w.heap.size, 3, none⟩ = some (.slice Af nf cf))) (by kernel_rfl) ?_ (fun hHeld => ?_)
                  · exact hCx.out _ R0.out.box
                  refine wpAnyH_take (i := 0) (oi := { dst := some 49, op := Op.move (Operand.tmp 3), type := 142, pos := "l02_state.go:150", after := #[], guard := none }) (v := ?_) rfl (by kernel_rfl) (by kernel_rfl) (by kernel_rfl) (fun _ _ _ h => h) (Or.inl ⟨by rfl, ?_⟩) hHeld ?_
                  rotate_left
                  · (intro wq hSw; (try dsimp only at hSw); first | (go_simp; done) | (go_simp; with_reducible rfl))
                  try simp only [Act.put, qa, qb, qc]
                  refine wpAnyH_take (i := 1) (oi := { dst := some 50, op := Op.move (Operand.tmp 3), type := 142, pos := "l02_state.go:150", after := #[], guard := none }) (v := ?_) rfl (by kernel_rfl) (by kernel_rfl) (by kernel_rfl) (fun _ _ _ h => h) (Or.inl ⟨by rfl, ?_⟩) hHeld ?_
                  rotate_left
                  · (intro wq hSw; (try dsimp only at hSw); first | (go_simp; done) | (go_simp; with_reducible rfl))
                  try simp only [Act.put, qa, qb, qc]
                  refine wpAnyH_take (i := 2) (oi := { dst := some 51, op := Op.nilCheck (Operand.tmp 50), type := 0, pos := "l02_state.go:150", after := #[{ on := 1, ground := Ground.data }], guard := none }) (v := ?_) rfl (by kernel_rfl) (by kernel_rfl) (by kernel_rfl) (fun _ _ _ h => h) (Or.inl ⟨by rfl, ?_⟩) hHeld ?_
                  rotate_left
                  · (intro wq hSw; (try dsimp only at hSw); first | (go_simp; done) | (go_simp; with_reducible rfl))
                  try simp only [Act.put, qa, qb, qc]
                  refine wpAnyH_take (i := 3) (oi := { dst := some 52, op := Op.fieldAddr 144 (Operand.tmp 51) 2, type := 0, pos := "l02_state.go:150", after := #[{ on := 2, ground := Ground.data }], guard := none }) (v := ?_) rfl (by kernel_rfl) (by kernel_rfl) (by kernel_rfl) (fun _ _ _ h => h) (Or.inl ⟨by rfl, ?_⟩) hHeld ?_
                  rotate_left
                  · (intro wq hSw; (try dsimp only at hSw); first | (go_simp; done) | (go_simp; with_reducible rfl))
                  try simp only [Act.put, qa, qb, qc]
                  refine wpAnyH_take (i := 5) (oi := { dst := some 54, op := Op.load 135 (Operand.tmp 1), type := 135, pos := "l02_state.go:150", after := #[], guard := none }) (v := ?_) rfl (by kernel_rfl) (by kernel_rfl) (by kernel_rfl) (fun _ _ _ h => h) (Or.inl ⟨by rfl, ?_⟩) hHeld ?_
                  rotate_left
                  · (intro wq hSw; (try dsimp only at hSw); first | (go_simp; done) | (go_simp; with_reducible rfl))
                  try simp only [Act.put, qa, qb, qc]
                  refine wpAnyH_ready (rs := [4, 6]) (by kernel_rfl) (by simp) ?_
                  refine AllReadyH.cons (o := { dst := some 53, op := Op.load 44 (Operand.tmp 52), type := 44, pos := "l02_state.go:150", after := #[{ on := 3, ground := Ground.data }], guard := none }) rfl (fun K hK => ?_) (AllReadyH.cons (o := { dst := some 55, op := Op.call { callee := Callee.value (Operand.func 103), args := #[Operand.tmp 54], argTypes := #[135] }, type := 3, pos := "l02_state.go:150", after := #[{ on := 5, ground := Ground.data }], guard := none }) rfl (fun K hK => ?_) (AllReadyH.nil))
                  · go_simp
                    refine hK.out _ _ ?_ (fun hHeldN => ?_)
                    · exact hHeld
                    clear hK K hHeld
                    have hHeld := hHeldN
                    clear hHeldN
                    try simp only [Act.put, qa, qb, qc]
                    refine wpAnyH_ready (rs := [6]) (by kernel_rfl) (by simp) ?_
                    refine AllReadyH.cons (o := { dst := some 55, op := Op.call { callee := Callee.value (Operand.func 103), args := #[Operand.tmp 54], argTypes := #[135] }, type := 3, pos := "l02_state.go:150", after := #[{ on := 5, ground := Ground.data }], guard := none }) rfl (fun K hK => ?_) (AllReadyH.nil)
                    · go_simp
                      go_at_call 103; refine (comCells_any (some ⟨bi, oi, none⟩) A2 Ap Af p.init.length p.ts.length np nf c1 c2 cp cf _).mono ?_; rintro e wu ⟨rfl, hbu⟩
                      have Ru := hide (R0.out.next hbu)
                      have fu : wu.cell? ⟨T, 5, none⟩ = some vv := Ru.out.blk.cell 5
                      have lu := Ru.out.blk.lt
                      have hzu : wr.heap.size ≤ wu.heap.size := hbu.size
                      refine hK.out _ _ ?_ (fun hHeldN => ?_)
                      · exact hCx.out _ Ru.out.box
                      clear hK K hHeld
                      have hHeld := hHeldN
                      clear hHeldN
                      try simp only [Act.put, qa, qb, qc]
                      refine wpAnyH_ready (rs := [7]) (by kernel_rfl) (by simp) ?_
                      refine AllReadyH.cons (o := { dst := some 56, op := Op.call { callee := Callee.value (Operand.func 187), args := #[Operand.tmp 55], argTypes := #[3] }, type := 22, pos := "l02_state.go:150", after := #[{ on := 6, ground := Ground.data }, { on := 6, ground := Ground.chain }], guard := none }) rfl (fun K hK => ?_) (AllReadyH.nil)
                      · go_simp
                        go_at_call 187; refine (firstView_any p.init.length _ (by omega)).mono ?_; rintro e wv ⟨rfl, hrow, hbv⟩
                        have hlow2 := below_then hbu hbv
                        have Rv := hide (R0.out.next hlow2)
                        have V2 := hide (V0.out.next hlow2)
                        have H2 := hide (H0.out.keep (fun b _ h2 h3 => hlow2.block b (by exact h3)))
                        have hzv : wu.heap.size < wv.heap.size := hrow.lt
                        have R3 := hide (Rv.out.alloc (Obj.cells #[.slice (some ⟨wu.heap.size, 0, none⟩) p.init.length p.init.length] 69))
                        have V3 := hide (V2.out.alloc (Obj.cells #[.slice (some ⟨wu.heap.size, 0, none⟩) p.init.length p.init.length] 69))
                        have H3 := hide (H2.out.keep (fun b _ h2 h3 => (below1 wv (Obj.cells #[.slice (some ⟨wu.heap.size, 0, none⟩) p.init.length p.init.length] 69)).block b h3))
                        have hnew : (wv.alloc (Obj.cells #[.slice (some ⟨wu.heap.size, 0, none⟩) p.init.length p.init.length] 69)).heap[wv.heap.size]? = some (.cells #[.slice (some ⟨wu.heap.size, 0, none⟩) p.init.length p.init.length] 69 (0, 0)) := heap_alloc_new wv _
                        replace hnew := hide hnew
                        have r3 := hide (show (RowD.mk wu.heap.size (wu.heap.size + 1) (some ⟨wu.heap.size, 0, none⟩) p.init.length p.init.length (idsL p.init.length)).at_ 3 (wv.alloc (Obj.cells #[.slice (some ⟨wu.heap.size, 0, none⟩) p.init.length p.init.length] 69)) from ⟨.inr ⟨wu.heap.size, p.init.length, rfl, hrow.below (below1 wv _), Nat.le_refl _⟩, fun b hb => by simp [Value.ownBlock] at hb; show b < wu.heap.size + 1; omega⟩)
                        have fv : wv.cell? ⟨T, 5, none⟩ = some vv := Rv.out.blk.cell 5
                        have lv := Rv.out.blk.lt
                        have f3 : (wv.alloc (Obj.cells #[.slice (some ⟨wu.heap.size, 0, none⟩) p.init.length p.init.length] 69)).cell? ⟨T, 5, none⟩ = some vv := R3.out.blk.cell 5
                        clear hrow hlow2 hbu hbv
                        refine hK.out _ _ ?_ (fun hHeldN => ?_)
                        · exact hCx.out _ Rv.out.box
                        clear hK K hHeld
                        have hHeld := hHeldN
                        clear hHeldN
                        try simp only [Act.put, qa, qb, qc]
                        refine wpAnyH_take (i := 8) (oi := { dst := some 57, op := Op.build 69 #[(0, Operand.tmp 56)], type := 69, pos := "l02_state.go:150", after := #[{ on := 7, ground := Ground.data }], guard := none }) (v := ?_) rfl (by kernel_rfl) (by kernel_rfl) (by kernel_rfl) (fun _ _ _ h => h) (Or.inl ⟨by rfl, ?_⟩) hHeld ?_
                        rotate_left
                        · (intro wq hSw; (try dsimp only at hSw); first | (go_simp; done) | (go_simp; with_reducible rfl))
                        try simp only [Act.put, qa, qb, qc]
                        refine wpAnyH_ready (rs := [9]) (by kernel_rfl) (by simp) ?_
                        refine AllReadyH.cons (o := { dst := some 58, op := Op.buildSlice 44 1 #[(0, Operand.tmp 57)], type := 44, pos := "l02_state.go:150", after := #[{ on := 8, ground := Ground.data }], guard := none }) rfl (fun K hK => ?_) (AllReadyH.nil)
                        · go_simp
                          refine hK.out _ _ ?_ (fun hHeldN => ?_)
                          · exact hCx.out _ R3.out.box
                          clear hK K hHeld
                          have hHeld := hHeldN
                          clear hHeldN
                          try simp only [Act.put, qa, qb, qc]
                          refine wpAnyH_ready (rs := [10]) (by kernel_rfl) (by simp) ?_
                          refine AllReadyH.cons (o := { dst := some 59, op := Op.call { callee := Callee.builtin Builtin.append, args := #[Operand.tmp 53, Operand.tmp 58], argTypes := #[44, 44] }, type := 44, pos := "l02_state.go:150", after := #[{ on := 4, ground := Ground.data }, { on := 9, ground := Ground.data }, { on := 7, ground := Ground.chain }], guard := none }) rfl (fun K hK => ?_) (AllReadyH.nil)
                          · rw [if_pos (by rfl)]
                            refine wp_append_lies _ _ _ _ (by rfl) hm 69 i3 _ 1 24 Try.underlying44 hi3.out hf0 hf1 hf2 rfl (by omega) vv rs.length (rs.map RowD.val) (by rfl) V3.out.own ⟨wv.heap.size, 0, none⟩ 1 1 [.slice (some ⟨wu.heap.size, 0, none⟩) p.init.length p.init.length] (by rfl) (by rfl) (World.news_of_block hnew.out) (by simp [Value.oneCell']) (by omega) (by have : maxLen = 9223372036854775807 := rfl; omega) (by omega) (by simp; omega) _ (by rfl) ?_
                            intro gg cap w5 hown5 hgr5 hat hlt5
                            have V5 := hide (V3.out.more (by decide) r3.out (by show hm ≤ wu.heap.size; omega) (fun j hj => Nat.le_trans (V0.out.rng j hj).2 (by exact hzu)) (by show wu.heap.size + 1 ≤ _; simp; omega) rfl hown5 hgr5)
                            have R5 := hide (R3.out.grown V3.out.own (by exact hmB) hgr5)
                            have H5 := hide (H3.out.keep (fun b _ h2 h3 => hgr5.block b h3 (fun e => by have := (own_lt V3.out.own e.symm).1; have h2' : b < hm := h2; omega)))
                            have f5 : w5.cell? ⟨T, 5, none⟩ = some vv := R5.out.blk.cell 5
                            have z5 := R5.out.blk.frozen 5
                            have l5 := R5.out.blk.lt
                            have hz5 := hgr5.size
                            clear hown5 hgr5 hat
                            refine hK.out _ _ ?_ (fun hHeldN => ?_)
                            · exact hCx.out _ R5.out.box
                            clear hK K hHeld
                            have hHeld := hHeldN
                            clear hHeldN
                            try simp only [Act.put, qa, qb, qc]
                            refine wpAnyH_take (i := 11) (oi := { dst := some 60, op := Op.nilCheck (Operand.tmp 49), type := 0, pos := "l02_state.go:150", after := #[{ on := 0, ground := Ground.data }, { on := 0, ground := Ground.phase }, { on := 1, ground := Ground.phase }, { on := 2, ground := Ground.phase }, { on := 3, ground := Ground.phase }, { on := 4, ground := Ground.phase }, { on := 5, ground := Ground.phase }, { on := 6, ground := Ground.phase }, { on := 7, ground := Ground.phase }, { on := 8, ground := Ground.phase }, { on := 9, ground := Ground.phase }, { on := 10, ground := Ground.phase }], guard := none }) (v := ?_) rfl (by kernel_rfl) (by kernel_rfl) (by kernel_rfl) (fun _ _ _ h => h) (Or.inl ⟨by rfl, ?_⟩) hHeld ?_
                            rotate_left
                            · (intro wq hSw; (try dsimp only at hSw); first | (go_simp; done) | (go_simp; with_reducible rfl))
                            try simp only [Act.put, qa, qb, qc]
                            refine wpAnyH_take (i := 12) (oi := { dst := some 61, op := Op.fieldAddr 144 (Operand.tmp 60) 2, type := 0, pos := "l02_state.go:150", after := #[{ on := 11, ground := Ground.data }, { on := 0, ground := Ground.phase }, { on := 1, ground := Ground.phase }, { on := 2, ground := Ground.phase }, { on := 3, ground := Ground.phase }, { on := 4, ground := Ground.phase }, { on := 5, ground := Ground.phase }, { on := 6, ground := Ground.phase }, { on := 7, ground := Ground.phase }, { on := 8, ground := Ground.phase }, { on := 9, ground := Ground.phase }, { on := 10, ground := Ground.phase }], guard := none }) (v := ?_) rfl (by kernel_rfl) (by kernel_rfl) (by kernel_rfl) (fun _ _ _ h => h) (Or.inl ⟨by rfl, ?_⟩) hHeld ?_
                            rotate_left
                            · (intro wq hSw; (try dsimp only at hSw); first | (go_simp; done) | (go_simp; with_reducible rfl))
                            try simp only [Act.put, qa, qb, qc]
                            refine wpAnyH_ready (rs := [13]) (by kernel_rfl) (by simp) ?_
                            refine AllReadyH.cons (o := { dst := none, op := Op.store 44 (Operand.tmp 61) (Operand.tmp 59), type := 0, pos := "l02_state.go:150", after := #[{ on := 12, ground := Ground.data }, { on := 10, ground := Ground.data }, { on := 10, ground := Ground.chain }, { on := 0, ground := Ground.phase }, { on := 1, ground := Ground.phase }, { on := 2, ground := Ground.phase }, { on := 3, ground := Ground.phase }, { on := 4, ground := Ground.phase }, { on := 5, ground := Ground.phase }, { on := 6, ground := Ground.phase }, { on := 7, ground := Ground.phase }, { on := 8, ground := Ground.phase }, { on := 9, ground := Ground.phase }, { on := 10, ground := Ground.phase }], guard := none }) rfl (fun K hK => ?_) (AllReadyH.nil)
                            · go_simp
                              refine hK.out _ _ ?_ (fun hHeldN => ?_)
                              · exact hCx.out _ (R5.out.set 5 (.slice (some ⟨gg, 0, none⟩) (rs.length + 1) cap)).box
                              clear hK K hHeld
                              have hHeld := hHeldN
                              clear hHeldN
                              try simp only [Act.put, qa, qb, qc]
                              refine wpAnyH_done (by kernel_rfl) ?_ _
                              have R6 := hide (show VwC w #[.slice (some ⟨bi, oi, none⟩) p.init.length c1, .slice A2 p.ts.length c2, .slice Ap np cp, .slice Af nf cf] #[.slice (some ⟨bi, oi, none⟩) p.init.length c1, .slice A2 p.ts.length c2, .slice Ap np cp, .slice Af nf cf, .slice A5 p.init.length c5, .slice (some ⟨gg, 0, none⟩) (rs.length + 1) cap, (.slice (some ⟨q, 0, none⟩) p.init.length p.init.length), (.int .i64 (p.init.length : Int))] T q (T + 1) p.init.length _ from R5.out.set 5 (.slice (some ⟨gg, 0, none⟩) (rs.length + 1) cap))
                              have V6 := hide (V5.out.setCell (p := ⟨T, 5, none⟩) (by show T < hm; omega) (.slice (some ⟨gg, 0, none⟩) (rs.length + 1) cap))
                              have H6 := hide (H5.out.keep (fun b h1 _ _ => Below.heap_setCell w5 ⟨T, 5, none⟩ (.slice (some ⟨gg, 0, none⟩) (rs.length + 1) cap) b (by have h1' : T + 1 ≤ b := h1; show b ≠ T; omega)))
                              go_wp2_with fail
                              go_roundw
                              case rel => exact ⟨_, _, by simp; omega, by simp, R6.out, H6.out, V6.out, hide (fun j hj => by
                                rcases getr_snoc rs _ j hj with ⟨hj', e⟩ | ⟨-, e⟩
                                · rw [e]; exact hall.out j hj'
                                · rw [e]; exact ⟨rfl, rfl⟩), by simp at hz5 ⊢; omega⟩
                              case measure => simp [intOf]; omega
                  · go_simp
                    go_at_call 103; refine (comCells_any (some ⟨bi, oi, none⟩) A2 Ap Af p.init.length p.ts.length np nf c1 c2 cp cf _).mono ?_; rintro e wu ⟨rfl, hbu⟩
                    have Ru := hide (R0.out.next hbu)
                    have fu : wu.cell? ⟨T, 5, none⟩ = some vv := Ru.out.blk.cell 5
                    have lu := Ru.out.blk.lt
                    have hzu : wr.heap.size ≤ wu.heap.size := hbu.size
                    refine hK.out _ _ ?_ (fun hHeldN => ?_)
                    · exact hCx.out _ Ru.out.box
                    clear hK K hHeld
                    have hHeld := hHeldN
                    clear hHeldN
                    try simp only [Act.put, qa, qb, qc]
                    refine wpAnyH_ready (rs := [4, 7]) (by kernel_rfl) (by simp) ?_
                    refine AllReadyH.cons (o := { dst := some 53, op := Op.load 44 (Operand.tmp 52), type := 44, pos := "l02_state.go:150", after := #[{ on := 3, ground := Ground.data }], guard := none }) rfl (fun K hK => ?_) (AllReadyH.cons (o := { dst := some 56, op := Op.call { callee := Callee.value (Operand.func 187), args := #[Operand.tmp 55], argTypes := #[3] }, type := 22, pos := "l02_state.go:150", after := #[{ on := 6, ground := Ground.data }, { on := 6, ground := Ground.chain }], guard := none }) rfl (fun K hK => ?_) (AllReadyH.nil))
                    · go_simp
                      refine hK.out _ _ ?_ (fun hHeldN => ?_)
                      · exact hHeld
                      clear hK K hHeld
                      have hHeld := hHeldN
                      clear hHeldN
                      try simp only [Act.put, qa, qb, qc]
                      refine wpAnyH_ready (rs := [7]) (by kernel_rfl) (by simp) ?_
                      refine AllReadyH.cons (o := { dst := some 56, op := Op.call { callee := Callee.value (Operand.func 187), args := #[Operand.tmp 55], argTypes := #[3] }, type := 22, pos := "l02_state.go:150", after := #[{ on := 6, ground := Ground.data }, { on := 6, ground := Ground.chain }], guard := none }) rfl (fun K hK => ?_) (AllReadyH.nil)
                      · go_simp
                        go_at_call 187; refine (firstView_any p.init.length _ (by omega)).mono ?_; rintro e wv ⟨rfl, hrow, hbv⟩
                        have hlow2 := below_then hbu hbv
                        have Rv := hide (R0.out.next hlow2)
                        have V2 := hide (V0.out.next hlow2)
                        have H2 := hide (H0.out.keep (fun b _ h2 h3 => hlow2.block b (by exact h3)))
                        have hzv : wu.heap.size < wv.heap.size := hrow.lt
                        have R3 := hide (Rv.out.alloc (Obj.cells #[.slice (some ⟨wu.heap.size, 0, none⟩) p.init.length p.init.length] 69))
                        have V3 := hide (V2.out.alloc (Obj.cells #[.slice (some ⟨wu.heap.size, 0, none⟩) p.init.length p.init.length] 69))
                        have H3 := hide (H2.out.keep (fun b _ h2 h3 => (below1 wv (Obj.cells #[.slice (some ⟨wu.heap.size, 0, none⟩) p.init.length p.init.length] 69)).block b h3))
                        have hnew : (wv.alloc (Obj.cells #[.slice (some ⟨wu.heap.size, 0, none⟩) p.init.length p.init.length] 69)).heap[wv.heap.size]? = some (.cells #[.slice (some ⟨wu.heap.size, 0, none⟩) p.init.length p.init.length] 69 (0, 0)) := heap_alloc_new wv _
                        replace hnew := hide hnew
                        have r3 := hide (show (RowD.mk wu.heap.size (wu.heap.size + 1) (some ⟨wu.heap.size, 0, none⟩) p.init.length p.init.length (idsL p.init.length)).at_ 3 (wv.alloc (Obj.cells #[.slice (some ⟨wu.heap.size, 0, none⟩) p.init.length p.init.length] 69)) from ⟨.inr ⟨wu.heap.size, p.init.length, rfl, hrow.below (below1 wv _), Nat.le_refl _⟩, fun b hb => by simp [Value.ownBlock] at hb; show b < wu.heap.size + 1; omega⟩)
                        have fv : wv.cell? ⟨T, 5, none⟩ = some vv := Rv.out.blk.cell 5
                        have lv := Rv.out.blk.lt
                        have f3 : (wv.alloc (Obj.cells #[.slice (some ⟨wu.heap.size, 0, none⟩) p.init.length p.init.length] 69)).cell? ⟨T, 5, none⟩ = some vv := R3.out.blk.cell 5
                        clear hrow hlow2 hbu hbv
                        refine hK.out _ _ ?_ (fun hHeldN => ?_)
                        · exact hCx.out _ Rv.out.box
                        clear hK K hHeld
                        have hHeld := hHeldN
                        clear hHeldN
                        try simp only [Act.put, qa, qb, qc]
                        refine wpAnyH_take (i := 8) (oi := { dst := some 57, op := Op.build 69 #[(0, Operand.tmp 56)], type := 69, pos := "l02_state.go:150", after := #[{ on := 7, ground := Ground.data }], guard := none }) (v := ?_) rfl (by kernel_rfl) (by kernel_rfl) (by kernel_rfl) (fun _ _ _ h => h) (Or.inl ⟨by rfl, ?_⟩) hHeld ?_
                        rotate_left
                        · (intro wq hSw; (try dsimp only at hSw); first | (go_simp; done) | (go_simp; with_reducible rfl))
                        try simp only [Act.put, qa, qb, qc]
                        refine wpAnyH_ready (rs := [9]) (by kernel_rfl) (by simp) ?_
                        refine AllReadyH.cons (o := { dst := some 58, op := Op.buildSlice 44 1 #[(0, Operand.tmp 57)], type := 44, pos := "l02_state.go:150", after := #[{ on := 8, ground := Ground.data }], guard := none }) rfl (fun K hK => ?_) (AllReadyH.nil)
                        · go_simp
                          refine hK.out _ _ ?_ (fun hHeldN => ?_)
                          · exact hCx.out _ R3.out.box
                          clear hK K hHeld
                          have hHeld := hHeldN
                          clear hHeldN
                          try simp only [Act.put, qa, qb, qc]
                          refine wpAnyH_ready (rs := [10]) (by kernel_rfl) (by simp) ?_
                          refine AllReadyH.cons (o := { dst := some 59, op := Op.call { callee := Callee.builtin Builtin.append, args := #[Operand.tmp 53, Operand.tmp 58], argTypes := #[44, 44] }, type := 44, pos := "l02_state.go:150", after := #[{ on := 4, ground := Ground.data }, { on := 9, ground := Ground.data }, { on := 7, ground := Ground.chain }], guard := none }) rfl (fun K hK => ?_) (AllReadyH.nil)
                          · rw [if_pos (by rfl)]
                            refine wp_append_lies _ _ _ _ (by rfl) hm 69 i3 _ 1 24 Try.underlying44 hi3.out hf0 hf1 hf2 rfl (by omega) vv rs.length (rs.map RowD.val) (by rfl) V3.out.own ⟨wv.heap.size, 0, none⟩ 1 1 [.slice (some ⟨wu.heap.size, 0, none⟩) p.init.length p.init.length] (by rfl) (by rfl) (World.news_of_block hnew.out) (by simp [Value.oneCell']) (by omega) (by have : maxLen = 9223372036854775807 := rfl; omega) (by omega) (by simp; omega) _ (by rfl) ?_
                            intro gg cap w5 hown5 hgr5 hat hlt5
                            have V5 := hide (V3.out.more (by decide) r3.out (by show hm ≤ wu.heap.size; omega) (fun j hj => Nat.le_trans (V0.out.rng j hj).2 (by exact hzu)) (by show wu.heap.size + 1 ≤ _; simp; omega) rfl hown5 hgr5)
                            have R5 := hide (R3.out.grown V3.out.own (by exact hmB) hgr5)
                            have H5 := hide (H3.out.keep (fun b _ h2 h3 => hgr5.block b h3 (fun e => by have := (own_lt V3.out.own e.symm).1; have h2' : b < hm := h2; omega)))
                            have f5 : w5.cell? ⟨T, 5, none⟩ = some vv := R5.out.blk.cell 5
                            have z5 := R5.out.blk.frozen 5
                            have l5 := R5.out.blk.lt
                            have hz5 := hgr5.size
                            clear hown5 hgr5 hat
                            refine hK.out _ _ ?_ (fun hHeldN => ?_)
                            · exact hCx.out _ R5.out.box
                            clear hK K hHeld
                            have hHeld := hHeldN
                            clear hHeldN
                            try simp only [Act.put, qa, qb, qc]
                            refine wpAnyH_take (i := 11) (oi := { dst := some 60, op := Op.nilCheck (Operand.tmp 49), type := 0, pos := "l02_state.go:150", after := #[{ on := 0, ground := Ground.data }, { on := 0, ground := Ground.phase }, { on := 1, ground := Ground.phase }, { on := 2, ground := Ground.phase }, { on := 3, ground := Ground.phase }, { on := 4, ground := Ground.phase }, { on := 5, ground := Ground.phase }, { on := 6, ground := Ground.phase }, { on := 7, ground := Ground.phase }, { on := 8, ground := Ground.phase }, { on := 9, ground := Ground.phase }, { on := 10, ground := Ground.phase }], guard := none }) (v := ?_) rfl (by kernel_rfl) (by kernel_rfl) (by kernel_rfl) (fun _ _ _ h => h) (Or.inl ⟨by rfl, ?_⟩) hHeld ?_
                            rotate_left
                            · (intro wq hSw; (try dsimp only at hSw); first | (go_simp; done) | (go_simp; with_reducible rfl))
                            try simp only [Act.put, qa, qb, qc]
                            refine wpAnyH_take (i := 12) (oi := { dst := some 61, op := Op.fieldAddr 144 (Operand.tmp 60) 2, type := 0, pos := "l02_state.go:150", after := #[{ on := 11, ground := Ground.data }, { on := 0, ground := Ground.phase }, { on := 1, ground := Ground.phase }, { on := 2, ground := Ground.phase }, { on := 3, ground := Ground.phase }, { on := 4, ground := Ground.phase }, { on := 5, ground := Ground.phase }, { on := 6, ground := Ground.phase }, { on := 7, ground := Ground.phase }, { on := 8, ground := Ground.phase }, { on := 9, ground := Ground.phase }, { on := 10, ground := Ground.phase }], guard := none }) (v := ?_) rfl (by kernel_rfl) (by kernel_rfl) (by kernel_rfl) (fun _ _ _ h => h) (Or.inl ⟨by rfl, ?_⟩) hHeld ?_
                            rotate_left
                            · (intro wq hSw; (try dsimp only at hSw); first | (go_simp; done) | (go_simp; with_reducible rfl))
                            try simp only [Act.put, qa, qb, qc]
                            refine wpAnyH_ready (rs := [13]) (by kernel_rfl) (by simp) ?_
                            refine AllReadyH.cons (o := { dst := none, op := Op.store 44 (Operand.tmp 61) (Operand.tmp 59), type := 0, pos := "l02_state.go:150", after := #[{ on := 12, ground := Ground.data }, { on := 10, ground := Ground.data }, { on := 10, ground := Ground.chain }, { on := 0, ground := Ground.phase }, { on := 1, ground := Ground.phase }, { on := 2, ground := Ground.phase }, { on := 3, ground := Ground.phase }, { on := 4, ground := Ground.phase }, { on := 5, ground := Ground.phase }, { on := 6, ground := Ground.phase }, { on := 7, ground := Ground.phase }, { on := 8, ground := Ground.phase }, { on := 9, ground := Ground.phase }, { on := 10, ground := Ground.phase }], guard := none }) rfl (fun K hK => ?_) (AllReadyH.nil)
                            · go_simp
                              refine hK.out _ _ ?_ (fun hHeldN => ?_)
                              · exact hCx.out _ (R5.out.set 5 (.slice (some ⟨gg, 0, none⟩) (rs.length + 1) cap)).box
                              clear hK K hHeld
                              have hHeld := hHeldN
                              clear hHeldN
                              try simp only [Act.put, qa, qb, qc]
                              refine wpAnyH_done (by kernel_rfl) ?_ _
                              have R6 := hide (show VwC w #[.slice (some ⟨bi, oi, none⟩) p.init.length c1, .slice A2 p.ts.length c2, .slice Ap np cp, .slice Af nf cf] #[.slice (some ⟨bi, oi, none⟩) p.init.length c1, .slice A2 p.ts.length c2, .slice Ap np cp, .slice Af nf cf, .slice A5 p.init.length c5, .slice (some ⟨gg, 0, none⟩) (rs.length + 1) cap, (.slice (some ⟨q, 0, none⟩) p.init.length p.init.length), (.int .i64 (p.init.length : Int))] T q (T + 1) p.init.length _ from R5.out.set 5 (.slice (some ⟨gg, 0, none⟩) (rs.length + 1) cap))
                              have V6 := hide (V5.out.setCell (p := ⟨T, 5, none⟩) (by show T < hm; omega) (.slice (some ⟨gg, 0, none⟩) (rs.length + 1) cap))
                              have H6 := hide (H5.out.keep (fun b h1 _ _ => Below.heap_setCell w5 ⟨T, 5, none⟩ (.slice (some ⟨gg, 0, none⟩) (rs.length + 1) cap) b (by have h1' : T + 1 ≤ b := h1; show b ≠ T; omega)))
                              go_wp2_with fail
                              go_roundw
                              case rel => exact ⟨_, _, by simp; omega, by simp, R6.out, H6.out, V6.out, hide (fun j hj => by
                                rcases getr_snoc rs _ j hj with ⟨hj', e⟩ | ⟨-, e⟩
                                · rw [e]; exact hall.out j hj'
                                · rw [e]; exact ⟨rfl, rfl⟩), by simp at hz5 ⊢; omega⟩
                              case measure => simp [intOf]; omega
                    · go_simp
                      go_at_call 187; refine (firstView_any p.init.length _ (by omega)).mono ?_; rintro e wv ⟨rfl, hrow, hbv⟩
                      have hlow2 := below_then hbu hbv
                      have Rv := hide (R0.out.next hlow2)
                      have V2 := hide (V0.out.next hlow2)
                      have H2 := hide (H0.out.keep (fun b _ h2 h3 => hlow2.block b (by exact h3)))
                      have hzv : wu.heap.size < wv.heap.size := hrow.lt
                      have R3 := hide (Rv.out.alloc (Obj.cells #[.slice (some ⟨wu.heap.size, 0, none⟩) p.init.length p.init.length] 69))
                      have V3 := hide (V2.out.alloc (Obj.cells #[.slice (some ⟨wu.heap.size, 0, none⟩) p.init.length p.init.length] 69))
                      have H3 := hide (H2.out.keep (fun b _ h2 h3 => (below1 wv (Obj.cells #[.slice (some ⟨wu.heap.size, 0, none⟩) p.init.length p.init.length] 69)).block b h3))
                      have hnew : (wv.alloc (Obj.cells #[.slice (some ⟨wu.heap.size, 0, none⟩) p.init.length p.init.length] 69)).heap[wv.heap.size]? = some (.cells #[.slice (some ⟨wu.heap.size, 0, none⟩) p.init.length p.init.length] 69 (0, 0)) := heap_alloc_new wv _
                      replace hnew := hide hnew
                      have r3 := hide (show (RowD.mk wu.heap.size (wu.heap.size + 1) (some ⟨wu.heap.size, 0, none⟩) p.init.length p.init.length (idsL p.init.length)).at_ 3 (wv.alloc (Obj.cells #[.slice (some ⟨wu.heap.size, 0, none⟩) p.init.length p.init.length] 69)) from ⟨.inr ⟨wu.heap.size, p.init.length, rfl, hrow.below (below1 wv _), Nat.le_refl _⟩, fun b hb => by simp [Value.ownBlock] at hb; show b < wu.heap.size + 1; omega⟩)
                      have fv : wv.cell? ⟨T, 5, none⟩ = some vv := Rv.out.blk.cell 5
                      have lv := Rv.out.blk.lt
                      have f3 : (wv.alloc (Obj.cells #[.slice (some ⟨wu.heap.size, 0, none⟩) p.init.length p.init.length] 69)).cell? ⟨T, 5, none⟩ = some vv := R3.out.blk.cell 5
                      clear hrow hlow2 hbu hbv
                      refine hK.out _ _ ?_ (fun hHeldN => ?_)
                      · exact hCx.out _ Rv.out.box
                      clear hK K hHeld
                      have hHeld := hHeldN
                      clear hHeldN
                      try simp only [Act.put, qa, qb, qc]
                      refine wpAnyH_take (i := 8) (oi := { dst := some 57, op := Op.build 69 #[(0, Operand.tmp 56)], type := 69, pos := "l02_state.go:150", after := #[{ on := 7, ground := Ground.data }], guard := none }) (v := ?_) rfl (by kernel_rfl) (by kernel_rfl) (by kernel_rfl) (fun _ _ _ h => h) (Or.inl ⟨by rfl, ?_⟩) hHeld ?_
                      rotate_left
                      · (intro wq hSw; (try dsimp only at hSw); first | (go_simp; done) | (go_simp; with_reducible rfl))
                      try simp only [Act.put, qa, qb, qc]
                      refine wpAnyH_ready (rs := [4, 9]) (by kernel_rfl) (by simp) ?_
                      refine AllReadyH.cons (o := { dst := some 53, op := Op.load 44 (Operand.tmp 52), type := 44, pos := "l02_state.go:150", after := #[{ on := 3, ground := Ground.data }], guard := none }) rfl (fun K hK => ?_) (AllReadyH.cons (o := { dst := some 58, op := Op.buildSlice 44 1 #[(0, Operand.tmp 57)], type := 44, pos := "l02_state.go:150", after := #[{ on := 8, ground := Ground.data }], guard := none }) rfl (fun K hK => ?_) (AllReadyH.nil))
                      · go_simp
                        refine hK.out _ _ ?_ (fun hHeldN => ?_)
                        · exact hHeld
                        clear hK K hHeld
                        have hHeld := hHeldN
                        clear hHeldN
                        try simp only [Act.put, qa, qb, qc]
                        refine wpAnyH_ready (rs := [9]) (by kernel_rfl) (by simp) ?_
                        refine AllReadyH.cons (o := { dst := some 58, op := Op.buildSlice 44 1 #[(0, Operand.tmp 57)], type := 44, pos := "l02_state.go:150", after := #[{ on := 8, ground := Ground.data }], guard := none }) rfl (fun K hK => ?_) (AllReadyH.nil)
                        · go_simp
                          refine hK.out _ _ ?_ (fun hHeldN => ?_)
                          · exact hCx.out _ R3.out.box
                          clear hK K hHeld
                          have hHeld := hHeldN
                          clear hHeldN
                          try simp only [Act.put, qa, qb, qc]
                          refine wpAnyH_ready (rs := [10]) (by kernel_rfl) (by simp) ?_
                          refine AllReadyH.cons (o := { dst := some 59, op := Op.call { callee := Callee.builtin Builtin.append, args := #[Operand.tmp 53, Operand.tmp 58], argTypes := #[44, 44] }, type := 44, pos := "l02_state.go:150", after := #[{ on := 4, ground := Ground.data }, { on := 9, ground := Ground.data }, { on := 7, ground := Ground.chain }], guard := none }) rfl (fun K hK => ?_) (AllReadyH.nil)
                          · rw [if_pos (by rfl)]
                            refine wp_append_lies _ _ _ _ (by rfl) hm 69 i3 _ 1 24 Try.underlying44 hi3.out hf0 hf1 hf2 rfl (by omega) vv rs.length (rs.map RowD.val) (by rfl) V3.out.own ⟨wv.heap.size, 0, none⟩ 1 1 [.slice (some ⟨wu.heap.size, 0, none⟩) p.init.length p.init.length] (by rfl) (by rfl) (World.news_of_block hnew.out) (by simp [Value.oneCell']) (by omega) (by have : maxLen = 9223372036854775807 := rfl; omega) (by omega) (by simp; omega) _ (by rfl) ?_
                            intro gg cap w5 hown5 hgr5 hat hlt5
                            have V5 := hide (V3.out.more (by decide) r3.out (by show hm ≤ wu.heap.size; omega) (fun j hj => Nat.le_trans (V0.out.rng j hj).2 (by exact hzu)) (by show wu.heap.size + 1 ≤ _; simp; omega) rfl hown5 hgr5)
                            have R5 := hide (R3.out.grown V3.out.own (by exact hmB) hgr5)
                            have H5 := hide (H3.out.keep (fun b _ h2 h3 => hgr5.block b h3 (fun e => by have := (own_lt V3.out.own e.symm).1; have h2' : b < hm := h2; omega)))
                            have f5 : w5.cell? ⟨T, 5, none⟩ = some vv := R5.out.blk.cell 5
                            have z5 := R5.out.blk.frozen 5
                            have l5 := R5.out.blk.lt
                            have hz5 := hgr5.size
                            clear hown5 hgr5 hat
                            refine hK.out _ _ ?_ (fun hHeldN => ?_)
                            · exact hCx.out _ R5.out.box
                            clear hK K hHeld
                            have hHeld := hHeldN
                            clear hHeldN
                            try simp only [Act.put, qa, qb, qc]
                            refine wpAnyH_take (i := 11) (oi := { dst := some 60, op := Op.nilCheck (Operand.tmp 49), type := 0, pos := "l02_state.go:150", after := #[{ on := 0, ground := Ground.data }, { on := 0, ground := Ground.phase }, { on := 1, ground := Ground.phase }, { on := 2, ground := Ground.phase }, { on := 3, ground := Ground.phase }, { on := 4, ground := Ground.phase }, { on := 5, ground := Ground.phase }, { on := 6, ground := Ground.phase }, { on := 7, ground := Ground.phase }, { on := 8, ground := Ground.phase }, { on := 9, ground := Ground.phase }, { on := 10, ground := Ground.phase }], guard := none }) (v := ?_) rfl (by kernel_rfl) (by kernel_rfl) (by kernel_rfl) (fun _ _ _ h => h) (Or.inl ⟨by rfl, ?_⟩) hHeld ?_
                            rotate_left
                            · (intro wq hSw; (try dsimp only at hSw); first | (go_simp; done) | (go_simp; with_reducible rfl))
                            try simp only [Act.put, qa, qb, qc]
                            refine wpAnyH_take (i := 12) (oi := { dst := some 61, op := Op.fieldAddr 144 (Operand.tmp 60) 2, type := 0, pos := "l02_state.go:150", after := #[{ on := 11, ground := Ground.data }, { on := 0, ground := Ground.phase }, { on := 1, ground := Ground.phase }, { on := 2, ground := Ground.phase }, { on := 3, ground := Ground.phase }, { on := 4, ground := Ground.phase }, { on := 5, ground := Ground.phase }, { on := 6, ground := Ground.phase }, { on := 7, ground := Ground.phase }, { on := 8, ground := Ground.phase }, { on := 9, ground := Ground.phase }, { on := 10, ground := Ground.phase }], guard := none }) (v := ?_) rfl (by kernel_rfl) (by kernel_rfl) (by kernel_rfl) (fun _ _ _ h => h) (Or.inl ⟨by rfl, ?_⟩) hHeld ?_
                            rotate_left
                            · (intro wq hSw; (try dsimp only at hSw); first | (go_simp; done) | (go_simp; with_reducible rfl))
                            try simp only [Act.put, qa, qb, qc]
                            refine wpAnyH_ready (rs := [13]) (by kernel_rfl) (by simp) ?_
                            refine AllReadyH.cons (o := { dst := none, op := Op.store 44 (Operand.tmp 61) (Operand.tmp 59), type := 0, pos := "l02_state.go:150", after := #[{ on := 12, ground := Ground.data }, { on := 10, ground := Ground.data }, { on := 10, ground := Ground.chain }, { on := 0, ground := Ground.phase }, { on := 1, ground := Ground.phase }, { on := 2, ground := Ground.phase }, { on := 3, ground := Ground.phase }, { on := 4, ground := Ground.phase }, { on := 5, ground := Ground.phase }, { on := 6, ground := Ground.phase }, { on := 7, ground := Ground.phase }, { on := 8, ground := Ground.phase }, { on := 9, ground := Ground.phase }, { on := 10, ground := Ground.phase }], guard := none }) rfl (fun K hK => ?_) (AllReadyH.nil)
                            · go_simp
                              refine hK.out _ _ ?_ (fun hHeldN => ?_)
                              · exact hCx.out _ (R5.out.set 5 (.slice (some ⟨gg, 0, none⟩) (rs.length + 1) cap)).box
                              clear hK K hHeld
                              have hHeld := hHeldN
                              clear hHeldN
                              try simp only [Act.put, qa, qb, qc]
                              refine wpAnyH_done (by kernel_rfl) ?_ _
                              have R6 := hide (show VwC w #[.slice (some ⟨bi, oi, none⟩) p.init.length c1, .slice A2 p.ts.length c2, .slice Ap np cp, .slice Af nf cf] #[.slice (some ⟨bi, oi, none⟩) p.init.length c1, .slice A2 p.ts.length c2, .slice Ap np cp, .slice Af nf cf, .slice A5 p.init.length c5, .slice (some ⟨gg, 0, none⟩) (rs.length + 1) cap, (.slice (some ⟨q, 0, none⟩) p.init.length p.init.length), (.int .i64 (p.init.length : Int))] T q (T + 1) p.init.length _ from R5.out.set 5 (.slice (some ⟨gg, 0, none⟩) (rs.length + 1) cap))
                              have V6 := hide (V5.out.setCell (p := ⟨T, 5, none⟩) (by show T < hm; omega) (.slice (some ⟨gg, 0, none⟩) (rs.length + 1) cap))
                              have H6 := hide (H5.out.keep (fun b h1 _ _ => Below.heap_setCell w5 ⟨T, 5, none⟩ (.slice (some ⟨gg, 0, none⟩) (rs.length + 1) cap) b (by have h1' : T + 1 ≤ b := h1; show b ≠ T; omega)))
                              go_wp2_with fail
                              go_roundw
                              case rel => exact ⟨_, _, by simp; omega, by simp, R6.out, H6.out, V6.out, hide (fun j hj => by
                                rcases getr_snoc rs _ j hj with ⟨hj', e⟩ | ⟨-, e⟩
                                · rw [e]; exact hall.out j hj'
                                · rw [e]; exact ⟨rfl, rfl⟩), by simp at hz5 ⊢; omega⟩
                              case measure => simp [intOf]; omega
                      · go_simp
                        refine hK.out _ _ ?_ (fun hHeldN => ?_)
                        · exact hCx.out _ R3.out.box
                        clear hK K hHeld
                        have hHeld := hHeldN
                        clear hHeldN
                        try simp only [Act.put, qa, qb, qc]
                        refine wpAnyH_ready (rs := [4]) (by kernel_rfl) (by simp) ?_
                        refine AllReadyH.cons (o := { dst := some 53, op := Op.load 44 (Operand.tmp 52), type := 44, pos := "l02_state.go:150", after := #[{ on := 3, ground := Ground.data }], guard := none }) rfl (fun K hK => ?_) (AllReadyH.nil)
                        · go_simp
                          refine hK.out _ _ ?_ (fun hHeldN => ?_)
                          · exact hHeld
                          clear hK K hHeld
                          have hHeld := hHeldN
                          clear hHeldN
                          try simp only [Act.put, qa, qb, qc]
                          refine wpAnyH_ready (rs := [10]) (by kernel_rfl) (by simp) ?_
                          refine AllReadyH.cons (o := { dst := some 59, op := Op.call { callee := Callee.builtin Builtin.append, args := #[Operand.tmp 53, Operand.tmp 58], argTypes := #[44, 44] }, type := 44, pos := "l02_state.go:150", after := #[{ on := 4, ground := Ground.data }, { on := 9, ground := Ground.data }, { on := 7, ground := Ground.chain }], guard := none }) rfl (fun K hK => ?_) (AllReadyH.nil)
                          · rw [if_pos (by rfl)]
                            refine wp_append_lies _ _ _ _ (by rfl) hm 69 i3 _ 1 24 Try.underlying44 hi3.out hf0 hf1 hf2 rfl (by omega) vv rs.length (rs.map RowD.val) (by rfl) V3.out.own ⟨wv.heap.size, 0, none⟩ 1 1 [.slice (some ⟨wu.heap.size, 0, none⟩) p.init.length p.init.length] (by rfl) (by rfl) (World.news_of_block hnew.out) (by simp [Value.oneCell']) (by omega) (by have : maxLen = 9223372036854775807 := rfl; omega) (by omega) (by simp; omega) _ (by rfl) ?_
                            intro gg cap w5 hown5 hgr5 hat hlt5
                            have V5 := hide (V3.out.more (by decide) r3.out (by show hm ≤ wu.heap.size; omega) (fun j hj => Nat.le_trans (V0.out.rng j hj).2 (by exact hzu)) (by show wu.heap.size + 1 ≤ _; simp; omega) rfl hown5 hgr5)
                            have R5 := hide (R3.out.grown V3.out.own (by exact hmB) hgr5)
                            have H5 := hide (H3.out.keep (fun b _ h2 h3 => hgr5.block b h3 (fun e => by have := (own_lt V3.out.own e.symm).1; have h2' : b < hm := h2; omega)))
                            have f5 : w5.cell? ⟨T, 5, none⟩ = some vv := R5.out.blk.cell 5
                            have z5 := R5.out.blk.frozen 5
                            have l5 := R5.out.blk.lt
                            have hz5 := hgr5.size
                            clear hown5 hgr5 hat
                            refine hK.out _ _ ?_ (fun hHeldN => ?_)
                            · exact hCx.out _ R5.out.box
                            clear hK K hHeld
                            have hHeld := hHeldN
                            clear hHeldN
                            try simp only [Act.put, qa, qb, qc]
                            refine wpAnyH_take (i := 11) (oi := { dst := some 60, op := Op.nilCheck (Operand.tmp 49), type := 0, pos := "l02_state.go:150", after := #[{ on := 0, ground := Ground.data }, { on := 0, ground := Ground.phase }, { on := 1, ground := Ground.phase }, { on := 2, ground := Ground.phase }, { on := 3, ground := Ground.phase }, { on := 4, ground := Ground.phase }, { on := 5, ground := Ground.phase }, { on := 6, ground := Ground.phase }, { on := 7, ground := Ground.phase }, { on := 8, ground := Ground.phase }, { on := 9, ground := Ground.phase }, { on := 10, ground := Ground.phase }], guard := none }) (v := ?_) rfl (by kernel_rfl) (by kernel_rfl) (by kernel_rfl) (fun _ _ _ h => h) (Or.inl ⟨by rfl, ?_⟩) hHeld ?_
                            rotate_left
                            · (intro wq hSw; (try dsimp only at hSw); first | (go_simp; done) | (go_simp; with_reducible rfl))
                            try simp only [Act.put, qa, qb, qc]
                            refine wpAnyH_take (i := 12) (oi := { dst := some 61, op := Op.fieldAddr 144 (Operand.tmp 60) 2, type := 0, pos := "l02_state.go:150", after := #[{ on := 11, ground := Ground.data }, { on := 0, ground := Ground.phase }, { on := 1, ground := Ground.phase }, { on := 2, ground := Ground.phase }, { on := 3, ground := Ground.phase }, { on := 4, ground := Ground.phase }, { on := 5, ground := Ground.phase }, { on := 6, ground := Ground.phase }, { on := 7, ground := Ground.phase }, { on := 8, ground := Ground.phase }, { on := 9, ground := Ground.phase }, { on := 10, ground := Ground.phase }], guard := none }) (v := ?_) rfl (by kernel_rfl) (by kernel_rfl) (by kernel_rfl) (fun _ _ _ h => h) (Or.inl ⟨by rfl, ?_⟩) hHeld ?_
                            rotate_left
                            · (intro wq hSw; (try dsimp only at hSw); first | (go_simp; done) | (go_simp; with_reducible rfl))
                            try simp only [Act.put, qa, qb, qc]
                            refine wpAnyH_ready (rs := [13]) (by kernel_rfl) (by simp) ?_
                            refine AllReadyH.cons (o := { dst := none, op := Op.store 44 (Operand.tmp 61) (Operand.tmp 59), type := 0, pos := "l02_state.go:150", after := #[{ on := 12, ground := Ground.data }, { on := 10, ground := Ground.data }, { on := 10, ground := Ground.chain }, { on := 0, ground := Ground.phase }, { on := 1, ground := Ground.phase }, { on := 2, ground := Ground.phase }, { on := 3, ground := Ground.phase }, { on := 4, ground := Ground.phase }, { on := 5, ground := Ground.phase }, { on := 6, ground := Ground.phase }, { on := 7, ground := Ground.phase }, { on := 8, ground := Ground.phase }, { on := 9, ground := Ground.phase }, { on := 10, ground := Ground.phase }], guard := none }) rfl (fun K hK => ?_) (AllReadyH.nil)
                            · go_simp
                              refine hK.out _ _ ?_ (fun hHeldN => ?_)
                              · exact hCx.out _ (R5.out.set 5 (.slice (some ⟨gg, 0, none⟩) (rs.length + 1) cap)).box
                              clear hK K hHeld
                              have hHeld := hHeldN
                              clear hHeldN
                              try simp only [Act.put, qa, qb, qc]
                              refine wpAnyH_done (by kernel_rfl) ?_ _
                              have R6 := hide (show VwC w #[.slice (some ⟨bi, oi, none⟩) p.init.length c1, .slice A2 p.ts.length c2, .slice Ap np cp, .slice Af nf cf] #[.slice (some ⟨bi, oi, none⟩) p.init.length c1, .slice A2 p.ts.length c2, .slice Ap np cp, .slice Af nf cf, .slice A5 p.init.length c5, .slice (some ⟨gg, 0, none⟩) (rs.length + 1) cap, (.slice (some ⟨q, 0, none⟩) p.init.length p.init.length), (.int .i64 (p.init.length : Int))] T q (T + 1) p.init.length _ from R5.out.set 5 (.slice (some ⟨gg, 0, none⟩) (rs.length + 1) cap))
                              have V6 := hide (V5.out.setCell (p := ⟨T, 5, none⟩) (by show T < hm; omega) (.slice (some ⟨gg, 0, none⟩) (rs.length + 1) cap))
                              have H6 := hide (H5.out.keep (fun b h1 _ _ => Below.heap_setCell w5 ⟨T, 5, none⟩ (.slice (some ⟨gg, 0, none⟩) (rs.length + 1) cap) b (by have h1' : T + 1 ≤ b := h1; show b ≠ T; omega)))
                              go_wp2_with fail
                              go_roundw
                              case rel => exact ⟨_, _, by simp; omega, by simp, R6.out, H6.out, V6.out, hide (fun j hj => by
                                rcases getr_snoc rs _ j hj with ⟨hj', e⟩ | ⟨-, e⟩
                                · rw [e]; exact hall.out j hj'
                                · rw [e]; exact ⟨rfl, rfl⟩), by simp at hz5 ⊢; omega⟩
                              case measure => simp [intOf]; omega
                · obtain hre : rs.length = p.ts.length := by omega
                  obtain ⟨A6, c6, rfl, hrow⟩ := hVq.toI (Nat.le_refl _)
                  rw [hre] at hRq
                  replace hRq := hide hRq
                  replace hHq := hide hHq
                  replace hrow := hide hrow
                  clear hVq
                  go_wp2_with fail
                  go_ret
                  exact ⟨T, q, T + 1, A5, A6, c5, c6, hm, los, his, pq, qs, rs, rfl, hRq.out, hHq.out, hrow.out, hre, hall.out, hmB, hmw⟩
end Go.Proofs.Ytfkaacfeikmabaa
