/- The model's l4start: the histories, the views of a beginning of KdView. -/
import Derived.Test.YtfkaacfeikmabaaMf0
import Derived.Test.YtfkaacfeikmabaaMf12
import Derived.Test.YtfkaacfeikmabaaMf13
import Derived.Deep.RegionHeld3
namespace Go.Proofs.Ytfkaacfeikmabaa
open Go.RowKit

attribute [local go_sem ↓] Go.wp_at_zero Go.wp_at_succ

theorem Try.infoHistU : (Try.prog.info? 84).map (fun i => (i.zero, i.size, i.bytes)) = some (some (.agg #[.slice none 0 0]), 1, 24) := by kernel_rfl
def idsL (n : Nat) : List Int := (List.range n).map (fun i : Nat => (i : Int))
theorem idsL_len (n : Nat) : (idsL n).length = n := by simp [idsL]
theorem idsL_get (n k : Nat) (h : k < n) : geti (idsL n) k = (k : Int) := by
  unfold idsL geti
  rw [List.getD_eq_getElem?_getD, List.getElem?_map, List.getElem?_range h]
  rfl
def histK (init : List Int) (k : Nat) : List (List PostD) := (List.range k).map (fun x : Nat => [⟨(x : Int), geti init x, false, idsL init.length⟩])
theorem histK_len (init : List Int) (k : Nat) : (histK init k).length = k := by simp [histK]
theorem histK_succ (init : List Int) (k : Nat) : histK init (k + 1) = histK init k ++ [[⟨(k : Int), geti init k, false, idsL init.length⟩]] := by
  unfold histK
  rw [List.range_succ, List.map_append]
  rfl
structure L4C (w0 : World) (g n n1 : Nat) (cs P : Array Value) (w : World) : Prop where
  only : Only g w0 w
  blk : Blk w g 48 cs
  box : Blk w w0.heap.size 31 P
  ids : RowT 3 w (w0.heap.size + 1) (idsL n1)
  gl : g < w0.heap.size
section
variable {w0 w w' w1 : World} {g n n1 m sz : Nat} {cs P : Array Value} {v : Value} {e : TypeId} {xs : List Value}
theorem L4C.next (h : L4C w0 g n n1 cs P w) (hb : Below w.heap.size w w') : L4C w0 g n n1 cs P w' :=
  ⟨h.only.trans (Only.of_below hb), h.blk.below hb h.blk.lt, h.box.below hb h.box.lt, h.ids.below hb, h.gl⟩
theorem L4C.alloc (h : L4C w0 g n n1 cs P w) (o : Obj) : L4C w0 g n n1 cs P (w.alloc o) := h.next (below1 w o)
theorem L4C.drew (h : L4C w0 g n n1 cs P w) : L4C w0 g n n1 cs P w.drew := h.next (Below.refl _ _).drew
theorem L4C.size (h : L4C w0 g n n1 cs P w) : w0.heap.size + 1 < w.heap.size := by obtain ⟨ds, h1, _⟩ := h.ids; exact h1.lt
theorem L4C.grown (h : L4C w0 g n n1 cs P w) {B : Nat} (hv : w.ownsRow B e sz v m xs) (hB : w0.heap.size + 1 + 1 ≤ B) (hg : w.grownBy w1 v.ownBlock) : L4C w0 g n n1 cs P w1 := by
  have hf : ∀ k, k < w0.heap.size + 1 + 1 → some k ≠ v.ownBlock := fun _ hk => own_far hv (by omega)
  have hz := h.size
  have hb : Below (w0.heap.size + 1 + 1) w w1 := ⟨hg.os, hg.tape, hg.output, hg.size, fun k hk => hg.block k (by omega) (hf k hk)⟩
  have hgl := h.gl
  refine ⟨⟨hb.os.trans h.only.os, hb.tape.trans h.only.tape, hb.output.trans h.only.output, Nat.le_trans h.only.size hb.size, fun k hk hne => (hb.block k (by omega)).trans (h.only.block k hk hne)⟩, h.blk.below hb (by omega), h.box.below hb (by omega), ?_, h.gl⟩
  · obtain ⟨ds, h1, h2⟩ := h.ids
    exact ⟨ds, h1.below hb (by omega), h2⟩
theorem L4C.set (h : L4C w0 g n n1 cs P w) (i : Nat) (u : Value) : L4C w0 g n n1 (cs.setIfInBounds i u) P (w.setCell ⟨g, i, none⟩ u) := by
  have hgl := h.gl
  obtain ⟨ds, h1, h2⟩ := h.ids
  exact ⟨h.only.setCell (.inl rfl) _, h.blk.set_ _ _, h.box.far (by show w0.heap.size ≠ g; omega) _, ⟨ds, h1.far (by show w0.heap.size + 1 ≠ g; omega) _, h2⟩, h.gl⟩
end
theorem post_own {w : World} {lo p q1 c : Nat} {x : Nat} {val : Int} {init : List Int} (hp : Blk w p 86 #[.int .i64 (x : Int), .int .i64 val, .bool false, .slice (some ⟨q1, 0, none⟩) init.length c]) (hq : RowT 3 w q1 (idsL init.length)) (hc : init.length ≤ c) (h1 : lo ≤ q1) (h2 : q1 < p) (hn : init.length ≤ 6) :
    PostsOwn w lo (p + 1) p (fun _ => q1) [⟨(x : Int), val, false, idsL init.length⟩] := by
  refine ⟨by simp, ⟨_, hp, by simp, fun k hk => ?_⟩, fun k hk => ?_, fun i j hij hj => by simp at hj; omega, ⟨by omega, fun k hk => by omega⟩⟩
  · obtain rfl : k = 0 := by simpa using hk
    refine ⟨c, ⟨rfl, rfl, rfl, ?_⟩, ?_⟩
    · show some (Value.slice (some ⟨q1, 0, none⟩) init.length c) = some (Value.slice (some ⟨q1, 0, none⟩) (idsL init.length).length c)
      rw [idsL_len]
    · show (idsL init.length).length ≤ c
      rw [idsL_len]; exact hc
  · obtain rfl : k = 0 := by simpa using hk
    refine ⟨hq, ?_⟩
    show (idsL init.length).length ≤ 9223372036854775807
    rw [idsL_len]; omega

def l4cs (kv pv fv hv vv sc nx : Value) : Array Value := #[kv, pv, fv, .slice none 0 0, .slice none 0 0, hv, vv, sc, nx]
theorem l4_view {w w2 : World} {A3 : Option Addr} {c3 n1 : Nat} (hn : 0 < n1) (hown : w2.ownsRow w.heap.size 3 1 (.slice A3 (0 + n1) c3) (0 + n1) ([] ++ (idsL n1).map (Value.int .i64))) (hg : (w.alloc (Obj.cells #[] 3)).grownBy w2 (Value.slice (some ⟨w.heap.size, 0, none⟩) 0 0).ownBlock) :
    ∃ q1, A3 = some ⟨q1, 0, none⟩ ∧ w.heap.size ≤ q1 ∧ RowT 3 w2 q1 (idsL n1) ∧ Below w.heap.size w w2 ∧ n1 ≤ c3 ∧ q1 < w2.heap.size := by
  rw [Nat.zero_add, List.nil_append] at hown
  obtain ⟨q1, rfl, hq, hrow⟩ := own_pos hown hn
  have hr : RowT 3 w2 q1 (idsL n1) := hrow
  have hlow := below_own (B := w.heap.size) hg (fun k hk e => by
    have e2 : w.heap.size = k := by simpa [Value.ownBlock] using e.symm
    omega) (by simp)
  exact ⟨q1, rfl, hq, hr, (below1 w _).trans hlow, own_cap hown, hr.lt⟩
theorem own_empty (w : World) : (w.alloc (Obj.cells #[] 3)).ownsRow w.heap.size 3 1 (.slice (some ⟨w.heap.size, 0, none⟩) 0 0) 0 [] := by
  have := own_row (w := w) (B := w.heap.size) (e := 3) (size := 1) (n := 0) (cs := #[]) (by simp) (by omega) rfl
  simpa using this
def L4Out (w : World) (p : ProgD) (g : Nat) (kv pv fv : Value) (w' : World) : Prop :=
  ∃ (A5 A6 : Option Addr) (c5 c6 hm : Nat) (los his pq : Nat → Nat) (qs : Nat → Nat → Nat) (rs : List RowD), Only g w w' ∧
    Blk w' g 48 (l4cs kv pv fv (.slice A5 p.init.length c5) (.slice A6 p.ts.length c6) (.slice (some ⟨w.heap.size + 1, 0, none⟩) p.init.length p.init.length) (.int .i64 (p.init.length : Int))) ∧
    RowT 3 w' (w.heap.size + 1) (idsL p.init.length) ∧
    HistsI w' ⟨w.heap.size + 1 + 1, hm, A5, p.init.length, c5, histK p.init p.init.length, los, his, pq, qs⟩ ∧
    RowsI 69 3 w' hm w'.heap.size A6 rs ∧ rs.length = p.ts.length ∧ (∀ k, k < rs.length → (getr rs k).n = p.init.length ∧ (getr rs k).zs = idsL p.init.length) ∧ w.heap.size + 1 + 1 ≤ hm ∧ hm ≤ w'.heap.size

set_option maxRecDepth 100000 in
set_option maxHeartbeats 25600000 in
theorem l4start_any (p : ProgD) (g n : Nat) (A1 A2 : Option Addr) (c1 c2 : Nat) (kv pv fv : Value) (w : World) (hg : Blk w g 48 (l4cs kv pv fv (.slice none 0 0) (.slice none 0 0) (.slice none 0 0) (.int .i64 0))) (hng : n ≤ g) (hi : IntsAt w (Old n) A1 p.init) (h1 : 1 ≤ p.init.length) (h6 : p.init.length ≤ 6) (h3 : p.ts.length ≤ 3) :
    Calls Try.prog 146 #[.agg #[.slice A1 p.init.length c1, .slice A2 p.ts.length c2], .pointer (some ⟨g, 0, none⟩)] w fun e w' => e = .returned (.tuple #[]) ∧ L4Out w p g kv pv fv w' := by
  obtain ⟨i1, hi1, hy0, hy1, hy2⟩ := info_parts Try.infoInt
  obtain ⟨i2, hi2, hx0, hx1, hx2⟩ := info_parts Try.infoHistU
  obtain ⟨i3, hi3, hf0, hf1, hf2⟩ := info_parts Try.infoFileS
  replace hi1 := hide hi1
  replace hi2 := hide hi2
  replace hi3 := hide hi3
  have hgl := hg.lt
  have hmk := make_ints p.init.length (by omega)
  obtain ⟨bi, oi, rfl, hbi, hint⟩ := hi.2 (by omega)
  have hbi : bi < n := hbi
  have X0 := Blk.new w 31 #[.slice (some ⟨bi, oi, none⟩) p.init.length c1, .slice A2 p.ts.length c2]
  have G0 := hide (hg.below (below1 w (Obj.cells #[.slice (some ⟨bi, oi, none⟩) p.init.length c1, .slice A2 p.ts.length c2] 31)) hgl)
  have x00 := X0.cell 0
  replace X0 := hide X0
  replace hint := hide hint
  clear hg hi
  go_enter Try.func146, Try.ntmps146
  go_wp2_with fail
  clear hmk
  go_loopw [6] (fun iv wr => ∃ (k : Nat) (ds : Array Value), k ≤ p.init.length ∧ iv = .int .i64 k ∧ Below w.heap.size w wr ∧ Blk wr w.heap.size 31 #[.slice (some ⟨bi, oi, none⟩) p.init.length c1, .slice A2 p.ts.length c2] ∧ Blk wr (w.heap.size + 1) 3 ds ∧ Hid (ds.size = p.init.length) ∧ Hid (∀ j, j < k → ds[j]? = some (.int .i64 (j : Int)))) (fun iv _ => p.init.length - (intOf iv).toNat)
  case atStart =>
    refine ⟨0, _, Nat.zero_le _, rfl, below2 _ _ _, X0.out.alloc _, ?_, hide (zrow_size1 (.int .i64 0) p.init.length), hide (fun j hj => by omega)⟩
    have := Blk.new (w.alloc (Obj.cells #[.slice (some ⟨bi, oi, none⟩) p.init.length c1, .slice A2 p.ts.length c2] 31)) 3 (zrow #[.int .i64 0] p.init.length)
    rw [World.size_alloc] at this
    exact this
  case round =>
    obtain ⟨k, ds, hk, rfl, hb, hX, hD, hsz, hds⟩ := hrel
    by_cases hlt : k < p.init.length
    · have hlt' : (k : Int) < (p.init.length : Int) := by omega
      have hsz' := hsz.out
      obtain ⟨v0, hv0⟩ : ∃ v, ds[k]? = some v := ⟨_, Array.getElem?_eq_getElem (by omega)⟩
      have d0 := (hD.cell k).trans hv0
      have z0 := hD.frozen k
      have l0 := hD.lt
      replace hX := hide hX
      replace hD := hide hD
      replace hb := hide hb
      clear hv0 hsz'
      go_wp2_with fail
      go_roundw
      case rel =>
        refine ⟨k + 1, ds.setIfInBounds k (.int .i64 (k : Int)), by omega, by go_num, hb.out.setCell (by show w.heap.size ≤ w.heap.size + 1; omega) _, hX.out.far (by show w.heap.size ≠ w.heap.size + 1; omega) _, hD.out.set_ _ _, hide (by have := hsz.out; simpa using this), hide (fun j hj => ?_)⟩
        rw [Array.getElem?_setIfInBounds]
        by_cases e : k = j
        · subst e; rw [if_pos rfl, if_pos (by have := hsz.out; omega)]
        · rw [if_neg e]; exact hds.out j (by omega)
      case measure => simp [intOf]; omega
    · obtain rfl : k = p.init.length := by omega
      have hR := hide (show L4C w g n p.init.length (l4cs kv pv fv (.slice none 0 0) (.slice none 0 0) (.slice none 0 0) (.int .i64 0)) #[.slice (some ⟨bi, oi, none⟩) p.init.length c1, .slice A2 p.ts.length c2] wr from
        ⟨Only.of_below hb, (hb.block g hgl).trans ((Below.heap_alloc w _ g hgl).symm.trans G0.out), hX, ⟨ds, hD, by rw [idsL_len, hsz.out]; exact Nat.le_refl _, fun j hj => by rw [idsL_len] at hj; rw [idsL_get _ _ hj]; exact hds.out j hj⟩, hgl⟩)
      clear hb hX hD hsz hds G0 X0
      go_wp2_with fail
      go_loopw [7] (fun iv wr => ∃ (k : Nat) (hv : Value) (los his pq : Nat → Nat) (qs : Nat → Nat → Nat), k ≤ p.init.length ∧ iv = .int .i64 k ∧ L4C w g n p.init.length (l4cs kv pv fv hv (.slice none 0 0) (.slice none 0 0) (.int .i64 0)) #[.slice (some ⟨bi, oi, none⟩) p.init.length c1, .slice A2 p.ts.length c2] wr ∧ HUp wr (w.heap.size + 1 + 1) hv (histK p.init k) los his pq qs) (fun iv _ => p.init.length - (intOf iv).toNat)
      case atStart => exact ⟨0, _, _, _, _, _, Nat.zero_le _, rfl, hR.out, HUp.nil _ _⟩
      case round =>
        obtain ⟨k, hv, los, his, pq, qs, hk, rfl, hR, hU⟩ := hrel
        by_cases hlt : k < p.init.length
        · have hlt' : (k : Int) < (p.init.length : Int) := by omega
          have hc0 := hint.out k hlt
          obtain ⟨val, hval⟩ : ∃ val, val = geti p.init k := ⟨_, rfl⟩
          rw [← hval] at hc0
          have hC := hide (fun (cs : Array Value) (W : World) (h : L4C w g n p.init.length cs #[.slice (some ⟨bi, oi, none⟩) p.init.length c1, .slice A2 p.ts.length c2] W) => show W.cell? ⟨w.heap.size, 0, none⟩ = some (.slice (some ⟨bi, oi, none⟩) p.init.length c1) ∧ W.cell? ⟨bi, oi + k, none⟩ = some (.int .i64 val) from ⟨h.box.cell 0, (h.only.cell (by omega) (by omega)).trans hc0⟩)
          have hzr := hR.size
          have f0 : wr.cell? ⟨g, 5, none⟩ = some hv := hR.blk.cell 5
          have lr : g < wr.heap.size := hR.blk.lt
          have R0 := hide hR.drew
          have U0 := hide hU.drew
          have R1 := hide (R0.out.alloc (Obj.cells #[] 3))
          have f1 : (wr.alloc (Obj.cells #[] 3)).cell? ⟨g, 5, none⟩ = some hv := R1.out.blk.cell 5
          have hown0 := hide (own_empty wr.drew)
          have hids := hide (R1.out.ids.ints (by rw [idsL_len]; omega))
          have hsucc := hide (histK_succ p.init k)
          rw [← hval] at hsucc
          clear hR hU hc0 hval
          go_wp2_with fail
          refine wp_region_held_drew (S := (fun wq : World => wq.cell? ⟨w.heap.size, 0, none⟩ = some (.slice (some ⟨bi, oi, none⟩) p.init.length c1) ∧ wq.cell? ⟨bi, oi + k, none⟩ = some (.int .i64 val))) (by kernel_rfl) ?_ (fun hHeld => ?_)
          · exact hC.out _ _ R0.out
          refine wpAnyH_take (i := 0) (oi := { dst := some 28, op := Op.move (Operand.tmp 1), type := 146, pos := "l04_view.go:60", after := #[], guard := none }) (v := ?_) rfl (by kernel_rfl) (by kernel_rfl) (by kernel_rfl) (fun _ _ _ h => h) (Or.inl ⟨by rfl, ?_⟩) hHeld ?_
          rotate_left
          · (intro wq hSw; (try dsimp only at hSw); first | (go_simp; done) | (go_simp; with_reducible rfl))
          try simp only [Act.put, qa, qb, qc]
          refine wpAnyH_take (i := 1) (oi := { dst := some 29, op := Op.move (Operand.tmp 1), type := 146, pos := "l04_view.go:60", after := #[], guard := none }) (v := ?_) rfl (by kernel_rfl) (by kernel_rfl) (by kernel_rfl) (fun _ _ _ h => h) (Or.inl ⟨by rfl, ?_⟩) hHeld ?_
          rotate_left
          · (intro wq hSw; (try dsimp only at hSw); first | (go_simp; done) | (go_simp; with_reducible rfl))
          try simp only [Act.put, qa, qb, qc]
          refine wpAnyH_take (i := 2) (oi := { dst := some 30, op := Op.nilCheck (Operand.tmp 29), type := 0, pos := "l04_view.go:60", after := #[{ on := 1, ground := Ground.data }], guard := none }) (v := ?_) rfl (by kernel_rfl) (by kernel_rfl) (by kernel_rfl) (fun _ _ _ h => h) (Or.inl ⟨by rfl, ?_⟩) hHeld ?_
          rotate_left
          · (intro wq hSw; (try dsimp only at hSw); first | (go_simp; done) | (go_simp; with_reducible rfl))
          try simp only [Act.put, qa, qb, qc]
          refine wpAnyH_take (i := 3) (oi := { dst := some 31, op := Op.fieldAddr 48 (Operand.tmp 30) 5, type := 0, pos := "l04_view.go:60", after := #[{ on := 2, ground := Ground.data }], guard := none }) (v := ?_) rfl (by kernel_rfl) (by kernel_rfl) (by kernel_rfl) (fun _ _ _ h => h) (Or.inl ⟨by rfl, ?_⟩) hHeld ?_
          rotate_left
          · (intro wq hSw; (try dsimp only at hSw); first | (go_simp; done) | (go_simp; with_reducible rfl))
          try simp only [Act.put, qa, qb, qc]
          refine wpAnyH_take (i := 5) (oi := { dst := some 33, op := Op.move (Operand.tmp 7), type := 3, pos := "l04_view.go:60", after := #[], guard := none }) (v := ?_) rfl (by kernel_rfl) (by kernel_rfl) (by kernel_rfl) (fun _ _ _ h => h) (Or.inl ⟨by rfl, ?_⟩) hHeld ?_
          rotate_left
          · (intro wq hSw; (try dsimp only at hSw); first | (go_simp; done) | (go_simp; with_reducible rfl))
          try simp only [Act.put, qa, qb, qc]
          refine wpAnyH_take (i := 6) (oi := { dst := some 34, op := Op.fieldAddr 31 (Operand.tmp 2) 0, type := 0, pos := "l04_view.go:60", after := #[], guard := none }) (v := ?_) rfl (by kernel_rfl) (by kernel_rfl) (by kernel_rfl) (fun _ _ _ h => h) (Or.inl ⟨by rfl, ?_⟩) hHeld ?_
          rotate_left
          · (intro wq hSw; (try dsimp only at hSw); first | (go_simp; done) | (go_simp; with_reducible rfl))
          try simp only [Act.put, qa, qb, qc]
          refine wpAnyH_take (i := 7) (oi := { dst := some 35, op := Op.load 22 (Operand.tmp 34), type := 22, pos := "l04_view.go:60", after := #[{ on := 6, ground := Ground.data }], guard := none }) (v := ?_) rfl (by kernel_rfl) (by kernel_rfl) (by kernel_rfl) (fun _ _ _ h => h) (Or.inl ⟨by rfl, ?_⟩) hHeld ?_
          rotate_left
          · (intro wq hSw; (try dsimp only at hSw); first | (go_simp; done) | (go_simp; with_reducible rfl))
          try simp only [Act.put, qa, qb, qc]
          refine wpAnyH_take (i := 8) (oi := { dst := some 36, op := Op.move (Operand.tmp 7), type := 3, pos := "l04_view.go:60", after := #[], guard := none }) (v := ?_) rfl (by kernel_rfl) (by kernel_rfl) (by kernel_rfl) (fun _ _ _ h => h) (Or.inl ⟨by rfl, ?_⟩) hHeld ?_
          rotate_left
          · (intro wq hSw; (try dsimp only at hSw); first | (go_simp; done) | (go_simp; with_reducible rfl))
          try simp only [Act.put, qa, qb, qc]
          refine wpAnyH_take (i := 9) (oi := { dst := some 37, op := Op.indexAddr 22 (Operand.tmp 35) (Operand.tmp 36), type := 0, pos := "l04_view.go:60", after := #[{ on := 7, ground := Ground.data }, { on := 8, ground := Ground.data }], guard := none }) (v := ?_) rfl (by kernel_rfl) (by kernel_rfl) (by kernel_rfl) (fun _ _ _ h => h) (Or.inl ⟨by rfl, ?_⟩) hHeld ?_
          rotate_left
          · (intro wq hSw; (try dsimp only at hSw); first | (go_simp; done) | (go_simp; with_reducible rfl))
          try simp only [Act.put, qa, qb, qc]
          refine wpAnyH_take (i := 10) (oi := { dst := some 38, op := Op.load 3 (Operand.tmp 37), type := 3, pos := "l04_view.go:60", after := #[{ on := 9, ground := Ground.data }], guard := none }) (v := ?_) rfl (by kernel_rfl) (by kernel_rfl) (by kernel_rfl) (fun _ _ _ h => h) (Or.inl ⟨by rfl, ?_⟩) hHeld ?_
          rotate_left
          · (intro wq hSw; (try dsimp only at hSw); first | (go_simp; done) | (go_simp; with_reducible rfl))
          try simp only [Act.put, qa, qb, qc]
          refine wpAnyH_take (i := 12) (oi := { dst := some 40, op := Op.move (Operand.tmp 5), type := 22, pos := "l04_view.go:60", after := #[], guard := none }) (v := ?_) rfl (by kernel_rfl) (by kernel_rfl) (by kernel_rfl) (fun _ _ _ h => h) (Or.inl ⟨by rfl, ?_⟩) hHeld ?_
          rotate_left
          · (intro wq hSw; (try dsimp only at hSw); first | (go_simp; done) | (go_simp; with_reducible rfl))
          try simp only [Act.put, qa, qb, qc]
          refine wpAnyH_ready (rs := [4, 11]) (by kernel_rfl) (by simp) ?_
          refine AllReadyH.cons (o := { dst := some 32, op := Op.load 46 (Operand.tmp 31), type := 46, pos := "l04_view.go:60", after := #[{ on := 3, ground := Ground.data }], guard := none }) rfl (fun K hK => ?_) (AllReadyH.cons (o := { dst := some 39, op := Op.buildSlice 22 0 #[], type := 22, pos := "l04_view.go:60", after := #[], guard := none }) rfl (fun K hK => ?_) (AllReadyH.nil))
          · go_simp
            refine hK.out _ _ ?_ (fun hHeldN => ?_)
            · exact hHeld
            clear hK K hHeld
            have hHeld := hHeldN
            clear hHeldN
            try simp only [Act.put, qa, qb, qc]
            refine wpAnyH_ready (rs := [11]) (by kernel_rfl) (by simp) ?_
            refine AllReadyH.cons (o := { dst := some 39, op := Op.buildSlice 22 0 #[], type := 22, pos := "l04_view.go:60", after := #[], guard := none }) rfl (fun K hK => ?_) (AllReadyH.nil)
            · go_simp
              refine hK.out _ _ ?_ (fun hHeldN => ?_)
              · exact hC.out _ _ R1.out
              clear hK K hHeld
              have hHeld := hHeldN
              clear hHeldN
              try simp only [Act.put, qa, qb, qc]
              refine wpAnyH_ready (rs := [13]) (by kernel_rfl) (by simp) ?_
              refine AllReadyH.cons (o := { dst := some 41, op := Op.call { callee := Callee.builtin Builtin.append, args := #[Operand.tmp 39, Operand.tmp 40], argTypes := #[22, 22] }, type := 22, pos := "l04_view.go:60", after := #[{ on := 11, ground := Ground.data }, { on := 12, ground := Ground.data }], guard := none }) rfl (fun K hK => ?_) (AllReadyH.nil)
              · rw [if_pos (by rfl)]
                refine wp_append_src _ _ _ _ (by rfl) wr.heap.size 3 i1 _ 1 8 Try.underlying22 hi1.out hy0 hy1 hy2 rfl (by omega) (.slice (some ⟨wr.heap.size, 0, none⟩) 0 0) 0 [] (by rfl) hown0.out (fun q => q = w.heap.size + 1) (some ⟨w.heap.size + 1, 0, none⟩) p.init.length p.init.length (idsL p.init.length) (by rfl) (by rw [idsL_len]; omega) hids.out (by have : maxLen = 9223372036854775807 := rfl; omega) (by omega) (by simp) ?_
                intro A3 c3 w2 hown2 hgr2 _
                obtain ⟨q1, rfl, hq1, hrow2, hlow2, hc3, hq1l⟩ := l4_view (w := wr.drew) (by omega) hown2 hgr2
                have hz2 : wr.heap.size ≤ w2.heap.size := hlow2.size
                have R2 := hide (R0.out.next hlow2)
                clear hown2 hgr2
                have U2 := hide (U0.out.next hlow2)
                have R3 := hide (R2.out.alloc (Obj.cells #[.int .i64 (k : Int), .int .i64 val, .bool false, .slice (some ⟨q1, 0, none⟩) p.init.length c3] 86))
                have U3 := hide (U2.out.alloc (Obj.cells #[.int .i64 (k : Int), .int .i64 val, .bool false, .slice (some ⟨q1, 0, none⟩) p.init.length c3] 86))
                have PB3 := Blk.new w2 86 #[.int .i64 (k : Int), .int .i64 val, .bool false, .slice (some ⟨q1, 0, none⟩) p.init.length c3]
                have PO3 := hide (post_own (lo := wr.heap.size) PB3 (hrow2.below (below1 w2 _)) hc3 hq1 hq1l h6)
                have R4 := hide (R3.out.alloc (Obj.cells #[.slice (some ⟨w2.heap.size, 0, none⟩) 1 1] 84))
                have U4 := hide (U3.out.alloc (Obj.cells #[.slice (some ⟨w2.heap.size, 0, none⟩) 1 1] 84))
                have PO4 := hide (PO3.out.next (below1 _ (Obj.cells #[.slice (some ⟨w2.heap.size, 0, none⟩) 1 1] 84)))
                have hnew : ((w2.alloc (Obj.cells #[.int .i64 (k : Int), .int .i64 val, .bool false, .slice (some ⟨q1, 0, none⟩) p.init.length c3] 86)).alloc (Obj.cells #[.slice (some ⟨w2.heap.size, 0, none⟩) 1 1] 84)).heap[w2.heap.size + 1]? = some (.cells #[.slice (some ⟨w2.heap.size, 0, none⟩) 1 1] 84 (0, 0)) := by
                  have := heap_alloc_new (w2.alloc (Obj.cells #[.int .i64 (k : Int), .int .i64 val, .bool false, .slice (some ⟨q1, 0, none⟩) p.init.length c3] 86)) (.cells #[.slice (some ⟨w2.heap.size, 0, none⟩) 1 1] 84)
                  rw [World.size_alloc] at this
                  exact this
                replace hnew := hide hnew
                have f2 : w2.cell? ⟨g, 5, none⟩ = some hv := R2.out.blk.cell 5
                have f3 : (w2.alloc (Obj.cells #[.int .i64 (k : Int), .int .i64 val, .bool false, .slice (some ⟨q1, 0, none⟩) p.init.length c3] 86)).cell? ⟨g, 5, none⟩ = some hv := R3.out.blk.cell 5
                have f4 : ((w2.alloc (Obj.cells #[.int .i64 (k : Int), .int .i64 val, .bool false, .slice (some ⟨q1, 0, none⟩) p.init.length c3] 86)).alloc (Obj.cells #[.slice (some ⟨w2.heap.size, 0, none⟩) 1 1] 84)).cell? ⟨g, 5, none⟩ = some hv := R4.out.blk.cell 5
                clear PB3 hrow2
                refine hK.out _ _ ?_ (fun hHeldN => ?_)
                · exact hC.out _ _ R2.out
                clear hK K hHeld
                have hHeld := hHeldN
                clear hHeldN
                try simp only [Act.put, qa, qb, qc]
                refine wpAnyH_take (i := 14) (oi := { dst := some 42, op := Op.build 86 #[(0, Operand.tmp 33), (1, Operand.tmp 38), (3, Operand.tmp 41)], type := 86, pos := "l04_view.go:60", after := #[{ on := 5, ground := Ground.data }, { on := 10, ground := Ground.data }, { on := 13, ground := Ground.data }], guard := none }) (v := ?_) rfl (by kernel_rfl) (by kernel_rfl) (by kernel_rfl) (fun _ _ _ h => h) (Or.inl ⟨by rfl, ?_⟩) hHeld ?_
                rotate_left
                · (intro wq hSw; (try dsimp only at hSw); first | (go_simp; done) | (go_simp; with_reducible rfl))
                try simp only [Act.put, qa, qb, qc]
                refine wpAnyH_ready (rs := [15]) (by kernel_rfl) (by simp) ?_
                refine AllReadyH.cons (o := { dst := some 43, op := Op.buildSlice 82 1 #[(0, Operand.tmp 42)], type := 82, pos := "l04_view.go:60", after := #[{ on := 14, ground := Ground.data }], guard := none }) rfl (fun K hK => ?_) (AllReadyH.nil)
                · go_simp
                  refine hK.out _ _ ?_ (fun hHeldN => ?_)
                  · exact hC.out _ _ R3.out
                  clear hK K hHeld
                  have hHeld := hHeldN
                  clear hHeldN
                  try simp only [Act.put, qa, qb, qc]
                  refine wpAnyH_take (i := 16) (oi := { dst := some 44, op := Op.build 84 #[(0, Operand.tmp 43)], type := 84, pos := "l04_view.go:60", after := #[{ on := 15, ground := Ground.data }], guard := none }) (v := ?_) rfl (by kernel_rfl) (by kernel_rfl) (by kernel_rfl) (fun _ _ _ h => h) (Or.inl ⟨by rfl, ?_⟩) hHeld ?_
                  rotate_left
                  · (intro wq hSw; (try dsimp only at hSw); first | (go_simp; done) | (go_simp; with_reducible rfl))
                  try simp only [Act.put, qa, qb, qc]
                  refine wpAnyH_ready (rs := [17]) (by kernel_rfl) (by simp) ?_
                  refine AllReadyH.cons (o := { dst := some 45, op := Op.buildSlice 46 1 #[(0, Operand.tmp 44)], type := 46, pos := "l04_view.go:60", after := #[{ on := 16, ground := Ground.data }], guard := none }) rfl (fun K hK => ?_) (AllReadyH.nil)
                  · go_simp
                    refine hK.out _ _ ?_ (fun hHeldN => ?_)
                    · exact hC.out _ _ R4.out
                    clear hK K hHeld
                    have hHeld := hHeldN
                    clear hHeldN
                    try simp only [Act.put, qa, qb, qc]
                    refine wpAnyH_ready (rs := [18]) (by kernel_rfl) (by simp) ?_
                    refine AllReadyH.cons (o := { dst := some 46, op := Op.call { callee := Callee.builtin Builtin.append, args := #[Operand.tmp 32, Operand.tmp 45], argTypes := #[46, 46] }, type := 46, pos := "l04_view.go:60", after := #[{ on := 4, ground := Ground.data }, { on := 17, ground := Ground.data }, { on := 13, ground := Ground.chain }], guard := none }) rfl (fun K hK => ?_) (AllReadyH.nil)
                    · rw [if_pos (by rfl)]
                      refine wp_append_lies _ _ _ _ (by rfl) (w.heap.size + 1 + 1) 84 i2 _ 1 24 Try.underlying46 hi2.out hx0 hx1 hx2 rfl (by omega) hv (histK p.init k).length ((List.range (histK p.init k).length).map (hval (histK p.init k) pq)) (by rfl) U4.out.own ⟨w2.heap.size + 1, 0, none⟩ 1 1 [.slice (some ⟨w2.heap.size, 0, none⟩) 1 1] (by rfl) (by rfl) (World.news_of_block hnew.out) (by simp [Value.oneCell']) (by omega) (by have : maxLen = 9223372036854775807 := rfl; rw [histK_len]; omega) (by rw [histK_len]; omega) (by simp; omega) _ (by rfl) ?_
                      intro gg cap w5 hown5 hgr5 hat hlt5
                      have U5 := hide (U4.out.more PO4.out (by show w.heap.size + 1 + 1 ≤ wr.heap.size; omega) (fun j hj => (U0.out.rng j hj).2) (by simp) (fun q hq => (own_lt U0.out.own hq).2.1) rfl hown5 hgr5 (hat.elim (fun e => .inl e.symm) (fun e => .inr (by rw [e]; rfl))))
                      have R5 := hide (R4.out.grown U4.out.own (Nat.le_refl _) hgr5)
                      have f5 : w5.cell? ⟨g, 5, none⟩ = some hv := R5.out.blk.cell 5
                      have z5 := R5.out.blk.frozen 5
                      have l5 := R5.out.blk.lt
                      clear hown5 hgr5 hat
                      refine hK.out _ _ ?_ (fun hHeldN => ?_)
                      · exact hC.out _ _ R5.out
                      clear hK K hHeld
                      have hHeld := hHeldN
                      clear hHeldN
                      try simp only [Act.put, qa, qb, qc]
                      refine wpAnyH_take (i := 19) (oi := { dst := some 47, op := Op.nilCheck (Operand.tmp 28), type := 0, pos := "l04_view.go:60", after := #[{ on := 0, ground := Ground.data }, { on := 0, ground := Ground.phase }, { on := 1, ground := Ground.phase }, { on := 2, ground := Ground.phase }, { on := 3, ground := Ground.phase }, { on := 4, ground := Ground.phase }, { on := 5, ground := Ground.phase }, { on := 6, ground := Ground.phase }, { on := 7, ground := Ground.phase }, { on := 8, ground := Ground.phase }, { on := 9, ground := Ground.phase }, { on := 10, ground := Ground.phase }, { on := 11, ground := Ground.phase }, { on := 12, ground := Ground.phase }, { on := 13, ground := Ground.phase }, { on := 14, ground := Ground.phase }, { on := 15, ground := Ground.phase }, { on := 16, ground := Ground.phase }, { on := 17, ground := Ground.phase }, { on := 18, ground := Ground.phase }], guard := none }) (v := ?_) rfl (by kernel_rfl) (by kernel_rfl) (by kernel_rfl) (fun _ _ _ h => h) (Or.inl ⟨by rfl, ?_⟩) hHeld ?_
                      rotate_left
                      · (intro wq hSw; (try dsimp only at hSw); first | (go_simp; done) | (go_simp; with_reducible rfl))
                      try simp only [Act.put, qa, qb, qc]
                      refine wpAnyH_take (i := 20) (oi := { dst := some 48, op := Op.fieldAddr 48 (Operand.tmp 47) 5, type := 0, pos := "l04_view.go:60", after := #[{ on := 19, ground := Ground.data }, { on := 0, ground := Ground.phase }, { on := 1, ground := Ground.phase }, { on := 2, ground := Ground.phase }, { on := 3, ground := Ground.phase }, { on := 4, ground := Ground.phase }, { on := 5, ground := Ground.phase }, { on := 6, ground := Ground.phase }, { on := 7, ground := Ground.phase }, { on := 8, ground := Ground.phase }, { on := 9, ground := Ground.phase }, { on := 10, ground := Ground.phase }, { on := 11, ground := Ground.phase }, { on := 12, ground := Ground.phase }, { on := 13, ground := Ground.phase }, { on := 14, ground := Ground.phase }, { on := 15, ground := Ground.phase }, { on := 16, ground := Ground.phase }, { on := 17, ground := Ground.phase }, { on := 18, ground := Ground.phase }], guard := none }) (v := ?_) rfl (by kernel_rfl) (by kernel_rfl) (by kernel_rfl) (fun _ _ _ h => h) (Or.inl ⟨by rfl, ?_⟩) hHeld ?_
                      rotate_left
                      · (intro wq hSw; (try dsimp only at hSw); first | (go_simp; done) | (go_simp; with_reducible rfl))
                      try simp only [Act.put, qa, qb, qc]
                      refine wpAnyH_ready (rs := [21]) (by kernel_rfl) (by simp) ?_
                      refine AllReadyH.cons (o := { dst := none, op := Op.store 46 (Operand.tmp 48) (Operand.tmp 46), type := 0, pos := "l04_view.go:60", after := #[{ on := 20, ground := Ground.data }, { on := 18, ground := Ground.data }, { on := 18, ground := Ground.chain }, { on := 0, ground := Ground.phase }, { on := 1, ground := Ground.phase }, { on := 2, ground := Ground.phase }, { on := 3, ground := Ground.phase }, { on := 4, ground := Ground.phase }, { on := 5, ground := Ground.phase }, { on := 6, ground := Ground.phase }, { on := 7, ground := Ground.phase }, { on := 8, ground := Ground.phase }, { on := 9, ground := Ground.phase }, { on := 10, ground := Ground.phase }, { on := 11, ground := Ground.phase }, { on := 12, ground := Ground.phase }, { on := 13, ground := Ground.phase }, { on := 14, ground := Ground.phase }, { on := 15, ground := Ground.phase }, { on := 16, ground := Ground.phase }, { on := 17, ground := Ground.phase }, { on := 18, ground := Ground.phase }], guard := none }) rfl (fun K hK => ?_) (AllReadyH.nil)
                      · go_simp
                        refine hK.out _ _ ?_ (fun hHeldN => ?_)
                        · exact hC.out _ _ (R5.out.set 5 _)
                        clear hK K hHeld
                        have hHeld := hHeldN
                        clear hHeldN
                        try simp only [Act.put, qa, qb, qc]
                        refine wpAnyH_done (by kernel_rfl) ?_ _
                        have R6 := hide (show L4C w g n p.init.length (l4cs kv pv fv (.slice (some ⟨gg, 0, none⟩) ((histK p.init k).length + 1) cap) (.slice none 0 0) (.slice none 0 0) (.int .i64 0)) #[.slice (some ⟨bi, oi, none⟩) p.init.length c1, .slice A2 p.ts.length c2] _ from R5.out.set 5 (.slice (some ⟨gg, 0, none⟩) ((histK p.init k).length + 1) cap))
                        have U6 := hide (U5.out.setCell (a := ⟨g, 5, none⟩) (by show g < w.heap.size + 1 + 1; omega) (.slice (some ⟨gg, 0, none⟩) ((histK p.init k).length + 1) cap))
                        go_wp2_with fail
                        go_roundw
                        case rel => exact ⟨k + 1, _, _, _, _, _, by omega, by go_num, R6.out, by rw [hsucc.out]; exact U6.out⟩
                        case measure => simp [intOf]; omega
          · go_simp
            refine hK.out _ _ ?_ (fun hHeldN => ?_)
            · exact hC.out _ _ R1.out
            clear hK K hHeld
            have hHeld := hHeldN
            clear hHeldN
            try simp only [Act.put, qa, qb, qc]
            refine wpAnyH_ready (rs := [4, 13]) (by kernel_rfl) (by simp) ?_
            refine AllReadyH.cons (o := { dst := some 32, op := Op.load 46 (Operand.tmp 31), type := 46, pos := "l04_view.go:60", after := #[{ on := 3, ground := Ground.data }], guard := none }) rfl (fun K hK => ?_) (AllReadyH.cons (o := { dst := some 41, op := Op.call { callee := Callee.builtin Builtin.append, args := #[Operand.tmp 39, Operand.tmp 40], argTypes := #[22, 22] }, type := 22, pos := "l04_view.go:60", after := #[{ on := 11, ground := Ground.data }, { on := 12, ground := Ground.data }], guard := none }) rfl (fun K hK => ?_) (AllReadyH.nil))
            · go_simp
              refine hK.out _ _ ?_ (fun hHeldN => ?_)
              · exact hHeld
              clear hK K hHeld
              have hHeld := hHeldN
              clear hHeldN
              try simp only [Act.put, qa, qb, qc]
              refine wpAnyH_ready (rs := [13]) (by kernel_rfl) (by simp) ?_
              refine AllReadyH.cons (o := { dst := some 41, op := Op.call { callee := Callee.builtin Builtin.append, args := #[Operand.tmp 39, Operand.tmp 40], argTypes := #[22, 22] }, type := 22, pos := "l04_view.go:60", after := #[{ on := 11, ground := Ground.data }, { on := 12, ground := Ground.data }], guard := none }) rfl (fun K hK => ?_) (AllReadyH.nil)
              · rw [if_pos (by rfl)]
                refine wp_append_src _ _ _ _ (by rfl) wr.heap.size 3 i1 _ 1 8 Try.underlying22 hi1.out hy0 hy1 hy2 rfl (by omega) (.slice (some ⟨wr.heap.size, 0, none⟩) 0 0) 0 [] (by rfl) hown0.out (fun q => q = w.heap.size + 1) (some ⟨w.heap.size + 1, 0, none⟩) p.init.length p.init.length (idsL p.init.length) (by rfl) (by rw [idsL_len]; omega) hids.out (by have : maxLen = 9223372036854775807 := rfl; omega) (by omega) (by simp) ?_
                intro A3 c3 w2 hown2 hgr2 _
                obtain ⟨q1, rfl, hq1, hrow2, hlow2, hc3, hq1l⟩ := l4_view (w := wr.drew) (by omega) hown2 hgr2
                have hz2 : wr.heap.size ≤ w2.heap.size := hlow2.size
                have R2 := hide (R0.out.next hlow2)
                clear hown2 hgr2
                have U2 := hide (U0.out.next hlow2)
                have R3 := hide (R2.out.alloc (Obj.cells #[.int .i64 (k : Int), .int .i64 val, .bool false, .slice (some ⟨q1, 0, none⟩) p.init.length c3] 86))
                have U3 := hide (U2.out.alloc (Obj.cells #[.int .i64 (k : Int), .int .i64 val, .bool false, .slice (some ⟨q1, 0, none⟩) p.init.length c3] 86))
                have PB3 := Blk.new w2 86 #[.int .i64 (k : Int), .int .i64 val, .bool false, .slice (some ⟨q1, 0, none⟩) p.init.length c3]
                have PO3 := hide (post_own (lo := wr.heap.size) PB3 (hrow2.below (below1 w2 _)) hc3 hq1 hq1l h6)
                have R4 := hide (R3.out.alloc (Obj.cells #[.slice (some ⟨w2.heap.size, 0, none⟩) 1 1] 84))
                have U4 := hide (U3.out.alloc (Obj.cells #[.slice (some ⟨w2.heap.size, 0, none⟩) 1 1] 84))
                have PO4 := hide (PO3.out.next (below1 _ (Obj.cells #[.slice (some ⟨w2.heap.size, 0, none⟩) 1 1] 84)))
                have hnew : ((w2.alloc (Obj.cells #[.int .i64 (k : Int), .int .i64 val, .bool false, .slice (some ⟨q1, 0, none⟩) p.init.length c3] 86)).alloc (Obj.cells #[.slice (some ⟨w2.heap.size, 0, none⟩) 1 1] 84)).heap[w2.heap.size + 1]? = some (.cells #[.slice (some ⟨w2.heap.size, 0, none⟩) 1 1] 84 (0, 0)) := by
                  have := heap_alloc_new (w2.alloc (Obj.cells #[.int .i64 (k : Int), .int .i64 val, .bool false, .slice (some ⟨q1, 0, none⟩) p.init.length c3] 86)) (.cells #[.slice (some ⟨w2.heap.size, 0, none⟩) 1 1] 84)
                  rw [World.size_alloc] at this
                  exact this
                replace hnew := hide hnew
                have f2 : w2.cell? ⟨g, 5, none⟩ = some hv := R2.out.blk.cell 5
                have f3 : (w2.alloc (Obj.cells #[.int .i64 (k : Int), .int .i64 val, .bool false, .slice (some ⟨q1, 0, none⟩) p.init.length c3] 86)).cell? ⟨g, 5, none⟩ = some hv := R3.out.blk.cell 5
                have f4 : ((w2.alloc (Obj.cells #[.int .i64 (k : Int), .int .i64 val, .bool false, .slice (some ⟨q1, 0, none⟩) p.init.length c3] 86)).alloc (Obj.cells #[.slice (some ⟨w2.heap.size, 0, none⟩) 1 1] 84)).cell? ⟨g, 5, none⟩ = some hv := R4.out.blk.cell 5
                clear PB3 hrow2
                refine hK.out _ _ ?_ (fun hHeldN => ?_)
                · exact hC.out _ _ R2.out
                clear hK K hHeld
                have hHeld := hHeldN
                clear hHeldN
                try simp only [Act.put, qa, qb, qc]
                refine wpAnyH_take (i := 14) (oi := { dst := some 42, op := Op.build 86 #[(0, Operand.tmp 33), (1, Operand.tmp 38), (3, Operand.tmp 41)], type := 86, pos := "l04_view.go:60", after := #[{ on := 5, ground := Ground.data }, { on := 10, ground := Ground.data }, { on := 13, ground := Ground.data }], guard := none }) (v := ?_) rfl (by kernel_rfl) (by kernel_rfl) (by kernel_rfl) (fun _ _ _ h => h) (Or.inl ⟨by rfl, ?_⟩) hHeld ?_
                rotate_left
                · (intro wq hSw; (try dsimp only at hSw); first | (go_simp; done) | (go_simp; with_reducible rfl))
                try simp only [Act.put, qa, qb, qc]
                refine wpAnyH_ready (rs := [15]) (by kernel_rfl) (by simp) ?_
                refine AllReadyH.cons (o := { dst := some 43, op := Op.buildSlice 82 1 #[(0, Operand.tmp 42)], type := 82, pos := "l04_view.go:60", after := #[{ on := 14, ground := Ground.data }], guard := none }) rfl (fun K hK => ?_) (AllReadyH.nil)
                · go_simp
                  refine hK.out _ _ ?_ (fun hHeldN => ?_)
                  · exact hC.out _ _ R3.out
                  clear hK K hHeld
                  have hHeld := hHeldN
                  clear hHeldN
                  try simp only [Act.put, qa, qb, qc]
                  refine wpAnyH_take (i := 16) (oi := { dst := some 44, op := Op.build 84 #[(0, Operand.tmp 43)], type := 84, pos := "l04_view.go:60", after := #[{ on := 15, ground := Ground.data }], guard := none }) (v := ?_) rfl (by kernel_rfl) (by kernel_rfl) (by kernel_rfl) (fun _ _ _ h => h) (Or.inl ⟨by rfl, ?_⟩) hHeld ?_
                  rotate_left
                  · (intro wq hSw; (try dsimp only at hSw); first | (go_simp; done) | (go_simp; with_reducible rfl))
                  try simp only [Act.put, qa, qb, qc]
                  refine wpAnyH_ready (rs := [17]) (by kernel_rfl) (by simp) ?_
                  refine AllReadyH.cons (o := { dst := some 45, op := Op.buildSlice 46 1 #[(0, Operand.tmp 44)], type := 46, pos := "l04_view.go:60", after := #[{ on := 16, ground := Ground.data }], guard := none }) rfl (fun K hK => ?_) (AllReadyH.nil)
                  · go_simp
                    refine hK.out _ _ ?_ (fun hHeldN => ?_)
                    · exact hC.out _ _ R4.out
                    clear hK K hHeld
                    have hHeld := hHeldN
                    clear hHeldN
                    try simp only [Act.put, qa, qb, qc]
                    refine wpAnyH_ready (rs := [18]) (by kernel_rfl) (by simp) ?_
                    refine AllReadyH.cons (o := { dst := some 46, op := Op.call { callee := Callee.builtin Builtin.append, args := #[Operand.tmp 32, Operand.tmp 45], argTypes := #[46, 46] }, type := 46, pos := "l04_view.go:60", after := #[{ on := 4, ground := Ground.data }, { on := 17, ground := Ground.data }, { on := 13, ground := Ground.chain }], guard := none }) rfl (fun K hK => ?_) (AllReadyH.nil)
                    · rw [if_pos (by rfl)]
                      refine wp_append_lies _ _ _ _ (by rfl) (w.heap.size + 1 + 1) 84 i2 _ 1 24 Try.underlying46 hi2.out hx0 hx1 hx2 rfl (by omega) hv (histK p.init k).length ((List.range (histK p.init k).length).map (hval (histK p.init k) pq)) (by rfl) U4.out.own ⟨w2.heap.size + 1, 0, none⟩ 1 1 [.slice (some ⟨w2.heap.size, 0, none⟩) 1 1] (by rfl) (by rfl) (World.news_of_block hnew.out) (by simp [Value.oneCell']) (by omega) (by have : maxLen = 9223372036854775807 := rfl; rw [histK_len]; omega) (by rw [histK_len]; omega) (by simp; omega) _ (by rfl) ?_
                      intro gg cap w5 hown5 hgr5 hat hlt5
                      have U5 := hide (U4.out.more PO4.out (by show w.heap.size + 1 + 1 ≤ wr.heap.size; omega) (fun j hj => (U0.out.rng j hj).2) (by simp) (fun q hq => (own_lt U0.out.own hq).2.1) rfl hown5 hgr5 (hat.elim (fun e => .inl e.symm) (fun e => .inr (by rw [e]; rfl))))
                      have R5 := hide (R4.out.grown U4.out.own (Nat.le_refl _) hgr5)
                      have f5 : w5.cell? ⟨g, 5, none⟩ = some hv := R5.out.blk.cell 5
                      have z5 := R5.out.blk.frozen 5
                      have l5 := R5.out.blk.lt
                      clear hown5 hgr5 hat
                      refine hK.out _ _ ?_ (fun hHeldN => ?_)
                      · exact hC.out _ _ R5.out
                      clear hK K hHeld
                      have hHeld := hHeldN
                      clear hHeldN
                      try simp only [Act.put, qa, qb, qc]
                      refine wpAnyH_take (i := 19) (oi := { dst := some 47, op := Op.nilCheck (Operand.tmp 28), type := 0, pos := "l04_view.go:60", after := #[{ on := 0, ground := Ground.data }, { on := 0, ground := Ground.phase }, { on := 1, ground := Ground.phase }, { on := 2, ground := Ground.phase }, { on := 3, ground := Ground.phase }, { on := 4, ground := Ground.phase }, { on := 5, ground := Ground.phase }, { on := 6, ground := Ground.phase }, { on := 7, ground := Ground.phase }, { on := 8, ground := Ground.phase }, { on := 9, ground := Ground.phase }, { on := 10, ground := Ground.phase }, { on := 11, ground := Ground.phase }, { on := 12, ground := Ground.phase }, { on := 13, ground := Ground.phase }, { on := 14, ground := Ground.phase }, { on := 15, ground := Ground.phase }, { on := 16, ground := Ground.phase }, { on := 17, ground := Ground.phase }, { on := 18, ground := Ground.phase }], guard := none }) (v := ?_) rfl (by kernel_rfl) (by kernel_rfl) (by kernel_rfl) (fun _ _ _ h => h) (Or.inl ⟨by rfl, ?_⟩) hHeld ?_
                      rotate_left
                      · (intro wq hSw; (try dsimp only at hSw); first | (go_simp; done) | (go_simp; with_reducible rfl))
                      try simp only [Act.put, qa, qb, qc]
                      refine wpAnyH_take (i := 20) (oi := { dst := some 48, op := Op.fieldAddr 48 (Operand.tmp 47) 5, type := 0, pos := "l04_view.go:60", after := #[{ on := 19, ground := Ground.data }, { on := 0, ground := Ground.phase }, { on := 1, ground := Ground.phase }, { on := 2, ground := Ground.phase }, { on := 3, ground := Ground.phase }, { on := 4, ground := Ground.phase }, { on := 5, ground := Ground.phase }, { on := 6, ground := Ground.phase }, { on := 7, ground := Ground.phase }, { on := 8, ground := Ground.phase }, { on := 9, ground := Ground.phase }, { on := 10, ground := Ground.phase }, { on := 11, ground := Ground.phase }, { on := 12, ground := Ground.phase }, { on := 13, ground := Ground.phase }, { on := 14, ground := Ground.phase }, { on := 15, ground := Ground.phase }, { on := 16, ground := Ground.phase }, { on := 17, ground := Ground.phase }, { on := 18, ground := Ground.phase }], guard := none }) (v := ?_) rfl (by kernel_rfl) (by kernel_rfl) (by kernel_rfl) (fun _ _ _ h => h) (Or.inl ⟨by rfl, ?_⟩) hHeld ?_
                      rotate_left
                      · (intro wq hSw; (try dsimp only at hSw); first | (go_simp; done) | (go_simp; with_reducible rfl))
                      try simp only [Act.put, qa, qb, qc]
                      refine wpAnyH_ready (rs := [21]) (by kernel_rfl) (by simp) ?_
                      refine AllReadyH.cons (o := { dst := none, op := Op.store 46 (Operand.tmp 48) (Operand.tmp 46), type := 0, pos := "l04_view.go:60", after := #[{ on := 20, ground := Ground.data }, { on := 18, ground := Ground.data }, { on := 18, ground := Ground.chain }, { on := 0, ground := Ground.phase }, { on := 1, ground := Ground.phase }, { on := 2, ground := Ground.phase }, { on := 3, ground := Ground.phase }, { on := 4, ground := Ground.phase }, { on := 5, ground := Ground.phase }, { on := 6, ground := Ground.phase }, { on := 7, ground := Ground.phase }, { on := 8, ground := Ground.phase }, { on := 9, ground := Ground.phase }, { on := 10, ground := Ground.phase }, { on := 11, ground := Ground.phase }, { on := 12, ground := Ground.phase }, { on := 13, ground := Ground.phase }, { on := 14, ground := Ground.phase }, { on := 15, ground := Ground.phase }, { on := 16, ground := Ground.phase }, { on := 17, ground := Ground.phase }, { on := 18, ground := Ground.phase }], guard := none }) rfl (fun K hK => ?_) (AllReadyH.nil)
                      · go_simp
                        refine hK.out _ _ ?_ (fun hHeldN => ?_)
                        · exact hC.out _ _ (R5.out.set 5 _)
                        clear hK K hHeld
                        have hHeld := hHeldN
                        clear hHeldN
                        try simp only [Act.put, qa, qb, qc]
                        refine wpAnyH_done (by kernel_rfl) ?_ _
                        have R6 := hide (show L4C w g n p.init.length (l4cs kv pv fv (.slice (some ⟨gg, 0, none⟩) ((histK p.init k).length + 1) cap) (.slice none 0 0) (.slice none 0 0) (.int .i64 0)) #[.slice (some ⟨bi, oi, none⟩) p.init.length c1, .slice A2 p.ts.length c2] _ from R5.out.set 5 (.slice (some ⟨gg, 0, none⟩) ((histK p.init k).length + 1) cap))
                        have U6 := hide (U5.out.setCell (a := ⟨g, 5, none⟩) (by show g < w.heap.size + 1 + 1; omega) (.slice (some ⟨gg, 0, none⟩) ((histK p.init k).length + 1) cap))
                        go_wp2_with fail
                        go_roundw
                        case rel => exact ⟨k + 1, _, _, _, _, _, by omega, by go_num, R6.out, by rw [hsucc.out]; exact U6.out⟩
                        case measure => simp [intOf]; omega
            · rw [if_pos (by rfl)]
              refine wp_append_src _ _ _ _ (by rfl) wr.heap.size 3 i1 _ 1 8 Try.underlying22 hi1.out hy0 hy1 hy2 rfl (by omega) (.slice (some ⟨wr.heap.size, 0, none⟩) 0 0) 0 [] (by rfl) hown0.out (fun q => q = w.heap.size + 1) (some ⟨w.heap.size + 1, 0, none⟩) p.init.length p.init.length (idsL p.init.length) (by rfl) (by rw [idsL_len]; omega) hids.out (by have : maxLen = 9223372036854775807 := rfl; omega) (by omega) (by simp) ?_
              intro A3 c3 w2 hown2 hgr2 _
              obtain ⟨q1, rfl, hq1, hrow2, hlow2, hc3, hq1l⟩ := l4_view (w := wr.drew) (by omega) hown2 hgr2
              have hz2 : wr.heap.size ≤ w2.heap.size := hlow2.size
              have R2 := hide (R0.out.next hlow2)
              clear hown2 hgr2
              have U2 := hide (U0.out.next hlow2)
              have R3 := hide (R2.out.alloc (Obj.cells #[.int .i64 (k : Int), .int .i64 val, .bool false, .slice (some ⟨q1, 0, none⟩) p.init.length c3] 86))
              have U3 := hide (U2.out.alloc (Obj.cells #[.int .i64 (k : Int), .int .i64 val, .bool false, .slice (some ⟨q1, 0, none⟩) p.init.length c3] 86))
              have PB3 := Blk.new w2 86 #[.int .i64 (k : Int), .int .i64 val, .bool false, .slice (some ⟨q1, 0, none⟩) p.init.length c3]
              have PO3 := hide (post_own (lo := wr.heap.size) PB3 (hrow2.below (below1 w2 _)) hc3 hq1 hq1l h6)
              have R4 := hide (R3.out.alloc (Obj.cells #[.slice (some ⟨w2.heap.size, 0, none⟩) 1 1] 84))
              have U4 := hide (U3.out.alloc (Obj.cells #[.slice (some ⟨w2.heap.size, 0, none⟩) 1 1] 84))
              have PO4 := hide (PO3.out.next (below1 _ (Obj.cells #[.slice (some ⟨w2.heap.size, 0, none⟩) 1 1] 84)))
              have hnew : ((w2.alloc (Obj.cells #[.int .i64 (k : Int), .int .i64 val, .bool false, .slice (some ⟨q1, 0, none⟩) p.init.length c3] 86)).alloc (Obj.cells #[.slice (some ⟨w2.heap.size, 0, none⟩) 1 1] 84)).heap[w2.heap.size + 1]? = some (.cells #[.slice (some ⟨w2.heap.size, 0, none⟩) 1 1] 84 (0, 0)) := by
                have := heap_alloc_new (w2.alloc (Obj.cells #[.int .i64 (k : Int), .int .i64 val, .bool false, .slice (some ⟨q1, 0, none⟩) p.init.length c3] 86)) (.cells #[.slice (some ⟨w2.heap.size, 0, none⟩) 1 1] 84)
                rw [World.size_alloc] at this
                exact this
              replace hnew := hide hnew
              have f2 : w2.cell? ⟨g, 5, none⟩ = some hv := R2.out.blk.cell 5
              have f3 : (w2.alloc (Obj.cells #[.int .i64 (k : Int), .int .i64 val, .bool false, .slice (some ⟨q1, 0, none⟩) p.init.length c3] 86)).cell? ⟨g, 5, none⟩ = some hv := R3.out.blk.cell 5
              have f4 : ((w2.alloc (Obj.cells #[.int .i64 (k : Int), .int .i64 val, .bool false, .slice (some ⟨q1, 0, none⟩) p.init.length c3] 86)).alloc (Obj.cells #[.slice (some ⟨w2.heap.size, 0, none⟩) 1 1] 84)).cell? ⟨g, 5, none⟩ = some hv := R4.out.blk.cell 5
              clear PB3 hrow2
              refine hK.out _ _ ?_ (fun hHeldN => ?_)
              · exact hC.out _ _ R2.out
              clear hK K hHeld
              have hHeld := hHeldN
              clear hHeldN
              try simp only [Act.put, qa, qb, qc]
              refine wpAnyH_take (i := 14) (oi := { dst := some 42, op := Op.build 86 #[(0, Operand.tmp 33), (1, Operand.tmp 38), (3, Operand.tmp 41)], type := 86, pos := "l04_view.go:60", after := #[{ on := 5, ground := Ground.data }, { on := 10, ground := Ground.data }, { on := 13, ground := Ground.data }], guard := none }) (v := ?_) rfl (by kernel_rfl) (by kernel_rfl) (by kernel_rfl) (fun _ _ _ h => h) (Or.inl ⟨by rfl, ?_⟩) hHeld ?_
              rotate_left
              · (intro wq hSw; (try dsimp only at hSw); first | (go_simp; done) | (go_simp; with_reducible rfl))
              try simp only [Act.put, qa, qb, qc]
              refine wpAnyH_ready (rs := [4, 15]) (by kernel_rfl) (by simp) ?_
              refine AllReadyH.cons (o := { dst := some 32, op := Op.load 46 (Operand.tmp 31), type := 46, pos := "l04_view.go:60", after := #[{ on := 3, ground := Ground.data }], guard := none }) rfl (fun K hK => ?_) (AllReadyH.cons (o := { dst := some 43, op := Op.buildSlice 82 1 #[(0, Operand.tmp 42)], type := 82, pos := "l04_view.go:60", after := #[{ on := 14, ground := Ground.data }], guard := none }) rfl (fun K hK => ?_) (AllReadyH.nil))
              · go_simp
                refine hK.out _ _ ?_ (fun hHeldN => ?_)
                · exact hHeld
                clear hK K hHeld
                have hHeld := hHeldN
                clear hHeldN
                try simp only [Act.put, qa, qb, qc]
                refine wpAnyH_ready (rs := [15]) (by kernel_rfl) (by simp) ?_
                refine AllReadyH.cons (o := { dst := some 43, op := Op.buildSlice 82 1 #[(0, Operand.tmp 42)], type := 82, pos := "l04_view.go:60", after := #[{ on := 14, ground := Ground.data }], guard := none }) rfl (fun K hK => ?_) (AllReadyH.nil)
                · go_simp
                  refine hK.out _ _ ?_ (fun hHeldN => ?_)
                  · exact hC.out _ _ R3.out
                  clear hK K hHeld
                  have hHeld := hHeldN
                  clear hHeldN
                  try simp only [Act.put, qa, qb, qc]
                  refine wpAnyH_take (i := 16) (oi := { dst := some 44, op := Op.build 84 #[(0, Operand.tmp 43)], type := 84, pos := "l04_view.go:60", after := #[{ on := 15, ground := Ground.data }], guard := none }) (v := ?_) rfl (by kernel_rfl) (by kernel_rfl) (by kernel_rfl) (fun _ _ _ h => h) (Or.inl ⟨by rfl, ?_⟩) hHeld ?_
                  rotate_left
                  · (intro wq hSw; (try dsimp only at hSw); first | (go_simp; done) | (go_simp; with_reducible rfl))
                  try simp only [Act.put, qa, qb, qc]
                  refine wpAnyH_ready (rs := [17]) (by kernel_rfl) (by simp) ?_
                  refine AllReadyH.cons (o := { dst := some 45, op := Op.buildSlice 46 1 #[(0, Operand.tmp 44)], type := 46, pos := "l04_view.go:60", after := #[{ on := 16, ground := Ground.data }], guard := none }) rfl (fun K hK => ?_) (AllReadyH.nil)
                  · go_simp
                    refine hK.out _ _ ?_ (fun hHeldN => ?_)
                    · exact hC.out _ _ R4.out
                    clear hK K hHeld
                    have hHeld := hHeldN
                    clear hHeldN
                    try simp only [Act.put, qa, qb, qc]
                    refine wpAnyH_ready (rs := [18]) (by kernel_rfl) (by simp) ?_
                    refine AllReadyH.cons (o := { dst := some 46, op := Op.call { callee := Callee.builtin Builtin.append, args := #[Operand.tmp 32, Operand.tmp 45], argTypes := #[46, 46] }, type := 46, pos := "l04_view.go:60", after := #[{ on := 4, ground := Ground.data }, { on := 17, ground := Ground.data }, { on := 13, ground := Ground.chain }], guard := none }) rfl (fun K hK => ?_) (AllReadyH.nil)
                    · rw [if_pos (by rfl)]
                      refine wp_append_lies _ _ _ _ (by rfl) (w.heap.size + 1 + 1) 84 i2 _ 1 24 Try.underlying46 hi2.out hx0 hx1 hx2 rfl (by omega) hv (histK p.init k).length ((List.range (histK p.init k).length).map (hval (histK p.init k) pq)) (by rfl) U4.out.own ⟨w2.heap.size + 1, 0, none⟩ 1 1 [.slice (some ⟨w2.heap.size, 0, none⟩) 1 1] (by rfl) (by rfl) (World.news_of_block hnew.out) (by simp [Value.oneCell']) (by omega) (by have : maxLen = 9223372036854775807 := rfl; rw [histK_len]; omega) (by rw [histK_len]; omega) (by simp; omega) _ (by rfl) ?_
                      intro gg cap w5 hown5 hgr5 hat hlt5
                      have U5 := hide (U4.out.more PO4.out (by show w.heap.size + 1 + 1 ≤ wr.heap.size; omega) (fun j hj => (U0.out.rng j hj).2) (by simp) (fun q hq => (own_lt U0.out.own hq).2.1) rfl hown5 hgr5 (hat.elim (fun e => .inl e.symm) (fun e => .inr (by rw [e]; rfl))))
                      have R5 := hide (R4.out.grown U4.out.own (Nat.le_refl _) hgr5)
                      have f5 : w5.cell? ⟨g, 5, none⟩ = some hv := R5.out.blk.cell 5
                      have z5 := R5.out.blk.frozen 5
                      have l5 := R5.out.blk.lt
                      clear hown5 hgr5 hat
                      refine hK.out _ _ ?_ (fun hHeldN => ?_)
                      · exact hC.out _ _ R5.out
                      clear hK K hHeld
                      have hHeld := hHeldN
                      clear hHeldN
                      try simp only [Act.put, qa, qb, qc]
                      refine wpAnyH_take (i := 19) (oi := { dst := some 47, op := Op.nilCheck (Operand.tmp 28), type := 0, pos := "l04_view.go:60", after := #[{ on := 0, ground := Ground.data }, { on := 0, ground := Ground.phase }, { on := 1, ground := Ground.phase }, { on := 2, ground := Ground.phase }, { on := 3, ground := Ground.phase }, { on := 4, ground := Ground.phase }, { on := 5, ground := Ground.phase }, { on := 6, ground := Ground.phase }, { on := 7, ground := Ground.phase }, { on := 8, ground := Ground.phase }, { on := 9, ground := Ground.phase }, { on := 10, ground := Ground.phase }, { on := 11, ground := Ground.phase }, { on := 12, ground := Ground.phase }, { on := 13, ground := Ground.phase }, { on := 14, ground := Ground.phase }, { on := 15, ground := Ground.phase }, { on := 16, ground := Ground.phase }, { on := 17, ground := Ground.phase }, { on := 18, ground := Ground.phase }], guard := none }) (v := ?_) rfl (by kernel_rfl) (by kernel_rfl) (by kernel_rfl) (fun _ _ _ h => h) (Or.inl ⟨by rfl, ?_⟩) hHeld ?_
                      rotate_left
                      · (intro wq hSw; (try dsimp only at hSw); first | (go_simp; done) | (go_simp; with_reducible rfl))
                      try simp only [Act.put, qa, qb, qc]
                      refine wpAnyH_take (i := 20) (oi := { dst := some 48, op := Op.fieldAddr 48 (Operand.tmp 47) 5, type := 0, pos := "l04_view.go:60", after := #[{ on := 19, ground := Ground.data }, { on := 0, ground := Ground.phase }, { on := 1, ground := Ground.phase }, { on := 2, ground := Ground.phase }, { on := 3, ground := Ground.phase }, { on := 4, ground := Ground.phase }, { on := 5, ground := Ground.phase }, { on := 6, ground := Ground.phase }, { on := 7, ground := Ground.phase }, { on := 8, ground := Ground.phase }, { on := 9, ground := Ground.phase }, { on := 10, ground := Ground.phase }, { on := 11, ground := Ground.phase }, { on := 12, ground := Ground.phase }, { on := 13, ground := Ground.phase }, { on := 14, ground := Ground.phase }, { on := 15, ground := Ground.phase }, { on := 16, ground := Ground.phase }, { on := 17, ground := Ground.phase }, { on := 18, ground := Ground.phase }], guard := none }) (v := ?_) rfl (by kernel_rfl) (by kernel_rfl) (by kernel_rfl) (fun _ _ _ h => h) (Or.inl ⟨by rfl, ?_⟩) hHeld ?_
                      rotate_left
                      · (intro wq hSw; (try dsimp only at hSw); first | (go_simp; done) | (go_simp; with_reducible rfl))
                      try simp only [Act.put, qa, qb, qc]
                      refine wpAnyH_ready (rs := [21]) (by kernel_rfl) (by simp) ?_
                      refine AllReadyH.cons (o := { dst := none, op := Op.store 46 (Operand.tmp 48) (Operand.tmp 46), type := 0, pos := "l04_view.go:60", after := #[{ on := 20, ground := Ground.data }, { on := 18, ground := Ground.data }, { on := 18, ground := Ground.chain }, { on := 0, ground := Ground.phase }, { on := 1, ground := Ground.phase }, { on := 2, ground := Ground.phase }, { on := 3, ground := Ground.phase }, { on := 4, ground := Ground.phase }, { on := 5, ground := Ground.phase }, { on := 6, ground := Ground.phase }, { on := 7, ground := Ground.phase }, { on := 8, ground := Ground.phase }, { on := 9, ground := Ground.phase }, { on := 10, ground := Ground.phase }, { on := 11, ground := Ground.phase }, { on := 12, ground := Ground.phase }, { on := 13, ground := Ground.phase }, { on := 14, ground := Ground.phase }, { on := 15, ground := Ground.phase }, { on := 16, ground := Ground.phase }, { on := 17, ground := Ground.phase }, { on := 18, ground := Ground.phase }], guard := none }) rfl (fun K hK => ?_) (AllReadyH.nil)
                      · go_simp
                        refine hK.out _ _ ?_ (fun hHeldN => ?_)
                        · exact hC.out _ _ (R5.out.set 5 _)
                        clear hK K hHeld
                        have hHeld := hHeldN
                        clear hHeldN
                        try simp only [Act.put, qa, qb, qc]
                        refine wpAnyH_done (by kernel_rfl) ?_ _
                        have R6 := hide (show L4C w g n p.init.length (l4cs kv pv fv (.slice (some ⟨gg, 0, none⟩) ((histK p.init k).length + 1) cap) (.slice none 0 0) (.slice none 0 0) (.int .i64 0)) #[.slice (some ⟨bi, oi, none⟩) p.init.length c1, .slice A2 p.ts.length c2] _ from R5.out.set 5 (.slice (some ⟨gg, 0, none⟩) ((histK p.init k).length + 1) cap))
                        have U6 := hide (U5.out.setCell (a := ⟨g, 5, none⟩) (by show g < w.heap.size + 1 + 1; omega) (.slice (some ⟨gg, 0, none⟩) ((histK p.init k).length + 1) cap))
                        go_wp2_with fail
                        go_roundw
                        case rel => exact ⟨k + 1, _, _, _, _, _, by omega, by go_num, R6.out, by rw [hsucc.out]; exact U6.out⟩
                        case measure => simp [intOf]; omega
              · go_simp
                refine hK.out _ _ ?_ (fun hHeldN => ?_)
                · exact hC.out _ _ R3.out
                clear hK K hHeld
                have hHeld := hHeldN
                clear hHeldN
                try simp only [Act.put, qa, qb, qc]
                refine wpAnyH_take (i := 16) (oi := { dst := some 44, op := Op.build 84 #[(0, Operand.tmp 43)], type := 84, pos := "l04_view.go:60", after := #[{ on := 15, ground := Ground.data }], guard := none }) (v := ?_) rfl (by kernel_rfl) (by kernel_rfl) (by kernel_rfl) (fun _ _ _ h => h) (Or.inl ⟨by rfl, ?_⟩) hHeld ?_
                rotate_left
                · (intro wq hSw; (try dsimp only at hSw); first | (go_simp; done) | (go_simp; with_reducible rfl))
                try simp only [Act.put, qa, qb, qc]
                refine wpAnyH_ready (rs := [4, 17]) (by kernel_rfl) (by simp) ?_
                refine AllReadyH.cons (o := { dst := some 32, op := Op.load 46 (Operand.tmp 31), type := 46, pos := "l04_view.go:60", after := #[{ on := 3, ground := Ground.data }], guard := none }) rfl (fun K hK => ?_) (AllReadyH.cons (o := { dst := some 45, op := Op.buildSlice 46 1 #[(0, Operand.tmp 44)], type := 46, pos := "l04_view.go:60", after := #[{ on := 16, ground := Ground.data }], guard := none }) rfl (fun K hK => ?_) (AllReadyH.nil))
                · go_simp
                  refine hK.out _ _ ?_ (fun hHeldN => ?_)
                  · exact hHeld
                  clear hK K hHeld
                  have hHeld := hHeldN
                  clear hHeldN
                  try simp only [Act.put, qa, qb, qc]
                  refine wpAnyH_ready (rs := [17]) (by kernel_rfl) (by simp) ?_
                  refine AllReadyH.cons (o := { dst := some 45, op := Op.buildSlice 46 1 #[(0, Operand.tmp 44)], type := 46, pos := "l04_view.go:60", after := #[{ on := 16, ground := Ground.data }], guard := none }) rfl (fun K hK => ?_) (AllReadyH.nil)
                  · go_simp
                    refine hK.out _ _ ?_ (fun hHeldN => ?_)
                    · exact hC.out _ _ R4.out
                    clear hK K hHeld
                    have hHeld := hHeldN
                    clear hHeldN
                    try simp only [Act.put, qa, qb, qc]
                    refine wpAnyH_ready (rs := [18]) (by kernel_rfl) (by simp) ?_
                    refine AllReadyH.cons (o := { dst := some 46, op := Op.call { callee := Callee.builtin Builtin.append, args := #[Operand.tmp 32, Operand.tmp 45], argTypes := #[46, 46] }, type := 46, pos := "l04_view.go:60", after := #[{ on := 4, ground := Ground.data }, { on := 17, ground := Ground.data }, { on := 13, ground := Ground.chain }], guard := none }) rfl (fun K hK => ?_) (AllReadyH.nil)
                    · rw [if_pos (by rfl)]
                      refine wp_append_lies _ _ _ _ (by rfl) (w.heap.size + 1 + 1) 84 i2 _ 1 24 Try.underlying46 hi2.out hx0 hx1 hx2 rfl (by omega) hv (histK p.init k).length ((List.range (histK p.init k).length).map (hval (histK p.init k) pq)) (by rfl) U4.out.own ⟨w2.heap.size + 1, 0, none⟩ 1 1 [.slice (some ⟨w2.heap.size, 0, none⟩) 1 1] (by rfl) (by rfl) (World.news_of_block hnew.out) (by simp [Value.oneCell']) (by omega) (by have : maxLen = 9223372036854775807 := rfl; rw [histK_len]; omega) (by rw [histK_len]; omega) (by simp; omega) _ (by rfl) ?_
                      intro gg cap w5 hown5 hgr5 hat hlt5
                      have U5 := hide (U4.out.more PO4.out (by show w.heap.size + 1 + 1 ≤ wr.heap.size; omega) (fun j hj => (U0.out.rng j hj).2) (by simp) (fun q hq => (own_lt U0.out.own hq).2.1) rfl hown5 hgr5 (hat.elim (fun e => .inl e.symm) (fun e => .inr (by rw [e]; rfl))))
                      have R5 := hide (R4.out.grown U4.out.own (Nat.le_refl _) hgr5)
                      have f5 : w5.cell? ⟨g, 5, none⟩ = some hv := R5.out.blk.cell 5
                      have z5 := R5.out.blk.frozen 5
                      have l5 := R5.out.blk.lt
                      clear hown5 hgr5 hat
                      refine hK.out _ _ ?_ (fun hHeldN => ?_)
                      · exact hC.out _ _ R5.out
                      clear hK K hHeld
                      have hHeld := hHeldN
                      clear hHeldN
                      try simp only [Act.put, qa, qb, qc]
                      refine wpAnyH_take (i := 19) (oi := { dst := some 47, op := Op.nilCheck (Operand.tmp 28), type := 0, pos := "l04_view.go:60", after := #[{ on := 0, ground := Ground.data }, { on := 0, ground := Ground.phase }, { on := 1, ground := Ground.phase }, { on := 2, ground := Ground.phase }, { on := 3, ground := Ground.phase }, { on := 4, ground := Ground.phase }, { on := 5, ground := Ground.phase }, { on := 6, ground := Ground.phase }, { on := 7, ground := Ground.phase }, { on := 8, ground := Ground.phase }, { on := 9, ground := Ground.phase }, { on := 10, ground := Ground.phase }, { on := 11, ground := Ground.phase }, { on := 12, ground := Ground.phase }, { on := 13, ground := Ground.phase }, { on := 14, ground := Ground.phase }, { on := 15, ground := Ground.phase }, { on := 16, ground := Ground.phase }, { on := 17, ground := Ground.phase }, { on := 18, ground := Ground.phase }], guard := none }) (v := ?_) rfl (by kernel_rfl) (by kernel_rfl) (by kernel_rfl) (fun _ _ _ h => h) (Or.inl ⟨by rfl, ?_⟩) hHeld ?_
                      rotate_left
                      · (intro wq hSw; (try dsimp only at hSw); first | (go_simp; done) | (go_simp; with_reducible rfl))
                      try simp only [Act.put, qa, qb, qc]
                      refine wpAnyH_take (i := 20) (oi := { dst := some 48, op := Op.fieldAddr 48 (Operand.tmp 47) 5, type := 0, pos := "l04_view.go:60", after := #[{ on := 19, ground := Ground.data }, { on := 0, ground := Ground.phase }, { on := 1, ground := Ground.phase }, { on := 2, ground := Ground.phase }, { on := 3, ground := Ground.phase }, { on := 4, ground := Ground.phase }, { on := 5, ground := Ground.phase }, { on := 6, ground := Ground.phase }, { on := 7, ground := Ground.phase }, { on := 8, ground := Ground.phase }, { on := 9, ground := Ground.phase }, { on := 10, ground := Ground.phase }, { on := 11, ground := Ground.phase }, { on := 12, ground := Ground.phase }, { on := 13, ground := Ground.phase }, { on := 14, ground := Ground.phase }, { on := 15, ground := Ground.phase }, { on := 16, ground := Ground.phase }, { on := 17, ground := Ground.phase }, { on := 18, ground := Ground.phase }], guard := none }) (v := ?_) rfl (by kernel_rfl) (by kernel_rfl) (by kernel_rfl) (fun _ _ _ h => h) (Or.inl ⟨by rfl, ?_⟩) hHeld ?_
                      rotate_left
                      · (intro wq hSw; (try dsimp only at hSw); first | (go_simp; done) | (go_simp; with_reducible rfl))
                      try simp only [Act.put, qa, qb, qc]
                      refine wpAnyH_ready (rs := [21]) (by kernel_rfl) (by simp) ?_
                      refine AllReadyH.cons (o := { dst := none, op := Op.store 46 (Operand.tmp 48) (Operand.tmp 46), type := 0, pos := "l04_view.go:60", after := #[{ on := 20, ground := Ground.data }, { on := 18, ground := Ground.data }, { on := 18, ground := Ground.chain }, { on := 0, ground := Ground.phase }, { on := 1, ground := Ground.phase }, { on := 2, ground := Ground.phase }, { on := 3, ground := Ground.phase }, { on := 4, ground := Ground.phase }, { on := 5, ground := Ground.phase }, { on := 6, ground := Ground.phase }, { on := 7, ground := Ground.phase }, { on := 8, ground := Ground.phase }, { on := 9, ground := Ground.phase }, { on := 10, ground := Ground.phase }, { on := 11, ground := Ground.phase }, { on := 12, ground := Ground.phase }, { on := 13, ground := Ground.phase }, { on := 14, ground := Ground.phase }, { on := 15, ground := Ground.phase }, { on := 16, ground := Ground.phase }, { on := 17, ground := Ground.phase }, { on := 18, ground := Ground.phase }], guard := none }) rfl (fun K hK => ?_) (AllReadyH.nil)
                      · go_simp
                        refine hK.out _ _ ?_ (fun hHeldN => ?_)
                        · exact hC.out _ _ (R5.out.set 5 _)
                        clear hK K hHeld
                        have hHeld := hHeldN
                        clear hHeldN
                        try simp only [Act.put, qa, qb, qc]
                        refine wpAnyH_done (by kernel_rfl) ?_ _
                        have R6 := hide (show L4C w g n p.init.length (l4cs kv pv fv (.slice (some ⟨gg, 0, none⟩) ((histK p.init k).length + 1) cap) (.slice none 0 0) (.slice none 0 0) (.int .i64 0)) #[.slice (some ⟨bi, oi, none⟩) p.init.length c1, .slice A2 p.ts.length c2] _ from R5.out.set 5 (.slice (some ⟨gg, 0, none⟩) ((histK p.init k).length + 1) cap))
                        have U6 := hide (U5.out.setCell (a := ⟨g, 5, none⟩) (by show g < w.heap.size + 1 + 1; omega) (.slice (some ⟨gg, 0, none⟩) ((histK p.init k).length + 1) cap))
                        go_wp2_with fail
                        go_roundw
                        case rel => exact ⟨k + 1, _, _, _, _, _, by omega, by go_num, R6.out, by rw [hsucc.out]; exact U6.out⟩
                        case measure => simp [intOf]; omega
                · go_simp
                  refine hK.out _ _ ?_ (fun hHeldN => ?_)
                  · exact hC.out _ _ R4.out
                  clear hK K hHeld
                  have hHeld := hHeldN
                  clear hHeldN
                  try simp only [Act.put, qa, qb, qc]
                  refine wpAnyH_ready (rs := [4]) (by kernel_rfl) (by simp) ?_
                  refine AllReadyH.cons (o := { dst := some 32, op := Op.load 46 (Operand.tmp 31), type := 46, pos := "l04_view.go:60", after := #[{ on := 3, ground := Ground.data }], guard := none }) rfl (fun K hK => ?_) (AllReadyH.nil)
                  · go_simp
                    refine hK.out _ _ ?_ (fun hHeldN => ?_)
                    · exact hHeld
                    clear hK K hHeld
                    have hHeld := hHeldN
                    clear hHeldN
                    try simp only [Act.put, qa, qb, qc]
                    refine wpAnyH_ready (rs := [18]) (by kernel_rfl) (by simp) ?_
                    refine AllReadyH.cons (o := { dst := some 46, op := Op.call { callee := Callee.builtin Builtin.append, args := #[Operand.tmp 32, Operand.tmp 45], argTypes := #[46, 46] }, type := 46, pos := "l04_view.go:60", after := #[{ on := 4, ground := Ground.data }, { on := 17, ground := Ground.data }, { on := 13, ground := Ground.chain }], guard := none }) rfl (fun K hK => ?_) (AllReadyH.nil)
                    · rw [if_pos (by rfl)]
                      refine wp_append_lies _ _ _ _ (by rfl) (w.heap.size + 1 + 1) 84 i2 _ 1 24 Try.underlying46 hi2.out hx0 hx1 hx2 rfl (by omega) hv (histK p.init k).length ((List.range (histK p.init k).length).map (hval (histK p.init k) pq)) (by rfl) U4.out.own ⟨w2.heap.size + 1, 0, none⟩ 1 1 [.slice (some ⟨w2.heap.size, 0, none⟩) 1 1] (by rfl) (by rfl) (World.news_of_block hnew.out) (by simp [Value.oneCell']) (by omega) (by have : maxLen = 9223372036854775807 := rfl; rw [histK_len]; omega) (by rw [histK_len]; omega) (by simp; omega) _ (by rfl) ?_
                      intro gg cap w5 hown5 hgr5 hat hlt5
                      have U5 := hide (U4.out.more PO4.out (by show w.heap.size + 1 + 1 ≤ wr.heap.size; omega) (fun j hj => (U0.out.rng j hj).2) (by simp) (fun q hq => (own_lt U0.out.own hq).2.1) rfl hown5 hgr5 (hat.elim (fun e => .inl e.symm) (fun e => .inr (by rw [e]; rfl))))
                      have R5 := hide (R4.out.grown U4.out.own (Nat.le_refl _) hgr5)
                      have f5 : w5.cell? ⟨g, 5, none⟩ = some hv := R5.out.blk.cell 5
                      have z5 := R5.out.blk.frozen 5
                      have l5 := R5.out.blk.lt
                      clear hown5 hgr5 hat
                      refine hK.out _ _ ?_ (fun hHeldN => ?_)
                      · exact hC.out _ _ R5.out
                      clear hK K hHeld
                      have hHeld := hHeldN
                      clear hHeldN
                      try simp only [Act.put, qa, qb, qc]
                      refine wpAnyH_take (i := 19) (oi := { dst := some 47, op := Op.nilCheck (Operand.tmp 28), type := 0, pos := "l04_view.go:60", after := #[{ on := 0, ground := Ground.data }, { on := 0, ground := Ground.phase }, { on := 1, ground := Ground.phase }, { on := 2, ground := Ground.phase }, { on := 3, ground := Ground.phase }, { on := 4, ground := Ground.phase }, { on := 5, ground := Ground.phase }, { on := 6, ground := Ground.phase }, { on := 7, ground := Ground.phase }, { on := 8, ground := Ground.phase }, { on := 9, ground := Ground.phase }, { on := 10, ground := Ground.phase }, { on := 11, ground := Ground.phase }, { on := 12, ground := Ground.phase }, { on := 13, ground := Ground.phase }, { on := 14, ground := Ground.phase }, { on := 15, ground := Ground.phase }, { on := 16, ground := Ground.phase }, { on := 17, ground := Ground.phase }, { on := 18, ground := Ground.phase }], guard := none }) (v := ?_) rfl (by kernel_rfl) (by kernel_rfl) (by kernel_rfl) (fun _ _ _ h => h) (Or.inl ⟨by rfl, ?_⟩) hHeld ?_
                      rotate_left
                      · (intro wq hSw; (try dsimp only at hSw); first | (go_simp; done) | (go_simp; with_reducible rfl))
                      try simp only [Act.put, qa, qb, qc]
                      refine wpAnyH_take (i := 20) (oi := { dst := some 48, op := Op.fieldAddr 48 (Operand.tmp 47) 5, type := 0, pos := "l04_view.go:60", after := #[{ on := 19, ground := Ground.data }, { on := 0, ground := Ground.phase }, { on := 1, ground := Ground.phase }, { on := 2, ground := Ground.phase }, { on := 3, ground := Ground.phase }, { on := 4, ground := Ground.phase }, { on := 5, ground := Ground.phase }, { on := 6, ground := Ground.phase }, { on := 7, ground := Ground.phase }, { on := 8, ground := Ground.phase }, { on := 9, ground := Ground.phase }, { on := 10, ground := Ground.phase }, { on := 11, ground := Ground.phase }, { on := 12, ground := Ground.phase }, { on := 13, ground := Ground.phase }, { on := 14, ground := Ground.phase }, { on := 15, ground := Ground.phase }, { on := 16, ground := Ground.phase }, { on := 17, ground := Ground.phase }, { on := 18, ground := Ground.phase }], guard := none }) (v := ?_) rfl (by kernel_rfl) (by kernel_rfl) (by kernel_rfl) (fun _ _ _ h => h) (Or.inl ⟨by rfl, ?_⟩) hHeld ?_
                      rotate_left
                      · (intro wq hSw; (try dsimp only at hSw); first | (go_simp; done) | (go_simp; with_reducible rfl))
                      try simp only [Act.put, qa, qb, qc]
                      refine wpAnyH_ready (rs := [21]) (by kernel_rfl) (by simp) ?_
                      refine AllReadyH.cons (o := { dst := none, op := Op.store 46 (Operand.tmp 48) (Operand.tmp 46), type := 0, pos := "l04_view.go:60", after := #[{ on := 20, ground := Ground.data }, { on := 18, ground := Ground.data }, { on := 18, ground := Ground.chain }, { on := 0, ground := Ground.phase }, { on := 1, ground := Ground.phase }, { on := 2, ground := Ground.phase }, { on := 3, ground := Ground.phase }, { on := 4, ground := Ground.phase }, { on := 5, ground := Ground.phase }, { on := 6, ground := Ground.phase }, { on := 7, ground := Ground.phase }, { on := 8, ground := Ground.phase }, { on := 9, ground := Ground.phase }, { on := 10, ground := Ground.phase }, { on := 11, ground := Ground.phase }, { on := 12, ground := Ground.phase }, { on := 13, ground := Ground.phase }, { on := 14, ground := Ground.phase }, { on := 15, ground := Ground.phase }, { on := 16, ground := Ground.phase }, { on := 17, ground := Ground.phase }, { on := 18, ground := Ground.phase }], guard := none }) rfl (fun K hK => ?_) (AllReadyH.nil)
                      · go_simp
                        refine hK.out _ _ ?_ (fun hHeldN => ?_)
                        · exact hC.out _ _ (R5.out.set 5 _)
                        clear hK K hHeld
                        have hHeld := hHeldN
                        clear hHeldN
                        try simp only [Act.put, qa, qb, qc]
                        refine wpAnyH_done (by kernel_rfl) ?_ _
                        have R6 := hide (show L4C w g n p.init.length (l4cs kv pv fv (.slice (some ⟨gg, 0, none⟩) ((histK p.init k).length + 1) cap) (.slice none 0 0) (.slice none 0 0) (.int .i64 0)) #[.slice (some ⟨bi, oi, none⟩) p.init.length c1, .slice A2 p.ts.length c2] _ from R5.out.set 5 (.slice (some ⟨gg, 0, none⟩) ((histK p.init k).length + 1) cap))
                        have U6 := hide (U5.out.setCell (a := ⟨g, 5, none⟩) (by show g < w.heap.size + 1 + 1; omega) (.slice (some ⟨gg, 0, none⟩) ((histK p.init k).length + 1) cap))
                        go_wp2_with fail
                        go_roundw
                        case rel => exact ⟨k + 1, _, _, _, _, _, by omega, by go_num, R6.out, by rw [hsucc.out]; exact U6.out⟩
                        case measure => simp [intOf]; omega
        · obtain rfl : k = p.init.length := by omega
          obtain ⟨A5, c5, rfl, hH⟩ := hU.toI (by rw [histK_len]; omega)
          rw [histK_len] at hH hR
          have hzr := hR.size
          obtain ⟨hm, hhm⟩ : ∃ hm, hm = wr.heap.size := ⟨_, rfl⟩
          rw [← hhm] at hH
          have hmB : w.heap.size + 1 + 1 ≤ hm := by omega
          have hmS : hm ≤ wr.heap.size := by omega
          have V0 := hide (RowsUp.nil 69 wr hm)
          replace hR := hide hR
          replace hH := hide hH
          clear hU hzr hhm
          go_wp2_with fail
          go_loopw [8] (fun iv wr => ∃ (vv : Value) (rs : List RowD), rs.length ≤ p.ts.length ∧ iv = .int .i64 (rs.length : Int) ∧ L4C w g n p.init.length (l4cs kv pv fv (.slice A5 p.init.length c5) vv (.slice none 0 0) (.int .i64 0)) #[.slice (some ⟨bi, oi, none⟩) p.init.length c1, .slice A2 p.ts.length c2] wr ∧ HistsI wr ⟨w.heap.size + 1 + 1, hm, A5, p.init.length, c5, histK p.init p.init.length, los, his, pq, qs⟩ ∧ RowsUp 69 wr hm vv rs ∧ Hid (∀ j, j < rs.length → (getr rs j).n = p.init.length ∧ (getr rs j).zs = idsL p.init.length) ∧ hm ≤ wr.heap.size) (fun iv _ => p.ts.length - (intOf iv).toNat)
          case atStart => exact ⟨_, [], Nat.zero_le _, rfl, hR.out, hH.out, V0.out, hide (fun j hj => by simp at hj), hmS⟩
          case round =>
            obtain ⟨vv, rs, hk, rfl, hRr, hHr, hVr, hall, hmw⟩ := hrel
            clear hR hH V0
            have b1 : wr.cell? ⟨w.heap.size, 1, none⟩ = some (.slice A2 p.ts.length c2) := hRr.box.cell 1
            have lb1 : w.heap.size < wr.heap.size := hRr.box.lt
            by_cases hlt : rs.length < p.ts.length
            · have hlt' : (rs.length : Int) < (p.ts.length : Int) := by omega
              have hC := hide (fun (cs : Array Value) (W : World) (h : L4C w g n p.init.length cs #[.slice (some ⟨bi, oi, none⟩) p.init.length c1, .slice A2 p.ts.length c2] W) => show W.cell? ⟨w.heap.size, 1, none⟩ = some (.slice A2 p.ts.length c2) from h.box.cell 1)
              have hzr := hRr.size
              have f0 : wr.cell? ⟨g, 6, none⟩ = some vv := hRr.blk.cell 6
              have lr : g < wr.heap.size := hRr.blk.lt
              have R0 := hide hRr.drew
              have H0 := hide (show HistsI wr.drew _ from hHr.keep (fun b _ _ _ => rfl))
              have V0 := hide hVr.drew
              have R1 := hide (R0.out.alloc (Obj.cells #[] 3))
              have f1 : (wr.alloc (Obj.cells #[] 3)).cell? ⟨g, 6, none⟩ = some vv := R1.out.blk.cell 6
              have hown0 := hide (own_empty wr.drew)
              have hids := hide (R1.out.ids.ints (by rw [idsL_len]; omega))
              clear hRr hHr hVr
              go_wp2_with fail
              refine wp_region_held_drew (S := (fun wq : World => wq.cell? ⟨w.heap.size, 1, none⟩ = some (.slice A2 p.ts.length c2))) (by kernel_rfl) ?_ (fun hHeld => ?_)
              · exact hC.out _ _ R0.out
              refine wpAnyH_take (i := 0) (oi := { dst := some 56, op := Op.move (Operand.tmp 1), type := 146, pos := "l04_view.go:63", after := #[], guard := none }) (v := ?_) rfl (by kernel_rfl) (by kernel_rfl) (by kernel_rfl) (fun _ _ _ h => h) (Or.inl ⟨by rfl, ?_⟩) hHeld ?_
              rotate_left
              · (intro wq hSw; (try dsimp only at hSw); first | (go_simp; done) | (go_simp; with_reducible rfl))
              try simp only [Act.put, qa, qb, qc]
              refine wpAnyH_take (i := 1) (oi := { dst := some 57, op := Op.move (Operand.tmp 1), type := 146, pos := "l04_view.go:63", after := #[], guard := none }) (v := ?_) rfl (by kernel_rfl) (by kernel_rfl) (by kernel_rfl) (fun _ _ _ h => h) (Or.inl ⟨by rfl, ?_⟩) hHeld ?_
              rotate_left
              · (intro wq hSw; (try dsimp only at hSw); first | (go_simp; done) | (go_simp; with_reducible rfl))
              try simp only [Act.put, qa, qb, qc]
              refine wpAnyH_take (i := 2) (oi := { dst := some 58, op := Op.nilCheck (Operand.tmp 57), type := 0, pos := "l04_view.go:63", after := #[{ on := 1, ground := Ground.data }], guard := none }) (v := ?_) rfl (by kernel_rfl) (by kernel_rfl) (by kernel_rfl) (fun _ _ _ h => h) (Or.inl ⟨by rfl, ?_⟩) hHeld ?_
              rotate_left
              · (intro wq hSw; (try dsimp only at hSw); first | (go_simp; done) | (go_simp; with_reducible rfl))
              try simp only [Act.put, qa, qb, qc]
              refine wpAnyH_take (i := 3) (oi := { dst := some 59, op := Op.fieldAddr 48 (Operand.tmp 58) 6, type := 0, pos := "l04_view.go:63", after := #[{ on := 2, ground := Ground.data }], guard := none }) (v := ?_) rfl (by kernel_rfl) (by kernel_rfl) (by kernel_rfl) (fun _ _ _ h => h) (Or.inl ⟨by rfl, ?_⟩) hHeld ?_
              rotate_left
              · (intro wq hSw; (try dsimp only at hSw); first | (go_simp; done) | (go_simp; with_reducible rfl))
              try simp only [Act.put, qa, qb, qc]
              refine wpAnyH_take (i := 6) (oi := { dst := some 62, op := Op.move (Operand.tmp 5), type := 22, pos := "l04_view.go:63", after := #[], guard := none }) (v := ?_) rfl (by kernel_rfl) (by kernel_rfl) (by kernel_rfl) (fun _ _ _ h => h) (Or.inl ⟨by rfl, ?_⟩) hHeld ?_
              rotate_left
              · (intro wq hSw; (try dsimp only at hSw); first | (go_simp; done) | (go_simp; with_reducible rfl))
              try simp only [Act.put, qa, qb, qc]
              refine wpAnyH_ready (rs := [4, 5]) (by kernel_rfl) (by simp) ?_
              refine AllReadyH.cons (o := { dst := some 60, op := Op.load 44 (Operand.tmp 59), type := 44, pos := "l04_view.go:63", after := #[{ on := 3, ground := Ground.data }], guard := none }) rfl (fun K hK => ?_) (AllReadyH.cons (o := { dst := some 61, op := Op.buildSlice 22 0 #[], type := 22, pos := "l04_view.go:63", after := #[], guard := none }) rfl (fun K hK => ?_) (AllReadyH.nil))
              · go_simp
                refine hK.out _ _ ?_ (fun hHeldN => ?_)
                · exact hHeld
                clear hK K hHeld
                have hHeld := hHeldN
                clear hHeldN
                try simp only [Act.put, qa, qb, qc]
                refine wpAnyH_ready (rs := [5]) (by kernel_rfl) (by simp) ?_
                refine AllReadyH.cons (o := { dst := some 61, op := Op.buildSlice 22 0 #[], type := 22, pos := "l04_view.go:63", after := #[], guard := none }) rfl (fun K hK => ?_) (AllReadyH.nil)
                · go_simp
                  refine hK.out _ _ ?_ (fun hHeldN => ?_)
                  · exact hC.out _ _ R1.out
                  clear hK K hHeld
                  have hHeld := hHeldN
                  clear hHeldN
                  try simp only [Act.put, qa, qb, qc]
                  refine wpAnyH_ready (rs := [7]) (by kernel_rfl) (by simp) ?_
                  refine AllReadyH.cons (o := { dst := some 63, op := Op.call { callee := Callee.builtin Builtin.append, args := #[Operand.tmp 61, Operand.tmp 62], argTypes := #[22, 22] }, type := 22, pos := "l04_view.go:63", after := #[{ on := 5, ground := Ground.data }, { on := 6, ground := Ground.data }], guard := none }) rfl (fun K hK => ?_) (AllReadyH.nil)
                  · rw [if_pos (by rfl)]
                    refine wp_append_src _ _ _ _ (by rfl) wr.heap.size 3 i1 _ 1 8 Try.underlying22 hi1.out hy0 hy1 hy2 rfl (by omega) (.slice (some ⟨wr.heap.size, 0, none⟩) 0 0) 0 [] (by rfl) hown0.out (fun q => q = w.heap.size + 1) (some ⟨w.heap.size + 1, 0, none⟩) p.init.length p.init.length (idsL p.init.length) (by rfl) (by rw [idsL_len]; omega) hids.out (by have : maxLen = 9223372036854775807 := rfl; omega) (by omega) (by simp) ?_
                    intro A3 c3 w2 hown2 hgr2 _
                    obtain ⟨q1, rfl, hq1, hrow2, hlow2, hc3, hq1l⟩ := l4_view (w := wr.drew) (by omega) hown2 hgr2
                    have hz2 : wr.heap.size ≤ w2.heap.size := hlow2.size
                    have R2 := hide (R0.out.next hlow2)
                    clear hown2 hgr2
                    have V2 := hide (V0.out.next hlow2)
                    have H2 := hide (H0.out.keep (fun b _ h2 h3 => hlow2.block b (by exact h3)))
                    have R3 := hide (R2.out.alloc (Obj.cells #[.slice (some ⟨q1, 0, none⟩) p.init.length c3] 69))
                    have V3 := hide (V2.out.alloc (Obj.cells #[.slice (some ⟨q1, 0, none⟩) p.init.length c3] 69))
                    have H3 := hide (H2.out.keep (fun b _ h2 h3 => (below1 w2 (Obj.cells #[.slice (some ⟨q1, 0, none⟩) p.init.length c3] 69)).block b h3))
                    have hnew : (w2.alloc (Obj.cells #[.slice (some ⟨q1, 0, none⟩) p.init.length c3] 69)).heap[w2.heap.size]? = some (.cells #[.slice (some ⟨q1, 0, none⟩) p.init.length c3] 69 (0, 0)) := heap_alloc_new w2 _
                    replace hnew := hide hnew
                    have r3 := hide (show (RowD.mk q1 (q1 + 1) (some ⟨q1, 0, none⟩) p.init.length c3 (idsL p.init.length)).at_ 3 (w2.alloc (Obj.cells #[.slice (some ⟨q1, 0, none⟩) p.init.length c3] 69)) from ⟨.inr ⟨q1, c3, rfl, hrow2.below (below1 w2 _), Nat.le_refl _⟩, fun b hb => by simp [Value.ownBlock] at hb; show b < q1 + 1; omega⟩)
                    have f2 : w2.cell? ⟨g, 6, none⟩ = some vv := R2.out.blk.cell 6
                    have f3 : (w2.alloc (Obj.cells #[.slice (some ⟨q1, 0, none⟩) p.init.length c3] 69)).cell? ⟨g, 6, none⟩ = some vv := R3.out.blk.cell 6
                    clear hrow2
                    refine hK.out _ _ ?_ (fun hHeldN => ?_)
                    · exact hC.out _ _ R2.out
                    clear hK K hHeld
                    have hHeld := hHeldN
                    clear hHeldN
                    try simp only [Act.put, qa, qb, qc]
                    refine wpAnyH_take (i := 8) (oi := { dst := some 64, op := Op.build 69 #[(0, Operand.tmp 63)], type := 69, pos := "l04_view.go:63", after := #[{ on := 7, ground := Ground.data }], guard := none }) (v := ?_) rfl (by kernel_rfl) (by kernel_rfl) (by kernel_rfl) (fun _ _ _ h => h) (Or.inl ⟨by rfl, ?_⟩) hHeld ?_
                    rotate_left
                    · (intro wq hSw; (try dsimp only at hSw); first | (go_simp; done) | (go_simp; with_reducible rfl))
                    try simp only [Act.put, qa, qb, qc]
                    refine wpAnyH_ready (rs := [9]) (by kernel_rfl) (by simp) ?_
                    refine AllReadyH.cons (o := { dst := some 65, op := Op.buildSlice 44 1 #[(0, Operand.tmp 64)], type := 44, pos := "l04_view.go:63", after := #[{ on := 8, ground := Ground.data }], guard := none }) rfl (fun K hK => ?_) (AllReadyH.nil)
                    · go_simp
                      refine hK.out _ _ ?_ (fun hHeldN => ?_)
                      · exact hC.out _ _ R3.out
                      clear hK K hHeld
                      have hHeld := hHeldN
                      clear hHeldN
                      try simp only [Act.put, qa, qb, qc]
                      refine wpAnyH_ready (rs := [10]) (by kernel_rfl) (by simp) ?_
                      refine AllReadyH.cons (o := { dst := some 66, op := Op.call { callee := Callee.builtin Builtin.append, args := #[Operand.tmp 60, Operand.tmp 65], argTypes := #[44, 44] }, type := 44, pos := "l04_view.go:63", after := #[{ on := 4, ground := Ground.data }, { on := 9, ground := Ground.data }, { on := 7, ground := Ground.chain }], guard := none }) rfl (fun K hK => ?_) (AllReadyH.nil)
                      · rw [if_pos (by rfl)]
                        refine wp_append_lies _ _ _ _ (by rfl) hm 69 i3 _ 1 24 Try.underlying44 hi3.out hf0 hf1 hf2 rfl (by omega) vv rs.length (rs.map RowD.val) (by rfl) V3.out.own ⟨w2.heap.size, 0, none⟩ 1 1 [.slice (some ⟨q1, 0, none⟩) p.init.length c3] (by rfl) (by rfl) (World.news_of_block hnew.out) (by simp [Value.oneCell']) (by omega) (by have : maxLen = 9223372036854775807 := rfl; omega) (by omega) (by simp; omega) _ (by rfl) ?_
                        intro gg cap w5 hown5 hgr5 hat hlt5
                        have V5 := hide (V3.out.more (by decide) r3.out (by show hm ≤ q1; have := hq1; exact Nat.le_trans hmw hq1) (fun j hj => Nat.le_trans (V0.out.rng j hj).2 hq1) (by show q1 + 1 ≤ _; simp; omega) rfl hown5 hgr5)
                        have R5 := hide (R3.out.grown V3.out.own (by exact hmB) hgr5)
                        have H5 := hide (H3.out.keep (fun b _ h2 h3 => hgr5.block b h3 (fun e => by have := (own_lt V3.out.own e.symm).1; have h2' : b < hm := h2; omega)))
                        have f5 : w5.cell? ⟨g, 6, none⟩ = some vv := R5.out.blk.cell 6
                        have z5 := R5.out.blk.frozen 6
                        have l5 := R5.out.blk.lt
                        have hz5 := hgr5.size
                        clear hown5 hgr5 hat
                        refine hK.out _ _ ?_ (fun hHeldN => ?_)
                        · exact hC.out _ _ R5.out
                        clear hK K hHeld
                        have hHeld := hHeldN
                        clear hHeldN
                        try simp only [Act.put, qa, qb, qc]
                        refine wpAnyH_take (i := 11) (oi := { dst := some 67, op := Op.nilCheck (Operand.tmp 56), type := 0, pos := "l04_view.go:63", after := #[{ on := 0, ground := Ground.data }, { on := 0, ground := Ground.phase }, { on := 1, ground := Ground.phase }, { on := 2, ground := Ground.phase }, { on := 3, ground := Ground.phase }, { on := 4, ground := Ground.phase }, { on := 5, ground := Ground.phase }, { on := 6, ground := Ground.phase }, { on := 7, ground := Ground.phase }, { on := 8, ground := Ground.phase }, { on := 9, ground := Ground.phase }, { on := 10, ground := Ground.phase }], guard := none }) (v := ?_) rfl (by kernel_rfl) (by kernel_rfl) (by kernel_rfl) (fun _ _ _ h => h) (Or.inl ⟨by rfl, ?_⟩) hHeld ?_
                        rotate_left
                        · (intro wq hSw; (try dsimp only at hSw); first | (go_simp; done) | (go_simp; with_reducible rfl))
                        try simp only [Act.put, qa, qb, qc]
                        refine wpAnyH_take (i := 12) (oi := { dst := some 68, op := Op.fieldAddr 48 (Operand.tmp 67) 6, type := 0, pos := "l04_view.go:63", after := #[{ on := 11, ground := Ground.data }, { on := 0, ground := Ground.phase }, { on := 1, ground := Ground.phase }, { on := 2, ground := Ground.phase }, { on := 3, ground := Ground.phase }, { on := 4, ground := Ground.phase }, { on := 5, ground := Ground.phase }, { on := 6, ground := Ground.phase }, { on := 7, ground := Ground.phase }, { on := 8, ground := Ground.phase }, { on := 9, ground := Ground.phase }, { on := 10, ground := Ground.phase }], guard := none }) (v := ?_) rfl (by kernel_rfl) (by kernel_rfl) (by kernel_rfl) (fun _ _ _ h => h) (Or.inl ⟨by rfl, ?_⟩) hHeld ?_
                        rotate_left
                        · (intro wq hSw; (try dsimp only at hSw); first | (go_simp; done) | (go_simp; with_reducible rfl))
                        try simp only [Act.put, qa, qb, qc]
                        refine wpAnyH_ready (rs := [13]) (by kernel_rfl) (by simp) ?_
                        refine AllReadyH.cons (o := { dst := none, op := Op.store 44 (Operand.tmp 68) (Operand.tmp 66), type := 0, pos := "l04_view.go:63", after := #[{ on := 12, ground := Ground.data }, { on := 10, ground := Ground.data }, { on := 10, ground := Ground.chain }, { on := 0, ground := Ground.phase }, { on := 1, ground := Ground.phase }, { on := 2, ground := Ground.phase }, { on := 3, ground := Ground.phase }, { on := 4, ground := Ground.phase }, { on := 5, ground := Ground.phase }, { on := 6, ground := Ground.phase }, { on := 7, ground := Ground.phase }, { on := 8, ground := Ground.phase }, { on := 9, ground := Ground.phase }, { on := 10, ground := Ground.phase }], guard := none }) rfl (fun K hK => ?_) (AllReadyH.nil)
                        · go_simp
                          refine hK.out _ _ ?_ (fun hHeldN => ?_)
                          · exact hC.out _ _ (R5.out.set 6 _)
                          clear hK K hHeld
                          have hHeld := hHeldN
                          clear hHeldN
                          try simp only [Act.put, qa, qb, qc]
                          refine wpAnyH_done (by kernel_rfl) ?_ _
                          have R6 := hide (show L4C w g n p.init.length (l4cs kv pv fv (.slice A5 p.init.length c5) (.slice (some ⟨gg, 0, none⟩) (rs.length + 1) cap) (.slice none 0 0) (.int .i64 0)) #[.slice (some ⟨bi, oi, none⟩) p.init.length c1, .slice A2 p.ts.length c2] _ from R5.out.set 6 (.slice (some ⟨gg, 0, none⟩) (rs.length + 1) cap))
                          have V6 := hide (V5.out.setCell (p := ⟨g, 6, none⟩) (by show g < hm; omega) (.slice (some ⟨gg, 0, none⟩) (rs.length + 1) cap))
                          have H6 := hide (H5.out.keep (fun b h1 _ _ => Below.heap_setCell w5 ⟨g, 6, none⟩ (.slice (some ⟨gg, 0, none⟩) (rs.length + 1) cap) b (by have h1' : w.heap.size + 1 + 1 ≤ b := h1; show b ≠ g; omega)))
                          go_wp2_with fail
                          go_roundw
                          case rel => exact ⟨_, _, by simp; omega, by simp, R6.out, H6.out, V6.out, hide (fun j hj => by
                            rcases getr_snoc rs _ j hj with ⟨hj', e⟩ | ⟨-, e⟩
                            · rw [e]; exact hall.out j hj'
                            · rw [e]; exact ⟨rfl, rfl⟩), by simp at hz5 ⊢; omega⟩
                          case measure => simp [intOf]; omega
              · go_simp
                refine hK.out _ _ ?_ (fun hHeldN => ?_)
                · exact hC.out _ _ R1.out
                clear hK K hHeld
                have hHeld := hHeldN
                clear hHeldN
                try simp only [Act.put, qa, qb, qc]
                refine wpAnyH_ready (rs := [4, 7]) (by kernel_rfl) (by simp) ?_
                refine AllReadyH.cons (o := { dst := some 60, op := Op.load 44 (Operand.tmp 59), type := 44, pos := "l04_view.go:63", after := #[{ on := 3, ground := Ground.data }], guard := none }) rfl (fun K hK => ?_) (AllReadyH.cons (o := { dst := some 63, op := Op.call { callee := Callee.builtin Builtin.append, args := #[Operand.tmp 61, Operand.tmp 62], argTypes := #[22, 22] }, type := 22, pos := "l04_view.go:63", after := #[{ on := 5, ground := Ground.data }, { on := 6, ground := Ground.data }], guard := none }) rfl (fun K hK => ?_) (AllReadyH.nil))
                · go_simp
                  refine hK.out _ _ ?_ (fun hHeldN => ?_)
                  · exact hHeld
                  clear hK K hHeld
                  have hHeld := hHeldN
                  clear hHeldN
                  try simp only [Act.put, qa, qb, qc]
                  refine wpAnyH_ready (rs := [7]) (by kernel_rfl) (by simp) ?_
                  refine AllReadyH.cons (o := { dst := some 63, op := Op.call { callee := Callee.builtin Builtin.append, args := #[Operand.tmp 61, Operand.tmp 62], argTypes := #[22, 22] }, type := 22, pos := "l04_view.go:63", after := #[{ on := 5, ground := Ground.data }, { on := 6, ground := Ground.data }], guard := none }) rfl (fun K hK => ?_) (AllReadyH.nil)
                  · rw [if_pos (by rfl)]
                    refine wp_append_src _ _ _ _ (by rfl) wr.heap.size 3 i1 _ 1 8 Try.underlying22 hi1.out hy0 hy1 hy2 rfl (by omega) (.slice (some ⟨wr.heap.size, 0, none⟩) 0 0) 0 [] (by rfl) hown0.out (fun q => q = w.heap.size + 1) (some ⟨w.heap.size + 1, 0, none⟩) p.init.length p.init.length (idsL p.init.length) (by rfl) (by rw [idsL_len]; omega) hids.out (by have : maxLen = 9223372036854775807 := rfl; omega) (by omega) (by simp) ?_
                    intro A3 c3 w2 hown2 hgr2 _
                    obtain ⟨q1, rfl, hq1, hrow2, hlow2, hc3, hq1l⟩ := l4_view (w := wr.drew) (by omega) hown2 hgr2
                    have hz2 : wr.heap.size ≤ w2.heap.size := hlow2.size
                    have R2 := hide (R0.out.next hlow2)
                    clear hown2 hgr2
                    have V2 := hide (V0.out.next hlow2)
                    have H2 := hide (H0.out.keep (fun b _ h2 h3 => hlow2.block b (by exact h3)))
                    have R3 := hide (R2.out.alloc (Obj.cells #[.slice (some ⟨q1, 0, none⟩) p.init.length c3] 69))
                    have V3 := hide (V2.out.alloc (Obj.cells #[.slice (some ⟨q1, 0, none⟩) p.init.length c3] 69))
                    have H3 := hide (H2.out.keep (fun b _ h2 h3 => (below1 w2 (Obj.cells #[.slice (some ⟨q1, 0, none⟩) p.init.length c3] 69)).block b h3))
                    have hnew : (w2.alloc (Obj.cells #[.slice (some ⟨q1, 0, none⟩) p.init.length c3] 69)).heap[w2.heap.size]? = some (.cells #[.slice (some ⟨q1, 0, none⟩) p.init.length c3] 69 (0, 0)) := heap_alloc_new w2 _
                    replace hnew := hide hnew
                    have r3 := hide (show (RowD.mk q1 (q1 + 1) (some ⟨q1, 0, none⟩) p.init.length c3 (idsL p.init.length)).at_ 3 (w2.alloc (Obj.cells #[.slice (some ⟨q1, 0, none⟩) p.init.length c3] 69)) from ⟨.inr ⟨q1, c3, rfl, hrow2.below (below1 w2 _), Nat.le_refl _⟩, fun b hb => by simp [Value.ownBlock] at hb; show b < q1 + 1; omega⟩)
                    have f2 : w2.cell? ⟨g, 6, none⟩ = some vv := R2.out.blk.cell 6
                    have f3 : (w2.alloc (Obj.cells #[.slice (some ⟨q1, 0, none⟩) p.init.length c3] 69)).cell? ⟨g, 6, none⟩ = some vv := R3.out.blk.cell 6
                    clear hrow2
                    refine hK.out _ _ ?_ (fun hHeldN => ?_)
                    · exact hC.out _ _ R2.out
                    clear hK K hHeld
                    have hHeld := hHeldN
                    clear hHeldN
                    try simp only [Act.put, qa, qb, qc]
                    refine wpAnyH_take (i := 8) (oi := { dst := some 64, op := Op.build 69 #[(0, Operand.tmp 63)], type := 69, pos := "l04_view.go:63", after := #[{ on := 7, ground := Ground.data }], guard := none }) (v := ?_) rfl (by kernel_rfl) (by kernel_rfl) (by kernel_rfl) (fun _ _ _ h => h) (Or.inl ⟨by rfl, ?_⟩) hHeld ?_
                    rotate_left
                    · (intro wq hSw; (try dsimp only at hSw); first | (go_simp; done) | (go_simp; with_reducible rfl))
                    try simp only [Act.put, qa, qb, qc]
                    refine wpAnyH_ready (rs := [9]) (by kernel_rfl) (by simp) ?_
                    refine AllReadyH.cons (o := { dst := some 65, op := Op.buildSlice 44 1 #[(0, Operand.tmp 64)], type := 44, pos := "l04_view.go:63", after := #[{ on := 8, ground := Ground.data }], guard := none }) rfl (fun K hK => ?_) (AllReadyH.nil)
                    · go_simp
                      refine hK.out _ _ ?_ (fun hHeldN => ?_)
                      · exact hC.out _ _ R3.out
                      clear hK K hHeld
                      have hHeld := hHeldN
                      clear hHeldN
                      try simp only [Act.put, qa, qb, qc]
                      refine wpAnyH_ready (rs := [10]) (by kernel_rfl) (by simp) ?_
                      refine AllReadyH.cons (o := { dst := some 66, op := Op.call { callee := Callee.builtin Builtin.append, args := #[Operand.tmp 60, Operand.tmp 65], argTypes := #[44, 44] }, type := 44, pos := "l04_view.go:63", after := #[{ on := 4, ground := Ground.data }, { on := 9, ground := Ground.data }, { on := 7, ground := Ground.chain }], guard := none }) rfl (fun K hK => ?_) (AllReadyH.nil)
                      · rw [if_pos (by rfl)]
                        refine wp_append_lies _ _ _ _ (by rfl) hm 69 i3 _ 1 24 Try.underlying44 hi3.out hf0 hf1 hf2 rfl (by omega) vv rs.length (rs.map RowD.val) (by rfl) V3.out.own ⟨w2.heap.size, 0, none⟩ 1 1 [.slice (some ⟨q1, 0, none⟩) p.init.length c3] (by rfl) (by rfl) (World.news_of_block hnew.out) (by simp [Value.oneCell']) (by omega) (by have : maxLen = 9223372036854775807 := rfl; omega) (by omega) (by simp; omega) _ (by rfl) ?_
                        intro gg cap w5 hown5 hgr5 hat hlt5
                        have V5 := hide (V3.out.more (by decide) r3.out (by show hm ≤ q1; have := hq1; exact Nat.le_trans hmw hq1) (fun j hj => Nat.le_trans (V0.out.rng j hj).2 hq1) (by show q1 + 1 ≤ _; simp; omega) rfl hown5 hgr5)
                        have R5 := hide (R3.out.grown V3.out.own (by exact hmB) hgr5)
                        have H5 := hide (H3.out.keep (fun b _ h2 h3 => hgr5.block b h3 (fun e => by have := (own_lt V3.out.own e.symm).1; have h2' : b < hm := h2; omega)))
                        have f5 : w5.cell? ⟨g, 6, none⟩ = some vv := R5.out.blk.cell 6
                        have z5 := R5.out.blk.frozen 6
                        have l5 := R5.out.blk.lt
                        have hz5 := hgr5.size
                        clear hown5 hgr5 hat
                        refine hK.out _ _ ?_ (fun hHeldN => ?_)
                        · exact hC.out _ _ R5.out
                        clear hK K hHeld
                        have hHeld := hHeldN
                        clear hHeldN
                        try simp only [Act.put, qa, qb, qc]
                        refine wpAnyH_take (i := 11) (oi := { dst := some 67, op := Op.nilCheck (Operand.tmp 56), type := 0, pos := "l04_view.go:63", after := #[{ on := 0, ground := Ground.data }, { on := 0, ground := Ground.phase }, { on := 1, ground := Ground.phase }, { on := 2, ground := Ground.phase }, { on := 3, ground := Ground.phase }, { on := 4, ground := Ground.phase }, { on := 5, ground := Ground.phase }, { on := 6, ground := Ground.phase }, { on := 7, ground := Ground.phase }, { on := 8, ground := Ground.phase }, { on := 9, ground := Ground.phase }, { on := 10, ground := Ground.phase }], guard := none }) (v := ?_) rfl (by kernel_rfl) (by kernel_rfl) (by kernel_rfl) (fun _ _ _ h => h) (Or.inl ⟨by rfl, ?_⟩) hHeld ?_
                        rotate_left
                        · (intro wq hSw; (try dsimp only at hSw); first | (go_simp; done) | (go_simp; with_reducible rfl))
                        try simp only [Act.put, qa, qb, qc]
                        refine wpAnyH_take (i := 12) (oi := { dst := some 68, op := Op.fieldAddr 48 (Operand.tmp 67) 6, type := 0, pos := "l04_view.go:63", after := #[{ on := 11, ground := Ground.data }, { on := 0, ground := Ground.phase }, { on := 1, ground := Ground.phase }, { on := 2, ground := Ground.phase }, { on := 3, ground := Ground.phase }, { on := 4, ground := Ground.phase }, { on := 5, ground := Ground.phase }, { on := 6, ground := Ground.phase }, { on := 7, ground := Ground.phase }, { on := 8, ground := Ground.phase }, { on := 9, ground := Ground.phase }, { on := 10, ground := Ground.phase }], guard := none }) (v := ?_) rfl (by kernel_rfl) (by kernel_rfl) (by kernel_rfl) (fun _ _ _ h => h) (Or.inl ⟨by rfl, ?_⟩) hHeld ?_
                        rotate_left
                        · (intro wq hSw; (try dsimp only at hSw); first | (go_simp; done) | (go_simp; with_reducible rfl))
                        try simp only [Act.put, qa, qb, qc]
                        refine wpAnyH_ready (rs := [13]) (by kernel_rfl) (by simp) ?_
                        refine AllReadyH.cons (o := { dst := none, op := Op.store 44 (Operand.tmp 68) (Operand.tmp 66), type := 0, pos := "l04_view.go:63", after := #[{ on := 12, ground := Ground.data }, { on := 10, ground := Ground.data }, { on := 10, ground := Ground.chain }, { on := 0, ground := Ground.phase }, { on := 1, ground := Ground.phase }, { on := 2, ground := Ground.phase }, { on := 3, ground := Ground.phase }, { on := 4, ground := Ground.phase }, { on := 5, ground := Ground.phase }, { on := 6, ground := Ground.phase }, { on := 7, ground := Ground.phase }, { on := 8, ground := Ground.phase }, { on := 9, ground := Ground.phase }, { on := 10, ground := Ground.phase }], guard := none }) rfl (fun K hK => ?_) (AllReadyH.nil)
                        · go_simp
                          refine hK.out _ _ ?_ (fun hHeldN => ?_)
                          · exact hC.out _ _ (R5.out.set 6 _)
                          clear hK K hHeld
                          have hHeld := hHeldN
                          clear hHeldN
                          try simp only [Act.put, qa, qb, qc]
                          refine wpAnyH_done (by kernel_rfl) ?_ _
                          have R6 := hide (show L4C w g n p.init.length (l4cs kv pv fv (.slice A5 p.init.length c5) (.slice (some ⟨gg, 0, none⟩) (rs.length + 1) cap) (.slice none 0 0) (.int .i64 0)) #[.slice (some ⟨bi, oi, none⟩) p.init.length c1, .slice A2 p.ts.length c2] _ from R5.out.set 6 (.slice (some ⟨gg, 0, none⟩) (rs.length + 1) cap))
                          have V6 := hide (V5.out.setCell (p := ⟨g, 6, none⟩) (by show g < hm; omega) (.slice (some ⟨gg, 0, none⟩) (rs.length + 1) cap))
                          have H6 := hide (H5.out.keep (fun b h1 _ _ => Below.heap_setCell w5 ⟨g, 6, none⟩ (.slice (some ⟨gg, 0, none⟩) (rs.length + 1) cap) b (by have h1' : w.heap.size + 1 + 1 ≤ b := h1; show b ≠ g; omega)))
                          go_wp2_with fail
                          go_roundw
                          case rel => exact ⟨_, _, by simp; omega, by simp, R6.out, H6.out, V6.out, hide (fun j hj => by
                            rcases getr_snoc rs _ j hj with ⟨hj', e⟩ | ⟨-, e⟩
                            · rw [e]; exact hall.out j hj'
                            · rw [e]; exact ⟨rfl, rfl⟩), by simp at hz5 ⊢; omega⟩
                          case measure => simp [intOf]; omega
                · rw [if_pos (by rfl)]
                  refine wp_append_src _ _ _ _ (by rfl) wr.heap.size 3 i1 _ 1 8 Try.underlying22 hi1.out hy0 hy1 hy2 rfl (by omega) (.slice (some ⟨wr.heap.size, 0, none⟩) 0 0) 0 [] (by rfl) hown0.out (fun q => q = w.heap.size + 1) (some ⟨w.heap.size + 1, 0, none⟩) p.init.length p.init.length (idsL p.init.length) (by rfl) (by rw [idsL_len]; omega) hids.out (by have : maxLen = 9223372036854775807 := rfl; omega) (by omega) (by simp) ?_
                  intro A3 c3 w2 hown2 hgr2 _
                  obtain ⟨q1, rfl, hq1, hrow2, hlow2, hc3, hq1l⟩ := l4_view (w := wr.drew) (by omega) hown2 hgr2
                  have hz2 : wr.heap.size ≤ w2.heap.size := hlow2.size
                  have R2 := hide (R0.out.next hlow2)
                  clear hown2 hgr2
                  have V2 := hide (V0.out.next hlow2)
                  have H2 := hide (H0.out.keep (fun b _ h2 h3 => hlow2.block b (by exact h3)))
                  have R3 := hide (R2.out.alloc (Obj.cells #[.slice (some ⟨q1, 0, none⟩) p.init.length c3] 69))
                  have V3 := hide (V2.out.alloc (Obj.cells #[.slice (some ⟨q1, 0, none⟩) p.init.length c3] 69))
                  have H3 := hide (H2.out.keep (fun b _ h2 h3 => (below1 w2 (Obj.cells #[.slice (some ⟨q1, 0, none⟩) p.init.length c3] 69)).block b h3))
                  have hnew : (w2.alloc (Obj.cells #[.slice (some ⟨q1, 0, none⟩) p.init.length c3] 69)).heap[w2.heap.size]? = some (.cells #[.slice (some ⟨q1, 0, none⟩) p.init.length c3] 69 (0, 0)) := heap_alloc_new w2 _
                  replace hnew := hide hnew
                  have r3 := hide (show (RowD.mk q1 (q1 + 1) (some ⟨q1, 0, none⟩) p.init.length c3 (idsL p.init.length)).at_ 3 (w2.alloc (Obj.cells #[.slice (some ⟨q1, 0, none⟩) p.init.length c3] 69)) from ⟨.inr ⟨q1, c3, rfl, hrow2.below (below1 w2 _), Nat.le_refl _⟩, fun b hb => by simp [Value.ownBlock] at hb; show b < q1 + 1; omega⟩)
                  have f2 : w2.cell? ⟨g, 6, none⟩ = some vv := R2.out.blk.cell 6
                  have f3 : (w2.alloc (Obj.cells #[.slice (some ⟨q1, 0, none⟩) p.init.length c3] 69)).cell? ⟨g, 6, none⟩ = some vv := R3.out.blk.cell 6
                  clear hrow2
                  refine hK.out _ _ ?_ (fun hHeldN => ?_)
                  · exact hC.out _ _ R2.out
                  clear hK K hHeld
                  have hHeld := hHeldN
                  clear hHeldN
                  try simp only [Act.put, qa, qb, qc]
                  refine wpAnyH_take (i := 8) (oi := { dst := some 64, op := Op.build 69 #[(0, Operand.tmp 63)], type := 69, pos := "l04_view.go:63", after := #[{ on := 7, ground := Ground.data }], guard := none }) (v := ?_) rfl (by kernel_rfl) (by kernel_rfl) (by kernel_rfl) (fun _ _ _ h => h) (Or.inl ⟨by rfl, ?_⟩) hHeld ?_
                  rotate_left
                  · (intro wq hSw; (try dsimp only at hSw); first | (go_simp; done) | (go_simp; with_reducible rfl))
                  try simp only [Act.put, qa, qb, qc]
                  refine wpAnyH_ready (rs := [4, 9]) (by kernel_rfl) (by simp) ?_
                  refine AllReadyH.cons (o := { dst := some 60, op := Op.load 44 (Operand.tmp 59), type := 44, pos := "l04_view.go:63", after := #[{ on := 3, ground := Ground.data }], guard := none }) rfl (fun K hK => ?_) (AllReadyH.cons (o := { dst := some 65, op := Op.buildSlice 44 1 #[(0, Operand.tmp 64)], type := 44, pos := "l04_view.go:63", after := #[{ on := 8, ground := Ground.data }], guard := none }) rfl (fun K hK => ?_) (AllReadyH.nil))
                  · go_simp
                    refine hK.out _ _ ?_ (fun hHeldN => ?_)
                    · exact hHeld
                    clear hK K hHeld
                    have hHeld := hHeldN
                    clear hHeldN
                    try simp only [Act.put, qa, qb, qc]
                    refine wpAnyH_ready (rs := [9]) (by kernel_rfl) (by simp) ?_
                    refine AllReadyH.cons (o := { dst := some 65, op := Op.buildSlice 44 1 #[(0, Operand.tmp 64)], type := 44, pos := "l04_view.go:63", after := #[{ on := 8, ground := Ground.data }], guard := none }) rfl (fun K hK => ?_) (AllReadyH.nil)
                    · go_simp
                      refine hK.out _ _ ?_ (fun hHeldN => ?_)
                      · exact hC.out _ _ R3.out
                      clear hK K hHeld
                      have hHeld := hHeldN
                      clear hHeldN
                      try simp only [Act.put, qa, qb, qc]
                      refine wpAnyH_ready (rs := [10]) (by kernel_rfl) (by simp) ?_
                      refine AllReadyH.cons (o := { dst := some 66, op := Op.call { callee := Callee.builtin Builtin.append, args := #[Operand.tmp 60, Operand.tmp 65], argTypes := #[44, 44] }, type := 44, pos := "l04_view.go:63", after := #[{ on := 4, ground := Ground.data }, { on := 9, ground := Ground.data }, { on := 7, ground := Ground.chain }], guard := none }) rfl (fun K hK => ?_) (AllReadyH.nil)
                      · rw [if_pos (by rfl)]
                        refine wp_append_lies _ _ _ _ (by rfl) hm 69 i3 _ 1 24 Try.underlying44 hi3.out hf0 hf1 hf2 rfl (by omega) vv rs.length (rs.map RowD.val) (by rfl) V3.out.own ⟨w2.heap.size, 0, none⟩ 1 1 [.slice (some ⟨q1, 0, none⟩) p.init.length c3] (by rfl) (by rfl) (World.news_of_block hnew.out) (by simp [Value.oneCell']) (by omega) (by have : maxLen = 9223372036854775807 := rfl; omega) (by omega) (by simp; omega) _ (by rfl) ?_
                        intro gg cap w5 hown5 hgr5 hat hlt5
                        have V5 := hide (V3.out.more (by decide) r3.out (by show hm ≤ q1; have := hq1; exact Nat.le_trans hmw hq1) (fun j hj => Nat.le_trans (V0.out.rng j hj).2 hq1) (by show q1 + 1 ≤ _; simp; omega) rfl hown5 hgr5)
                        have R5 := hide (R3.out.grown V3.out.own (by exact hmB) hgr5)
                        have H5 := hide (H3.out.keep (fun b _ h2 h3 => hgr5.block b h3 (fun e => by have := (own_lt V3.out.own e.symm).1; have h2' : b < hm := h2; omega)))
                        have f5 : w5.cell? ⟨g, 6, none⟩ = some vv := R5.out.blk.cell 6
                        have z5 := R5.out.blk.frozen 6
                        have l5 := R5.out.blk.lt
                        have hz5 := hgr5.size
                        clear hown5 hgr5 hat
                        refine hK.out _ _ ?_ (fun hHeldN => ?_)
                        · exact hC.out _ _ R5.out
                        clear hK K hHeld
                        have hHeld := hHeldN
                        clear hHeldN
                        try simp only [Act.put, qa, qb, qc]
                        refine wpAnyH_take (i := 11) (oi := { dst := some 67, op := Op.nilCheck (Operand.tmp 56), type := 0, pos := "l04_view.go:63", after := #[{ on := 0, ground := Ground.data }, { on := 0, ground := Ground.phase }, { on := 1, ground := Ground.phase }, { on := 2, ground := Ground.phase }, { on := 3, ground := Ground.phase }, { on := 4, ground := Ground.phase }, { on := 5, ground := Ground.phase }, { on := 6, ground := Ground.phase }, { on := 7, ground := Ground.phase }, { on := 8, ground := Ground.phase }, { on := 9, ground := Ground.phase }, { on := 10, ground := Ground.phase }], guard := none }) (v := ?_) rfl (by kernel_rfl) (by kernel_rfl) (by kernel_rfl) (fun _ _ _ h => h) (Or.inl ⟨by rfl, ?_⟩) hHeld ?_
                        rotate_left
                        · (intro wq hSw; (try dsimp only at hSw); first | (go_simp; done) | (go_simp; with_reducible rfl))
                        try simp only [Act.put, qa, qb, qc]
                        refine wpAnyH_take (i := 12) (oi := { dst := some 68, op := Op.fieldAddr 48 (Operand.tmp 67) 6, type := 0, pos := "l04_view.go:63", after := #[{ on := 11, ground := Ground.data }, { on := 0, ground := Ground.phase }, { on := 1, ground := Ground.phase }, { on := 2, ground := Ground.phase }, { on := 3, ground := Ground.phase }, { on := 4, ground := Ground.phase }, { on := 5, ground := Ground.phase }, { on := 6, ground := Ground.phase }, { on := 7, ground := Ground.phase }, { on := 8, ground := Ground.phase }, { on := 9, ground := Ground.phase }, { on := 10, ground := Ground.phase }], guard := none }) (v := ?_) rfl (by kernel_rfl) (by kernel_rfl) (by kernel_rfl) (fun _ _ _ h => h) (Or.inl ⟨by rfl, ?_⟩) hHeld ?_
                        rotate_left
                        · (intro wq hSw; (try dsimp only at hSw); first | (go_simp; done) | (go_simp; with_reducible rfl))
                        try simp only [Act.put, qa, qb, qc]
                        refine wpAnyH_ready (rs := [13]) (by kernel_rfl) (by simp) ?_
                        refine AllReadyH.cons (o := { dst := none, op := Op.store 44 (Operand.tmp 68) (Operand.tmp 66), type := 0, pos := "l04_view.go:63", after := #[{ on := 12, ground := Ground.data }, { on := 10, ground := Ground.data }, { on := 10, ground := Ground.chain }, { on := 0, ground := Ground.phase }, { on := 1, ground := Ground.phase }, { on := 2, ground := Ground.phase }, { on := 3, ground := Ground.phase }, { on := 4, ground := Ground.phase }, { on := 5, ground := Ground.phase }, { on := 6, ground := Ground.phase }, { on := 7, ground := Ground.phase }, { on := 8, ground := Ground.phase }, { on := 9, ground := Ground.phase }, { on := 10, ground := Ground.phase }], guard := none }) rfl (fun K hK => ?_) (AllReadyH.nil)
                        · go_simp
                          refine hK.out _ _ ?_ (fun hHeldN => ?_)
                          · exact hC.out _ _ (R5.out.set 6 _)
                          clear hK K hHeld
                          have hHeld := hHeldN
                          clear hHeldN
                          try simp only [Act.put, qa, qb, qc]
                          refine wpAnyH_done (by kernel_rfl) ?_ _
                          have R6 := hide (show L4C w g n p.init.length (l4cs kv pv fv (.slice A5 p.init.length c5) (.slice (some ⟨gg, 0, none⟩) (rs.length + 1) cap) (.slice none 0 0) (.int .i64 0)) #[.slice (some ⟨bi, oi, none⟩) p.init.length c1, .slice A2 p.ts.length c2] _ from R5.out.set 6 (.slice (some ⟨gg, 0, none⟩) (rs.length + 1) cap))
                          have V6 := hide (V5.out.setCell (p := ⟨g, 6, none⟩) (by show g < hm; omega) (.slice (some ⟨gg, 0, none⟩) (rs.length + 1) cap))
                          have H6 := hide (H5.out.keep (fun b h1 _ _ => Below.heap_setCell w5 ⟨g, 6, none⟩ (.slice (some ⟨gg, 0, none⟩) (rs.length + 1) cap) b (by have h1' : w.heap.size + 1 + 1 ≤ b := h1; show b ≠ g; omega)))
                          go_wp2_with fail
                          go_roundw
                          case rel => exact ⟨_, _, by simp; omega, by simp, R6.out, H6.out, V6.out, hide (fun j hj => by
                            rcases getr_snoc rs _ j hj with ⟨hj', e⟩ | ⟨-, e⟩
                            · rw [e]; exact hall.out j hj'
                            · rw [e]; exact ⟨rfl, rfl⟩), by simp at hz5 ⊢; omega⟩
                          case measure => simp [intOf]; omega
                  · go_simp
                    refine hK.out _ _ ?_ (fun hHeldN => ?_)
                    · exact hC.out _ _ R3.out
                    clear hK K hHeld
                    have hHeld := hHeldN
                    clear hHeldN
                    try simp only [Act.put, qa, qb, qc]
                    refine wpAnyH_ready (rs := [4]) (by kernel_rfl) (by simp) ?_
                    refine AllReadyH.cons (o := { dst := some 60, op := Op.load 44 (Operand.tmp 59), type := 44, pos := "l04_view.go:63", after := #[{ on := 3, ground := Ground.data }], guard := none }) rfl (fun K hK => ?_) (AllReadyH.nil)
                    · go_simp
                      refine hK.out _ _ ?_ (fun hHeldN => ?_)
                      · exact hHeld
                      clear hK K hHeld
                      have hHeld := hHeldN
                      clear hHeldN
                      try simp only [Act.put, qa, qb, qc]
                      refine wpAnyH_ready (rs := [10]) (by kernel_rfl) (by simp) ?_
                      refine AllReadyH.cons (o := { dst := some 66, op := Op.call { callee := Callee.builtin Builtin.append, args := #[Operand.tmp 60, Operand.tmp 65], argTypes := #[44, 44] }, type := 44, pos := "l04_view.go:63", after := #[{ on := 4, ground := Ground.data }, { on := 9, ground := Ground.data }, { on := 7, ground := Ground.chain }], guard := none }) rfl (fun K hK => ?_) (AllReadyH.nil)
                      · rw [if_pos (by rfl)]
                        refine wp_append_lies _ _ _ _ (by rfl) hm 69 i3 _ 1 24 Try.underlying44 hi3.out hf0 hf1 hf2 rfl (by omega) vv rs.length (rs.map RowD.val) (by rfl) V3.out.own ⟨w2.heap.size, 0, none⟩ 1 1 [.slice (some ⟨q1, 0, none⟩) p.init.length c3] (by rfl) (by rfl) (World.news_of_block hnew.out) (by simp [Value.oneCell']) (by omega) (by have : maxLen = 9223372036854775807 := rfl; omega) (by omega) (by simp; omega) _ (by rfl) ?_
                        intro gg cap w5 hown5 hgr5 hat hlt5
                        have V5 := hide (V3.out.more (by decide) r3.out (by show hm ≤ q1; have := hq1; exact Nat.le_trans hmw hq1) (fun j hj => Nat.le_trans (V0.out.rng j hj).2 hq1) (by show q1 + 1 ≤ _; simp; omega) rfl hown5 hgr5)
                        have R5 := hide (R3.out.grown V3.out.own (by exact hmB) hgr5)
                        have H5 := hide (H3.out.keep (fun b _ h2 h3 => hgr5.block b h3 (fun e => by have := (own_lt V3.out.own e.symm).1; have h2' : b < hm := h2; omega)))
                        have f5 : w5.cell? ⟨g, 6, none⟩ = some vv := R5.out.blk.cell 6
                        have z5 := R5.out.blk.frozen 6
                        have l5 := R5.out.blk.lt
                        have hz5 := hgr5.size
                        clear hown5 hgr5 hat
                        refine hK.out _ _ ?_ (fun hHeldN => ?_)
                        · exact hC.out _ _ R5.out
                        clear hK K hHeld
                        have hHeld := hHeldN
                        clear hHeldN
                        try simp only [Act.put, qa, qb, qc]
                        refine wpAnyH_take (i := 11) (oi := { dst := some 67, op := Op.nilCheck (Operand.tmp 56), type := 0, pos := "l04_view.go:63", after := #[{ on := 0, ground := Ground.data }, { on := 0, ground := Ground.phase }, { on := 1, ground := Ground.phase }, { on := 2, ground := Ground.phase }, { on := 3, ground := Ground.phase }, { on := 4, ground := Ground.phase }, { on := 5, ground := Ground.phase }, { on := 6, ground := Ground.phase }, { on := 7, ground := Ground.phase }, { on := 8, ground := Ground.phase }, { on := 9, ground := Ground.phase }, { on := 10, ground := Ground.phase }], guard := none }) (v := ?_) rfl (by kernel_rfl) (by kernel_rfl) (by kernel_rfl) (fun _ _ _ h => h) (Or.inl ⟨by rfl, ?_⟩) hHeld ?_
                        rotate_left
                        · (intro wq hSw; (try dsimp only at hSw); first | (go_simp; done) | (go_simp; with_reducible rfl))
                        try simp only [Act.put, qa, qb, qc]
                        refine wpAnyH_take (i := 12) (oi := { dst := some 68, op := Op.fieldAddr 48 (Operand.tmp 67) 6, type := 0, pos := "l04_view.go:63", after := #[{ on := 11, ground := Ground.data }, { on := 0, ground := Ground.phase }, { on := 1, ground := Ground.phase }, { on := 2, ground := Ground.phase }, { on := 3, ground := Ground.phase }, { on := 4, ground := Ground.phase }, { on := 5, ground := Ground.phase }, { on := 6, ground := Ground.phase }, { on := 7, ground := Ground.phase }, { on := 8, ground := Ground.phase }, { on := 9, ground := Ground.phase }, { on := 10, ground := Ground.phase }], guard := none }) (v := ?_) rfl (by kernel_rfl) (by kernel_rfl) (by kernel_rfl) (fun _ _ _ h => h) (Or.inl ⟨by rfl, ?_⟩) hHeld ?_
                        rotate_left
                        · (intro wq hSw; (try dsimp only at hSw); first | (go_simp; done) | (go_simp; with_reducible rfl))
                        try simp only [Act.put, qa, qb, qc]
                        refine wpAnyH_ready (rs := [13]) (by kernel_rfl) (by simp) ?_
                        refine AllReadyH.cons (o := { dst := none, op := Op.store 44 (Operand.tmp 68) (Operand.tmp 66), type := 0, pos := "l04_view.go:63", after := #[{ on := 12, ground := Ground.data }, { on := 10, ground := Ground.data }, { on := 10, ground := Ground.chain }, { on := 0, ground := Ground.phase }, { on := 1, ground := Ground.phase }, { on := 2, ground := Ground.phase }, { on := 3, ground := Ground.phase }, { on := 4, ground := Ground.phase }, { on := 5, ground := Ground.phase }, { on := 6, ground := Ground.phase }, { on := 7, ground := Ground.phase }, { on := 8, ground := Ground.phase }, { on := 9, ground := Ground.phase }, { on := 10, ground := Ground.phase }], guard := none }) rfl (fun K hK => ?_) (AllReadyH.nil)
                        · go_simp
                          refine hK.out _ _ ?_ (fun hHeldN => ?_)
                          · exact hC.out _ _ (R5.out.set 6 _)
                          clear hK K hHeld
                          have hHeld := hHeldN
                          clear hHeldN
                          try simp only [Act.put, qa, qb, qc]
                          refine wpAnyH_done (by kernel_rfl) ?_ _
                          have R6 := hide (show L4C w g n p.init.length (l4cs kv pv fv (.slice A5 p.init.length c5) (.slice (some ⟨gg, 0, none⟩) (rs.length + 1) cap) (.slice none 0 0) (.int .i64 0)) #[.slice (some ⟨bi, oi, none⟩) p.init.length c1, .slice A2 p.ts.length c2] _ from R5.out.set 6 (.slice (some ⟨gg, 0, none⟩) (rs.length + 1) cap))
                          have V6 := hide (V5.out.setCell (p := ⟨g, 6, none⟩) (by show g < hm; omega) (.slice (some ⟨gg, 0, none⟩) (rs.length + 1) cap))
                          have H6 := hide (H5.out.keep (fun b h1 _ _ => Below.heap_setCell w5 ⟨g, 6, none⟩ (.slice (some ⟨gg, 0, none⟩) (rs.length + 1) cap) b (by have h1' : w.heap.size + 1 + 1 ≤ b := h1; show b ≠ g; omega)))
                          go_wp2_with fail
                          go_roundw
                          case rel => exact ⟨_, _, by simp; omega, by simp, R6.out, H6.out, V6.out, hide (fun j hj => by
                            rcases getr_snoc rs _ j hj with ⟨hj', e⟩ | ⟨-, e⟩
                            · rw [e]; exact hall.out j hj'
                            · rw [e]; exact ⟨rfl, rfl⟩), by simp at hz5 ⊢; omega⟩
                          case measure => simp [intOf]; omega
            · obtain hre : rs.length = p.ts.length := by omega
              obtain ⟨A6, c6, rfl, hrow⟩ := hVr.toI (Nat.le_refl _)
              rw [hre] at hRr
              have z7 := hRr.blk.frozen 7
              have z8 := hRr.blk.frozen 8
              have f7 : wr.cell? ⟨g, 7, none⟩ = some (.slice none 0 0) := hRr.blk.cell 7
              have f8 : wr.cell? ⟨g, 8, none⟩ = some (.int .i64 0) := hRr.blk.cell 8
              have lr : g < wr.heap.size := hRr.blk.lt
              have R1 := hide (hRr.set 7 (.slice (some ⟨w.heap.size + 1, 0, none⟩) p.init.length p.init.length))
              have R2 := hide (R1.out.set 8 (.int .i64 (p.init.length : Int)))
              have hkp := hide (fun (b : Nat) (hb : b ≠ g) => show ((wr.setCell ⟨g, 7, none⟩ (.slice (some ⟨w.heap.size + 1, 0, none⟩) p.init.length p.init.length)).setCell ⟨g, 8, none⟩ (.int .i64 (p.init.length : Int))).heap[b]? = wr.heap[b]? from (Below.heap_setCell _ _ _ _ (by exact hb)).trans (Below.heap_setCell _ _ _ _ (by exact hb)))
              have H2 := hide (hHr.keep (fun b (h1 : w.heap.size + 1 + 1 ≤ b) _ _ => hkp.out b (by omega)))
              have V2 := hide (hrow.keep (fun b h1 _ _ => hkp.out b (by omega)))
              clear hRr hHr hrow hVr R1
              go_wp2_with fail
              first | refine bodyPost_end (results_none rfl _ _ _) rfl ?_ | refine bodyPost_ret (results_none rfl _ _ _) rfl ?_
              exact ⟨rfl, A5, A6, c5, c6, hm, los, his, pq, qs, rs, R2.out.only, R2.out.blk, R2.out.ids, H2.out, by simpa [World.setCell] using V2.out, hre, hall.out, hmB, by simpa [World.setCell] using hmw⟩
end Go.Proofs.Ytfkaacfeikmabaa
