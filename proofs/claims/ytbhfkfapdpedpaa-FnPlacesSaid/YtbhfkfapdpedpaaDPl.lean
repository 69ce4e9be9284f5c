/- DrawPlaceOf, DrawReadable: a history and a number drawn. -/
import Derived.Test.YtbhfkfapdpedpaaL4d
import Derived.Test.YtbhfkfapdpedpaaBeG
namespace Go.Proofs.Ytbhfkfapdpedpaa
open Go.RowKit

attribute [local go_sem ↓] Go.wp_at_zero Go.wp_at_succ

theorem PostsAt.drewp {w : World} {S : Nat → Prop} {A : Option Addr} {l : List PostD} (h : PostsAt w S A l) : PostsAt w.drew S A l := h
/-- What a draw holds beside a cursor: the result's cell, the drawn history's box, the posts. -/
structure DpAt (w0 : World) (g T lo hi c : Nat) (A : Option Addr) (l : List PostD) (u : Value) (w : World) : Prop where
  cur : Cur w g
  res : Blk w w0.heap.size 45 #[u]
  box : Blk w T 45 #[.slice A l.length c]
  row : PostsAt w (New lo hi) A l
  base : Below w0.heap.size w0 w
  glt : w0.heap.size < g
  gT : g < T
  glo : g < lo
  hiw : hi ≤ w.heap.size
section
variable {w0 w w' : World} {g T lo hi c : Nat} {A : Option Addr} {l : List PostD} {u : Value}
theorem DpAt.drew (h : DpAt w0 g T lo hi c A l u w) : DpAt w0 g T lo hi c A l u w.drew := ⟨h.cur, h.res, h.box, h.row, h.base.drew, h.glt, h.gT, h.glo, h.hiw⟩
theorem DpAt.call (h : DpAt w0 g T lo hi c A l u w) (hc : Cur w' g) (ho : Only g w w') : DpAt w0 g T lo hi c A l u w' := by
  have hk : ∀ b o, New lo hi b → w'.cell? ⟨b, o, none⟩ = w.cell? ⟨b, o, none⟩ := fun b o hb => ho.cell (Nat.lt_of_lt_of_le hb.2 h.hiw) (by have := hb.1; have := h.glo; omega)
  exact ⟨hc, h.res.only ho (by have := h.glt; omega), h.box.only ho (by have := h.gT; omega), h.row.keep hk (fun _ h => h), h.base.trans (ho.toBelow (by have := h.glt; omega) h.base.size), h.glt, h.gT, h.glo, Nat.le_trans h.hiw ho.size⟩
theorem DpAt.cells (h : DpAt w0 g T lo hi c A l u w) : (w.cell? ⟨T, 0, none⟩ = some (.slice A l.length c) ∧ w.frozen? ⟨T, 0, none⟩ = false) ∧ (w.cell? ⟨w0.heap.size, 0, none⟩ = some u ∧ w.frozen? ⟨w0.heap.size, 0, none⟩ = false) ∧ T < w.heap.size ∧ w0.heap.size < T := ⟨⟨h.box.cell 0, h.box.frozen 0⟩, ⟨h.res.cell 0, h.res.frozen 0⟩, h.box.lt, by have := h.glt; have := h.gT; omega⟩
theorem l1Below_dp (m : Int) (hm : 1 ≤ m) (hm2 : m ≤ 100) (h : DpAt w0 g T lo hi c A l u w) :
    Calls Try.prog 76 #[.pointer (some ⟨g, 0, none⟩), .int .i64 m] w fun e w' => ∃ x : Int, e = .returned (.int .i64 x) ∧ (0 ≤ x ∧ x < m) ∧ DpAt w0 g T lo hi c A l u w' := by
  refine (l1Below_any g m w (by omega) (by omega) h.cur).mono ?_
  rintro e w' ⟨x, rfl, hx, hc, ho⟩
  exact ⟨x, rfl, belowP hx (by omega), h.call hc ho⟩
end

/-- What DrawPlaceOf hands back. -/
def PlaceDrawn (w w' : World) (e : Ending) : Prop := ∃ A c, ∃ l : List PostD, ∃ x : Int, e = .returned (.tuple #[.agg #[.slice A l.length c], .int .i64 x]) ∧ (1 ≤ l.length ∧ l.length ≤ 5 ∧ l.length ≤ c) ∧ (∀ d ∈ l, SmallP d) ∧ PostsAt w' (New w.heap.size w'.heap.size) A l ∧ (-1 ≤ x ∧ x < 11) ∧ Below w.heap.size w w'

set_option maxRecDepth 100000 in
set_option maxHeartbeats 3200000 in
theorem drawPlaceOf_any (A : Option Addr) (n c : Nat) (w : World) (hn : n ≤ c) (ha : BytesAt w (Old w.heap.size) A n) :
    Calls Try.prog 108 #[.slice A n c] w fun e w' => PlaceDrawn w w' e := by
  have hb0 := below1 w (Obj.cells #[Value.slice none 0 0] 45)
  have R0 := hide (Blk.new w 45 #[Value.slice none 0 0])
  have ha0 := ha.old hb0 (by simp)
  replace hb0 := hide hb0
  go_enter Try.func108, Try.ntmps108
  go_wp2_with fail
  refine (l1New_any A n c _ hn ha0).mono ?_
  rintro e w1 ⟨g, rfl, hg0, hc1, hb1⟩
  simp only [World.size_alloc] at hg0
  have B1 := hide (below_step hb1)
  have R1 := hide (R0.out.below hb1 (by simp))
  clear hb1 ha0 ha hb0 R0
  go_wp2_with fail
  refine (l4hist_any g w1 hc1).mono ?_
  rintro e w2 ⟨A2, c2, l, rfl, hz, hsm, hi, -, hc2, ho2⟩
  have hgl := hc1.lt
  obtain ⟨w3, hw3⟩ : ∃ w3, w3 = w2.alloc (Obj.cells #[Value.slice A2 l.length c2] 45) := ⟨_, rfl⟩
  have hb3 : Below w2.heap.size w2 w3 := by rw [hw3]; exact below1 _ _
  have H3 := hide (show DpAt w g w2.heap.size w1.heap.size w2.heap.size c2 A2 l (.slice none 0 0) w3 from by
    have hlt : g < w2.heap.size := hc2.lt
    exact ⟨hc2.below (hb3.mono (by omega)), (R1.out.only ho2 (by omega)).below hb3 (by omega), by rw [hw3]; exact Blk.new _ _ _, hi.below hb3 (fun _ h => h.2), (B1.out.trans (ho2.toBelow (by omega) B1.out.size)).trans (hb3.mono (by omega)), by omega, hlt, by omega, hb3.size⟩)
  replace hz := hide hz
  replace hsm := hide hsm
  clear hi hc2 ho2 hc1 R1 B1
  go_wp2_with fail
  rw [← hw3]
  clear hw3 hb3
  obtain ⟨⟨t0, t1⟩, ⟨r0, r1⟩, tl, rl⟩ := H3.out.cells
  replace H3 := hide H3.out.drew
  go_region_law (first
    | (go_simp; refine (l1Below_dp 12 (by omega) (by omega) (by assumption : DpAt w g w2.heap.size w1.heap.size w2.heap.size c2 A2 l (.slice none 0 0) _)).mono ?_; rintro e w6 ⟨y, rfl, hy, H6⟩; obtain ⟨⟨u0, u1⟩, ⟨v0, v1⟩, ul, vl⟩ := H6.cells; have hw : IntKind.i64.wrap (y - 1) = y - 1 := (by rw [IntKind.wrap_i64]; omega); go_simp)
    | fail)
  all_goals
    have K := hide H6
    clear H6
    go_wp2_with fail
    refine bodyPost_ret (v := .tuple #[.agg #[.slice A2 l.length c2], .int .i64 (y - 1)]) (by simp [results, Try.results108, go_sem, v0]; done) rfl ⟨A2, c2, l, y - 1, rfl, hz.out, hsm.out, ?_, by omega, ?_⟩
    · exact (K.out.row.set (p := ⟨w.heap.size, 0, none⟩) _ (fun h => by have h1 : w1.heap.size ≤ w.heap.size := h.1; omega)).more (fun b h => by have h1 := h.2; have h0 := h.1; have h2 := K.out.hiw; refine ⟨by omega, ?_⟩; simp only [World.size_setCell]; omega)
    · exact K.out.base.setCell (p := ⟨w.heap.size, 0, none⟩) (Nat.le_refl _) _

set_option maxRecDepth 100000 in
set_option maxHeartbeats 3200000 in
theorem drawReadable_any (A : Option Addr) (n c : Nat) (w : World) (hn : n ≤ c) (ha : BytesAt w (Old w.heap.size) A n) :
    Calls Try.prog 35 #[.slice A n c] w fun e w' => PlaceDrawn w w' e := by
  have hb0 := below1 w (Obj.cells #[Value.slice none 0 0] 45)
  have R0 := hide (Blk.new w 45 #[Value.slice none 0 0])
  have ha0 := ha.old hb0 (by simp)
  replace hb0 := hide hb0
  have kD := hide (drawPlaceOf_any A n c _ hn ha0)
  clear ha ha0
  go_enter Try.func35, Try.ntmps35
  go_wp2_with fail
  refine kD.out.mono ?_
  rintro e w1 ⟨A2, c2, l, x, rfl, hz, hsm, hi, hx, hb⟩
  simp only [World.size_alloc] at hi
  have R1 := R0.out.below hb (by simp)
  have r0 := R1.cell 0
  have r1 := R1.frozen 0
  simp only [List.getElem?_toArray, List.getElem?_cons_zero] at r0
  have hb1 := hide (below_then hb0.out hb)
  replace hz := hide hz
  replace hsm := hide hsm
  replace hi := hide hi
  clear R1 R0 hb kD hb0
  go_wp2_with fail
  refine bodyPost_ret (v := .tuple #[.agg #[.slice A2 l.length c2], .int .i64 x]) (by simp [results, Try.results35, go_sem, r0]; done) rfl ⟨A2, c2, l, x, rfl, hz.out, hsm.out, ?_, hx, hb1.out.setCell (p := ⟨w.heap.size, 0, none⟩) (Nat.le_refl _) _⟩
  exact (hi.out.set (p := ⟨w.heap.size, 0, none⟩) _ (fun h => by have h1 : w.heap.size + 1 ≤ w.heap.size := h.1; omega)).more (fun b h => ⟨by have := h.1; omega, by simpa using h.2⟩)
end Go.Proofs.Ytbhfkfapdpedpaa
