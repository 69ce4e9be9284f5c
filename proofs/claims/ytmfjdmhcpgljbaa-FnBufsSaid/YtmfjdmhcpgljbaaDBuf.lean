/- DrawBufPut, DrawBufRead: a buffer, a memory and numbers drawn. -/
import Derived.Test.YtmfjdmhcpgljbaaL3d
import Derived.Test.YtmfjdmhcpgljbaaBeG
namespace Go.Proofs.Ytmfjdmhcpgljbaa
open Go.RowKit

attribute [local go_sem ↓] Go.wp_at_zero Go.wp_at_succ

/-- What a draw holds beside a cursor: the result's cell, the drawn buffer's box, the rows. -/
structure DbAt (w0 : World) (g T lo hi n c : Nat) (A D : Option Addr) (zs ms : List Int) (u : Value) (w : World) : Prop where
  cur : Cur w g
  res : Blk w w0.heap.size 54 #[u]
  box : Blk w T 54 #[.slice A n c]
  row : IntsAt w (New lo hi) A zs
  mem : IntsAt w (New lo hi) D ms
  base : Below w0.heap.size w0 w
  glt : w0.heap.size < g
  gT : g < T
  glo : g < lo
  hiw : hi ≤ w.heap.size
section
variable {w0 w w' : World} {g T lo hi n c : Nat} {A D : Option Addr} {zs ms : List Int} {u : Value}
theorem DbAt.drew (h : DbAt w0 g T lo hi n c A D zs ms u w) : DbAt w0 g T lo hi n c A D zs ms u w.drew := ⟨h.cur, h.res, h.box, h.row, h.mem, h.base.drew, h.glt, h.gT, h.glo, h.hiw⟩
theorem DbAt.call (h : DbAt w0 g T lo hi n c A D zs ms u w) (hc : Cur w' g) (ho : Only g w w') : DbAt w0 g T lo hi n c A D zs ms u w' := by
  have hk : ∀ b o, New lo hi b → w'.cell? ⟨b, o, none⟩ = w.cell? ⟨b, o, none⟩ := fun b o hb => ho.cell (Nat.lt_of_lt_of_le hb.2 h.hiw) (by have := hb.1; have := h.glo; omega)
  exact ⟨hc, h.res.only ho (by have := h.glt; omega), h.box.only ho (by have := h.gT; omega), h.row.keep hk (fun _ h => h), h.mem.keep hk (fun _ h => h), h.base.trans (ho.toBelow (by have := h.glt; omega) h.base.size), h.glt, h.gT, h.glo, Nat.le_trans h.hiw ho.size⟩
theorem DbAt.cells (h : DbAt w0 g T lo hi n c A D zs ms u w) : (w.cell? ⟨T, 0, none⟩ = some (.slice A n c) ∧ w.frozen? ⟨T, 0, none⟩ = false) ∧ (w.cell? ⟨w0.heap.size, 0, none⟩ = some u ∧ w.frozen? ⟨w0.heap.size, 0, none⟩ = false) ∧ T < w.heap.size ∧ w0.heap.size < T := ⟨⟨h.box.cell 0, h.box.frozen 0⟩, ⟨h.res.cell 0, h.res.frozen 0⟩, h.box.lt, by have := h.glt; have := h.gT; omega⟩
theorem l1Below_db (m : Int) (hm : 1 ≤ m) (hm2 : m ≤ 100) (h : DbAt w0 g T lo hi n c A D zs ms u w) :
    Calls Try.prog 58 #[.pointer (some ⟨g, 0, none⟩), .int .i64 m] w fun e w' => ∃ x : Int, e = .returned (.int .i64 x) ∧ (0 ≤ x ∧ x < m) ∧ DbAt w0 g T lo hi n c A D zs ms u w' := by
  refine (l1Below_any g m w (by omega) (by omega) h.cur).mono ?_
  rintro e w' ⟨x, rfl, hx, hc, ho⟩
  exact ⟨x, rfl, belowP hx (by omega), h.call hc ho⟩
end

/-- What DrawBufPut hands back. -/
def PutDrawn (w w' : World) (e : Ending) : Prop := ∃ A n c, ∃ zs : List Int, ∃ x v : Int, e = .returned (.tuple #[.agg #[.slice A n c], .int .i64 x, .int .i64 v]) ∧ (zs.length = n * 2 ∧ n ≤ 7 ∧ n ≤ c) ∧ IntsAt w' (Old w'.heap.size) A zs ∧ (0 ≤ x ∧ x < 4) ∧ (0 ≤ v ∧ v < 9) ∧ Below w.heap.size w w'

set_option maxRecDepth 100000 in
set_option maxHeartbeats 3200000 in
theorem drawBufPut_any (A : Option Addr) (n c : Nat) (w : World) (hn : n ≤ c) (ha : BytesAt w (Old w.heap.size) A n) :
    Calls Try.prog 30 #[.slice A n c] w fun e w' => PutDrawn w w' e := by
  have hb0 := below1 w (Obj.cells #[Value.slice none 0 0] 54)
  have R0 := hide (Blk.new w 54 #[Value.slice none 0 0])
  have ha0 := ha.old hb0 (by simp)
  replace hb0 := hide hb0
  go_enter Try.func30, Try.ntmps30
  go_wp2_with fail
  refine (l1New_any A n c _ hn ha0).mono ?_
  rintro e w1 ⟨g, rfl, hg0, hc1, hb1⟩
  simp only [World.size_alloc] at hg0
  have B1 := hide (below_step hb1)
  have R1 := hide (R0.out.below hb1 (by simp))
  clear hb1 ha0 ha hb0 R0
  go_wp2_with fail
  refine (l3draw_any g w1 hc1).mono ?_
  rintro e w2 ⟨A2, n2, c2, D2, m2, d2, zs, ms, rfl, hz, hm, hi, hj, hc2, ho2⟩
  have hgl := hc1.lt
  obtain ⟨w3, hw3⟩ : ∃ w3, w3 = w2.alloc (Obj.cells #[Value.slice A2 n2 c2] 54) := ⟨_, rfl⟩
  have hb3 : Below w2.heap.size w2 w3 := by rw [hw3]; exact below1 _ _
  have H3 := hide (show DbAt w g w2.heap.size w1.heap.size w2.heap.size n2 c2 A2 D2 zs ms (.slice none 0 0) w3 from by
    have hlt : g < w2.heap.size := hc2.lt
    exact ⟨hc2.below (hb3.mono (by omega)), (R1.out.only ho2 (by omega)).below hb3 (by omega), by rw [hw3]; exact Blk.new _ _ _, hi.below hb3 (fun _ h => h.2), hj.below hb3 (fun _ h => h.2), (B1.out.trans (ho2.toBelow (by omega) B1.out.size)).trans (hb3.mono (by omega)), by omega, hlt, by omega, hb3.size⟩)
  clear hi hj hc2 ho2 hc1 R1 B1
  go_wp2_with fail
  rw [← hw3]
  clear hw3 hb3
  obtain ⟨⟨t0, t1⟩, ⟨r0, r1⟩, tl, rl⟩ := H3.out.cells
  replace H3 := hide H3.out.drew
  go_region_law (first
    | (go_simp; go_at_call_of 58 ([Value.pointer (some ⟨g, 0, none⟩), Value.int .i64 4]); refine (l1Below_db 4 (by omega) (by omega) (by assumption : DbAt w g w2.heap.size w1.heap.size w2.heap.size n2 c2 A2 D2 zs ms (.slice none 0 0) _)).mono ?_; rintro e w5 ⟨y4, rfl, hy4, H5⟩; obtain ⟨⟨s0, s1⟩, ⟨q0, q1⟩, sl, ql⟩ := H5.cells; go_simp)
    | (go_simp; go_at_call_of 58 ([Value.pointer (some ⟨g, 0, none⟩), Value.int .i64 9]); refine (l1Below_db 9 (by omega) (by omega) (by assumption : DbAt w g w2.heap.size w1.heap.size w2.heap.size n2 c2 A2 D2 zs ms (.slice none 0 0) _)).mono ?_; rintro e w6 ⟨y9, rfl, hy9, H6⟩; obtain ⟨⟨u0, u1⟩, ⟨v0, v1⟩, ul, vl⟩ := H6.cells; go_simp)
    | fail)
  all_goals
    have K := hide H6
    clear H6
    go_wp2_with fail
    refine bodyPost_ret (v := .tuple #[.agg #[.slice A2 n2 c2], .int .i64 y4, .int .i64 y9]) (by simp [results, Try.results30, go_sem, v0]; done) rfl ⟨A2, n2, c2, zs, y4, y9, rfl, hz, ?_, hy4, hy9, ?_⟩
    · exact (K.out.row.set (p := ⟨w.heap.size, 0, none⟩) _ (fun h => by have h1 : w1.heap.size ≤ w.heap.size := h.1; omega)).more (fun b h => by have h1 := h.2; have h2 := K.out.hiw; show b < _; simp only [World.size_setCell]; omega)
    · exact K.out.base.setCell (p := ⟨w.heap.size, 0, none⟩) (Nat.le_refl _) _

/-- What DrawBufRead hands back. -/
def ReadDrawn (w w' : World) (e : Ending) : Prop := ∃ A n c D m d, ∃ zs ms : List Int, ∃ x : Int, e = .returned (.tuple #[.agg #[.slice A n c], .slice D m d, .int .i64 x]) ∧ (zs.length = n * 2 ∧ n ≤ 7 ∧ n ≤ c) ∧ (ms.length = m ∧ m ≤ 3 ∧ m ≤ d) ∧ IntsAt w' (Old w'.heap.size) A zs ∧ IntsAt w' (Old w'.heap.size) D ms ∧ (-1 ≤ x ∧ x < 5) ∧ Below w.heap.size w w'

set_option maxRecDepth 100000 in
set_option maxHeartbeats 3200000 in
theorem drawBufRead_any (A : Option Addr) (n c : Nat) (w : World) (hn : n ≤ c) (ha : BytesAt w (Old w.heap.size) A n) :
    Calls Try.prog 23 #[.slice A n c] w fun e w' => ReadDrawn w w' e := by
  have hb0 := below1 w (Obj.cells #[Value.slice none 0 0] 54)
  have R0 := hide (Blk.new w 54 #[Value.slice none 0 0])
  have ha0 := ha.old hb0 (by simp)
  replace hb0 := hide hb0
  go_enter Try.func23, Try.ntmps23
  go_wp2_with fail
  refine (l1New_any A n c _ hn ha0).mono ?_
  rintro e w1 ⟨g, rfl, hg0, hc1, hb1⟩
  simp only [World.size_alloc] at hg0
  have B1 := hide (below_step hb1)
  have R1 := hide (R0.out.below hb1 (by simp))
  clear hb1 ha0 ha hb0 R0
  go_wp2_with fail
  refine (l3draw_any g w1 hc1).mono ?_
  rintro e w2 ⟨A2, n2, c2, D2, m2, d2, zs, ms, rfl, hz, hm, hi, hj, hc2, ho2⟩
  have hgl := hc1.lt
  obtain ⟨w3, hw3⟩ : ∃ w3, w3 = w2.alloc (Obj.cells #[Value.slice A2 n2 c2] 54) := ⟨_, rfl⟩
  have hb3 : Below w2.heap.size w2 w3 := by rw [hw3]; exact below1 _ _
  have H3 := hide (show DbAt w g w2.heap.size w1.heap.size w2.heap.size n2 c2 A2 D2 zs ms (.slice none 0 0) w3 from by
    have hlt : g < w2.heap.size := hc2.lt
    exact ⟨hc2.below (hb3.mono (by omega)), (R1.out.only ho2 (by omega)).below hb3 (by omega), by rw [hw3]; exact Blk.new _ _ _, hi.below hb3 (fun _ h => h.2), hj.below hb3 (fun _ h => h.2), (B1.out.trans (ho2.toBelow (by omega) B1.out.size)).trans (hb3.mono (by omega)), by omega, hlt, by omega, hb3.size⟩)
  replace hz := hide hz
  replace hm := hide hm
  clear hi hj hc2 ho2 hc1 R1 B1
  go_wp2_with fail
  rw [← hw3]
  clear hw3 hb3
  obtain ⟨⟨t0, t1⟩, ⟨r0, r1⟩, tl, rl⟩ := H3.out.cells
  replace H3 := hide H3.out.drew
  go_region_law (first
    | (go_simp; refine (l1Below_db 6 (by omega) (by omega) (by assumption : DbAt w g w2.heap.size w1.heap.size w2.heap.size n2 c2 A2 D2 zs ms (.slice none 0 0) _)).mono ?_; rintro e w6 ⟨y, rfl, hy, H6⟩; obtain ⟨⟨u0, u1⟩, ⟨v0, v1⟩, ul, vl⟩ := H6.cells; have hw : IntKind.i64.wrap (y - 1) = y - 1 := (by rw [IntKind.wrap_i64]; omega); go_simp)
    | fail)
  all_goals
    have K := hide H6
    clear H6
    go_wp2_with fail
    refine bodyPost_ret (v := .tuple #[.agg #[.slice A2 n2 c2], .slice D2 m2 d2, .int .i64 (y - 1)]) (by simp [results, Try.results23, go_sem, v0]; done) rfl ⟨A2, n2, c2, D2, m2, d2, zs, ms, y - 1, rfl, hz.out, hm.out, ?_, ?_, by omega, ?_⟩
    · exact (K.out.row.set (p := ⟨w.heap.size, 0, none⟩) _ (fun h => by have h1 : w1.heap.size ≤ w.heap.size := h.1; omega)).more (fun b h => by have h1 := h.2; have h2 := K.out.hiw; show b < _; simp only [World.size_setCell]; omega)
    · exact (K.out.mem.set (p := ⟨w.heap.size, 0, none⟩) _ (fun h => by have h1 : w1.heap.size ≤ w.heap.size := h.1; omega)).more (fun b h => by have h1 := h.2; have h2 := K.out.hiw; show b < _; simp only [World.size_setCell]; omega)
    · exact K.out.base.setCell (p := ⟨w.heap.size, 0, none⟩) (Nat.le_refl _) _
end Go.Proofs.Ytmfjdmhcpgljbaa
