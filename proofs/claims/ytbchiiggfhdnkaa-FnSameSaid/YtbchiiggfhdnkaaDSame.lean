/- DrawSameProg: two bent programs. -/
import Derived.Test.YtbchiiggfhdnkaaDIOk
import Derived.Test.YtbchiiggfhdnkaaOwnAt
import Derived.Test.YtbchiiggfhdnkaaOpenCode
import Derived.Deep.RegionLaw
namespace Go.Proofs.Ytbchiiggfhdnkaa
open Go.RowKit

attribute [local go_sem ↓] Go.wp_at_zero Go.wp_at_succ

/-- Two programs, read; all is new. -/
def TwoProgs (w w' : World) (e : Ending) : Prop := ∃ (v v' : Value) (p q : ProgD), e = .returned (.tuple #[v, v']) ∧ (ProgAt w' (Old w'.heap.size) v p ∧ ProgAt w' (Old w'.heap.size) v' q) ∧ (BentOk p.init p.ts ∧ BentOk q.init q.ts) ∧ Below w.heap.size w w'

theorem prog2 {w : World} {g : Nat} {a b : Value} (h : Blk w g 36 #[a, b]) : (w.cell? ⟨g, 0, none⟩ = some a ∧ w.cell? ⟨g, 1, none⟩ = some b ∧ w.frozen? ⟨g, 0, none⟩ = false ∧ w.frozen? ⟨g, 1, none⟩ = false) ∧ g < w.heap.size :=
  ⟨⟨h.cell 0, h.cell 1, h.frozen 0, h.frozen 1⟩, h.lt⟩

set_option maxRecDepth 100000 in
set_option maxHeartbeats 6400000 in
theorem drawSame_any (A : Option Addr) (n c : Nat) (w : World) (hn : n ≤ c) (ha : BytesAt w (Old w.heap.size) A n) :
    Calls Try.prog 23 #[.slice A n c] w fun e w' => TwoProgs w w' e := by
  have hb0 := below2 w (Obj.cells #[Value.slice none 0 0, Value.slice none 0 0] 36) (Obj.cells #[Value.slice none 0 0, Value.slice none 0 0] 36)
  have R0 := hide ((Blk.new w 36 #[Value.slice none 0 0, Value.slice none 0 0]).alloc (Obj.cells #[Value.slice none 0 0, Value.slice none 0 0] 36))
  have Q0 := Blk.new (w.alloc (Obj.cells #[Value.slice none 0 0, Value.slice none 0 0] 36)) 36 #[Value.slice none 0 0, Value.slice none 0 0]
  simp only [World.size_alloc] at Q0
  replace Q0 := hide Q0
  have ha0 := ha.old hb0 (by simp; omega)
  go_enter Try.func23, Try.ntmps23
  go_wp2_with fail
  refine (l1New_any A n c _ hn ha0).mono ?_
  rintro e w1 ⟨g, rfl, hg0, hc1, hb1⟩
  have hg0 : w.heap.size + 2 ≤ g := by simp only [World.size_alloc] at hg0; omega
  have B1 := hide (hb0.trans (hb1.mono (by simp; omega)))
  have R1 := hide (R0.out.below hb1 (by simp; omega))
  have Q1 := hide (Q0.out.below hb1 (by simp))
  have hg := hc1.lt
  clear ha0 hb0 hb1 R0 Q0
  go_wp2_with fail
  refine (l1bent_any g w1 hc1).mono ?_
  rintro e w2 ⟨v, tv, rfl, zs, ts, ⟨vs, hown⟩, hok, hc2, ho2⟩
  obtain ⟨A1, c1, rfl, -⟩ := own_form hown.ints
  obtain ⟨A2, c2, rfl, -⟩ := own_form hown.rows
  have hok := hide hok
  have h1 := PAt.start hc2 ho2 hown
  clear hown hc2 ho2 hc1
  have hT := h1.lo
  go_wp2_with fail
  refine (l1Once_any g 2 _ (by omega) (by omega) h1.cur).mono ?_
  rintro e w3 ⟨bb, rfl, hc3, ho3⟩
  have h2 := h1.call hg hc3 ho3
  clear h1 hc3 ho3
  have R2 := R1.out.only h2.only (by omega)
  have Q2 := Q1.out.only h2.only (by omega)
  have B2 := hide (B1.out.trans (h2.only.toBelow (by omega) B1.out.size))
  obtain ⟨⟨r0, r1, rz0, rz1⟩, rl⟩ := prog2 R2
  obtain ⟨⟨q0, q1, qz0, qz1⟩, ql⟩ := prog2 Q2
  obtain ⟨⟨t0, t1, -, -⟩, tl⟩ := prog2 h2.blk
  replace R2 := hide R2.drew
  replace Q2 := hide Q2.drew
  replace B2 := hide B2.out.drew
  have T2 := hide h2.blk.drew
  have P2 := hide (h2.own.at_.drew)
  have hc2 := hide h2.cur.drew
  replace h2 := hide h2.drew
  cases bb
  · go_wp2_with fail
    go_region_law (first
      | (go_simp; refine (l1bent_any g _ hc2.out).mono ?_; rintro e w4 ⟨v4, tv4, rfl, zs4, ts4, ⟨vs4, hown4⟩, hok4, hc4, ho4⟩; have hok4 := hide hok4; have P4 := hide hown4.at_; obtain ⟨A4, c4, rfl, -⟩ := own_form hown4.ints; obtain ⟨A5, c5, rfl, -⟩ := own_form hown4.rows; clear hown4; have B4 := hide (B2.out.trans (ho4.toBelow (by omega) B2.out.size)); have h4 := hide (h2.out.call hg hc4 ho4); have R4 := hide (R2.out.only ho4 (by omega)); have Q4 := hide (Q2.out.only ho4 (by omega)); have hz3 := h2.out.only.size; obtain ⟨⟨s0, s1, sz0, sz1⟩, sl⟩ := prog2 R4.out; obtain ⟨⟨u0, u1, uz0, uz1⟩, ul⟩ := prog2 Q4.out; obtain ⟨⟨x0, x1, -, -⟩, xl⟩ := prog2 h4.out.blk; go_simp))
    all_goals
      go_wp2_with fail
      refine bodyPost_ret (v := .tuple #[.agg #[.slice A1 zs.length c1, .slice A2 ts.length c2], .agg #[.slice A4 zs4.length c4, .slice A5 ts4.length c5]]) (by simp [results, Try.results23, go_sem, s0, s1, u0, u1]; done) rfl ⟨_, _, ⟨zs, ts⟩, ⟨zs4, ts4⟩, rfl, ⟨?_, ?_⟩, ⟨hok.out, hok4.out⟩, ?_⟩
      · refine ProgAt.more (S := New w1.heap.size w4.heap.size) ?_ (fun b h => by have := h.2; simpa [Old, World.setCell] using this)
        iterate 4 (refine ProgAt.set ?_ _ (by intro h; have h1 := h.1; simp only at h1; omega))
        exact h4.out.own.at_
      · refine ProgAt.more (S := New w3.heap.size w4.heap.size) ?_ (fun b h => by have := h.2; simpa [Old, World.setCell] using this)
        iterate 4 (refine ProgAt.set ?_ _ (by intro h; have h1 := h.1; simp only at h1; omega))
        exact P4.out
      · iterate 4 (refine Below.setCell ?_ (by first | exact Nat.le_refl _ | exact Nat.le_succ _) _)
        exact B4.out
  · go_wp2_with fail
    go_region_law (first
      | (go_simp; refine (l1New_any A n c _ hn (ha.old B2.out B2.out.size)).mono ?_; rintro e w4 ⟨g', rfl, hg4, hc4, hb4⟩; have hg4 : w3.heap.size ≤ g' := hg4; have B4 := hide (B2.out.trans (hb4.mono B2.out.size)); have R4 := hide (R2.out.below hb4 rl); have Q4 := hide (Q2.out.below hb4 ql); have T4 := hide (T2.out.below hb4 tl); have P4 := hide (P2.out.below hb4 (fun b h => h.2)); have hz4 : w3.heap.size ≤ w4.heap.size := hb4.size; obtain ⟨⟨s0, s1, sz0, sz1⟩, sl⟩ := prog2 R4.out; obtain ⟨⟨u0, u1, uz0, uz1⟩, ul⟩ := prog2 Q4.out; obtain ⟨⟨x0, x1, -, -⟩, xl⟩ := prog2 T4.out; go_simp)
      | (go_simp; refine (l1bent_any g' _ hc4).mono ?_; rintro e w5 ⟨v5, tv5, rfl, zs5, ts5, ⟨vs5, hown5⟩, hok5, hc5, ho5⟩; have hok5 := hide hok5; have P5 := hide hown5.at_; obtain ⟨A6, c6, rfl, -⟩ := own_form hown5.ints; obtain ⟨A7, c7, rfl, -⟩ := own_form hown5.rows; clear hown5; have B5 := hide (B4.out.trans (ho5.toBelow (by omega) B4.out.size)); have R5 := hide (R4.out.only ho5 (by omega)); have Q5 := hide (Q4.out.only ho5 (by omega)); have T5 := hide (T4.out.only ho5 (by omega)); have P7 := hide (P4.out.keep (S' := New w1.heap.size w5.heap.size) (fun b o h => ho5.cell (Nat.lt_of_lt_of_le h.2 hz4) (by have : b < w3.heap.size := h.2; omega)) (fun b h => ⟨h.1, Nat.lt_of_lt_of_le h.2 (Nat.le_trans hz4 ho5.size)⟩)); obtain ⟨⟨v0, v1, vz0, vz1⟩, vl⟩ := prog2 R5.out; obtain ⟨⟨y0, y1, yz0, yz1⟩, yl⟩ := prog2 Q5.out; obtain ⟨⟨z0, z1, -, -⟩, zl⟩ := prog2 T5.out; go_simp))
    all_goals
      go_wp2_with fail
      refine bodyPost_ret (v := .tuple #[.agg #[.slice A1 zs.length c1, .slice A2 ts.length c2], .agg #[.slice A6 zs5.length c6, .slice A7 ts5.length c7]]) (by simp [results, Try.results23, go_sem, v0, v1, y0, y1]; done) rfl ⟨_, _, ⟨zs, ts⟩, ⟨zs5, ts5⟩, rfl, ⟨?_, ?_⟩, ⟨hok.out, hok5.out⟩, ?_⟩
      · refine ProgAt.more (S := New w1.heap.size w5.heap.size) ?_ (fun b h => by have := h.2; simpa [Old, World.setCell] using this)
        iterate 4 (refine ProgAt.set ?_ _ (by intro h; have h1 := h.1; simp only at h1; omega))
        exact P7.out
      · refine ProgAt.more (S := New w4.heap.size w5.heap.size) ?_ (fun b h => by have := h.2; simpa [Old, World.setCell] using this)
        iterate 4 (refine ProgAt.set ?_ _ (by intro h; have h1 := h.1; simp only at h1; omega))
        exact P5.out
      · iterate 4 (refine Below.setCell ?_ (by first | exact Nat.le_refl _ | exact Nat.le_succ _) _)
        exact B5.out
end Go.Proofs.Ytbchiiggfhdnkaa
