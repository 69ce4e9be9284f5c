/- l3draw: a buffer and a memory drawn. -/
import Derived.Test.YtmfjdmhcpgljbaaEx
import Derived.Test.YtmfjdmhcpgljbaaDThr
import Derived.Deep.RegionLaw
import Derived.Deep.DrawnRows
import Derived.Deep.DeepCutAuto
namespace Go.Proofs.Ytmfjdmhcpgljbaa
open Go.RowKit

attribute [local go_sem ↓] Go.wp_at_zero Go.wp_at_succ

/-- A buffer in the making: its cell in block T, the memory's row behind it, its own row behind that. -/
structure L3At (g : Nat) (w0 : World) (T n : Nat) (zs : List Int) (v : Value) (w : World) : Prop where
  cur : Cur w g
  only : Only g w0 w
  blk : Blk w T 54 #[v]
  mem : Blk w (T + 1) 3 #[.int .i64 1, .int .i64 2, .int .i64 3]
  own : w.ownsRow (T + 1 + 1) 62 2 v n (zs.map (Value.int .i64))
  lo : w0.heap.size + 1 = T
  out : ∃ u, Blk w w0.heap.size 54 #[u]

section
variable {g T n : Nat} {w0 w w' : World} {zs : List Int} {v : Value}
theorem L3At.cell (h : L3At g w0 T n zs v w) : w.cell? ⟨T, 0, none⟩ = some v := h.blk.cell 0
theorem L3At.frozen (h : L3At g w0 T n zs v w) : w.frozen? ⟨T, 0, none⟩ = false := h.blk.frozen 0
theorem L3At.call (h : L3At g w0 T n zs v w) (hg : g < w0.heap.size) (hc : Cur w' g) (ho : Only g w w') : L3At g w0 T n zs v w' :=
  ⟨hc, h.only.trans ho, h.blk.only ho (by have := h.lo; omega), h.mem.only ho (by have := h.lo; omega), own_keep h.own (fun b hb hlt => ho.block b hlt (by have := h.lo; omega)), h.lo, h.out.imp fun _ k => k.only ho (by omega)⟩
theorem L3At.drew (h : L3At g w0 T n zs v w) : L3At g w0 T n zs v w.drew := ⟨h.cur, h.only.drew, h.blk, h.mem, h.own, h.lo, h.out⟩
theorem L3At.alloc (h : L3At g w0 T n zs v w) (o : Obj) : L3At g w0 T n zs v (w.alloc o) :=
  ⟨h.cur.alloc o, h.only.alloc o, h.blk.alloc o, h.mem.alloc o, own_keep h.own (fun b _ hlt => Below.heap_alloc w o b hlt), h.lo, h.out.imp fun _ k => k.alloc o⟩
theorem L3At.far (h : L3At g w0 T n zs v w) {b : Nat} (hb : b ≤ T + 1) : some b ≠ v.ownBlock := by
  rcases h.own.2 with ⟨rfl, _⟩ | ⟨q, cap, cur, rfl, hq, _⟩
  · simp [Value.ownBlock]
  · simp only [Value.ownBlock, ne_eq, Option.some.injEq]; omega
/-- Behind an append onto its row, whatever that has come to be. -/
theorem L3At.grow (h : L3At g w0 T n zs v w) (hw : g < w0.heap.size) {w1 : World} {r : Option Nat} {v' : Value} {n' : Nat} {zs' : List Int} (ho : w1.ownsRow (T + 1 + 1) 62 2 v' n' (zs'.map (Value.int .i64))) (hgr : w.grownBy w1 r) (hr : ∀ b, b ≤ T + 1 → some b ≠ r) :
    (w1.cell? ⟨T, 0, none⟩ = some v ∧ w1.frozen? ⟨T, 0, none⟩ = false) ∧ L3At g w0 T n' zs' v' (w1.setCell ⟨T, 0, none⟩ v') := by
  have hT := h.blk.lt
  have hM := h.mem.lt
  have hlo := h.lo
  have hB : Blk w1 T 54 #[v] := (hgr.block T hT (hr T (by omega))).trans h.blk
  have hM1 : Blk w1 (T + 1) 3 _ := (hgr.block (T + 1) hM (hr _ (by omega))).trans h.mem
  have hbel : Below (g + 1) w w1 := ⟨hgr.os, hgr.tape, hgr.output, hgr.size, fun k hk => hgr.block k (by omega) (hr k (by omega))⟩
  refine ⟨⟨hB.cell 0, hB.frozen 0⟩, ⟨(h.cur.below hbel).setCell (by show g < T; omega) _, ?_, hB.set_ 0 v', hM1.far (p := ⟨T, 0, none⟩) (by show T + 1 ≠ T; omega) _, ?_, h.lo, h.out.imp fun _ k => Blk.far ((hgr.block w0.heap.size (Blk.lt k) (hr _ (by omega))).trans k) (by show w0.heap.size ≠ T; omega) _⟩⟩
  · refine Only.setCell ?_ (.inr (by show w0.heap.size ≤ T; omega)) _
    have hz := h.only.size
    exact ⟨hgr.os.trans h.only.os, hgr.tape.trans h.only.tape, hgr.output.trans h.only.output, Nat.le_trans h.only.size hgr.size, fun k hk hk2 => (hgr.block k (by omega) (hr k (by omega))).trans (h.only.block k hk hk2)⟩
  · exact own_keep ho (fun b hb _ => Below.heap_setCell w1 ⟨T, 0, none⟩ v' b (by show b ≠ T; omega))
theorem l1Below_l3 (m : Int) (hm : 1 ≤ m) (hm2 : m ≤ 100) (hg : g < w0.heap.size) (h : L3At g w0 T n zs v w) :
    Calls Try.prog 58 #[.pointer (some ⟨g, 0, none⟩), .int .i64 m] w fun e w' => ∃ x : Int, e = .returned (.int .i64 x) ∧ (0 ≤ x ∧ x < m) ∧ L3At g w0 T n zs v w' ∧ w'.cell? ⟨T, 0, none⟩ = some v ∧ w'.frozen? ⟨T, 0, none⟩ = false := by
  refine (l1Below_any g m w (by omega) (by omega) h.cur).mono ?_
  rintro e w' ⟨x, rfl, hx, hc, ho⟩
  have k := h.call hg hc ho
  exact ⟨x, rfl, belowP hx (by omega), k, k.cell, k.frozen⟩
end

/-- What l3draw hands back. -/
def L3Drawn (g : Nat) (w w' : World) (e : Ending) : Prop := ∃ A n c D m d, ∃ zs ms : List Int, e = .returned (.tuple #[.agg #[.slice A n c], .slice D m d]) ∧ (zs.length = n * 2 ∧ n ≤ 7 ∧ n ≤ c) ∧ (ms.length = m ∧ m ≤ 3 ∧ m ≤ d) ∧ IntsAt w' (New w.heap.size w'.heap.size) A zs ∧ IntsAt w' (New w.heap.size w'.heap.size) D ms ∧ Cur w' g ∧ Only g w w'

theorem l3_end {g n : Nat} {w0 w : World} {zs : List Int} {A : Option Addr} {c m d : Nat} {T : Nat} {u : Value} (hg : g < w0.heap.size) (h : L3At g w0 (w0.heap.size + 1) n zs (.slice A n c) w) (hn : n ≤ 7) (hT : T = w0.heap.size) (hm : m ≤ 3) (hmd : m ≤ d) :
    L3Drawn g w0 (w.setCell ⟨T, 0, none⟩ u) (.returned (.tuple #[.agg #[.slice A n c], .slice (some ⟨w0.heap.size + 1 + 1, 0, none⟩) m d])) := by
  subst hT
  have hlt := h.mem.lt
  have hown := h.own
  have hi := (RvT.of_own hown).intsN (by have h1 := hown.1; simp at h1; omega) rfl
  refine ⟨A, n, c, _, m, d, zs, ([1, 2, 3] : List Int).take m, rfl, ⟨by have h1 := hown.1; simpa using h1, hn, own_cap hown⟩, ⟨by simp; omega, hm, hmd⟩, ?_, ?_, h.cur.setCell (by show g < w0.heap.size; omega) _, h.only.setCell (.inr (Nat.le_refl _)) _⟩
  · exact (hi.set (p := ⟨w0.heap.size, 0, none⟩) u (fun h => by have h1 : w0.heap.size + 1 + 1 + 1 ≤ w0.heap.size := h.1; omega)).more (fun b h => ⟨by have := h.1; omega, by simpa using h.2⟩)
  · refine ⟨by simp; omega, fun hl => ⟨_, 0, rfl, ⟨by omega, by simp; omega⟩, fun k hk => ?_⟩⟩
    have hk3 : k < 3 := by simp at hk; omega
    have hkm : k < m := by simp at hk; omega
    rw [Nat.zero_add, (h.mem.far (p := ⟨w0.heap.size, 0, none⟩) (by show w0.heap.size + 1 + 1 ≠ w0.heap.size; omega) u).cell]
    unfold geti
    rw [List.getD_eq_getElem?_getD, List.getElem?_take_of_lt hkm]
    match k, hk3 with
    | 0, _ => rfl
    | 1, _ => rfl
    | 2, _ => rfl

set_option maxRecDepth 100000 in
set_option maxHeartbeats 3200000 in
theorem l3draw_any (g : Nat) (w : World) (hc : Cur w g) :
    Calls Try.prog 83 #[.pointer (some ⟨g, 0, none⟩)] w fun e w' => L3Drawn g w w' e := by
  have hg := hc.lt
  obtain ⟨i0, hi0, hz0, hz1, hz2⟩ := info_parts Try.infoWait
  have hi0 := hide hi0
  have ht : L3At g w (w.heap.size + 1) 0 [] (.slice none 0 0) (((w.alloc (Obj.cells #[Value.slice none 0 0] 54)).alloc (Obj.cells #[Value.slice none 0 0] 54)).alloc (Obj.cells #[Value.int .i64 1, Value.int .i64 2, Value.int .i64 3] 3)) :=
    ⟨((hc.alloc _).alloc _).alloc _, (((Only.refl g w).alloc _).alloc _).alloc _, by have := (Blk.new (w.alloc (Obj.cells #[Value.slice none 0 0] 54)) 54 #[Value.slice none 0 0]).alloc (Obj.cells #[Value.int .i64 1, Value.int .i64 2, Value.int .i64 3] 3); simpa using this, by have := Blk.new ((w.alloc (Obj.cells #[Value.slice none 0 0] 54)).alloc (Obj.cells #[Value.slice none 0 0] 54)) 3 #[Value.int .i64 1, Value.int .i64 2, Value.int .i64 3]; simpa using this, ⟨rfl, .inl ⟨rfl, rfl⟩⟩, rfl, ⟨_, ((Blk.new w 54 #[Value.slice none 0 0]).alloc _).alloc _⟩⟩
  clear hc
  go_enter Try.func83, Try.ntmps83
  go_wp2_with fail
  refine (l1Below_l3 6 (by omega) (by omega) hg ht).mono ?_
  rintro e w1 ⟨x, rfl, ⟨hx0, hx1⟩, ht1, hT, hF⟩
  clear ht
  have hs1 := ht1.blk.lt
  go_wp2_with fail
  go_loopw [6] (fun i wr => ∃ (r n : Nat) (zs : List Int) (v : Value), i = .int .i64 r ∧ L3At g w (w.heap.size + 1) n zs v wr ∧ r + n ≤ 5) (fun i _ => (intOf i).toNat)
  case atStart => exact ⟨x.toNat, 0, [], _, by rw [Int.toNat_of_nonneg hx0], ht1, by omega⟩
  case round =>
    clear hT hF ht1 hs1
    obtain ⟨r, n, zs, v, rfl, ht2, hrn⟩ := hrel
    have hs2 := ht2.blk.lt
    have hT2 := ht2.cell
    have hF2 := ht2.frozen
    rcases r with _ | r
    · go_wp2_with fail
      refine (l1Below_l3 10 (by omega) (by omega) hg ht2).mono ?_
      rintro e w3 ⟨y, rfl, ⟨hy0, hy1⟩, ht3, hT3, hF3⟩
      clear ht2 hT2 hF2
      have hs3 := ht3.blk.lt
      have hm3 := ht3.mem.lt
      obtain ⟨A, c, rfl⟩ := own_slice ht3.own
      have hcases : y = 0 ∨ y = 1 ∨ y = 2 ∨ (¬ y = 0 ∧ ¬ y = 1 ∧ ¬ y = 2) := by omega
      rcases hcases with rfl | rfl | rfl | ⟨h0, h1, h2⟩
      · obtain ⟨u, ho⟩ := ht3.out
        have e0 : w3.cell? ⟨w.heap.size, 0, none⟩ = some u := ho.cell 0
        have z0 := ho.frozen 0
        have K := hide ht3
        clear ht3 ho
        go_wp2_with fail
        refine bodyPost_ret (v := .tuple #[.agg #[.slice A n c], .slice (some ⟨w.heap.size + 1 + 1, 0, none⟩) 1 3]) (by simp [results, Try.results83, go_sem, e0]; done) rfl (l3_end hg K.out (by omega) rfl (by omega) (by omega))
      · have hsrc := hide (show IntsAt (w3.alloc (Obj.cells #[Value.int .i64 (-1), Value.int .i64 0] 62)) (Old (w3.heap.size + 1)) (some ⟨w3.heap.size, 0, none⟩) [-1, 0] from ⟨by simp, fun _ => ⟨_, 0, rfl, by simp [Old], fun k hk => by
          rw [(Blk.new w3 62 #[Value.int .i64 (-1), Value.int .i64 0]).cell]
          match k, hk with
          | 0, _ => rfl
          | 1, _ => rfl⟩⟩)
        have K := hide ht3
        clear ht3
        go_wp2_with (at_builtin; refine wpList_append_src _ rfl _ _ _ rfl (w.heap.size + 1 + 1 + 1) 62 i0 _ 2 16 Try.underlying52 hi0.out hz0 hz1 hz2 rfl (by omega) (.slice A n c) n (zs.map (Value.int .i64)) rfl (K.out.alloc _).own (Old (w3.heap.size + 1)) (some ⟨w3.heap.size, 0, none⟩) 1 1 [-1, 0] rfl rfl hsrc.out (by have : maxLen = 9223372036854775807 := rfl; omega) (by omega) (by simp; omega) ?_)
        intro A5 c5 w5 hown5 hgr5 _
        obtain ⟨⟨hT5, hF5⟩, ht5⟩ := L3At.grow (zs' := zs ++ [-1, 0]) (K.out.alloc _) hg (by simpa using hown5) hgr5 (fun b hb => K.out.far hb)
        clear hown5 hgr5 hT3 hF3
        obtain ⟨u, ho⟩ := ht5.out
        have e0 := ho.cell 0
        have z0 := ho.frozen 0
        simp only [List.getElem?_toArray, List.getElem?_cons_zero] at e0
        have hs5 := ht5.blk.lt
        have d0 := ht5.cell
        replace K := hide ht5
        clear ht5 ho
        go_wp2_with fail
        refine bodyPost_ret (v := .tuple #[.agg #[.slice A5 (n + 1) c5], .slice (some ⟨w.heap.size + 1 + 1, 0, none⟩) 3 3]) (by simp [results, Try.results83, go_sem, e0]; done) rfl (l3_end hg K.out (by omega) rfl (by omega) (by omega))
      · have hb3 := below1 w3 (Obj.cells #[Value.int .i64 3, Value.int .i64 0] 62)
        have hown0 := hide (own_row (w := w3) (B := w.heap.size + 1 + 1 + 1) (e := 62) (size := 2) (n := 1) (cs := #[Value.int .i64 3, Value.int .i64 0]) (by omega) (by omega) rfl)
        have hsrc := hide (((RvI.of (RvT.of_own ht3.own)).src (by have h1 := ht3.own.1; simp at h1; omega) rfl).below hb3 (fun _ h => h))
        have hzl := hide ht3.own.1
        have K := hide ht3
        clear ht3 hb3
        go_wp2_with (at_builtin; refine wpList_append_src _ rfl _ _ _ rfl (w.heap.size + 1 + 1 + 1) 62 i0 _ 2 16 Try.underlying52 hi0.out hz0 hz1 hz2 rfl (by omega) (.slice (some ⟨w3.heap.size, 0, none⟩) 1 1) 1 [Value.int .i64 3, Value.int .i64 0] rfl hown0.out (Old w3.heap.size) A n c zs rfl (by have h1 := hzl.out; simpa using h1) hsrc.out (by have : maxLen = 9223372036854775807 := rfl; omega) (by omega) (by simp; omega) ?_)
        intro A5 c5 w5 hown5 hgr5 _
        obtain ⟨⟨hT5, hF5⟩, ht5⟩ := L3At.grow (zs' := [3, 0] ++ zs) (K.out.alloc _) hg (by simpa using hown5) hgr5 (fun b hb e => by
          have e2 : b = w3.heap.size := by simpa [Value.ownBlock] using e
          omega)
        clear hown5 hgr5 hT3 hF3
        obtain ⟨u, ho⟩ := ht5.out
        have e0 := ho.cell 0
        have z0 := ho.frozen 0
        simp only [List.getElem?_toArray, List.getElem?_cons_zero] at e0
        have hs5 := ht5.blk.lt
        have d0 := ht5.cell
        replace K := hide ht5
        clear ht5 ho
        go_wp2_with fail
        refine bodyPost_ret (v := .tuple #[.agg #[.slice A5 (1 + n) c5], .slice (some ⟨w.heap.size + 1 + 1, 0, none⟩) 3 3]) (by simp [results, Try.results83, go_sem, e0]; done) rfl (l3_end hg K.out (by omega) rfl (by omega) (by omega))
      · have e0' : (y == 0) = false := by rw [beq_eq_false_iff_ne]; exact h0
        have e1' : (y == 1) = false := by rw [beq_eq_false_iff_ne]; exact h1
        have e2' : (y == 2) = false := by rw [beq_eq_false_iff_ne]; exact h2
        obtain ⟨u, ho⟩ := ht3.out
        have e0 : w3.cell? ⟨w.heap.size, 0, none⟩ = some u := ho.cell 0
        have z0 := ho.frozen 0
        have K := hide ht3
        clear ht3 ho
        go_wp2_with fail
        refine bodyPost_ret (v := .tuple #[.agg #[.slice A n c], .slice (some ⟨w.heap.size + 1 + 1, 0, none⟩) 3 3]) (by simp [results, Try.results83, go_sem, e0]; done) rfl (l3_end hg K.out (by omega) rfl (by omega) (by omega))
    · have e1 : ((r + 1 : Nat) : Int) = (r : Int) + 1 := by omega
      rw [e1]
      have hr0 : (0 : Int) < (r : Int) + 1 := by omega
      have ht3 := ht2.drew
      go_wp2_with fail
      go_region_law (first
        | (go_simp; refine (l1Below_l3 (T := w.heap.size + 1) (w0 := w) (n := n) (zs := zs) (v := v) _ (by omega) (by omega) hg (by assumption)).mono ?_; rintro e w2 ⟨y, rfl, hy, ht4, hT4, hF4⟩; have hsz2 := ht4.blk.lt; go_simp)
        | (refine step_append_lies _ (by rfl) _ _ _ (by rfl) (w.heap.size + 1 + 1 + 1) 62 i0 _ 2 16 Try.underlying52 hi0.out hz0 hz1 hz2 rfl (by omega) v n (zs.map (Value.int .i64)) (by rfl) ((by assumption : L3At g w (w.heap.size + 1) n zs v _).alloc _).own _ 1 1 _ (by rfl) ?hl (World.news_of_block (heap_alloc_new _ _)) ?h1 (by omega) ?h63 ?hby ?hb _ (by rfl) ?_
           case hl => rfl
           case h1 => simp [Value.oneCell']
           case h63 => (have : maxLen = 9223372036854775807 := rfl); omega
           case hby => omega
           case hb => simp; omega
           intro gg cap w4 hown hgrow hat hlt
           obtain ⟨⟨hT5, hF5⟩, ht5⟩ := L3At.grow (g := g) (T := w.heap.size + 1) (w0 := w) (n := n) (zs := zs) (v := v) (zs' := zs ++ [_, _]) ((by assumption : L3At g w (w.heap.size + 1) n zs v _).alloc _) hg (by simpa using hown) hgrow (fun b hb => L3At.far (by assumption : L3At g w (w.heap.size + 1) n zs v _) hb))
        | fail)
      all_goals
        go_wp2_with fail
        go_roundw
        case rel => exact ⟨r, n + 1, _, _, by simp, ht5, by omega⟩
        case measure => simp [intOf]
end Go.Proofs.Ytmfjdmhcpgljbaa
