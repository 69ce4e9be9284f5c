/- l4hist: a history drawn. -/
import Derived.Test.YtbhfkfapdpedpaaPlD
import Derived.Test.YtbhfkfapdpedpaaDThr
import Derived.Test.YtbhfkfapdpedpaaRvT
import Derived.Deep.RegionLaw
import Derived.Deep.DrawnRows
import Derived.Deep.DeepCutAuto
namespace Go.Proofs.Ytbhfkfapdpedpaa
open Go.RowKit

attribute [local go_sem ↓] Go.wp_at_zero Go.wp_at_succ

/-- A post's cells, its view nil. -/
def postVals (d : PostD) : List Value := [.int .i64 d.id, .int .i64 d.val, .bool d.glue, .slice none 0 0]
def flatP (l : List PostD) : List Value := l.flatMap postVals
theorem flatP_snoc (l : List PostD) (d : PostD) : flatP (l ++ [d]) = flatP l ++ postVals d := by simp [flatP]
theorem flatP_get (l : List PostD) (k j : Nat) (hk : k < l.length) (hj : j < 4) : (flatP l)[k * 4 + j]? = (postVals (getp l k))[j]? := by
  induction l generalizing k with
  | nil => simp at hk
  | cons d l ih =>
    have e : flatP (d :: l) = postVals d ++ flatP l := by simp [flatP]
    rw [e]
    cases k with
    | zero =>
      rw [List.getElem?_append_left (by simp [postVals]; omega)]
      simp [getp]
    | succ k =>
      rw [List.getElem?_append_right (by simp [postVals]; omega)]
      have h2 := ih k (by simpa using hk)
      have e2 : (k + 1) * 4 + j - (postVals d).length = k * 4 + j := by simp [postVals]; omega
      rw [e2, h2]
      simp [getp]
/-- A post of a drawn history. -/
def SmallP (d : PostD) : Prop := 0 ≤ d.id ∧ d.id ≤ 10 ∧ d.view = []
theorem smallP_get {l : List PostD} (h : ∀ d ∈ l, SmallP d) {k : Nat} (hk : k < l.length) : SmallP (getp l k) := by
  unfold getp
  rw [List.getD_eq_getElem?_getD, List.getElem?_eq_getElem hk]
  exact h _ (List.getElem_mem hk)
theorem smallP_snoc {l : List PostD} {d : PostD} (h : ∀ d ∈ l, SmallP d) (hd : SmallP d) : ∀ e ∈ l ++ [d], SmallP e := by
  intro e he
  rw [List.mem_append] at he
  rcases he with he | he
  · exact h e he
  · simp at he; subst he; exact hd
theorem smallP_wf {l : List PostD} (h : ∀ d ∈ l, SmallP d) : IdsWf l := fun k hk => by
  have := smallP_get h hk
  exact WalkArith.wf_i64 ⟨by have := this.1; omega, by have := this.2.1; omega⟩
theorem own_posts {B : Nat} {w : World} {l : List PostD} {v : Value} (h : w.ownsRow B 47 4 v l.length (flatP l)) (hs : ∀ d ∈ l, SmallP d) : ∃ A c, v = .slice A l.length c ∧ l.length ≤ c ∧ PostsAt w (New B w.heap.size) A l := by
  rcases h.2 with ⟨hv, hn⟩ | ⟨q, cap, cur, hv, hq, hh, hcap, hmax, hcs, ht⟩
  · exact ⟨none, 0, by rw [hn]; exact hv, by omega, by omega, fun hl => by omega⟩
  · have hmx : maxLen = 9223372036854775807 := rfl
    have hlt : q < w.heap.size := by
      rcases Nat.lt_or_ge q w.heap.size with hlt | hge
      · exact hlt
      · rw [Array.getElem?_eq_none hge] at hh; cases hh
    refine ⟨_, _, hv, hcap, by omega, fun _ => ⟨q, 0, rfl, ⟨hq, hlt⟩, fun k hk => ?_⟩⟩
    have hc : ∀ j, j < 4 → w.cell? ⟨q, 0 + k * 4 + j, none⟩ = (postVals (getp l k))[j]? := fun j hj => by
      rw [cell_of_row w q _ cur _ (0, 0) hh, ← flatP_get l k j hk hj, ← ht, List.getElem?_take, if_pos (by omega), Array.getElem?_toList, Nat.zero_add]
    have hvw := (smallP_get hs hk).2.2
    refine ⟨none, 0, ⟨by have := hc 0 (by omega); simpa [postVals] using this, hc 1 (by omega), hc 2 (by omega), ?_⟩, by rw [hvw]; exact Nat.le_refl _, ⟨by rw [hvw]; simp, fun h => by rw [hvw] at h; simp at h⟩⟩
    rw [hvw]
    exact hc 3 (by omega)

theorem rem11_nonneg {x : Int} (h : 0 ≤ x) : 0 ≤ x.tmod 11 := Int.tmod_nonneg _ h
theorem rem11_le {x : Int} (_ : 0 ≤ x) : x.tmod 11 ≤ 10 := by
  have := Int.tmod_lt_of_pos x (show (0 : Int) < 11 by omega)
  omega
/-- A history in the making: its cell in block T, its row in a block behind. -/
structure L4At (g : Nat) (w0 : World) (T : Nat) (l : List PostD) (v : Value) (w : World) : Prop where
  cur : Cur w g
  only : Only g w0 w
  blk : Blk w T 45 #[v]
  own : w.ownsRow (T + 1) 47 4 v l.length (flatP l)
  lo : w0.heap.size + 1 = T
  out : ∃ u, Blk w w0.heap.size 45 #[u]

section
variable {g T : Nat} {w0 w w' : World} {l : List PostD} {v : Value}
theorem L4At.cell (h : L4At g w0 T l v w) : w.cell? ⟨T, 0, none⟩ = some v := h.blk.cell 0
theorem L4At.frozen (h : L4At g w0 T l v w) : w.frozen? ⟨T, 0, none⟩ = false := h.blk.frozen 0
theorem L4At.call (h : L4At g w0 T l v w) (hg : g < w0.heap.size) (hc : Cur w' g) (ho : Only g w w') : L4At g w0 T l v w' :=
  ⟨hc, h.only.trans ho, h.blk.only ho (by have := h.lo; omega), own_keep h.own (fun b hb hlt => ho.block b hlt (by have := h.lo; omega)), h.lo, h.out.imp fun _ k => k.only ho (by omega)⟩
theorem L4At.drew (h : L4At g w0 T l v w) : L4At g w0 T l v w.drew := ⟨h.cur, h.only.drew, h.blk, h.own, h.lo, h.out⟩
theorem L4At.alloc (h : L4At g w0 T l v w) (o : Obj) : L4At g w0 T l v (w.alloc o) :=
  ⟨h.cur.alloc o, h.only.alloc o, h.blk.alloc o, own_keep h.own (fun b _ hlt => Below.heap_alloc w o b hlt), h.lo, h.out.imp fun _ k => k.alloc o⟩
theorem L4At.far (h : L4At g w0 T l v w) {b : Nat} (hb : b ≤ T) : some b ≠ v.ownBlock := by
  rcases h.own.2 with ⟨rfl, _⟩ | ⟨q, cap, cur, rfl, hq, _⟩
  · simp [Value.ownBlock]
  · simp only [Value.ownBlock, ne_eq, Option.some.injEq]; omega
theorem L4At.grow (h : L4At g w0 T l v w) (hw : g < w0.heap.size) {w1 : World} {v' : Value} {d : PostD} {xs : List Value} (hxs : xs = flatP l ++ postVals d) (ho : w1.ownsRow (T + 1) 47 4 v' (l.length + 1) xs) (hgr : w.grownBy w1 v.ownBlock) :
    (w1.cell? ⟨T, 0, none⟩ = some v ∧ w1.frozen? ⟨T, 0, none⟩ = false) ∧ L4At g w0 T (l ++ [d]) v' (w1.setCell ⟨T, 0, none⟩ v') := by
  have hT := h.blk.lt
  have hlo := h.lo
  have hB : Blk w1 T 45 #[v] := (hgr.block T hT (h.far (Nat.le_refl _))).trans h.blk
  have hbel : Below (g + 1) w w1 := ⟨hgr.os, hgr.tape, hgr.output, hgr.size, fun k hk => hgr.block k (by omega) (h.far (by omega))⟩
  have hlen : (l ++ [d]).length = l.length + 1 := by simp
  refine ⟨⟨hB.cell 0, hB.frozen 0⟩, ⟨(h.cur.below hbel).setCell (by show g < T; omega) _, ?_, hB.set_ 0 v', ?_, h.lo, h.out.imp fun _ k => Blk.far ((hgr.block w0.heap.size (Blk.lt k) (h.far (by omega))).trans k) (by show w0.heap.size ≠ T; omega) _⟩⟩
  · refine Only.setCell ?_ (.inr (by show w0.heap.size ≤ T; omega)) _
    have hz := h.only.size
    exact ⟨hgr.os.trans h.only.os, hgr.tape.trans h.only.tape, hgr.output.trans h.only.output, Nat.le_trans h.only.size hgr.size, fun k hk hk2 => (hgr.block k (by omega) (h.far (by omega))).trans (h.only.block k hk hk2)⟩
  · rw [hlen, flatP_snoc, ← hxs]
    exact own_keep ho (fun b hb _ => Below.heap_setCell w1 ⟨T, 0, none⟩ v' b (by show b ≠ T; omega))
theorem l1Below_l4 (n : Int) (hn : 1 ≤ n) (hn2 : n ≤ 100) (hg : g < w0.heap.size) (h : L4At g w0 T l v w) :
    Calls Try.prog 76 #[.pointer (some ⟨g, 0, none⟩), .int .i64 n] w fun e w' => ∃ x : Int, e = .returned (.int .i64 x) ∧ (0 ≤ x ∧ x < n) ∧ L4At g w0 T l v w' ∧ w'.cell? ⟨T, 0, none⟩ = some v ∧ w'.frozen? ⟨T, 0, none⟩ = false := by
  refine (l1Below_any g n w (by omega) (by omega) h.cur).mono ?_
  rintro e w' ⟨x, rfl, hx, hc, ho⟩
  have k := h.call hg hc ho
  exact ⟨x, rfl, belowP hx (by omega), k, k.cell, k.frozen⟩
theorem l1Once_l4 (n : Int) (hn : 1 ≤ n) (hn2 : n ≤ 100) (hg : g < w0.heap.size) (h : L4At g w0 T l v w) :
    Calls Try.prog 164 #[.pointer (some ⟨g, 0, none⟩), .int .i64 n] w fun e w' => ∃ x : Bool, e = .returned (.bool x) ∧ L4At g w0 T l v w' ∧ w'.cell? ⟨T, 0, none⟩ = some v ∧ w'.frozen? ⟨T, 0, none⟩ = false := by
  refine (l1Once_any g n w (by omega) (by omega) h.cur).mono ?_
  rintro e w' ⟨x, rfl, hc, ho⟩
  have k := h.call hg hc ho
  exact ⟨x, rfl, k, k.cell, k.frozen⟩
end

/-- What l4hist hands back. -/
def L4Drawn (g : Nat) (w w' : World) (e : Ending) : Prop := ∃ A c, ∃ l : List PostD, e = .returned (.agg #[.slice A l.length c]) ∧ (1 ≤ l.length ∧ l.length ≤ 5 ∧ l.length ≤ c) ∧ (∀ d ∈ l, SmallP d) ∧ PostsAt w' (New w.heap.size w'.heap.size) A l ∧ w'.ownsRow w.heap.size 47 4 (.slice A l.length c) l.length (flatP l) ∧ Cur w' g ∧ Only g w w'

theorem Try.infoPostI : (Try.prog.info? 47).map (fun i => (i.zero, i.size, i.bytes)) = some (some (.agg #[.int .i64 0, .int .i64 0, .bool false, .slice none 0 0]), 4, 48) := by kernel_rfl

theorem l4_end {g T : Nat} {w0 w : World} {l : List PostD} {A : Option Addr} {c n : Nat} (hg : g < w0.heap.size) (h : L4At g w0 (w0.heap.size + 1) l (.slice A n c) w) (hn : n = l.length) (hl : 1 ≤ l.length ∧ l.length ≤ 5) (hs : ∀ d ∈ l, SmallP d) (hT : T = w0.heap.size) (u : Value) :
    L4Drawn g w0 (w.setCell ⟨T, 0, none⟩ u) (.returned (.agg #[.slice A n c])) := by
  subst hT hn
  obtain ⟨A', c', e, hc, hp⟩ := own_posts h.own hs
  cases e
  refine ⟨A, c, l, rfl, ⟨hl.1, hl.2, hc⟩, hs, (hp.set (p := ⟨w0.heap.size, 0, none⟩) u (fun h => by have h1 : w0.heap.size + 1 + 1 ≤ w0.heap.size := h.1; omega)).more (fun b h => ⟨by have := h.1; omega, by simpa using h.2⟩), kept (own_base h.own (by omega)) (fun k _ e => Below.heap_setCell _ _ _ _ (by have := (own_at h.own e).1; show k ≠ w0.heap.size; omega)), h.cur.setCell (by show g < w0.heap.size; omega) _, h.only.setCell (.inr (Nat.le_refl _)) _⟩

set_option maxRecDepth 100000 in
set_option maxHeartbeats 3200000 in
theorem l4hist_any (g : Nat) (w : World) (hc : Cur w g) :
    Calls Try.prog 103 #[.pointer (some ⟨g, 0, none⟩)] w fun e w' => L4Drawn g w w' e := by
  have hg := hc.lt
  obtain ⟨i0, hi0, hz0, hz1, hz2⟩ := info_parts Try.infoPostI
  have hi0 := hide hi0
  have ht : L4At g w (w.heap.size + 1) [] (.slice none 0 0) ((w.alloc (Obj.cells #[Value.slice none 0 0] 45)).alloc (Obj.cells #[Value.slice none 0 0] 45)) :=
    ⟨(hc.alloc _).alloc _, ((Only.refl g w).alloc _).alloc _, by have := Blk.new (w.alloc (Obj.cells #[Value.slice none 0 0] 45)) 45 #[Value.slice none 0 0]; simpa using this, ⟨rfl, .inl ⟨rfl, rfl⟩⟩, rfl, ⟨_, (Blk.new w 45 #[Value.slice none 0 0]).alloc _⟩⟩
  clear hc
  go_enter Try.func103, Try.ntmps103
  go_wp2_with fail
  go_loopw [4] (fun i wr => ∃ (l : List PostD) (v : Value), i = .int .i64 l.length ∧ L4At g w (w.heap.size + 1) l v wr ∧ Hid (∀ d ∈ l, SmallP d) ∧ l.length ≤ 5) (fun i _ => 5 - (intOf i).toNat)
  case atStart => exact ⟨[], _, rfl, ht, hide (by simp), by simp⟩
  case round =>
    clear ht
    obtain ⟨l, v, rfl, ht, hsm, hl5⟩ := hrel
    go_wp2_with fail
    refine (l1Below_l4 5 (by omega) (by omega) hg ht).mono ?_
    rintro e w1 ⟨x, rfl, ⟨hx0, hx1⟩, ht1, hT, hF⟩
    clear ht
    have hs1 := ht1.blk.lt
    have hw1 : IntKind.i64.wrap (1 + x) = 1 + x := small_in (by omega)
    by_cases hlt : (l.length : Int) < 1 + x
    · have hm7 : IntKind.i64.wrap ((l.length : Int) * 7) = (l.length : Int) * 7 := small_in (by omega)
      have ht2 := ht1.drew
      rcases Nat.eq_zero_or_pos l.length with h0 | h0
      · have h0' : decide (0 < l.length) = false := decide_eq_false (by omega)
        clear h0
        go_wp2_with fail
        first | go_region_law (first
          | (rw [if_pos (by rfl)]; go_simp; go_at_call 76; refine (l1Below_l4 (T := w.heap.size + 1) (w0 := w) (l := l) (v := v) 2 (by omega) (by omega) hg (by assumption)).mono ?_; rintro e w2 ⟨y, rfl, ⟨hy0, hy1⟩, ht3, hT3, hF3⟩; have hsz2 := ht3.blk.lt; have hw3 : IntKind.i64.wrap (y * 3) = y * 3 := small_in (by omega); have hw4 : IntKind.i64.wrap ((l.length : Int) * 7 + y * 3) = (l.length : Int) * 7 + y * 3 := small_in (by omega); go_simp)
          | (refine step_append_lies _ (by rfl) _ _ _ (by rfl) (w.heap.size + 1 + 1) 47 i0 _ 4 48 Try.underlying43 hi0.out hz0 hz1 hz2 rfl (by omega) v l.length (flatP l) (by rfl) ((by assumption : L4At g w (w.heap.size + 1) l v _).alloc _).own _ 1 1 _ (by rfl) ?hl (World.news_of_block (heap_alloc_new _ _)) ?h1 (by omega) ?h63 ?hby ?hb _ (by rfl) ?_
             case hl => rfl
             case h1 => simp [Value.oneCell']
             case h63 => (have : maxLen = 9223372036854775807 := rfl); omega
             case hby => omega
             case hb => simp; omega
             intro gg cap w4 hown hgrow hat hlt
             obtain ⟨⟨hT5, hF5⟩, ht5⟩ := L4At.grow (g := g) (T := w.heap.size + 1) (w0 := w) (l := l) (v := v) (d := ⟨_, _, _, []⟩) ((by assumption : L4At g w (w.heap.size + 1) l v _).alloc _) hg rfl hown hgrow)
          | fail) | fail
        all_goals
          go_wp2_with fail
          go_roundw
          case rel =>
            refine ⟨l ++ [_], _, ?_, ht5, ?_, ?_⟩
            · simp
            · refine hide (smallP_snoc hsm.out ⟨?_, ?_, ?_⟩)
              · exact rem11_nonneg (by omega)
              · exact rem11_le (by omega)
              · rfl
            · simp; omega
          case measure => simp [intOf]; omega
      · have h0' : decide (0 < l.length) = true := decide_eq_true (by omega)
        clear h0
        go_wp2_with fail
        go_region_law (first
          | (go_simp; go_at_call 76; refine (l1Below_l4 (T := w.heap.size + 1) (w0 := w) (l := l) (v := v) 2 (by omega) (by omega) hg (by assumption)).mono ?_; rintro e w2 ⟨y, rfl, ⟨hy0, hy1⟩, ht3, hT3, hF3⟩; have hsz2 := ht3.blk.lt; have hw3 : IntKind.i64.wrap (y * 3) = y * 3 := small_in (by omega); have hw4 : IntKind.i64.wrap ((l.length : Int) * 7 + y * 3) = (l.length : Int) * 7 + y * 3 := small_in (by omega); go_simp)
          | (go_simp; go_at_call 164; refine (l1Once_l4 (T := w.heap.size + 1) (w0 := w) (l := l) (v := v) 3 (by omega) (by omega) hg (by assumption)).mono ?_; rintro e w3 ⟨z, rfl, ht4, hT4, hF4⟩; have hsz3 := ht4.blk.lt; go_simp)
          | (refine step_append_lies _ (by rfl) _ _ _ (by rfl) (w.heap.size + 1 + 1) 47 i0 _ 4 48 Try.underlying43 hi0.out hz0 hz1 hz2 rfl (by omega) v l.length (flatP l) (by rfl) ((by assumption : L4At g w (w.heap.size + 1) l v _).alloc _).own _ 1 1 _ (by rfl) ?hl (World.news_of_block (heap_alloc_new _ _)) ?h1 (by omega) ?h63 ?hby ?hb _ (by rfl) ?_
             case hl => rfl
             case h1 => simp [Value.oneCell']
             case h63 => (have : maxLen = 9223372036854775807 := rfl); omega
             case hby => omega
             case hb => simp; omega
             intro gg cap w4 hown hgrow hat hlt
             obtain ⟨⟨hT5, hF5⟩, ht5⟩ := L4At.grow (g := g) (T := w.heap.size + 1) (w0 := w) (l := l) (v := v) (d := ⟨_, _, _, []⟩) ((by assumption : L4At g w (w.heap.size + 1) l v _).alloc _) hg rfl hown hgrow)
          | fail)
        all_goals
          go_wp2_with fail
          go_roundw
          case rel =>
            refine ⟨l ++ [_], _, ?_, ht5, ?_, ?_⟩
            · simp
            · refine hide (smallP_snoc hsm.out ⟨?_, ?_, ?_⟩)
              · exact rem11_nonneg (by omega)
              · exact rem11_le (by omega)
              · rfl
            · simp; omega
          case measure => simp [intOf]; omega
    · obtain ⟨u, ho⟩ := ht1.out
      have e0 : w1.cell? ⟨w.heap.size, 0, none⟩ = some u := ho.cell 0
      have z0 := ho.frozen 0
      obtain ⟨A, c, rfl⟩ := own_slice ht1.own
      have K := hide ht1
      have hl1 : 1 ≤ l.length := by omega
      clear ht1 ho
      go_wp2_with fail
      refine bodyPost_ret (v := .agg #[.slice A l.length c]) (by simp [results, Try.results103, go_sem, e0]; done) rfl (l4_end hg K.out rfl ⟨hl1, hl5⟩ hsm.out rfl _)
end Go.Proofs.Ytbhfkfapdpedpaa
