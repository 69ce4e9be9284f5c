/- A thread in the making: its box, its row. -/
import Derived.Test.YtfkaacfeikmabaaMx0
import Derived.Test.YtfkaacfeikmabaaMx1
import Derived.Test.YtfkaacfeikmabaaMx2
import Derived.Test.YtfkaacfeikmabaaMx3
import Derived.Test.YtfkaacfeikmabaaMx4
import Derived.Test.YtfkaacfeikmabaaMx6
import Derived.Deep.AppendLies
import Derived.Deep.RegionLaw
import Derived.Deep.DrawnRows
import Derived.Deep.DeepCutAuto
namespace Go.Proofs.Ytfkaacfeikmabaa
open Go.RowKit

attribute [local go_sem ↓] Go.wp_at_zero Go.wp_at_succ

theorem small_in {x : Int} (h : 0 ≤ x ∧ x ≤ 1000) : IntKind.i64.wrap x = x := by rw [IntKind.wrap_i64]; omega

def insVals (d : InsD) : List Value := [.int .i64 d.o, .int .i64 d.r, .int .i64 d.a, .int .i64 d.b, .int .i64 d.x, .int .i64 d.n]
def flat (l : List InsD) : List Value := l.flatMap insVals

theorem own_keep {w w' : World} {base : Nat} {e : TypeId} {size : Nat} {v : Value} {n : Nat} {xs : List Value} (h : w.ownsRow base e size v n xs)
    (hk : ∀ b, base ≤ b → b < w.heap.size → w'.heap[b]? = w.heap[b]?) : w'.ownsRow base e size v n xs := by
  refine ⟨h.1, h.2.imp id ?_⟩
  rintro ⟨g, cap, cur, hv, hb, hg, rest⟩
  refine ⟨g, cap, cur, hv, hb, ?_, rest⟩
  rw [hk g hb, hg]
  rcases Nat.lt_or_ge g w.heap.size with hlt | hge
  · exact hlt
  · rw [Array.getElem?_eq_none hge] at hg; cases hg

theorem own_base {w : World} {B B' : Nat} {e : TypeId} {size : Nat} {v : Value} {n : Nat} {xs : List Value} (h : w.ownsRow B e size v n xs) (hB : B' ≤ B) : w.ownsRow B' e size v n xs :=
  ⟨h.1, h.2.imp id (fun ⟨q, cap, cur, h1, h2, h3⟩ => ⟨q, cap, cur, h1, Nat.le_trans hB h2, h3⟩)⟩

structure ThrAt (g : Nat) (w0 : World) (T : Nat) (l : List InsD) (v : Value) (w : World) : Prop where
  cur : Cur w g
  only : Only g w0 w
  blk : Blk w T 99 #[v]
  own : w.ownsRow (T + 1) 72 6 v l.length (flat l)
  lo : w0.heap.size + 1 = T
  out : ∃ u, Blk w w0.heap.size 99 #[u]

section
variable {g T : Nat} {w0 w w' : World} {l : List InsD} {v : Value}
theorem ThrAt.cell (h : ThrAt g w0 T l v w) : w.cell? ⟨T, 0, none⟩ = some v := h.blk.cell 0
theorem ThrAt.frozen (h : ThrAt g w0 T l v w) : w.frozen? ⟨T, 0, none⟩ = false := h.blk.frozen 0
theorem ThrAt.call (h : ThrAt g w0 T l v w) (hg : g < w0.heap.size) (hc : Cur w' g) (ho : Only g w w') : ThrAt g w0 T l v w' :=
  ⟨hc, h.only.trans ho, h.blk.only ho (by have := h.lo; omega), own_keep h.own (fun b hb hlt => ho.block b hlt (by have := h.lo; omega)), h.lo, h.out.imp fun _ k => k.only ho (by omega)⟩
theorem ThrAt.drew (h : ThrAt g w0 T l v w) : ThrAt g w0 T l v w.drew := ⟨h.cur, h.only.drew, h.blk, h.own, h.lo, h.out⟩
theorem ThrAt.alloc (h : ThrAt g w0 T l v w) (o : Obj) : ThrAt g w0 T l v (w.alloc o) :=
  ⟨h.cur.alloc o, h.only.alloc o, h.blk.alloc o, own_keep h.own (fun b _ hlt => Below.heap_alloc w o b hlt), h.lo, h.out.imp fun _ k => k.alloc o⟩

theorem ThrAt.far (h : ThrAt g w0 T l v w) {b : Nat} (hb : b ≤ T) : some b ≠ v.ownBlock := by
  rcases h.own.2 with ⟨rfl, _⟩ | ⟨q, cap, cur, rfl, hq, _⟩
  · simp [Value.ownBlock]
  · simp only [Value.ownBlock, ne_eq, Option.some.injEq]; omega
theorem ThrAt.grow (h : ThrAt g w0 T l v w) (hw : g < w0.heap.size) {w1 : World} {v' : Value} {d : InsD} {xs : List Value} (hxs : xs = flat l ++ insVals d) (ho : w1.ownsRow (T + 1) 72 6 v' (l.length + 1) xs) (hgr : w.grownBy w1 v.ownBlock) :
    (w1.cell? ⟨T, 0, none⟩ = some v ∧ w1.frozen? ⟨T, 0, none⟩ = false) ∧ ThrAt g w0 T (l ++ [d]) v' (w1.setCell ⟨T, 0, none⟩ v') := by
  have hT := h.blk.lt
  have hlo := h.lo
  have hB : Blk w1 T 99 #[v] := (hgr.block T hT (h.far (Nat.le_refl _))).trans h.blk
  have hbel : Below (g + 1) w w1 := ⟨hgr.os, hgr.tape, hgr.output, hgr.size, fun k hk => hgr.block k (by omega) (h.far (by omega))⟩
  have hlen : (l ++ [d]).length = l.length + 1 := by simp
  have hfl : flat (l ++ [d]) = flat l ++ insVals d := by simp [flat]
  refine ⟨⟨hB.cell 0, hB.frozen 0⟩, ⟨(h.cur.below hbel).setCell (by show g < T; omega) _, ?_, hB.set_ 0 v', ?_, h.lo, h.out.imp fun _ k => Blk.far ((hgr.block w0.heap.size (Blk.lt k) (h.far (by omega))).trans k) (by show w0.heap.size ≠ T; omega) _⟩⟩
  · refine Only.setCell ?_ (.inr (by show w0.heap.size ≤ T; omega)) _
    have hz := h.only.size
    exact ⟨hgr.os.trans h.only.os, hgr.tape.trans h.only.tape, hgr.output.trans h.only.output, Nat.le_trans h.only.size hgr.size, fun k hk hk2 => (hgr.block k (by omega) (h.far (by omega))).trans (h.only.block k hk hk2)⟩
  · rw [hlen, hfl, ← hxs]
    exact own_keep ho (fun b hb _ => Below.heap_setCell w1 ⟨T, 0, none⟩ v' b (by show b ≠ T; omega))
end

theorem flat_get (l : List InsD) (k j : Nat) (hk : k < l.length) (hj : j < 6) : (flat l)[k * 6 + j]? = (insVals (getd l k))[j]? := by
  induction l generalizing k with
  | nil => simp at hk
  | cons d l ih =>
    have e : flat (d :: l) = insVals d ++ flat l := by simp [flat]
    rw [e]
    cases k with
    | zero =>
      rw [List.getElem?_append_left (by simp [insVals]; omega)]
      simp [getd]
    | succ k =>
      rw [List.getElem?_append_right (by simp [insVals]; omega)]
      have h2 := ih k (by simpa using hk)
      have e2 : (k + 1) * 6 + j - (insVals d).length = k * 6 + j := by simp [insVals]; omega
      rw [e2, h2]
      simp [getd]

theorem own_inss {B : Nat} {w : World} {l : List InsD} {v : Value} (h : w.ownsRow B 72 6 v l.length (flat l)) : ∃ A c, v = .slice A l.length c ∧ l.length ≤ c ∧ InssAt w (fun b => some b = v.ownBlock ∧ B ≤ b ∧ b < w.heap.size) A l := by
  rcases h.2 with ⟨hv, hn⟩ | ⟨q, cap, cur, hv, hq, hh, hcap, hmax, hcs, ht⟩
  · refine ⟨none, 0, by rw [hn]; exact hv, by omega, by omega, fun hl => by omega⟩
  · have hmx : maxLen = 9223372036854775807 := rfl
    have hlt : q < w.heap.size := by
      rcases Nat.lt_or_ge q w.heap.size with hlt | hge
      · exact hlt
      · rw [Array.getElem?_eq_none hge] at hh; cases hh
    refine ⟨_, _, hv, hcap, by omega, fun _ => ⟨q, 0, rfl, ⟨by rw [hv]; rfl, hq, hlt⟩, fun k hk => ?_⟩⟩
    have hc : ∀ j, j < 6 → w.cell? ⟨q, 0 + k * 6 + j, none⟩ = (insVals (getd l k))[j]? := fun j hj => by
      rw [cell_of_row w q _ cur _ (0, 0) hh, ← flat_get l k j hk hj, ← ht, List.getElem?_take, if_pos (by omega), Array.getElem?_toList, Nat.zero_add]
    exact ⟨by have := hc 0 (by omega); simpa [insVals] using this, hc 1 (by omega), hc 2 (by omega), hc 3 (by omega), hc 4 (by omega), hc 5 (by omega)⟩

theorem l1ins_thr {g T : Nat} {w0 w : World} {l : List InsD} {v : Value} (i cells n : Int) (hi : 0 ≤ i ∧ i < n) (hn : n ≤ 30) (hcl : 1 ≤ cells ∧ cells ≤ 6) (hg : g < w0.heap.size) (h : ThrAt g w0 T l v w) :
    Calls Try.prog 207 #[.pointer (some ⟨g, 0, none⟩), .int .i64 i, .int .i64 cells, .int .i64 n] w fun e w' => ∃ d : InsD, e = .returned (.agg #[.int .i64 d.o, .int .i64 d.r, .int .i64 d.a, .int .i64 d.b, .int .i64 d.x, .int .i64 d.n]) ∧ Small d ∧ ThrAt g w0 T l v w' ∧ w'.cell? ⟨T, 0, none⟩ = some v ∧ w'.frozen? ⟨T, 0, none⟩ = false := by
  refine (l1ins_any g i cells n w hi hn hcl h.cur).mono ?_
  rintro e w' ⟨d, rfl, hd, hc, ho⟩
  have k := h.call hg hc ho
  exact ⟨d, rfl, hd, k, k.cell, k.frozen⟩

theorem l1Below_thr {g T : Nat} {w0 w : World} {l : List InsD} {v : Value} (n : Int) (hn : 1 ≤ n) (hn2 : n ≤ 100) (hg : g < w0.heap.size) (h : ThrAt g w0 T l v w) :
    Calls Try.prog 126 #[.pointer (some ⟨g, 0, none⟩), .int .i64 n] w fun e w' => ∃ x : Int, e = .returned (.int .i64 x) ∧ (0 ≤ x ∧ x < n) ∧ ThrAt g w0 T l v w' ∧ w'.cell? ⟨T, 0, none⟩ = some v ∧ w'.frozen? ⟨T, 0, none⟩ = false := by
  refine (l1Below_any g n w (by omega) (by omega) h.cur).mono ?_
  rintro e w' ⟨x, rfl, hx, hc, ho⟩
  have k := h.call hg hc ho
  exact ⟨x, rfl, belowP hx (by omega), k, k.cell, k.frozen⟩

set_option maxRecDepth 100000 in
set_option maxHeartbeats 1600000 in
theorem l1thread_any (g : Nat) (cells most : Int) (w : World) (hm : 1 ≤ most ∧ most ≤ 29) (hcl : 1 ≤ cells ∧ cells ≤ 6) (hc : Cur w g) :
    Calls Try.prog 196 #[.pointer (some ⟨g, 0, none⟩), .int .i64 cells, .int .i64 most] w fun e w' => ∃ (v : Value) (l : List InsD), e = .returned (.agg #[v]) ∧ (1 ≤ l.length ∧ (l.length : Int) ≤ most + 1) ∧ w'.ownsRow w.heap.size 72 6 v l.length (flat l) ∧ (∀ d ∈ l, Small d) ∧ Cur w' g ∧ Only g w w' := by
  obtain ⟨hm0, hm1⟩ := hm
  obtain ⟨hcl0, hcl1⟩ := hcl
  have hg := hc.lt
  obtain ⟨i0, hi0, hz0, hz1, hz2⟩ := info_parts Try.infoIns
  have hi0 := hide hi0
  have ht : ThrAt g w (w.heap.size + 1) [] (.slice none 0 0) ((w.alloc (Obj.cells #[Value.slice none 0 0] 99)).alloc (Obj.cells #[Value.slice none 0 0] 99)) :=
    ⟨(hc.alloc _).alloc _, ((Only.refl g w).alloc _).alloc _, by have := Blk.new (w.alloc (Obj.cells #[Value.slice none 0 0] 99)) 99 #[Value.slice none 0 0]; simpa using this, ⟨rfl, .inl ⟨rfl, rfl⟩⟩, rfl, ⟨_, (Blk.new w 99 #[Value.slice none 0 0]).alloc _⟩⟩
  have HC := hide hc
  clear hc
  go_enter Try.func196, Try.ntmps196
  go_wp2_with fail
  refine (l1Below_thr most hm0 (by omega) (by omega) ht).mono ?_
  rintro e w1 ⟨x, rfl, hx, ht1, hT, hF⟩
  clear ht
  obtain ⟨hx0, hx1⟩ := hx
  have hs1 := ht1.blk.lt
  have ht1 := ht1.drew
  go_wp2_with fail
  go_cut [] (fun wx => ∃ d v, Small d ∧ ThrAt g w (w.heap.size + 1) [d] v wx)
  case first =>
    go_region_law (first
      | (go_simp; refine (l1Below_thr (T := w.heap.size + 1) (w0 := w) (l := []) (v := .slice none 0 0) 2 (by omega) (by omega) (by omega) (by assumption)).mono ?_; rintro e w2 ⟨x, rfl, ⟨hx0, hx1⟩, ht2, hT, hF⟩; have hsz2 := ht2.blk.lt; have hw3 : IntKind.i64.wrap (3 + x) = 3 + x := small_in (by omega); have hw1 : IntKind.i64.wrap (1 + x) = 1 + x := small_in (by omega); go_simp)
      | (refine step_append_lies _ (by rfl) _ _ _ (by rfl) (w.heap.size + 2) 72 i0 _ 6 48 Try.underlying97 hi0.out hz0 hz1 hz2 rfl (by omega) (.slice none 0 0) 0 [] (by rfl) ((by assumption : ThrAt g w (w.heap.size + 1) [] (.slice none 0 0) _).alloc _).own _ 1 1 _ (by rfl) ?hl (World.news_of_block (heap_alloc_new _ _)) ?h1 (by omega) (by decide) (by decide) ?hb _ (by rfl) ?_
         case hl => rfl
         case h1 => simp [Value.oneCell']
         case hb => simp; omega
         intro gg cap w4 hown hgrow hat hlt
         obtain ⟨⟨hT4, hF4⟩, ht4⟩ := ThrAt.grow (g := g) (T := w.heap.size + 1) (w0 := w) (l := []) (v := .slice none 0 0) (d := ⟨1, _, 0, 0, 0, _⟩) ((by assumption : ThrAt g w (w.heap.size + 1) [] (.slice none 0 0) _).alloc _) hg rfl hown hgrow))
    all_goals
      (first | go_meet | (go_wp2_with fail; go_meet))
      exact ⟨_, _, by simp only [Small]; omega, ht4⟩
  case rest =>
    obtain ⟨d0, v0, hd0, ht0⟩ := hcut
    clear ht1 hT hF
    go_wp2_with fail
    go_loopw [10] (fun i wr => ∃ (l : List InsD) (v : Value), i = .int .i64 l.length ∧ ThrAt g w (w.heap.size + 1) l v wr ∧ Hid (∀ d ∈ l, Small d) ∧ 1 ≤ l.length ∧ (l.length : Int) ≤ 1 + x + 1) (fun i _ => (1 + x + 1).toNat - (intOf i).toNat)
    case atStart => exact ⟨[d0], v0, rfl, ht0, hide (by simpa using hd0), by simp, by simp; omega⟩
    case round =>
      obtain ⟨l, v, rfl, ht2, hsm, hl1, hl2⟩ := hrel
      have hs2 := ht2.blk.lt
      have hT2 := ht2.cell
      have hF2 := ht2.frozen
      by_cases hlt : (l.length : Int) < 1 + x + 1
      · have ht3 := ht2.drew
        go_wp2_with fail
        go_region_law (first
          | (go_simp; refine (l1ins_thr (T := w.heap.size + 1) (w0 := w) (l := l) (v := v) _ _ _ ⟨by omega, hlt⟩ (by omega) ⟨hcl0, hcl1⟩ (by omega) (by assumption)).mono ?_; rintro e w2 ⟨d, rfl, hd, ht4, hT4, hF4⟩; have hsz2 := ht4.blk.lt; go_simp)
          | (refine step_append_lies _ (by rfl) _ _ _ (by rfl) (w.heap.size + 2) 72 i0 _ 6 48 Try.underlying97 hi0.out hz0 hz1 hz2 rfl (by omega) v l.length (flat l) (by rfl) ((by assumption : ThrAt g w (w.heap.size + 1) l v _).alloc _).own _ 1 1 _ (by rfl) ?hl (World.news_of_block (heap_alloc_new _ _)) ?h1 (by omega) ?h63 ?hby ?hb _ (by rfl) ?_
             case hl => rfl
             case h1 => simp [Value.oneCell']
             case h63 => (have : maxLen = 9223372036854775807 := rfl); omega
             case hby => omega
             case hb => simp; omega
             intro gg cap w4 hown hgrow hat hlt
             obtain ⟨⟨hT5, hF5⟩, ht5⟩ := ThrAt.grow (g := g) (T := w.heap.size + 1) (w0 := w) (l := l) (v := v) (d := d) ((by assumption : ThrAt g w (w.heap.size + 1) l v _).alloc _) hg rfl hown hgrow))
        all_goals
          go_wp2_with fail
          go_roundw
          case rel => exact ⟨l ++ [d], _, by simp, ht5, hide (fun y hy => by
            rcases List.mem_append.1 hy with h | h
            · exact hsm.out y h
            · rw [List.mem_singleton.1 h]; exact hd), by simp, by simp; omega⟩
          case measure => simp [intOf]; omega
      · obtain ⟨A, c, rfl, -, -⟩ := own_inss ht2.own
        have hr := hide ht2.only
        have hcu := hide ht2.cur
        obtain ⟨u, ho⟩ := ht2.out
        have e0 : wr.cell? ⟨w.heap.size, 0, none⟩ = some u := ho.cell 0
        have z0 := ho.frozen 0
        have hown := hide ht2.own
        clear ht2 ho
        go_wp2_with fail
        refine bodyPost_ret (v := .agg #[.slice A l.length c]) (by simp [results, Try.results196, go_sem, e0]; done) rfl ⟨_, rfl, l, ⟨hl1, by omega⟩, ?_, hsm.out, ?_, ?_⟩
        · refine own_base (own_keep hown.out (fun b hb _ => Below.heap_setCell wr ⟨w.heap.size, 0, none⟩ _ b (by show b ≠ w.heap.size; omega))) (by omega)
        · exact hcu.out.setCell (by show g < w.heap.size; omega) _
        · exact hr.out.setCell (.inr (Nat.le_refl _)) _
end Go.Proofs.Ytfkaacfeikmabaa

namespace Go.Proofs.Ytfkaacfeikmabaa
open Go.RowKit

theorem Try.infoInsT : (Try.prog.info? 72).map (fun i => (i.zero, i.size, i.bytes)) = some (some (.agg #[.int .i64 0, .int .i64 0, .int .i64 0, .int .i64 0, .int .i64 0, .int .i64 0]), 6, 48) := by kernel_rfl
structure ThG (W : World) (T : Nat) (l : List InsD) (A : Option Addr) (c : Nat) (w : World) : Prop where
  blk : Blk w T 99 #[.slice A l.length c]
  own : w.ownsRow W.heap.size 72 6 (.slice A l.length c) l.length (flat l)
  only : Only T W w
  lt : T < W.heap.size
section
variable {W w w' : World} {T c c' : Nat} {l : List InsD} {A A' : Option Addr}
theorem ThG.nil (h : Blk W T 99 #[.slice none 0 0]) : ThG W T [] none 0 W := ⟨h, ⟨rfl, .inl ⟨rfl, rfl⟩⟩, Only.refl _ _, h.lt⟩
theorem ThG.next (h : ThG W T l A c w) (hb : Below w.heap.size w w') : ThG W T l A c w' :=
  ⟨h.blk.below hb h.blk.lt, kept h.own (fun k hk _ => hb.block k hk), h.only.trans (Only.of_below hb), h.lt⟩
theorem ThG.drew (h : ThG W T l A c w) : ThG W T l A c w.drew := h.next (Below.refl _ _).drew
theorem ThG.far (h : ThG W T l A c w) {b : Nat} (hb : b < W.heap.size) : some b ≠ (Value.slice A l.length c).ownBlock := fun e => by
  have := (own_at h.own e.symm).1
  omega
theorem ThG.grow {d : InsD} {xs : List Value} (h : ThG W T l A c w) (hxs : xs = flat l ++ insVals d) (ho : w'.ownsRow W.heap.size 72 6 (.slice A' (l.length + 1) c') (l.length + 1) xs) (hg : w.grownBy w' (Value.slice A l.length c).ownBlock) :
    (w'.cell? ⟨T, 0, none⟩ = some (.slice A l.length c) ∧ w'.frozen? ⟨T, 0, none⟩ = false) ∧ ThG W T (l ++ [d]) A' c' (w'.setCell ⟨T, 0, none⟩ (.slice A' (l.length + 1) c')) := by
  have hB : Blk w' T 99 #[.slice A l.length c] := (hg.block T h.blk.lt (h.far h.lt)).trans h.blk
  have hlen : (l ++ [d]).length = l.length + 1 := by simp
  have hfl : flat (l ++ [d]) = flat l ++ insVals d := by simp [flat]
  refine ⟨⟨hB.cell 0, hB.frozen 0⟩, ?_, ?_, ?_, h.lt⟩
  · rw [hlen]
    exact hB.set_ 0 _
  · rw [hlen, hfl, ← hxs]
    exact own_keep ho (fun b hb _ => Below.heap_setCell w' ⟨T, 0, none⟩ _ b (by have := h.lt; show b ≠ T; omega))
  · refine Only.setCell (p := ⟨T, 0, none⟩) ?_ (.inl rfl) _
    exact ⟨hg.os.trans h.only.os, hg.tape.trans h.only.tape, hg.output.trans h.only.output, Nat.le_trans h.only.size hg.size, fun k hk hk2 => (hg.block k (Nat.lt_of_lt_of_le hk h.only.size) (h.far hk)).trans (h.only.block k hk hk2)⟩
theorem ThG.setFar (h : ThG W T l A c w) {q i : Nat} (hq : W.heap.size ≤ q) (ha : some q ≠ (Value.slice A l.length c).ownBlock) (u : Value) : ThG W T l A c (w.setCell ⟨q, i, none⟩ u) := by
  refine ⟨h.blk.far (by have := h.lt; show T ≠ q; omega) _, kept h.own (fun k _ e => Below.heap_setCell w ⟨q, i, none⟩ u k (fun e' => ha (by rw [e, e']))), h.only.setCell (.inr hq) _, h.lt⟩
end
end Go.Proofs.Ytfkaacfeikmabaa
