/- l1thread: a thread drawn. · A program in the making: its rows, each in a block of its own. · The program in the making, its calls. · A row of rows in the making: each row in a block of its own, going up; one row more, appended. · laws' helpers on a file: szFile, toFile, eqFile. -/
import Derived.Test.YtfkaacfeikmabaaMg2
import Derived.Test.YtfkaacfeikmabaaMg3
import Derived.Test.YtfkaacfeikmabaaMg4
import Derived.Test.YtfkaacfeikmabaaMg5
import Derived.Test.YtfkaacfeikmabaaMg6
import Derived.Deep.AppendLies
import Derived.Deep.RegionLaw
import Derived.Deep.DrawnRows
import Derived.Deep.DeepCutAuto
namespace Go.Proofs.Ytfkaacfeikmabaa
open Go.RowKit

attribute [local go_sem ↓] Go.wp_at_zero Go.wp_at_succ

theorem small_in {x : Int} (h : 0 ≤ x ∧ x ≤ 1000) : IntKind.i64.wrap x = x := by rw [IntKind.wrap_i64]; omega

/-- An instruction's cells. -/
def insVals (d : InsD) : List Value := [.int .i64 d.o, .int .i64 d.r, .int .i64 d.a, .int .i64 d.b, .int .i64 d.x, .int .i64 d.n]
def flat (l : List InsD) : List Value := l.flatMap insVals

theorem own_keep {w w' : World} {base : Nat} {e : TypeId} {size : Nat} {v : Value} {n : Nat} {xs : List Value} (h : w.ownsRow base e size v n xs)
    (hk : ∀ b, base ≤ b → b < w.heap.size → w'.heap[b]? = w.heap[b]?) : w'.ownsRow base e size v n xs := by
  refine ⟨h.1, h.2.imp id ?_⟩
  rintro ⟨g, cap, cur, hv, hb, hg, rest⟩
  refine ⟨g, cap, cur, hv, hb, ?_, rest⟩
  rw [hk g hb, hg]
  rcases Nat.lt_or_ge g w.heap.size with hlt | hge
  · exact hlt
  · rw [Array.getElem?_eq_none hge] at hg; cases hg

theorem own_base {w : World} {B B' : Nat} {e : TypeId} {size : Nat} {v : Value} {n : Nat} {xs : List Value} (h : w.ownsRow B e size v n xs) (hB : B' ≤ B) : w.ownsRow B' e size v n xs :=
  ⟨h.1, h.2.imp id (fun ⟨q, cap, cur, h1, h2, h3⟩ => ⟨q, cap, cur, h1, Nat.le_trans hB h2, h3⟩)⟩

/-- A thread in the making: its cell in block T, its row in a block behind. -/
structure ThrAt (g : Nat) (w0 : World) (T : Nat) (l : List InsD) (v : Value) (w : World) : Prop where
  cur : Cur w g
  only : Only g w0 w
  blk : Blk w T 99 #[v]
  own : w.ownsRow (T + 1) 72 6 v l.length (flat l)
  lo : w0.heap.size + 1 = T
  out : ∃ u, Blk w w0.heap.size 99 #[u]

section
variable {g T : Nat} {w0 w w' : World} {l : List InsD} {v : Value}
theorem ThrAt.cell (h : ThrAt g w0 T l v w) : w.cell? ⟨T, 0, none⟩ = some v := h.blk.cell 0
theorem ThrAt.frozen (h : ThrAt g w0 T l v w) : w.frozen? ⟨T, 0, none⟩ = false := h.blk.frozen 0
theorem ThrAt.call (h : ThrAt g w0 T l v w) (hg : g < w0.heap.size) (hc : Cur w' g) (ho : Only g w w') : ThrAt g w0 T l v w' :=
  ⟨hc, h.only.trans ho, h.blk.only ho (by have := h.lo; omega), own_keep h.own (fun b hb hlt => ho.block b hlt (by have := h.lo; omega)), h.lo, h.out.imp fun _ k => k.only ho (by omega)⟩
theorem ThrAt.drew (h : ThrAt g w0 T l v w) : ThrAt g w0 T l v w.drew := ⟨h.cur, h.only.drew, h.blk, h.own, h.lo, h.out⟩
theorem ThrAt.alloc (h : ThrAt g w0 T l v w) (o : Obj) : ThrAt g w0 T l v (w.alloc o) :=
  ⟨h.cur.alloc o, h.only.alloc o, h.blk.alloc o, own_keep h.own (fun b _ hlt => Below.heap_alloc w o b hlt), h.lo, h.out.imp fun _ k => k.alloc o⟩

theorem ThrAt.far (h : ThrAt g w0 T l v w) {b : Nat} (hb : b ≤ T) : some b ≠ v.ownBlock := by
  rcases h.own.2 with ⟨rfl, _⟩ | ⟨q, cap, cur, rfl, hq, _⟩
  · simp [Value.ownBlock]
  · simp only [Value.ownBlock, ne_eq, Option.some.injEq]; omega
theorem ThrAt.grow (h : ThrAt g w0 T l v w) (hw : g < w0.heap.size) {w1 : World} {v' : Value} {d : InsD} {xs : List Value} (hxs : xs = flat l ++ insVals d) (ho : w1.ownsRow (T + 1) 72 6 v' (l.length + 1) xs) (hgr : w.grownBy w1 v.ownBlock) :
    (w1.cell? ⟨T, 0, none⟩ = some v ∧ w1.frozen? ⟨T, 0, none⟩ = false) ∧ ThrAt g w0 T (l ++ [d]) v' (w1.setCell ⟨T, 0, none⟩ v') := by
  have hT := h.blk.lt
  have hlo := h.lo
  have hB : Blk w1 T 99 #[v] := (hgr.block T hT (h.far (Nat.le_refl _))).trans h.blk
  have hbel : Below (g + 1) w w1 := ⟨hgr.os, hgr.tape, hgr.output, hgr.size, fun k hk => hgr.block k (by omega) (h.far (by omega))⟩
  have hlen : (l ++ [d]).length = l.length + 1 := by simp
  have hfl : flat (l ++ [d]) = flat l ++ insVals d := by simp [flat]
  refine ⟨⟨hB.cell 0, hB.frozen 0⟩, ⟨(h.cur.below hbel).setCell (by show g < T; omega) _, ?_, hB.set_ 0 v', ?_, h.lo, h.out.imp fun _ k => Blk.far ((hgr.block w0.heap.size (Blk.lt k) (h.far (by omega))).trans k) (by show w0.heap.size ≠ T; omega) _⟩⟩
  · refine Only.setCell ?_ (.inr (by show w0.heap.size ≤ T; omega)) _
    have hz := h.only.size
    exact ⟨hgr.os.trans h.only.os, hgr.tape.trans h.only.tape, hgr.output.trans h.only.output, Nat.le_trans h.only.size hgr.size, fun k hk hk2 => (hgr.block k (by omega) (h.far (by omega))).trans (h.only.block k hk hk2)⟩
  · rw [hlen, hfl, ← hxs]
    exact own_keep ho (fun b hb _ => Below.heap_setCell w1 ⟨T, 0, none⟩ v' b (by show b ≠ T; omega))
end

theorem flat_get (l : List InsD) (k j : Nat) (hk : k < l.length) (hj : j < 6) : (flat l)[k * 6 + j]? = (insVals (getd l k))[j]? := by
  induction l generalizing k with
  | nil => simp at hk
  | cons d l ih =>
    have e : flat (d :: l) = insVals d ++ flat l := by simp [flat]
    rw [e]
    cases k with
    | zero =>
      rw [List.getElem?_append_left (by simp [insVals]; omega)]
      simp [getd]
    | succ k =>
      rw [List.getElem?_append_right (by simp [insVals]; omega)]
      have h2 := ih k (by simpa using hk)
      have e2 : (k + 1) * 6 + j - (insVals d).length = k * 6 + j := by simp [insVals]; omega
      rw [e2, h2]
      simp [getd]

theorem own_inss {B : Nat} {w : World} {l : List InsD} {v : Value} (h : w.ownsRow B 72 6 v l.length (flat l)) : ∃ A c, v = .slice A l.length c ∧ l.length ≤ c ∧ InssAt w (fun b => some b = v.ownBlock ∧ B ≤ b ∧ b < w.heap.size) A l := by
  rcases h.2 with ⟨hv, hn⟩ | ⟨q, cap, cur, hv, hq, hh, hcap, hmax, hcs, ht⟩
  · refine ⟨none, 0, by rw [hn]; exact hv, by omega, by omega, fun hl => by omega⟩
  · have hmx : maxLen = 9223372036854775807 := rfl
    have hlt : q < w.heap.size := by
      rcases Nat.lt_or_ge q w.heap.size with hlt | hge
      · exact hlt
      · rw [Array.getElem?_eq_none hge] at hh; cases hh
    refine ⟨_, _, hv, hcap, by omega, fun _ => ⟨q, 0, rfl, ⟨by rw [hv]; rfl, hq, hlt⟩, fun k hk => ?_⟩⟩
    have hc : ∀ j, j < 6 → w.cell? ⟨q, 0 + k * 6 + j, none⟩ = (insVals (getd l k))[j]? := fun j hj => by
      rw [cell_of_row w q _ cur _ (0, 0) hh, ← flat_get l k j hk hj, ← ht, List.getElem?_take, if_pos (by omega), Array.getElem?_toList, Nat.zero_add]
    exact ⟨by have := hc 0 (by omega); simpa [insVals] using this, hc 1 (by omega), hc 2 (by omega), hc 3 (by omega), hc 4 (by omega), hc 5 (by omega)⟩

theorem l1ins_thr {g T : Nat} {w0 w : World} {l : List InsD} {v : Value} (i cells n : Int) (hi : 0 ≤ i ∧ i < n) (hn : n ≤ 30) (hcl : 1 ≤ cells ∧ cells ≤ 6) (hg : g < w0.heap.size) (h : ThrAt g w0 T l v w) :
    Calls Try.prog 207 #[.pointer (some ⟨g, 0, none⟩), .int .i64 i, .int .i64 cells, .int .i64 n] w fun e w' => ∃ d : InsD, e = .returned (.agg #[.int .i64 d.o, .int .i64 d.r, .int .i64 d.a, .int .i64 d.b, .int .i64 d.x, .int .i64 d.n]) ∧ Small d ∧ ThrAt g w0 T l v w' ∧ w'.cell? ⟨T, 0, none⟩ = some v ∧ w'.frozen? ⟨T, 0, none⟩ = false := by
  refine (l1ins_any g i cells n w hi hn hcl h.cur).mono ?_
  rintro e w' ⟨d, rfl, hd, hc, ho⟩
  have k := h.call hg hc ho
  exact ⟨d, rfl, hd, k, k.cell, k.frozen⟩

theorem l1Below_thr {g T : Nat} {w0 w : World} {l : List InsD} {v : Value} (n : Int) (hn : 1 ≤ n) (hn2 : n ≤ 100) (hg : g < w0.heap.size) (h : ThrAt g w0 T l v w) :
    Calls Try.prog 126 #[.pointer (some ⟨g, 0, none⟩), .int .i64 n] w fun e w' => ∃ x : Int, e = .returned (.int .i64 x) ∧ (0 ≤ x ∧ x < n) ∧ ThrAt g w0 T l v w' ∧ w'.cell? ⟨T, 0, none⟩ = some v ∧ w'.frozen? ⟨T, 0, none⟩ = false := by
  refine (l1Below_any g n w (by omega) (by omega) h.cur).mono ?_
  rintro e w' ⟨x, rfl, hx, hc, ho⟩
  have k := h.call hg hc ho
  exact ⟨x, rfl, belowP hx (by omega), k, k.cell, k.frozen⟩

set_option maxRecDepth 100000 in
set_option maxHeartbeats 1600000 in
theorem l1thread_any (g : Nat) (cells most : Int) (w : World) (hm : 1 ≤ most ∧ most ≤ 29) (hcl : 1 ≤ cells ∧ cells ≤ 6) (hc : Cur w g) :
    Calls Try.prog 196 #[.pointer (some ⟨g, 0, none⟩), .int .i64 cells, .int .i64 most] w fun e w' => ∃ (v : Value) (l : List InsD), e = .returned (.agg #[v]) ∧ (1 ≤ l.length ∧ (l.length : Int) ≤ most + 1) ∧ w'.ownsRow w.heap.size 72 6 v l.length (flat l) ∧ (∀ d ∈ l, Small d) ∧ Cur w' g ∧ Only g w w' := by
  obtain ⟨hm0, hm1⟩ := hm
  obtain ⟨hcl0, hcl1⟩ := hcl
  have hg := hc.lt
  obtain ⟨i0, hi0, hz0, hz1, hz2⟩ := info_parts Try.infoIns
  have hi0 := hide hi0
  have ht : ThrAt g w (w.heap.size + 1) [] (.slice none 0 0) ((w.alloc (Obj.cells #[Value.slice none 0 0] 99)).alloc (Obj.cells #[Value.slice none 0 0] 99)) :=
    ⟨(hc.alloc _).alloc _, ((Only.refl g w).alloc _).alloc _, by have := Blk.new (w.alloc (Obj.cells #[Value.slice none 0 0] 99)) 99 #[Value.slice none 0 0]; simpa using this, ⟨rfl, .inl ⟨rfl, rfl⟩⟩, rfl, ⟨_, (Blk.new w 99 #[Value.slice none 0 0]).alloc _⟩⟩
  have HC := hide hc
  clear hc
  go_enter Try.func196, Try.ntmps196
  go_wp2_with fail
  refine (l1Below_thr most hm0 (by omega) (by omega) ht).mono ?_
  rintro e w1 ⟨x, rfl, hx, ht1, hT, hF⟩
  clear ht
  obtain ⟨hx0, hx1⟩ := hx
  have hs1 := ht1.blk.lt
  have ht1 := ht1.drew
  go_wp2_with fail
  go_cut [] (fun wx => ∃ d v, Small d ∧ ThrAt g w (w.heap.size + 1) [d] v wx)
  case first =>
    go_region_law (first
      | (go_simp; refine (l1Below_thr (T := w.heap.size + 1) (w0 := w) (l := []) (v := .slice none 0 0) 2 (by omega) (by omega) (by omega) (by assumption)).mono ?_; rintro e w2 ⟨x, rfl, ⟨hx0, hx1⟩, ht2, hT, hF⟩; have hsz2 := ht2.blk.lt; have hw3 : IntKind.i64.wrap (3 + x) = 3 + x := small_in (by omega); have hw1 : IntKind.i64.wrap (1 + x) = 1 + x := small_in (by omega); go_simp)
      | (refine step_append_lies _ (by rfl) _ _ _ (by rfl) (w.heap.size + 2) 72 i0 _ 6 48 Try.underlying97 hi0.out hz0 hz1 hz2 rfl (by omega) (.slice none 0 0) 0 [] (by rfl) ((by assumption : ThrAt g w (w.heap.size + 1) [] (.slice none 0 0) _).alloc _).own _ 1 1 _ (by rfl) ?hl (World.news_of_block (heap_alloc_new _ _)) ?h1 (by omega) (by decide) (by decide) ?hb _ (by rfl) ?_
         case hl => rfl
         case h1 => simp [Value.oneCell']
         case hb => simp; omega
         intro gg cap w4 hown hgrow hat hlt
         obtain ⟨⟨hT4, hF4⟩, ht4⟩ := ThrAt.grow (g := g) (T := w.heap.size + 1) (w0 := w) (l := []) (v := .slice none 0 0) (d := ⟨1, _, 0, 0, 0, _⟩) ((by assumption : ThrAt g w (w.heap.size + 1) [] (.slice none 0 0) _).alloc _) hg rfl hown hgrow))
    all_goals
      (first | go_meet | (go_wp2_with fail; go_meet))
      exact ⟨_, _, by simp only [Small]; omega, ht4⟩
  case rest =>
    obtain ⟨d0, v0, hd0, ht0⟩ := hcut
    clear ht1 hT hF
    go_wp2_with fail
    go_loopw [10] (fun i wr => ∃ (l : List InsD) (v : Value), i = .int .i64 l.length ∧ ThrAt g w (w.heap.size + 1) l v wr ∧ Hid (∀ d ∈ l, Small d) ∧ 1 ≤ l.length ∧ (l.length : Int) ≤ 1 + x + 1) (fun i _ => (1 + x + 1).toNat - (intOf i).toNat)
    case atStart => exact ⟨[d0], v0, rfl, ht0, hide (by simpa using hd0), by simp, by simp; omega⟩
    case round =>
      obtain ⟨l, v, rfl, ht2, hsm, hl1, hl2⟩ := hrel
      have hs2 := ht2.blk.lt
      have hT2 := ht2.cell
      have hF2 := ht2.frozen
      by_cases hlt : (l.length : Int) < 1 + x + 1
      · have ht3 := ht2.drew
        go_wp2_with fail
        go_region_law (first
          | (go_simp; refine (l1ins_thr (T := w.heap.size + 1) (w0 := w) (l := l) (v := v) _ _ _ ⟨by omega, hlt⟩ (by omega) ⟨hcl0, hcl1⟩ (by omega) (by assumption)).mono ?_; rintro e w2 ⟨d, rfl, hd, ht4, hT4, hF4⟩; have hsz2 := ht4.blk.lt; go_simp)
          | (refine step_append_lies _ (by rfl) _ _ _ (by rfl) (w.heap.size + 2) 72 i0 _ 6 48 Try.underlying97 hi0.out hz0 hz1 hz2 rfl (by omega) v l.length (flat l) (by rfl) ((by assumption : ThrAt g w (w.heap.size + 1) l v _).alloc _).own _ 1 1 _ (by rfl) ?hl (World.news_of_block (heap_alloc_new _ _)) ?h1 (by omega) ?h63 ?hby ?hb _ (by rfl) ?_
             case hl => rfl
             case h1 => simp [Value.oneCell']
             case h63 => (have : maxLen = 9223372036854775807 := rfl); omega
             case hby => omega
             case hb => simp; omega
             intro gg cap w4 hown hgrow hat hlt
             obtain ⟨⟨hT5, hF5⟩, ht5⟩ := ThrAt.grow (g := g) (T := w.heap.size + 1) (w0 := w) (l := l) (v := v) (d := d) ((by assumption : ThrAt g w (w.heap.size + 1) l v _).alloc _) hg rfl hown hgrow))
        all_goals
          go_wp2_with fail
          go_roundw
          case rel => exact ⟨l ++ [d], _, by simp, ht5, hide (fun y hy => by
            rcases List.mem_append.1 hy with h | h
            · exact hsm.out y h
            · rw [List.mem_singleton.1 h]; exact hd), by simp, by simp; omega⟩
          case measure => simp [intOf]; omega
      · obtain ⟨A, c, rfl, -, -⟩ := own_inss ht2.own
        have hr := hide ht2.only
        have hcu := hide ht2.cur
        obtain ⟨u, ho⟩ := ht2.out
        have e0 : wr.cell? ⟨w.heap.size, 0, none⟩ = some u := ho.cell 0
        have z0 := ho.frozen 0
        have hown := hide ht2.own
        clear ht2 ho
        go_wp2_with fail
        refine bodyPost_ret (v := .agg #[.slice A l.length c]) (by simp [results, Try.results196, go_sem, e0]; done) rfl ⟨_, rfl, l, ⟨hl1, by omega⟩, ?_, hsm.out, ?_, ?_⟩
        · refine own_base (own_keep hown.out (fun b hb _ => Below.heap_setCell wr ⟨w.heap.size, 0, none⟩ _ b (by show b ≠ w.heap.size; omega))) (by omega)
        · exact hcu.out.setCell (by show g < w.heap.size; omega) _
        · exact hr.out.setCell (.inr (Nat.le_refl _)) _
end Go.Proofs.Ytfkaacfeikmabaa

namespace Go.Proofs.Ytfkaacfeikmabaa
open Go.RowKit

def vat (vs : List Value) (k : Nat) : Value := vs.getD k undef

theorem own_lt {w : World} {B : Nat} {e : TypeId} {size : Nat} {v : Value} {n : Nat} {xs : List Value} (h : w.ownsRow B e size v n xs) {b : Nat} (hb : v.ownBlock = some b) : B ≤ b ∧ b < w.heap.size ∧ ∃ cur, w.heap[b]? = some (.cells cur e (0, 0)) := by
  rcases h.2 with ⟨rfl, _⟩ | ⟨q, cap, cur, rfl, hq, hh, _⟩
  · simp [Value.ownBlock] at hb
  · have : q = b := by simpa [Value.ownBlock] using hb
    subst this
    refine ⟨hq, ?_, cur, hh⟩
    rcases Nat.lt_or_ge q w.heap.size with hlt | hge
    · exact hlt
    · rw [Array.getElem?_eq_none hge] at hh; cases hh

/-- The two values own no block together. -/
theorem apart_type {w : World} {B B' : Nat} {e e' : TypeId} {s s' : Nat} {u v : Value} {n m : Nat} {xs ys : List Value} (h : w.ownsRow B e s u n xs) (k : w.ownsRow B' e' s' v m ys) (hne : e ≠ e') : Apart u v := fun b hu hv => by
  obtain ⟨_, _, cur, h1⟩ := own_lt h hu
  obtain ⟨_, _, cur', h2⟩ := own_lt k hv
  rw [h1] at h2
  cases h2
  exact hne rfl
theorem apart_new {w w' : World} {B B' : Nat} {e e' : TypeId} {s s' : Nat} {u v : Value} {n m : Nat} {xs ys : List Value} (h : w.ownsRow B e s u n xs) (k : w'.ownsRow B' e' s' v m ys) (hB : w.heap.size ≤ B') : Apart u v := fun b hu hv => by
  have := (own_lt h hu).2.1
  have := (own_lt k hv).1
  omega
theorem own_grown {w w1 : World} {B : Nat} {e : TypeId} {size : Nat} {u v : Value} {n : Nat} {xs : List Value} (h : w.ownsRow B e size u n xs) (hg : w.grownBy w1 v.ownBlock) (ha : Apart u v) : w1.ownsRow B e size u n xs := by
  refine ⟨h.1, h.2.imp id ?_⟩
  rintro ⟨q, cap, cur, rfl, hb, hh, rest⟩
  refine ⟨q, cap, cur, rfl, hb, ?_, rest⟩
  have hu : (Value.slice (some ⟨q, 0, none⟩) n cap).ownBlock = some q := rfl
  rw [hg.block q (own_lt h hu).2.1 (fun e => ha q hu e.symm), hh]

structure ProgOwn (w : World) (B : Nat) (zs : List Int) (v : Value) (ts : List (List InsD)) (vs : List Value) (tv : Value) : Prop where
  ints : w.ownsRow B 3 1 v zs.length (zs.map (Value.int .i64))
  rows : w.ownsRow B 99 1 tv ts.length vs
  thr : ∀ k, k < ts.length → w.ownsRow B 72 6 (vat vs k) (gett ts k).length (flat (gett ts k))
  apart : ∀ j k, j < k → k < ts.length → Apart (vat vs j) (vat vs k)

section
variable {w w1 : World} {B : Nat} {zs : List Int} {v tv : Value} {ts : List (List InsD)} {vs : List Value}
theorem ProgOwn.keep (h : ProgOwn w B zs v ts vs tv) (hk : ∀ b, B ≤ b → b < w.heap.size → w1.heap[b]? = w.heap[b]?) : ProgOwn w1 B zs v ts vs tv :=
  ⟨own_keep h.ints hk, own_keep h.rows hk, fun k hk' => own_keep (h.thr k hk') hk, h.apart⟩
theorem ProgOwn.base {B' : Nat} (h : ProgOwn w B zs v ts vs tv) (hB : B' ≤ B) : ProgOwn w B' zs v ts vs tv :=
  ⟨own_base h.ints hB, own_base h.rows hB, fun k hk' => own_base (h.thr k hk') hB, h.apart⟩
theorem ProgOwn.setCell (h : ProgOwn w B zs v ts vs tv) {p : Addr} (hp : p.block < B) (u : Value) : ProgOwn (w.setCell p u) B zs v ts vs tv :=
  h.keep (fun b hb _ => Below.heap_setCell w p u b (by omega))
theorem ProgOwn.len (h : ProgOwn w B zs v ts vs tv) : vs.length = ts.length := by simpa using h.rows.1
theorem ProgOwn.nil (w : World) (B : Nat) : ProgOwn w B [] (.slice none 0 0) [] [] (.slice none 0 0) :=
  ⟨⟨rfl, .inl ⟨rfl, rfl⟩⟩, ⟨rfl, .inl ⟨rfl, rfl⟩⟩, fun k hk => by simp at hk, fun j k _ hk => by simp at hk⟩
theorem ProgOwn.growInts (h : ProgOwn w B zs v ts vs tv) {x : Int} {v' : Value} {xs : List Value} (hxs : xs = zs.map (Value.int .i64) ++ [.int .i64 x]) (ho : w1.ownsRow B 3 1 v' (zs.length + 1) xs) (hg : w.grownBy w1 v.ownBlock) : ProgOwn w1 B (zs ++ [x]) v' ts vs tv :=
  ⟨by subst hxs; simpa using ho, own_grown h.rows hg (apart_type h.rows h.ints (by decide)), fun k hk => own_grown (h.thr k hk) hg (apart_type (h.thr k hk) h.ints (by decide)), h.apart⟩
theorem vat_append (vs : List Value) (u : Value) (k : Nat) : vat (vs ++ [u]) k = if k < vs.length then vat vs k else if k = vs.length then u else undef := by
  unfold vat
  rw [List.getD_eq_getElem?_getD, List.getD_eq_getElem?_getD, List.getElem?_append]
  split
  · rfl
  · next hk =>
    by_cases e : k = vs.length
    · subst e; simp
    · rw [if_neg e, List.getElem?_eq_none (by simp; omega)]; rfl
theorem gett_append (ts : List (List InsD)) (u : List InsD) (k : Nat) : gett (ts ++ [u]) k = if k < ts.length then gett ts k else if k = ts.length then u else [] := by
  unfold gett
  rw [List.getD_eq_getElem?_getD, List.getD_eq_getElem?_getD, List.getElem?_append]
  split
  · rfl
  · next hk =>
    by_cases e : k = ts.length
    · subst e; simp
    · rw [if_neg e, List.getElem?_eq_none (by simp; omega)]; rfl
theorem ProgOwn.growRows (h : ProgOwn w B zs v ts vs tv) {u tv' : Value} {l : List InsD} (hu : w.ownsRow B 72 6 u l.length (flat l)) (ha : ∀ k, k < ts.length → Apart (vat vs k) u) (ho : w1.ownsRow B 99 1 tv' (ts.length + 1) (vs ++ [u])) (hg : w.grownBy w1 tv.ownBlock) : ProgOwn w1 B zs v (ts ++ [l]) (vs ++ [u]) tv' := by
  have hl := h.len
  refine ⟨own_grown h.ints hg (apart_type h.ints h.rows (by decide)), by simpa using ho, fun k hk => ?_, fun j k hjk hk => ?_⟩
  · simp only [List.length_append, List.length_singleton] at hk
    rw [vat_append, gett_append, hl]
    by_cases e : k < ts.length
    · rw [if_pos e, if_pos e]
      exact own_grown (h.thr k e) hg (apart_type (h.thr k e) h.rows (by decide))
    · rw [if_neg e, if_neg e, if_pos (by omega), if_pos (by omega)]
      exact own_grown hu hg (apart_type hu h.rows (by decide))
  · simp only [List.length_append, List.length_singleton] at hk
    rw [vat_append, vat_append, hl]
    by_cases e : k < ts.length
    · rw [if_pos e, if_pos (by omega)]
      exact h.apart j k hjk e
    · rw [if_neg e, if_pos (show k = ts.length by omega), if_pos (show j < ts.length by omega)]
      exact ha j (by omega)
end
end Go.Proofs.Ytfkaacfeikmabaa

namespace Go.Proofs.Ytfkaacfeikmabaa
open Go.RowKit

attribute [local go_sem ↓] Go.wp_at_zero Go.wp_at_succ

theorem Try.infoThr : (Try.prog.info? 99).map (fun i => (i.zero, i.size, i.bytes)) = some (some (.agg #[.slice none 0 0]), 1, 24) := by kernel_rfl

theorem own_form {w : World} {B : Nat} {e : TypeId} {size : Nat} {v : Value} {n : Nat} {xs : List Value} (h : w.ownsRow B e size v n xs) : ∃ A c, v = .slice A n c ∧ n ≤ c := by
  rcases h.2 with ⟨rfl, rfl⟩ | ⟨q, cap, cur, rfl, _, _, hcap, _⟩
  · exact ⟨_, _, rfl, Nat.le_refl _⟩
  · exact ⟨_, _, rfl, hcap⟩

/-- A program in the making: its two slices in block T, its rows behind. -/
structure PrAt (g : Nat) (w0 : World) (T : Nat) (zs : List Int) (v : Value) (ts : List (List InsD)) (vs : List Value) (tv : Value) (w : World) : Prop where
  cur : Cur w g
  only : Only g w0 w
  blk : Blk w T 31 #[v, tv]
  own : ProgOwn w (T + 1) zs v ts vs tv
  lo : w0.heap.size + 1 = T
  out : ∃ u u', Blk w w0.heap.size 31 #[u, u']

section
variable {g T : Nat} {w0 w w' : World} {zs : List Int} {v tv : Value} {ts : List (List InsD)} {vs : List Value}
/-- What the walk reads. -/
def PrC (w : World) (T : Nat) (v tv : Value) : Prop := (w.cell? ⟨T, 0, none⟩ = some v ∧ w.cell? ⟨T, 1, none⟩ = some tv) ∧ (w.frozen? ⟨T, 0, none⟩ = false ∧ w.frozen? ⟨T, 1, none⟩ = false)
theorem PrAt.cells (h : PrAt g w0 T zs v ts vs tv w) : PrC w T v tv := ⟨⟨h.blk.cell 0, h.blk.cell 1⟩, h.blk.frozen 0, h.blk.frozen 1⟩
theorem PrAt.call (h : PrAt g w0 T zs v ts vs tv w) (hg : g < w0.heap.size) (hc : Cur w' g) (ho : Only g w w') : PrAt g w0 T zs v ts vs tv w' :=
  ⟨hc, h.only.trans ho, h.blk.only ho (by have := h.lo; omega), h.own.keep (fun b hb hlt => ho.block b hlt (by have := h.lo; omega)), h.lo, h.out.imp fun _ => Exists.imp fun _ k => k.only ho (by omega)⟩
theorem PrAt.drew (h : PrAt g w0 T zs v ts vs tv w) : PrAt g w0 T zs v ts vs tv w.drew := ⟨h.cur, h.only.drew, h.blk, ⟨h.own.ints, h.own.rows, h.own.thr, h.own.apart⟩, h.lo, h.out⟩
theorem PrAt.alloc (h : PrAt g w0 T zs v ts vs tv w) (o : Obj) : PrAt g w0 T zs v ts vs tv (w.alloc o) :=
  ⟨h.cur.alloc o, h.only.alloc o, h.blk.alloc o, h.own.keep (fun b _ hlt => Below.heap_alloc w o b hlt), h.lo, h.out.imp fun _ => Exists.imp fun _ k => k.alloc o⟩
theorem own_far {w : World} {B : Nat} {e : TypeId} {size : Nat} {v : Value} {n : Nat} {xs : List Value} (h : w.ownsRow B e size v n xs) {b : Nat} (hb : b < B) : some b ≠ v.ownBlock := fun e => by
  have := (own_lt h e.symm).1
  omega
theorem PrAt.grown (h : PrAt g w0 T zs v ts vs tv w) (hw : g < w0.heap.size) {w1 : World} {r : Value} (hr : ∀ b, b < T + 1 → some b ≠ r.ownBlock) (hgr : w.grownBy w1 r.ownBlock) {zs' : List Int} {v' tv' : Value} {ts' : List (List InsD)} {vs' : List Value}
    (ho : ProgOwn w1 (T + 1) zs' v' ts' vs' tv') (i : Nat) (u : Value) (hi : #[v, tv].setIfInBounds i u = #[v', tv']) : PrC w1 T v tv ∧ PrAt g w0 T zs' v' ts' vs' tv' (w1.setCell ⟨T, i, none⟩ u) := by
  have hT := h.blk.lt
  have hlo := h.lo
  have hB : Blk w1 T 31 #[v, tv] := (hgr.block T hT (hr T (by omega))).trans h.blk
  have hbel : Below (g + 1) w w1 := ⟨hgr.os, hgr.tape, hgr.output, hgr.size, fun k hk => hgr.block k (by omega) (hr k (by omega))⟩
  refine ⟨⟨⟨hB.cell 0, hB.cell 1⟩, hB.frozen 0, hB.frozen 1⟩, ⟨(h.cur.below hbel).setCell (by show g < T; omega) _, ?_, by have := hB.set_ i u; rwa [hi] at this, ?_, h.lo, h.out.imp fun _ => Exists.imp fun _ k => Blk.far ((hgr.block w0.heap.size (Blk.lt k) (hr _ (by omega))).trans k) (by show w0.heap.size ≠ T; omega) _⟩⟩
  · refine Only.setCell ?_ (.inr (by show w0.heap.size ≤ T; omega)) _
    have hz := h.only.size
    exact ⟨hgr.os.trans h.only.os, hgr.tape.trans h.only.tape, hgr.output.trans h.only.output, Nat.le_trans h.only.size hgr.size, fun k hk hk2 => (hgr.block k (by omega) (hr k (by omega))).trans (h.only.block k hk hk2)⟩
  · exact ho.keep (fun b hb _ => Below.heap_setCell w1 ⟨T, i, none⟩ u b (by show b ≠ T; omega))
theorem PrAt.growInts (h : PrAt g w0 T zs v ts vs tv w) (hw : g < w0.heap.size) {w1 : World} {v' : Value} {x : Int} {xs : List Value} (hxs : xs = zs.map (Value.int .i64) ++ [.int .i64 x]) (ho : w1.ownsRow (T + 1) 3 1 v' (zs.length + 1) xs) (hgr : w.grownBy w1 v.ownBlock) :
    PrC w1 T v tv ∧ PrAt g w0 T (zs ++ [x]) v' ts vs tv (w1.setCell ⟨T, 0, none⟩ v') :=
  h.grown hw (fun _ hb => own_far h.own.ints hb) hgr (h.own.growInts hxs ho hgr) 0 v' rfl
theorem PrAt.growRows (h : PrAt g w0 T zs v ts vs tv w) (hw : g < w0.heap.size) {w1 : World} {u tv' : Value} {l : List InsD} (hu : w.ownsRow (T + 1) 72 6 u l.length (flat l)) (ha : ∀ k, k < ts.length → Apart (vat vs k) u) (ho : w1.ownsRow (T + 1) 99 1 tv' (ts.length + 1) (vs ++ [u])) (hgr : w.grownBy w1 tv.ownBlock) :
    PrC w1 T v tv ∧ PrAt g w0 T zs v (ts ++ [l]) (vs ++ [u]) tv' (w1.setCell ⟨T, 1, none⟩ tv') :=
  h.grown hw (fun _ hb => own_far h.own.rows hb) hgr (h.own.growRows hu ha ho hgr) 1 tv' rfl

theorem l1Below_pr (n : Int) (hn : 1 ≤ n) (hn2 : n ≤ 100) (hg : g < w0.heap.size) (h : PrAt g w0 T zs v ts vs tv w) :
    Calls Try.prog 126 #[.pointer (some ⟨g, 0, none⟩), .int .i64 n] w fun e w' => ∃ x : Int, e = .returned (.int .i64 x) ∧ (0 ≤ x ∧ x < n) ∧ PrAt g w0 T zs v ts vs tv w' := by
  refine (l1Below_any g n w (by omega) (by omega) h.cur).mono ?_
  rintro e w' ⟨x, rfl, hx, hc, ho⟩
  exact ⟨x, rfl, belowP hx (by omega), h.call hg hc ho⟩
theorem l1Pick_pr (A : Option Addr) (xs : List Int) (hl : 0 < xs.length) (hl2 : xs.length ≤ 256) (c : Nat) (hg : g < w0.heap.size) (hin : IntsAt w (fun b => b < w.heap.size ∧ b ≠ g) A xs) (h : PrAt g w0 T zs v ts vs tv w) :
    Calls Try.prog 172 #[.pointer (some ⟨g, 0, none⟩), .slice A xs.length c] w fun e w' => ∃ x : Int, e = .returned (.int .i64 x) ∧ x ∈ xs ∧ PrAt g w0 T zs v ts vs tv w' ∧ PrC w' T v tv ∧ w.heap.size ≤ w'.heap.size := by
  refine (l1PickInt_any g A xs c w hl hl2 hin h.cur).mono ?_
  rintro e w' ⟨k, hk, rfl, hc, ho⟩
  have hh := h.call hg hc ho
  exact ⟨_, rfl, by simp [geti, List.getD_eq_getElem?_getD, List.getElem?_eq_getElem hk], hh, hh.cells, ho.size⟩
theorem l1thread_pr (cells most : Int) (hm : 1 ≤ most ∧ most ≤ 29) (hcl : 1 ≤ cells ∧ cells ≤ 6) (hg : g < w0.heap.size) (h : PrAt g w0 T zs v ts vs tv w) :
    Calls Try.prog 196 #[.pointer (some ⟨g, 0, none⟩), .int .i64 cells, .int .i64 most] w fun e w' => ∃ (A : Option Addr) (c : Nat) (l : List InsD), e = .returned (.agg #[.slice A l.length c]) ∧ (1 ≤ l.length ∧ (l.length : Int) ≤ most + 1) ∧ w'.ownsRow (T + 1) 72 6 (.slice A l.length c) l.length (flat l) ∧ (∀ d ∈ l, Small d) ∧ (∀ k, k < ts.length → Apart (vat vs k) (.slice A l.length c)) ∧ PrAt g w0 T zs v ts vs tv w' ∧ PrC w' T v tv ∧ w.heap.size ≤ w'.heap.size := by
  refine (l1thread_any g cells most w hm hcl h.cur).mono ?_
  rintro e w' ⟨u, l, rfl, hl, hu, hs, hc, ho⟩
  have hh := h.call hg hc ho
  obtain ⟨A, c, rfl, -, -⟩ := own_inss hu
  exact ⟨A, c, l, rfl, hl, own_base hu (by have := h.blk.lt; omega), hs, fun k hk => apart_new (h.own.thr k hk) hu (Nat.le_refl _), hh, hh.cells, ho.size⟩
end
end Go.Proofs.Ytfkaacfeikmabaa

namespace Go.Proofs.Ytfkaacfeikmabaa
open Go.RowKit

structure RowsUp (t : TypeId) (w : World) (B : Nat) (v : Value) (rs : List RowD) : Prop where
  own : w.ownsRow B t 1 v rs.length (rs.map RowD.val)
  each : ∀ k, k < rs.length → (getr rs k).at_ 3 w
  up : ∀ i j, i < j → j < rs.length → (getr rs i).hi ≤ (getr rs j).lo
  rng : ∀ k, k < rs.length → B ≤ (getr rs k).lo ∧ (getr rs k).hi ≤ w.heap.size
theorem getr_snoc (rs : List RowD) (r : RowD) (k : Nat) (hk : k < (rs ++ [r]).length) : (k < rs.length ∧ getr (rs ++ [r]) k = getr rs k) ∨ (k = rs.length ∧ getr (rs ++ [r]) k = r) := by
  unfold getr
  rw [List.getD_eq_getElem?_getD, List.getD_eq_getElem?_getD]
  rcases Nat.lt_or_ge k rs.length with h | h
  · exact .inl ⟨h, by rw [List.getElem?_append_left h]⟩
  · have e : k = rs.length := by simp at hk; omega
    subst e
    exact .inr ⟨rfl, by simp⟩
section
variable {t : TypeId} {w w' w1 : World} {B m lo hi n : Nat} {v v' u : Value} {rs : List RowD} {xs : List Value} {zs : List Int}
theorem RowsUp.nil (t : TypeId) (w : World) (B : Nat) : RowsUp t w B (.slice none 0 0) [] := ⟨⟨rfl, .inl ⟨rfl, rfl⟩⟩, fun k hk => by simp at hk, fun i j _ hj => by simp at hj, fun k hk => by simp at hk⟩
theorem RowsUp.keep (h : RowsUp t w B v rs) (hs : w.heap.size ≤ w'.heap.size) (hk : ∀ k, B ≤ k → k < w.heap.size → w'.heap[k]? = w.heap[k]?) : RowsUp t w' B v rs :=
  ⟨kept h.own (fun k h1 e => hk k (own_lt h.own e).1 h1), fun k hk' => RvI.keep (h.each k hk') (fun b h1 _ h3 => hk b (Nat.le_trans (h.rng k hk').1 h1) h3), h.up, fun k hk' => ⟨(h.rng k hk').1, Nat.le_trans (h.rng k hk').2 hs⟩⟩
theorem RowsUp.next (h : RowsUp t w B v rs) (hb : Below w.heap.size w w') : RowsUp t w' B v rs := h.keep hb.size (fun k _ hk => hb.block k hk)
theorem RowsUp.alloc (h : RowsUp t w B v rs) (o : Obj) : RowsUp t (w.alloc o) B v rs := h.next (below1 w o)
theorem RowsUp.drew (h : RowsUp t w B v rs) : RowsUp t w.drew B v rs := h.next (Below.refl _ _).drew
theorem RowsUp.setCell (h : RowsUp t w B v rs) {p : Addr} (hp : p.block < B) (x : Value) : RowsUp t (w.setCell p x) B v rs :=
  h.keep (by simp [World.setCell]) (fun k hk _ => Below.heap_setCell w p x k (by omega))
theorem RvI.grownO {et : TypeId} (h : RvI et w lo hi u n zs) (hg : w.grownBy w1 v.ownBlock) (hv : w.ownsRow B t 1 v m xs) (hne : et ≠ t) : RvI et w1 lo hi u n zs :=
  ⟨h.1.keep (fun k hk e => hg.block k hk (fun e2 => by
    obtain ⟨_, _, cur, h2⟩ := own_lt hv e2.symm
    rcases h.1 with ⟨rfl, -, -⟩ | ⟨q, c, rfl, ⟨cs, hb, -⟩, -⟩
    · simp [Value.ownBlock] at e
    · have : q = k := by simpa [Value.ownBlock] using e
      subst this
      have h3 : w.heap[q]? = some (.cells cs et (0, 0)) := hb
      rw [h2] at h3
      cases h3
      exact hne rfl)), h.2⟩
/-- One row more, behind the others. -/
theorem RowsUp.more (h : RowsUp t w B v rs) (hne : 3 ≠ t) {r : RowD} (hr : r.at_ 3 w) (h1 : B ≤ r.lo) (h2 : ∀ k, k < rs.length → (getr rs k).hi ≤ r.lo) (h3 : r.hi ≤ w.heap.size) (hxs : xs = rs.map RowD.val ++ [r.val]) (ho : w1.ownsRow B t 1 v' (rs.length + 1) xs) (hg : w.grownBy w1 v.ownBlock) :
    RowsUp t w1 B v' (rs ++ [r]) := by
  subst hxs
  have hl : (rs ++ [r]).length = rs.length + 1 := by simp
  refine ⟨by simpa using ho, fun k hk => ?_, fun i j hij hj => ?_, fun k hk => ?_⟩
  · rcases getr_snoc rs r k hk with ⟨hk', e⟩ | ⟨-, e⟩
    · rw [e]; exact RvI.grownO (h.each k hk') hg h.own hne
    · rw [e]; exact RvI.grownO hr hg h.own hne
  · rcases getr_snoc rs r j hj with ⟨hj', ej⟩ | ⟨ej0, ej⟩
    · rcases getr_snoc rs r i (by omega) with ⟨hi', ei⟩ | ⟨ei0, -⟩
      · rw [ei, ej]; exact h.up i j hij hj'
      · omega
    · rcases getr_snoc rs r i (by omega) with ⟨hi', ei⟩ | ⟨ei0, -⟩
      · rw [ei, ej]; exact h2 i hi'
      · omega
  · rcases getr_snoc rs r k hk with ⟨hk', e⟩ | ⟨-, e⟩
    · rw [e]; exact ⟨(h.rng k hk').1, Nat.le_trans (h.rng k hk').2 hg.size⟩
    · rw [e]; exact ⟨h1, Nat.le_trans h3 hg.size⟩
/-- When it is made: a row between two block numbers. -/
theorem RowsUp.toI (h : RowsUp t w B v rs) {hi' : Nat} (hh : w.heap.size ≤ hi') : ∃ A c, v = .slice A rs.length c ∧ RowsI t 3 w B hi' A rs := by
  rcases h.own.2 with ⟨rfl, h0⟩ | ⟨q, cap, cur, rfl, hb, hq, hcap, -, hsz, htk⟩
  · have e : rs = [] := List.length_eq_zero_iff.1 h0
    subst e
    exact ⟨none, 0, rfl, .inl rfl⟩
  · refine ⟨_, cap, rfl, .inr ⟨q, rfl, ⟨⟨cur, hq, by omega, fun k hk => ?_⟩, h.each, h.up, ⟨⟨hb, Nat.lt_of_lt_of_le (Blk.lt hq) hh⟩, fun k hk => ⟨(h.rng k hk).1, Nat.le_trans (h.rng k hk).2 hh⟩⟩⟩⟩⟩
    have h2 : cur.toList[k]? = (rs.map RowD.val)[k]? := by rw [← htk, List.getElem?_take, if_pos (by omega)]
    rw [← Array.getElem?_toList, h2, List.getElem?_map, List.getElem?_eq_getElem hk]
    simp only [Option.map_some, RowD.val]
    unfold getr
    rw [List.getD_eq_getElem?_getD, List.getElem?_eq_getElem hk]
    rfl
end
end Go.Proofs.Ytfkaacfeikmabaa

namespace Go.Proofs.Ytfkaacfeikmabaa
open Go.RowKit

set_option maxHeartbeats 800000 in
theorem szFile_any (A : Option Addr) (n c : Nat) (w : World) (hn : n ≤ 9223372036854775807) :
    Calls Try.prog 40 #[.agg #[.slice A n c], .int .i64 1048576] w fun e w' => e = .returned (.int .i64 (szR 1048576 n)) ∧ Below w.heap.size w w' := by
  have ks := fun w => szIntS_any A n c 1048576 w (by omega) (by omega) hn
  have hr : szR 1048576 n = -1 ∨ 0 ≤ szR 1048576 n := by unfold szR; split <;> omega
  generalize szR 1048576 n = s at *
  replace ks := hide ks
  rcases hr with rfl | hr
  · go_enter Try.func40, Try.ntmps40
    go_wp2_with fail
    refine (ks.out _).mono ?_
    rintro e w1 ⟨rfl, rfl⟩
    go_wp2_with fail
    go_ret
    exact ⟨rfl, below1 _ _⟩
  · go_enter Try.func40, Try.ntmps40
    go_wp2_with fail
    refine (ks.out _).mono ?_
    rintro e w1 ⟨rfl, rfl⟩
    go_wp2_with fail
    go_ret
    exact ⟨rfl, below1 _ _⟩

/-- A file's copy. -/
def FileCopy (w w' : World) (e : Ending) (zs : List Int) : Prop := ∃ q, e = .returned (.agg #[.slice (some ⟨q, 0, none⟩) zs.length zs.length]) ∧ w.heap.size ≤ q ∧ RowB w' q zs ∧ Below w.heap.size w w'
set_option maxHeartbeats 800000 in
theorem toFile_any (A : Option Addr) (zs : List Int) (c : Nat) (S : Nat → Prop) (w : World) (hn : zs.length ≤ 1048576) (hS : ∀ b, S b → b < w.heap.size) (ha : IntsAt w S A zs) :
    Calls Try.prog 43 #[.agg #[.slice A zs.length c]] w fun e w' => FileCopy w w' e zs := by
  have hb0 := (below2 w (Obj.cells #[Value.slice A zs.length c] 67) (Obj.cells #[Value.slice none 0 0] 69)).alloc (by simp; omega) (Obj.cells #[Value.slice none 0 0] 69)
  have hR := ((Blk.new (w.alloc (Obj.cells #[Value.slice A zs.length c] 67)) 69 #[Value.slice none 0 0]).alloc (Obj.cells #[Value.slice none 0 0] 69))
  have hX := Blk.new ((w.alloc (Obj.cells #[Value.slice A zs.length c] 67)).alloc (Obj.cells #[Value.slice none 0 0] 69)) 69 #[Value.slice none 0 0]
  simp only [World.size_alloc] at hR hX
  replace hR := hide hR
  replace hX := hide hX
  go_enter Try.func43, Try.ntmps43
  go_wp2_with fail
  refine (toIntS_row A zs c S _ hn (fun b h => Nat.lt_of_lt_of_le (hS b h) hb0.size) (ha.below hb0 hS)).mono ?_
  rintro e w1 ⟨rfl, hrow, hb1⟩
  have hR1 := hR.out.below hb1 (by simp)
  have hX1 := hX.out.below hb1 (by simp)
  have r0 := hR1.cell 0
  have z0 := hR1.frozen 0
  have x0 := hX1.cell 0
  have z1 := hX1.frozen 0
  simp only [List.getElem?_toArray, List.getElem?_cons_zero] at r0 x0
  have hl := hX1.lt
  have hB := hide (hb0.trans (hb1.mono (by first | (simp; omega) | simp)))
  replace hrow := hide hrow
  clear hR1 hX1 hb1
  go_wp2_with fail
  refine bodyPost_ret (v := .agg #[.slice (some ⟨w.heap.size + 1 + 1 + 1, 0, none⟩) zs.length zs.length]) (by simp [results, Try.results43, go_sem, r0]; done) rfl ⟨w.heap.size + 1 + 1 + 1, rfl, by omega, ?_, ?_⟩
  · obtain ⟨cs, h1, h2⟩ := hrow.out
    simp only [World.size_alloc] at h1
    exact ⟨cs, (h1.far (by show w.heap.size + 1 + 1 + 1 ≠ w.heap.size + 1 + 1; omega) _).far (by show w.heap.size + 1 + 1 + 1 ≠ w.heap.size + 1; omega) _, h2⟩
  · exact (hB.out.setCell (by show w.heap.size ≤ w.heap.size + 1 + 1; omega) _).setCell (by show w.heap.size ≤ w.heap.size + 1; omega) _

set_option maxHeartbeats 800000 in
theorem eqFile_any (A A' : Option Addr) (zs : List Int) (c c' : Nat) (S : Nat → Prop) (w : World) (hS : ∀ b, S b → b < w.heap.size) (ha : IntsAt w S A zs) (ha' : IntsAt w S A' zs) :
    Calls Try.prog 45 #[.agg #[.slice A zs.length c], .agg #[.slice A' zs.length c']] w fun e w' => e = .returned (.bool true) ∧ Below w.heap.size w w' := by
  have hb0 := below2 w (Obj.cells #[Value.slice A zs.length c] 69) (Obj.cells #[Value.slice A' zs.length c'] 69)
  go_enter Try.func45, Try.ntmps45
  go_wp2_with fail
  refine (eqIntS_any A A' zs c c' S _ (fun b h => Nat.lt_of_lt_of_le (hS b h) hb0.size) (ha.below hb0 hS) (ha'.below hb0 hS)).mono ?_
  rintro e w1 ⟨rfl, hb1⟩
  go_wp2_with fail
  go_ret
  exact ⟨rfl, below_then hb0 hb1⟩

end Go.Proofs.Ytfkaacfeikmabaa
