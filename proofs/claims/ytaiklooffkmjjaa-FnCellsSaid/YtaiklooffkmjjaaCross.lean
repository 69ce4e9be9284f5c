/- laws.crosswise: two threads that write one cell each and read the other's. -/
import Derived.Test.YtaiklooffkmjjaaBeG
namespace Go.Proofs.Ytaiklooffkmjjaa
open Go.RowKit

attribute [local go_sem ↓] Go.wp_at_zero Go.wp_at_succ

/-- Thread n of laws.crosswise. -/
def crossT (f : Bool) (n : Nat) : List InsD := [⟨1, 1, 0, 0, 0, 1⟩, ⟨8, 0, 1, 0, n, 0⟩] ++ (if f then [⟨12, 0, 0, 0, 0, 0⟩] else []) ++ [⟨7, 0, 0, 0, 1 - n, 0⟩]
def crossTs (f : Bool) (n : Nat) : List (List InsD) := (List.range n).map (crossT f)
theorem crossTs_len (f : Bool) (n : Nat) : (crossTs f n).length = n := by simp [crossTs]
theorem crossTs_succ (f : Bool) (n : Nat) : crossTs f (n + 1) = crossTs f n ++ [crossT f n] := by simp [crossTs, List.range_succ]

set_option maxRecDepth 100000 in
set_option maxHeartbeats 6400000 in
theorem crosswise_any (f : Bool) (w : World) :
    Calls Try.prog 34 #[.bool f] w fun e w' => ∃ (v tv : Value), e = .returned (.agg #[v, tv]) ∧ (∃ vs : List Value, ProgOwn w' w.heap.size [0, 0] v (crossTs f 2) vs tv) ∧ Below w.heap.size w w' := by
  obtain ⟨i0, hi0, hz0, hz1, hz2⟩ := info_parts Try.infoIns
  obtain ⟨i2, hi2, hx0, hx1, hx2⟩ := info_parts Try.infoThr
  have hi0 := hide hi0
  have hi2 := hide hi2
  have h0 : CrAt w (w.heap.size + 1 + 1) [0, 0] (.slice (some ⟨w.heap.size + 1, 0, none⟩) 2 2) (crossTs f 0) [] (.slice none 0 0) (((w.alloc (Obj.cells #[Value.slice none 0 0, Value.slice none 0 0] 43)).alloc (Obj.cells #[Value.int .i64 0, Value.int .i64 0] 3)).alloc (Obj.cells #[Value.slice (some ⟨w.heap.size + 1, 0, none⟩) 2 2, Value.slice none 0 0] 43)) := by
    have r := own_lit (w.alloc (Obj.cells #[Value.slice none 0 0, Value.slice none 0 0] 43)) (w.heap.size + 1) 3 1 2 #[Value.int .i64 0, Value.int .i64 0] (by simp) (by omega) rfl
    have b := Blk.new ((w.alloc (Obj.cells #[Value.slice none 0 0, Value.slice none 0 0] 43)).alloc (Obj.cells #[Value.int .i64 0, Value.int .i64 0] 3)) 43 #[Value.slice (some ⟨w.heap.size + 1, 0, none⟩) 2 2, Value.slice none 0 0]
    simp only [World.size_alloc] at r b
    exact ⟨((below1 w _).alloc (by simp) _).alloc (by simp; omega) _, b, ⟨own_keep r (fun b _ hlt => Below.heap_alloc _ _ b hlt), ⟨rfl, .inl ⟨rfl, rfl⟩⟩, fun k hk => by simp [crossTs] at hk, fun j k _ hk => by simp [crossTs] at hk⟩, by omega, ⟨_, _, ((Blk.new w 43 #[Value.slice none 0 0, Value.slice none 0 0]).alloc _).alloc _⟩⟩
  go_enter Try.func34, Try.ntmps34
  go_wp2_with fail
  go_loopw [4] (fun t wr => ∃ (n : Nat) (vs : List Value) (tv : Value), t = .int .i64 n ∧ n ≤ 2 ∧ CrAt w (w.heap.size + 1 + 1) [0, 0] (.slice (some ⟨w.heap.size + 1, 0, none⟩) 2 2) (crossTs f n) vs tv wr) (fun t _ => (2 - intOf t).toNat)
  case atStart => exact ⟨0, [], _, rfl, by omega, h0⟩
  case round =>
    obtain ⟨n, vs, tv, rfl, hn, h1⟩ := hrel
    have hs1 := h1.blk.lt
    obtain ⟨⟨c0, c1⟩, f0, f1⟩ := h1.cells
    clear h0
    by_cases hlt : n < 2
    · have hlt' : (n : Int) < 2 := by omega
      have hw : IntKind.i64.wrap (1 - (n : Int)) = 1 - n := by rw [IntKind.wrap_i64]; omega
      have hl := crossTs_len f n
      obtain ⟨A5, c5, rfl, -⟩ := own_form h1.own.rows
      rw [hl] at c1
      have hL := LAt.start (l := [⟨1, 1, 0, 0, 0, 1⟩, ⟨8, 0, 1, 0, n, 0⟩]) (cs := #[Value.int .i64 1, Value.int .i64 1, Value.int .i64 0, Value.int .i64 0, Value.int .i64 0, Value.int .i64 1, Value.int .i64 8, Value.int .i64 0, Value.int .i64 1, Value.int .i64 0, Value.int .i64 n, Value.int .i64 0]) h1 (by simp) rfl
      cases f
      · go_wp2_with (at_builtin; refine wpList_append_lies _ rfl _ _ _ rfl (w.heap.size + 1) 24 i0 _ 6 48 Try.underlying67 hi0.out hz0 hz1 hz2 rfl (by omega) (.slice (some ⟨wr.heap.size, 0, none⟩) 2 2) 2 _ rfl (hL.alloc _).row ⟨wr.heap.size + 1, 0, none⟩ 1 1 [Value.int .i64 7, Value.int .i64 0, Value.int .i64 0, Value.int .i64 0, Value.int .i64 (1 - n), Value.int .i64 0] rfl rfl (World.news_of_block (cs := #[Value.int .i64 7, Value.int .i64 0, Value.int .i64 0, Value.int .i64 0, Value.int .i64 (1 - n), Value.int .i64 0]) (t := 24) (fr := (0, 0)) (by have := Blk.new (wr.alloc (Obj.cells #[Value.int .i64 1, Value.int .i64 1, Value.int .i64 0, Value.int .i64 0, Value.int .i64 0, Value.int .i64 1, Value.int .i64 8, Value.int .i64 0, Value.int .i64 1, Value.int .i64 0, Value.int .i64 n, Value.int .i64 0] 24)) 24 #[Value.int .i64 7, Value.int .i64 0, Value.int .i64 0, Value.int .i64 0, Value.int .i64 (1 - n), Value.int .i64 0]; simp only [World.size_alloc] at this; exact this)) (by simp [Value.oneCell']) (by omega) (by have : maxLen = 9223372036854775807 := rfl; omega) (by omega) (by simp; omega) _ rfl ?_)
        intro g7 cap7 w7 hown7 hgrow7 hat7 hlt7
        have hL2 := (hL.alloc _).growL (d := ⟨7, 0, 0, 0, 1 - n, 0⟩) (by simp [insVals]) hown7 hgrow7 (by simp only [World.size_alloc]; exact hat7)
        have hsz := hL2.cr.blk.lt
        obtain ⟨⟨e0, e1⟩, g0, g1⟩ := hL2.cr.cells
        rw [hl] at e1
        go_wp2_with (at_builtin; refine wpList_append_lies _ rfl _ _ _ rfl (w.heap.size + 1) 69 i2 _ 1 24 Try.underlying41 hi2.out hx0 hx1 hx2 rfl (by omega) (.slice A5 n c5) n vs rfl (by have := (hL2.alloc (Obj.cells #[Value.slice (some ⟨g7, 0, none⟩) 3 cap7] 69)).cr.own.rows; rw [hl] at this; exact this) ⟨w7.heap.size, 0, none⟩ 1 1 [Value.slice (some ⟨g7, 0, none⟩) 3 cap7] rfl rfl (World.news_of_block (cs := #[Value.slice (some ⟨g7, 0, none⟩) 3 cap7]) (t := 69) (fr := (0, 0)) (heap_alloc_new _ _)) (by simp [Value.oneCell']) (by omega) (by have : maxLen = 9223372036854775807 := rfl; omega) (by omega) (by simp; omega) _ rfl ?_)
        intro g9 cap9 w9 hown9 hgrow9 hat9 hlt9
        obtain ⟨⟨⟨p0, p1⟩, p2, p3⟩, h9⟩ := (hL2.alloc _).growRows rfl (by rw [hl]; exact hown9) (by rw [hl]; exact hgrow9)
        go_wp2_with fail
        go_roundw
        case rel => exact ⟨n + 1, _, _, by simp, by omega, by rw [crossTs_succ]; exact h9⟩
        case measure => simp [intOf]; omega
      · go_wp2_with (at_builtin; refine wpList_append_lies _ rfl _ _ _ rfl (w.heap.size + 1) 24 i0 _ 6 48 Try.underlying67 hi0.out hz0 hz1 hz2 rfl (by omega) (.slice (some ⟨wr.heap.size, 0, none⟩) 2 2) 2 _ rfl (hL.alloc _).row ⟨wr.heap.size + 1, 0, none⟩ 1 1 [Value.int .i64 12, Value.int .i64 0, Value.int .i64 0, Value.int .i64 0, Value.int .i64 0, Value.int .i64 0] rfl rfl (World.news_of_block (cs := #[Value.int .i64 12, Value.int .i64 0, Value.int .i64 0, Value.int .i64 0, Value.int .i64 0, Value.int .i64 0]) (t := 24) (fr := (0, 0)) (by have := Blk.new (wr.alloc (Obj.cells #[Value.int .i64 1, Value.int .i64 1, Value.int .i64 0, Value.int .i64 0, Value.int .i64 0, Value.int .i64 1, Value.int .i64 8, Value.int .i64 0, Value.int .i64 1, Value.int .i64 0, Value.int .i64 n, Value.int .i64 0] 24)) 24 #[Value.int .i64 12, Value.int .i64 0, Value.int .i64 0, Value.int .i64 0, Value.int .i64 0, Value.int .i64 0]; simp only [World.size_alloc] at this; exact this)) (by simp [Value.oneCell']) (by omega) (by have : maxLen = 9223372036854775807 := rfl; omega) (by omega) (by simp; omega) _ rfl ?_)
        intro g6 cap6 w6 hown6 hgrow6 hat6 hlt6
        have hL1 := (hL.alloc _).growL (d := ⟨12, 0, 0, 0, 0, 0⟩) (by simp [insVals]) hown6 hgrow6 (by simp only [World.size_alloc]; exact hat6)
        have hs6 := hL1.cr.blk.lt
        go_wp2_with (at_builtin; refine wpList_append_lies _ rfl _ _ _ rfl (w.heap.size + 1) 24 i0 _ 6 48 Try.underlying67 hi0.out hz0 hz1 hz2 rfl (by omega) (.slice (some ⟨g6, 0, none⟩) 3 cap6) 3 _ rfl (hL1.alloc _).row ⟨w6.heap.size, 0, none⟩ 1 1 [Value.int .i64 7, Value.int .i64 0, Value.int .i64 0, Value.int .i64 0, Value.int .i64 (1 - n), Value.int .i64 0] rfl rfl (World.news_of_block (cs := #[Value.int .i64 7, Value.int .i64 0, Value.int .i64 0, Value.int .i64 0, Value.int .i64 (1 - n), Value.int .i64 0]) (t := 24) (fr := (0, 0)) (heap_alloc_new _ _)) (by simp [Value.oneCell']) (by omega) (by have : maxLen = 9223372036854775807 := rfl; omega) (by omega) (by simp; omega) _ rfl ?_)
        intro g7 cap7 w7 hown7 hgrow7 hat7 hlt7
        have hL2 := (hL1.alloc _).growL (d := ⟨7, 0, 0, 0, 1 - n, 0⟩) (by simp [insVals]) hown7 hgrow7 (by simp only [World.size_alloc]; exact hat7)
        have hsz := hL2.cr.blk.lt
        obtain ⟨⟨e0, e1⟩, g0, g1⟩ := hL2.cr.cells
        rw [hl] at e1
        go_wp2_with (at_builtin; refine wpList_append_lies _ rfl _ _ _ rfl (w.heap.size + 1) 69 i2 _ 1 24 Try.underlying41 hi2.out hx0 hx1 hx2 rfl (by omega) (.slice A5 n c5) n vs rfl (by have := (hL2.alloc (Obj.cells #[Value.slice (some ⟨g7, 0, none⟩) 4 cap7] 69)).cr.own.rows; rw [hl] at this; exact this) ⟨w7.heap.size, 0, none⟩ 1 1 [Value.slice (some ⟨g7, 0, none⟩) 4 cap7] rfl rfl (World.news_of_block (cs := #[Value.slice (some ⟨g7, 0, none⟩) 4 cap7]) (t := 69) (fr := (0, 0)) (heap_alloc_new _ _)) (by simp [Value.oneCell']) (by omega) (by have : maxLen = 9223372036854775807 := rfl; omega) (by omega) (by simp; omega) _ rfl ?_)
        intro g9 cap9 w9 hown9 hgrow9 hat9 hlt9
        obtain ⟨⟨⟨p0, p1⟩, p2, p3⟩, h9⟩ := (hL2.alloc _).growRows rfl (by rw [hl]; exact hown9) (by rw [hl]; exact hgrow9)
        go_wp2_with fail
        go_roundw
        case rel => exact ⟨n + 1, _, _, by simp, by omega, by rw [crossTs_succ]; exact h9⟩
        case measure => simp [intOf]; omega
    · obtain rfl : n = 2 := by omega
      obtain ⟨A5, c5, rfl, -⟩ := own_form h1.own.rows
      obtain ⟨u, u', ho⟩ := h1.out
      have e0 : wr.cell? ⟨w.heap.size, 0, none⟩ = some u := ho.cell 0
      have e1 : wr.cell? ⟨w.heap.size, 1, none⟩ = some u' := ho.cell 1
      have z0 := ho.frozen 0
      have z1 := ho.frozen 1
      have hown := hide h1.own
      have hb := hide h1.below
      clear h1 ho
      go_wp2_with fail
      refine bodyPost_ret (v := .agg #[.slice (some ⟨w.heap.size + 1, 0, none⟩) 2 2, .slice A5 (crossTs f 2).length c5]) (by simp [results, Try.results34, go_sem, e0, e1]; done) rfl ⟨_, _, rfl, ⟨vs, ?_⟩, ?_⟩
      · exact ((hown.out.setCell (by show w.heap.size < w.heap.size + 1; omega) _).setCell (by show w.heap.size < w.heap.size + 1; omega) _).base (Nat.le_succ _)
      · exact (hb.out.setCell (Nat.le_refl _) _).setCell (Nat.le_refl _) _
end Go.Proofs.Ytaiklooffkmjjaa
