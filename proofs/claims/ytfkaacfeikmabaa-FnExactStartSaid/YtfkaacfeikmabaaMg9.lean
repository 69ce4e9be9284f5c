/- laws' helpers on a history: szPost, szPostS, szHist; toPost, toPostS, toHist; eqPost, eqPostS, eqHist. · laws' helpers on a history: toPost, toPostS, toHist: copies in new memory; markPostS, markHist: they write into those alone. · laws' helpers on a history: markPostS, markHist: they write into the copy's own blocks alone. -/
import Derived.Test.YtfkaacfeikmabaaMg1
import Derived.Test.YtfkaacfeikmabaaMg2
import Derived.Test.YtfkaacfeikmabaaMg3
import Derived.StillTailTactics
namespace Go.Proofs.Ytfkaacfeikmabaa
open Go.RowKit

set_option maxHeartbeats 400000 in
theorem szPost_any (i v : Int) (g : Bool) (V : Option Addr) (n c : Nat) (left : Int) (w : World) (h0 : 0 ≤ left) (h1 : left ≤ 1048576) (hn : n ≤ 9223372036854775807) :
    Calls Try.prog 204 #[.agg #[.int .i64 i, .int .i64 v, .bool g, .slice V n c], .int .i64 left] w fun e w' => e = .returned (.int .i64 (szR left n)) ∧ Below w.heap.size w w' := by
  have k1 := hide (fun w => szIntS_any V n c left w h0 h1 hn)
  have hs : szR left n < 0 ∨ 0 ≤ szR left n := by omega
  have hs2 : szR left n < 0 → szR left n = -1 := by unfold szR; split <;> omega
  have hs3 := hide hs2
  clear hs2 h0 h1 hn
  generalize szR left n = r at *
  rcases hs with hs | hs
  · go_enter Try.func204, Try.ntmps204
    go_wp2_with (go_at_call 57; refine (k1.out _).mono ?_; rintro e w1 ⟨rfl, rfl⟩)
    go_ret
    exact ⟨ret_int (hs3.out hs).symm, below1 _ _⟩
  · go_enter Try.func204, Try.ntmps204
    go_wp2_with (go_at_call 57; refine (k1.out _).mono ?_; rintro e w1 ⟨rfl, rfl⟩)
    go_ret
    exact ⟨rfl, below1 _ _⟩

set_option maxHeartbeats 800000 in
theorem szPostS_any (A : Option Addr) (l : List PostD) (c : Nat) (S : Nat → Prop) (left : Int) (w : World) (h0 : 0 ≤ left) (h1 : left ≤ 1048576) (hS : ∀ b, S b → b < w.heap.size) (ha : PostsAt w S A l) :
    Calls Try.prog 191 #[.slice A l.length c, .int .i64 left] w fun e w' => e = .returned (.int .i64 (szR left (postSize l))) ∧ Below w.heap.size w w' := by
  have hn := ha.1
  have Hle := hide (fun k => sumTo_le (viewLens l) k)
  have Hsucc := hide (fun k (hk : k < l.length) => by have h := sumTo_succ (viewLens l) k (by rw [viewLens_len]; exact hk); rw [viewLens_get] at h; exact h)
  have Hall := hide (by have h := sumTo_all (viewLens l); rw [viewLens_len] at h; exact h)
  have Hz := hide (sumTo_zero (viewLens l))
  have Hp := hide (show postSize l = l.length + (viewLens l).sum from rfl)
  by_cases h : left < l.length
  · have HF := hide (szR_neg (left := left) (n := postSize l) (by have := Hp.out; omega))
    go_enter Try.func191, Try.ntmps191
    go_wp2
    go_ret
    exact ⟨ret_int HF.out.symm, Below.refl _ _⟩
  · go_enter Try.func191, Try.ntmps191
    go_wp2
    go_loopw [1, 5] (fun q i wr => ∃ k : Nat, k ≤ l.length ∧ (sumTo (viewLens l) k : Int) ≤ left - l.length ∧ i = .int .i64 k ∧ q = .int .i64 (left - l.length - sumTo (viewLens l) k) ∧ Below w.heap.size w wr) (fun _ i _ => l.length - (intOf i).toNat)
    case atStart => exact ⟨0, Nat.zero_le _, by rw [Hz.out]; omega, rfl, by rw [Hz.out]; simp, Below.refl _ _⟩
    case round =>
      obtain ⟨k, hk, hl, rfl, rfl, hb⟩ := hrel
      by_cases hlt : k < l.length
      · obtain ⟨b, off, rfl, hbB, hc⟩ := (ha.below hb hS).2 (by omega)
        obtain ⟨V, c', ⟨p0, p1, p2, p3⟩, hcap, hin⟩ := hc k hlt
        have hn' := hin.1
        have hs := Hsucc.out k hlt
        by_cases hx : left - l.length - sumTo (viewLens l) k < (getp l k).view.length
        · have HF := hide (szR_neg (left := left) (n := postSize l) (by have := Hle.out (k + 1); have := Hp.out; omega))
          have kc := fun w => szPost_any (getp l k).id (getp l k).val (getp l k).glue V (getp l k).view.length c' (left - l.length - sumTo (viewLens l) k) w (by omega) (by omega) hn'
          simp only [szR_neg hx] at kc
          have KC := hide kc
          clear kc hx hs
          go_wp2_with (go_at_call 204; refine (KC.out _).mono ?_; rintro e w1 ⟨rfl, hb1⟩)
          go_ret
          exact ⟨ret_int HF.out.symm, below_then hb hb1⟩
        · have kc := fun w => szPost_any (getp l k).id (getp l k).val (getp l k).glue V (getp l k).view.length c' (left - l.length - sumTo (viewLens l) k) w (by omega) (by omega) hn'
          simp only [szR_pos hx] at kc
          have KC := hide kc
          have HX : 0 ≤ left - l.length - sumTo (viewLens l) k - (getp l k).view.length := by omega
          have HS := hide hs
          clear kc hx hs
          go_wp2_with (go_at_call 204; refine (KC.out _).mono ?_; rintro e w1 ⟨rfl, hb1⟩)
          go_roundw
          case rel => exact ⟨k + 1, by omega, by rw [HS.out]; omega, by go_num, by rw [HS.out]; go_num, below_then hb hb1⟩
          case measure => simp [intOf]; omega
      · obtain rfl : k = l.length := by omega
        have HF := hide (show szR left (postSize l) = left - l.length - sumTo (viewLens l) l.length by rw [szR_pos (by have := Hall.out; have := Hp.out; omega)]; have := Hall.out; have := Hp.out; omega)
        go_wp2
        go_ret
        exact ⟨ret_int HF.out.symm, hb⟩

set_option maxHeartbeats 400000 in
theorem szHist_any (A : Option Addr) (l : List PostD) (c : Nat) (S : Nat → Prop) (left : Int) (w : World) (h0 : 0 ≤ left) (h1 : left ≤ 1048576) (hS : ∀ b, S b → b < w.heap.size) (ha : PostsAt w S A l) :
    Calls Try.prog 157 #[.agg #[.slice A l.length c], .int .i64 left] w fun e w' => e = .returned (.int .i64 (szR left (postSize l))) ∧ Below w.heap.size w w' := by
  have hb0 := below1 w (Obj.cells #[Value.slice A l.length c] 193)
  have k1 := hide (szPostS_any A l c S left _ h0 h1 (fun b h => Nat.lt_of_lt_of_le (hS b h) hb0.size) (ha.below hb0 hS))
  have hs : szR left (postSize l) < 0 ∨ 0 ≤ szR left (postSize l) := by omega
  have hs2 : szR left (postSize l) < 0 → szR left (postSize l) = -1 := by unfold szR; split <;> omega
  have hs3 := hide hs2
  replace hb0 := hide hb0
  clear hs2 h0 h1
  generalize szR left (postSize l) = r at *
  rcases hs with hs | hs
  all_goals
    go_enter Try.func157, Try.ntmps157
    go_wp2_with fail
    refine k1.out.mono ?_
    rintro e w1 ⟨rfl, hb1⟩
    go_wp2_with fail
    go_ret
    first
      | exact ⟨rfl, below_then hb0.out hb1⟩
      | exact ⟨ret_int (hs3.out hs).symm, below_then hb0.out hb1⟩

set_option maxHeartbeats 800000 in
theorem eqPost_any (d : PostD) (V V' : Option Addr) (c c' : Nat) (S : Nat → Prop) (w : World) (hS : ∀ b, S b → b < w.heap.size) (ha : IntsAt w S V d.view) (ha' : IntsAt w S V' d.view) :
    Calls Try.prog 203 #[.agg #[.int .i64 d.id, .int .i64 d.val, .bool d.glue, .slice V d.view.length c], .agg #[.int .i64 d.id, .int .i64 d.val, .bool d.glue, .slice V' d.view.length c']] w fun e w' => e = .returned (.bool true) ∧ Below w.heap.size w w' := by
  have hb2 := below2 w (Obj.cells #[Value.int .i64 d.id, Value.int .i64 d.val, Value.bool d.glue, Value.slice V d.view.length c] 86) (Obj.cells #[Value.int .i64 d.id, Value.int .i64 d.val, Value.bool d.glue, Value.slice V' d.view.length c'] 86)
  go_enter Try.func203, Try.ntmps203
  go_wp2_with fail
  refine (eqIntS_any V V' d.view c c' S _ (fun b h => Nat.lt_of_lt_of_le (hS b h) hb2.size) (ha.below hb2 hS) (ha'.below hb2 hS)).mono ?_
  rintro e w3 ⟨rfl, hb3⟩
  go_wp2_with fail
  go_ret
  exact ⟨rfl, below_then hb2 hb3⟩

set_option maxRecDepth 100000 in
set_option maxHeartbeats 800000 in
theorem eqPostS_any (A A' : Option Addr) (l : List PostD) (c c' : Nat) (S : Nat → Prop) (w : World) (hS : ∀ b, S b → b < w.heap.size) (ha : PostsAt w S A l) (ha' : PostsAt w S A' l) :
    Calls Try.prog 189 #[.slice A l.length c, .slice A' l.length c'] w fun e w' => e = .returned (.bool true) ∧ Below w.heap.size w w' := by
  have hn := ha.1
  go_enter Try.func189, Try.ntmps189
  go_wp2
  go_loopw [5] (fun i wr => ∃ (k : Nat), k ≤ l.length ∧ i = .int .i64 k ∧ Below w.heap.size w wr) (fun i _ => l.length - (intOf i).toNat)
  case atStart => exact ⟨0, Nat.zero_le _, rfl, Below.refl _ _⟩
  case round =>
    obtain ⟨k, hk, rfl, hb⟩ := hrel
    by_cases hlt : k < l.length
    · obtain ⟨b, off, rfl, hbB, hc⟩ := (ha.below hb hS).2 (by omega)
      obtain ⟨b', off', rfl, hbB', hc'⟩ := (ha'.below hb hS).2 (by omega)
      obtain ⟨V2, c2, ⟨p0, p1, p2, p3⟩, hcap, h2⟩ := hc k hlt
      obtain ⟨V3, c3, ⟨q0, q1, q2, q3⟩, hcap', h4⟩ := hc' k hlt
      have hx : ((k : Int) < (l.length : Int)) := by omega
      clear hc hc'
      go_wp2_with fail
      go_still_tail 8, (by kernel_rfl)
      have hbd := hb.drew
      have h2d : IntsAt wr.drew S V2 (getp l k).view := h2
      have h4d : IntsAt wr.drew S V3 (getp l k).view := h4
      change wpList _ _ _ _ _ wr.drew
      clear p0 p1 p2 p3 q0 q1 q2 q3 h2 h4
      generalize wr.drew = w2 at *
      go_wp2_with (go_at_call 203; refine (eqPost_any (getp l k) V2 V3 c2 c3 S _ (fun b h => Nat.lt_of_lt_of_le (hS b h) hbd.size) h2d h4d).mono ?_; rintro e w3 ⟨rfl, hb3⟩)
      go_roundw
      case rel => exact ⟨k + 1, by omega, by go_num, below_then hbd hb3⟩
      case measure => simp [intOf]; omega
    · obtain rfl : k = l.length := by omega
      go_wp2
      go_ret
      exact ⟨rfl, hb⟩

set_option maxHeartbeats 800000 in
theorem eqHist_any (A A' : Option Addr) (l : List PostD) (c c' : Nat) (S : Nat → Prop) (w : World) (hS : ∀ b, S b → b < w.heap.size) (ha : PostsAt w S A l) (ha' : PostsAt w S A' l) :
    Calls Try.prog 151 #[.agg #[.slice A l.length c], .agg #[.slice A' l.length c']] w fun e w' => e = .returned (.bool true) ∧ Below w.heap.size w w' := by
  have hb2 := below2 w (Obj.cells #[Value.slice A l.length c] 84) (Obj.cells #[Value.slice A' l.length c'] 84)
  go_enter Try.func151, Try.ntmps151
  go_wp2_with fail
  refine (eqPostS_any A A' l c c' S _ (fun b h => Nat.lt_of_lt_of_le (hS b h) hb2.size) (ha.below hb2 hS) (ha'.below hb2 hS)).mono ?_
  rintro e w3 ⟨rfl, hb3⟩
  go_wp2_with fail
  go_ret
  exact ⟨rfl, below_then hb2 hb3⟩
end Go.Proofs.Ytfkaacfeikmabaa

namespace Go.Proofs.Ytfkaacfeikmabaa
open Go.RowKit

set_option maxRecDepth 100000 in
set_option maxHeartbeats 1600000 in
theorem toPost_any (d : PostD) (V : Option Addr) (c : Nat) (S : Nat → Prop) (w : World) (hn : d.view.length ≤ 1048576) (hS : ∀ b, S b → b < w.heap.size) (ha : IntsAt w S V d.view) :
    Calls Try.prog 206 #[.agg #[.int .i64 d.id, .int .i64 d.val, .bool d.glue, .slice V d.view.length c]] w fun e w' => ∃ qv, e = .returned (.agg #[.int .i64 d.id, .int .i64 d.val, .bool d.glue, .slice (some ⟨qv, 0, none⟩) d.view.length d.view.length]) ∧ w.heap.size ≤ qv ∧ RowB w' qv d.view ∧ Below w.heap.size w w' := by
  have hb3 := (below2 w (Obj.cells #[Value.int .i64 d.id, Value.int .i64 d.val, Value.bool d.glue, Value.slice V d.view.length c] 240) (Obj.cells #[Value.int .i64 0, Value.int .i64 0, Value.bool false, Value.slice none 0 0] 86)).alloc (by simp; omega) (Obj.cells #[Value.int .i64 d.id, Value.int .i64 d.val, Value.bool d.glue, Value.slice none 0 0] 86)
  have hR := (Blk.new (w.alloc (Obj.cells #[Value.int .i64 d.id, Value.int .i64 d.val, Value.bool d.glue, Value.slice V d.view.length c] 240)) 86 #[Value.int .i64 0, Value.int .i64 0, Value.bool false, Value.slice none 0 0]).alloc (Obj.cells #[Value.int .i64 d.id, Value.int .i64 d.val, Value.bool d.glue, Value.slice none 0 0] 86)
  have hX := Blk.new ((w.alloc (Obj.cells #[Value.int .i64 d.id, Value.int .i64 d.val, Value.bool d.glue, Value.slice V d.view.length c] 240)).alloc (Obj.cells #[Value.int .i64 0, Value.int .i64 0, Value.bool false, Value.slice none 0 0] 86)) 86 #[Value.int .i64 d.id, Value.int .i64 d.val, Value.bool d.glue, Value.slice none 0 0]
  simp only [World.size_alloc] at hR hX
  replace hR := hide hR
  replace hX := hide hX
  go_enter Try.func206, Try.ntmps206
  go_wp2_with fail
  refine (toIntS_row V d.view c S _ hn (fun b h => Nat.lt_of_lt_of_le (hS b h) hb3.size) (ha.below hb3 hS)).mono ?_
  rintro e w1 ⟨rfl, hl, hb1⟩
  have hR1 := hR.out.below hb1 (by simp)
  have hX1 := hX.out.below hb1 (by simp)
  have hlt := hX1.lt
  have r0 := hR1.cell 0
  have r1 := hR1.cell 1
  have r2 := hR1.cell 2
  have r3 := hR1.cell 3
  have x0 := hX1.cell 0
  have x1 := hX1.cell 1
  have x2 := hX1.cell 2
  have x3 := hX1.cell 3
  have y0 := hR1.frozen 0
  have y1 := hR1.frozen 1
  have y2 := hR1.frozen 2
  have y3 := hR1.frozen 3
  have z3 := hX1.frozen 3
  simp only [List.getElem?_toArray, List.getElem?_cons_zero, List.getElem?_cons_succ] at r0 r1 r2 r3 x0 x1 x2 x3
  have hB := hide (below_then hb3 hb1)
  replace hl := hide hl
  clear hR1 hX1 hb1 hb3
  go_wp2_with fail
  refine bodyPost_ret (v := .agg #[.int .i64 d.id, .int .i64 d.val, .bool d.glue, .slice (some ⟨w.heap.size + 1 + 1 + 1, 0, none⟩) d.view.length d.view.length]) (by simp [results, Try.results206, go_sem, r0, r1, r2, r3]; done) rfl ⟨w.heap.size + 1 + 1 + 1, rfl, by omega, ?_, ?_⟩
  · obtain ⟨ds, h1, h2⟩ := hl.out
    simp only [World.size_alloc] at h1
    refine ⟨ds, ?_, h2⟩
    iterate 5 (refine Blk.far ?_ (by first | (show w.heap.size + 1 + 1 + 1 ≠ w.heap.size + 1 + 1; omega) | (show w.heap.size + 1 + 1 + 1 ≠ w.heap.size + 1; omega)) _)
    exact h1
  · iterate 5 (refine Below.setCell ?_ (by first | (show w.heap.size ≤ w.heap.size + 1 + 1; omega) | (show w.heap.size ≤ w.heap.size + 1; omega)) _)
    exact hB.out

/-- The first k posts, in a block's cells; their views in the blocks qs 0 < qs 1 < .. from lo on. -/
structure PostCells (w : World) (lo : Nat) (cs : Array Value) (qs : Nat → Nat) (l : List PostD) (k : Nat) : Prop where
  cells : ∀ j, j < k → cs[j * 4]? = some (.int .i64 (getp l j).id) ∧ cs[j * 4 + 1]? = some (.int .i64 (getp l j).val) ∧ cs[j * 4 + 2]? = some (.bool (getp l j).glue) ∧ cs[j * 4 + 3]? = some (.slice (some ⟨qs j, 0, none⟩) (getp l j).view.length (getp l j).view.length)
  views : ∀ j, j < k → RowB w (qs j) (getp l j).view
  up : ∀ i j, i < j → j < k → qs i < qs j
  lo : ∀ j, j < k → lo ≤ qs j

theorem Try.infoPost : (Try.prog.info? 86).map (fun i => (i.zero, i.size, i.bytes)) = some (some (.agg #[.int .i64 0, .int .i64 0, .bool false, .slice none 0 0]), 4, 48) := by kernel_rfl
theorem make_posts (n : Nat) (hn : n ≤ 1048576) (W : World) : (Instr.makeSlice 82 (.int .i64 (n : Int)) (.int .i64 (n : Int))).run Try.prog W = .ok (.slice (some ⟨W.heap.size, 0, none⟩) n n) (W.alloc (.cells (zrow #[.int .i64 0, .int .i64 0, .bool false, .slice none 0 0] (n * 4)) 86)) := by
  obtain ⟨i0, hi, hz0, hz1, hz2⟩ := info_parts Try.infoPost
  have hr := run_make (P := Try.prog) W 82 86 i0 _ Try.underlying82 hi hz0 .i64 .i64 n n (by omega) (Int.le_refl _) (by rw [hz2]; omega) (by omega)
  simp only [Int.toNat_natCast, hz1] at hr
  exact hr
/-- Four cells written at their place. -/
def set4 (cs : Array Value) (off : Nat) (a b c d : Value) : Array Value := (((cs.setIfInBounds off a).setIfInBounds (off + 1) b).setIfInBounds (off + 2) c).setIfInBounds (off + 3) d
theorem set4_size (cs : Array Value) (off : Nat) (a b c d : Value) : (set4 cs off a b c d).size = cs.size := by simp [set4]
theorem set4_far (cs : Array Value) (off : Nat) (a b c d : Value) (j : Nat) (h : j < off ∨ off + 3 < j) : (set4 cs off a b c d)[j]? = cs[j]? := by
  unfold set4
  simp only [Array.getElem?_setIfInBounds]
  rw [if_neg (by omega), if_neg (by omega), if_neg (by omega), if_neg (by omega)]
theorem set4_at (cs : Array Value) (off : Nat) (a b c d : Value) (h : off + 3 < cs.size) : (set4 cs off a b c d)[off]? = some a ∧ (set4 cs off a b c d)[off + 1]? = some b ∧ (set4 cs off a b c d)[off + 2]? = some c ∧ (set4 cs off a b c d)[off + 3]? = some d := by
  unfold set4
  simp only [Array.getElem?_setIfInBounds, Array.size_setIfInBounds]
  refine ⟨?_, ?_, ?_, ?_⟩
  · rw [if_neg (by omega), if_neg (by omega), if_neg (by omega), if_pos trivial, if_pos (by omega)]
  · rw [if_neg (by omega), if_neg (by omega), if_pos trivial, if_pos (by omega)]
  · rw [if_neg (by omega), if_pos trivial, if_pos (by omega)]
  · rw [if_pos trivial, if_pos (by omega)]
theorem Blk.set4 {w : World} {g : Nat} {t : TypeId} {cs : Array Value} (h : Blk w g t cs) (off : Nat) (a b c d : Value) : Blk ((((w.setCell ⟨g, off, none⟩ a).setCell ⟨g, off + 1, none⟩ b).setCell ⟨g, off + 2, none⟩ c).setCell ⟨g, off + 3, none⟩ d) g t (set4 cs off a b c d) := (((h.set_ _ _).set_ _ _).set_ _ _).set_ _ _

set_option maxRecDepth 100000 in
set_option maxHeartbeats 1600000 in
theorem toPostS_any (A : Option Addr) (l : List PostD) (c : Nat) (S : Nat → Prop) (w : World) (hn : postSize l ≤ 1048576) (hS : ∀ b, S b → b < w.heap.size) (ha : PostsAt w S A l) :
    Calls Try.prog 194 #[.slice A l.length c] w fun e w' => ∃ q qs, e = .returned (.slice (some ⟨q, 0, none⟩) l.length l.length) ∧ PostsOwn w' w.heap.size w'.heap.size q qs l ∧ Below w.heap.size w w' := by
  have hn2 : l.length ≤ 1048576 := by unfold postSize at hn; omega
  have hmk := make_posts l.length hn2
  go_enter Try.func194, Try.ntmps194
  go_wp2
  clear hmk
  go_loopw [4] (fun i wr => ∃ (k : Nat) (cs : Array Value) (qs : Nat → Nat), k ≤ l.length ∧ i = .int .i64 k ∧ Blk wr w.heap.size 86 cs ∧ Hid (cs.size = l.length * 4) ∧ PostCells wr (w.heap.size + 1) cs qs l k ∧ Below w.heap.size w wr) (fun i _ => l.length - (intOf i).toNat)
  case atStart => exact ⟨0, _, fun _ => 0, Nat.zero_le _, rfl, Blk.new _ _ _, hide (zrow_size _ _), ⟨fun j hj => by omega, fun j hj => by omega, fun i j _ hj => by omega, fun j hj => by omega⟩, below1 _ _⟩
  case round =>
    obtain ⟨k, cs, qs, hk, rfl, hblk, hsz, hcs, hb⟩ := hrel
    by_cases hlt : k < l.length
    · obtain ⟨b, off, rfl, hbB, hc⟩ := (ha.below hb hS).2 (by omega)
      obtain ⟨V, c', ⟨p0, p1, p2, p3⟩, hcap, hin⟩ := hc k hlt
      have hlt2 := hblk.lt
      have hgl := view_le l k hlt
      have HB := hide hblk
      clear hblk hc
      go_wp2_with fail
      refine (toPost_any (getp l k) V c' S wr (by omega) (fun b h => Nat.lt_of_lt_of_le (hS b h) hb.size) hin).mono ?_
      rintro e w1 ⟨qv, rfl, hqv, hl, hb1⟩
      have hblk1 := HB.out.below hb1 hlt2
      have hs4 : k * 4 + 3 < cs.size := by have := hsz.out; omega
      obtain ⟨v0, hv0⟩ : ∃ v, cs[k * 4]? = some v := ⟨_, Array.getElem?_eq_getElem (by omega)⟩
      obtain ⟨v1, hv1⟩ : ∃ v, cs[k * 4 + 1]? = some v := ⟨_, Array.getElem?_eq_getElem (by omega)⟩
      obtain ⟨v2, hv2⟩ : ∃ v, cs[k * 4 + 2]? = some v := ⟨_, Array.getElem?_eq_getElem (by omega)⟩
      obtain ⟨v3, hv3⟩ : ∃ v, cs[k * 4 + 3]? = some v := ⟨_, Array.getElem?_eq_getElem (by omega)⟩
      have g0 := (hblk1.cell _).trans hv0
      have g1 := (hblk1.cell _).trans hv1
      have g2 := (hblk1.cell _).trans hv2
      have g3 := (hblk1.cell _).trans hv3
      have z0 := hblk1.frozen (k * 4)
      have z1 := hblk1.frozen (k * 4 + 1)
      have z2 := hblk1.frozen (k * 4 + 2)
      have z3 := hblk1.frozen (k * 4 + 3)
      have HB1 := hide hblk1
      have HS4 := hide hs4
      clear hv0 hv1 hv2 hv3 hblk1 hs4 p0 p1 p2 p3
      go_wp2_with fail
      go_roundw
      case rel =>
        have hs1 := hb1.size
        have hz := hb.size
        have hql := hl.lt
        refine ⟨k + 1, set4 cs (k * 4) (.int .i64 (getp l k).id) (.int .i64 (getp l k).val) (.bool (getp l k).glue) (.slice (some ⟨qv, 0, none⟩) (getp l k).view.length (getp l k).view.length), fun j => if j = k then qv else qs j, by omega, by go_num, HB1.out.set4 _ _ _ _ _, hide (by rw [set4_size]; exact hsz.out), ⟨fun j hj => ?_, fun j hj => ?_, fun i j hij hj => ?_, fun j hj => ?_⟩, ?_⟩
        · by_cases e : j = k
          · subst e
            simp only [if_true]
            exact set4_at _ _ _ _ _ _ HS4.out
          · obtain ⟨h1, h2, h3, h4⟩ := hcs.cells j (by omega)
            simp only [if_neg e]
            exact ⟨by rw [set4_far _ _ _ _ _ _ _ (by omega)]; exact h1, by rw [set4_far _ _ _ _ _ _ _ (by omega)]; exact h2, by rw [set4_far _ _ _ _ _ _ _ (by omega)]; exact h3, by rw [set4_far _ _ _ _ _ _ _ (by omega)]; exact h4⟩
        · have hbase : ∀ g, w.heap.size < g → ∀ zs, RowB w1 g zs → RowB ((((w1.setCell ⟨w.heap.size, k * 4, none⟩ (.int .i64 (getp l k).id)).setCell ⟨w.heap.size, k * 4 + 1, none⟩ (.int .i64 (getp l k).val)).setCell ⟨w.heap.size, k * 4 + 2, none⟩ (.bool (getp l k).glue)).setCell ⟨w.heap.size, k * 4 + 3, none⟩ (.slice (some ⟨qv, 0, none⟩) (getp l k).view.length (getp l k).view.length)) g zs := fun g hg zs ⟨ds, d1, d2⟩ => by
            refine ⟨ds, ?_, d2⟩
            iterate 4 (refine Blk.far ?_ (by show g ≠ w.heap.size; omega) _)
            exact d1
          by_cases e : j = k
          · subst e
            simp only [if_true]
            exact hbase qv (by have := HB.out.lt; omega) _ hl
          · simp only [if_neg e]
            exact hbase (qs j) (by have := hcs.lo j (by omega); omega) _ ((hcs.views j (by omega)).below hb1)
        · by_cases e : j = k
          · have hi : i ≠ k := by omega
            simp only [if_pos e, if_neg hi]
            have := (hcs.views i (by omega)).lt
            omega
          · have hi : i ≠ k := by omega
            simp only [if_neg e, if_neg hi]
            exact hcs.up i j hij (by omega)
        · by_cases e : j = k
          · simp only [if_pos e]
            have := HB.out.lt
            omega
          · simp only [if_neg e]
            exact hcs.lo j (by omega)
        · iterate 4 (refine Below.setCell ?_ (by show w.heap.size ≤ w.heap.size; omega) _)
          exact below_then hb hb1
      case measure => simp [intOf]; omega
    · obtain rfl : k = l.length := by omega
      go_wp2
      go_ret
      exact ⟨w.heap.size, qs, rfl, ⟨ha.1, ⟨cs, hblk, by rw [hsz.out]; exact Nat.le_refl _, fun k hk => ⟨_, hcs.cells k hk, Nat.le_refl _⟩⟩, fun k hk => ⟨hcs.views k hk, by have := view_le l k hk; omega⟩, hcs.up, ⟨⟨Nat.le_refl _, hblk.lt⟩, fun k hk => ⟨by have := hcs.lo k hk; omega, (hcs.views k hk).lt⟩⟩⟩, hb⟩

set_option maxHeartbeats 800000 in
theorem toHist_any (A : Option Addr) (l : List PostD) (c : Nat) (S : Nat → Prop) (w : World) (hn : postSize l ≤ 1048576) (hS : ∀ b, S b → b < w.heap.size) (ha : PostsAt w S A l) :
    Calls Try.prog 160 #[.agg #[.slice A l.length c]] w fun e w' => ∃ q qs, e = .returned (.agg #[.slice (some ⟨q, 0, none⟩) l.length l.length]) ∧ PostsOwn w' w.heap.size w'.heap.size q qs l ∧ Below w.heap.size w w' := by
  go_enter Try.func160, Try.ntmps160
  go_wp2_with fail
  have hb3 := ((below1 w (Obj.cells #[Value.slice A l.length c] 193)).alloc (by simp) (Obj.cells #[Value.slice none 0 0] 84)).alloc (by simp; omega) (Obj.cells #[Value.slice none 0 0] 84)
  refine (toPostS_any A l c S _ hn (fun b h => Nat.lt_of_lt_of_le (hS b h) hb3.size) (ha.below hb3 hS)).mono ?_
  rintro e w1 ⟨q, qs, rfl, hl, hb1⟩
  obtain ⟨hcl1, hfz1⟩ := bcell hb1
  have hz1 := hb1.size
  simp at hz1
  simp only [World.size_alloc] at hl
  go_wp2_with fail
  refine bodyPost_ret (v := .agg #[.slice (some ⟨q, 0, none⟩) l.length l.length]) (by simp [results, Try.results160, go_sem, hcl1]; done) rfl ⟨q, qs, rfl, ?_, ?_⟩
  · refine (hl.keep (fun b h1 h2 _ => ?_)).wide (by omega) (by simp [World.setCell])
    rw [Below.heap_setCell _ _ _ _ (by show b ≠ w.heap.size + 1; omega), Below.heap_setCell _ _ _ _ (by show b ≠ w.heap.size + 1 + 1; omega)]
  · exact ((below_then hb3 hb1).setCell (by simp; omega) _).setCell (by simp) _
end Go.Proofs.Ytfkaacfeikmabaa

namespace Go.Proofs.Ytfkaacfeikmabaa
open Go.RowKit

theorem markIntS_len {w : World} {q n c : Nat} {zs : List Int} {k : Int} (hz : zs.length = n) (hn : n ≤ 1048576) (h0 : 0 ≤ k) (h1 : k ≤ 4194304) (h : RowB w q zs) :
    Calls Try.prog 72 #[.slice (some ⟨q, 0, none⟩) n c, .int .i64 k] w fun e w' => e = .returned (.int .i64 (k + n)) ∧ RowB w' q (marks k.toNat n) ∧ Only q w w' := by
  obtain ⟨j, rfl⟩ : ∃ j : Nat, k = (j : Int) := ⟨k.toNat, by omega⟩
  subst hz
  refine (markIntS_any q zs c j w hn (by omega) h).mono ?_
  rintro e w' ⟨rfl, h1, h2⟩
  exact ⟨by simp, h1, h2⟩

/-- A row of posts whose numbers are being written over. -/
structure MkAt (w : World) (q : Nat) (qs : Nat → Nat) (l : List PostD) : Prop where
  row : ∃ cs, Blk w q 86 cs ∧ l.length * 4 ≤ cs.size ∧ ∀ k, k < l.length → ∃ c, cs[k * 4 + 3]? = some (.slice (some ⟨qs k, 0, none⟩) (getp l k).view.length c)
  views : ∀ k, k < l.length → ∃ zs : List Int, zs.length = (getp l k).view.length ∧ RowB w (qs k) zs
theorem PostsOwn.marked {w : World} {lo hi q : Nat} {qs : Nat → Nat} {l : List PostD} (h : PostsOwn w lo hi q qs l) : MkAt w q qs l := by
  obtain ⟨cs, h1, h2, h3⟩ := h.row
  exact ⟨⟨cs, h1, h2, fun k hk => by obtain ⟨c, ⟨_, _, _, h4⟩, _⟩ := h3 k hk; exact ⟨c, h4⟩⟩, fun k hk => ⟨_, rfl, (h.views k hk).1⟩⟩
theorem rowB_ne {w : World} {q g : Nat} {zs : List Int} {cs : Array Value} (h : RowB w g zs) (hq : Blk w q 86 cs) : g ≠ q := fun e => by
  obtain ⟨ds, h1, _⟩ := h
  subst e
  have h2 : w.heap[g]? = some (.cells cs 86 (0, 0)) := hq
  have h3 : w.heap[g]? = some (.cells ds 3 (0, 0)) := h1
  rw [h2] at h3
  cases h3

set_option maxRecDepth 100000 in
set_option maxHeartbeats 3200000 in
theorem markPostS_own {w : World} {lo hi q c : Nat} {qs : Nat → Nat} {l : List PostD} {k : Int} (hn : postSize l ≤ 1048576) (h0 : 0 ≤ k) (h1 : k + 3 * postSize l ≤ 4194304) (h : PostsOwn w lo hi q qs l) :
    Calls Try.prog 153 #[.slice (some ⟨q, 0, none⟩) l.length c, .int .i64 k] w fun e w' => ∃ z : Int, e = .returned (.int .i64 z) ∧ (k ≤ z ∧ z ≤ k + 3 * postSize l) ∧ Inn lo hi w w' := by
  have Hup := hide h.up
  have Hrng := hide h.rng
  have Hm := h.marked
  have hn2 : l.length ≤ 1048576 := by unfold postSize at hn; omega
  have Hsucc := hide (fun k (hk : k < l.length) => by have h := sumTo_succ (viewLens l) k (by rw [viewLens_len]; exact hk); rw [viewLens_get] at h; exact h)
  have Hle := hide (fun k => sumTo_le (viewLens l) k)
  have Hp := hide (show postSize l = l.length + (viewLens l).sum from rfl)
  clear h
  go_enter Try.func153, Try.ntmps153
  go_wp2_with fail
  go_loopw [1, 5] (fun q1 i wr => ∃ (j : Nat) (z : Int), j ≤ l.length ∧ i = .int .i64 j ∧ q1 = .int .i64 z ∧ k ≤ z ∧ z ≤ k + 3 * j + sumTo (viewLens l) j ∧ MkAt wr q qs l ∧ Inn lo hi w wr) (fun _ i _ => l.length - (intOf i).toNat)
  case atStart => exact ⟨0, k, Nat.zero_le _, rfl, rfl, Int.le_refl _, by simp [sumTo_zero], Hm, Inn.refl _ _ _⟩
  case round =>
    obtain ⟨j, z, hj, rfl, rfl, hz0, hz1, hmk, hin⟩ := hrel
    by_cases hlt : j < l.length
    · obtain ⟨cs, hblk, hsz, hcs⟩ := hmk.row
      obtain ⟨cv, hv3⟩ := hcs j hlt
      obtain ⟨zs, hzl, hrow⟩ := hmk.views j hlt
      have hle := Hle.out (j + 1)
      have hsc := Hsucc.out j hlt
      have hpp := Hp.out
      have hb1 : z + 3 ≤ 4194304 := by omega
      have hb2 : (getp l j).view.length ≤ 1048576 := by omega
      have hlt' : (j : Int) < (l.length : Int) := by omega
      have hz00 : 0 ≤ z := by omega
      obtain ⟨v0, hv0⟩ : ∃ v, cs[j * 4]? = some v := ⟨_, Array.getElem?_eq_getElem (by omega)⟩
      obtain ⟨v1, hv1⟩ : ∃ v, cs[j * 4 + 1]? = some v := ⟨_, Array.getElem?_eq_getElem (by omega)⟩
      obtain ⟨v2, hv2⟩ : ∃ v, cs[j * 4 + 2]? = some v := ⟨_, Array.getElem?_eq_getElem (by omega)⟩
      have g0 := (hblk.cell _).trans hv0
      have g1 := (hblk.cell _).trans hv1
      have g2 := (hblk.cell _).trans hv2
      have g3 := (hblk.cell _).trans hv3
      have z0 := hblk.frozen (j * 4)
      have z1 := hblk.frozen (j * 4 + 1)
      have z2 := hblk.frozen (j * 4 + 2)
      have HN := hide (rowB_ne hrow hblk)
      have HB := hide hblk
      have HR := hide hrow
      have HZ := hide hzl
      have HMK := hide hmk
      have HI := hide hin
      have HCS := hide hcs
      have HSZ := hide hsz
      have hsc' := hide hsc
      have hpp' := hide hpp
      clear hv0 hv1 hv2 hv3 hblk hrow hzl hmk hin hcs hsz hsc hpp
      go_wp2_with fail
      have hrow2 : RowB (((wr.setCell ⟨q, j * 4, none⟩ (Value.int .i64 z)).setCell ⟨q, j * 4 + 1, none⟩ (Value.int .i64 (z + 1))).setCell ⟨q, j * 4 + 2, none⟩ (Value.bool ((z + 1 + 1) % 3 == 0))) (qs j) zs := by
        obtain ⟨ds, d1, d2⟩ := HR.out
        refine ⟨ds, ?_, d2⟩
        iterate 3 (refine Blk.far ?_ (by show qs j ≠ q; exact HN.out) _)
        exact d1
      refine (markIntS_len HZ.out hb2 (by omega) (by omega) hrow2).mono ?_
      rintro e w5 ⟨rfl, hr5, ho5⟩
      go_wp2_with fail
      go_roundw
      case rel =>
        have hrow3 : Blk (((wr.setCell ⟨q, j * 4, none⟩ (Value.int .i64 z)).setCell ⟨q, j * 4 + 1, none⟩ (Value.int .i64 (z + 1))).setCell ⟨q, j * 4 + 2, none⟩ (Value.bool ((z + 1 + 1) % 3 == 0))) q 86 _ := ((HB.out.set_ _ _).set_ _ _).set_ _ _
        refine ⟨j + 1, z + 1 + 1 + 1 + (getp l j).view.length, by omega, by go_num, rfl, by omega, by have := hsc'.out; omega, ⟨⟨_, hrow3.only ho5 (fun e => HN.out e.symm), by have := HSZ.out; simpa using this, fun m hm => ?_⟩, fun m hm => ?_⟩, ?_⟩
        · obtain ⟨c4, h4⟩ := HCS.out m hm
          refine ⟨c4, ?_⟩
          simp only [Array.getElem?_setIfInBounds]
          rw [if_neg (by omega), if_neg (by omega), if_neg (by omega)]
          exact h4
        · by_cases e : m = j
          · subst e
            exact ⟨_, marks_len _ _, hr5⟩
          · obtain ⟨ys, y1, y2⟩ := HMK.out.views m hm
            refine ⟨ys, y1, ?_⟩
            have hne : qs m ≠ q := rowB_ne y2 HB.out
            have hne2 : qs m ≠ qs j := fun e2 => by
              rcases Nat.lt_or_gt_of_ne e with h | h
              · have := Hup.out m j h hlt; omega
              · have := Hup.out j m h hm; omega
            obtain ⟨ds, d1, d2⟩ := y2
            refine RowB.only ⟨ds, ?_, d2⟩ ho5 hne2
            iterate 3 (refine Blk.far ?_ (by show qs m ≠ q; exact hne) _)
            exact d1
        · refine HI.out.trans (Inn.trans (Inn.of_only (g := q) ?_ Hrng.out.1) (Inn.of_only ho5 (Hrng.out.2 j hlt)))
          exact (((Only.refl q wr).setCell (p := ⟨q, j * 4, none⟩) (.inl rfl) _).setCell (p := ⟨q, j * 4 + 1, none⟩) (.inl rfl) _).setCell (p := ⟨q, j * 4 + 2, none⟩) (.inl rfl) _
      case measure => simp [intOf]; omega
    · obtain rfl : j = l.length := by omega
      go_wp2_with fail
      go_ret
      exact ⟨z, rfl, ⟨hz0, by have := Hle.out l.length; have := Hp.out; omega⟩, hin⟩
end Go.Proofs.Ytfkaacfeikmabaa
