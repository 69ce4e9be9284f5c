/- laws' helpers on a history: szPost, szPostS, szHist; toPost, toPostS, toHist; eqPost, eqPostS, eqHist. -/
import Derived.Test.YtbhfkfapdpedpaaHistD
import Derived.Test.YtbhfkfapdpedpaaSzEq
import Derived.Test.YtbhfkfapdpedpaaToP
import Derived.StillTailTactics
namespace Go.Proofs.Ytbhfkfapdpedpaa
open Go.RowKit

set_option maxHeartbeats 400000 in
theorem szPost_any (i v : Int) (g : Bool) (V : Option Addr) (n c : Nat) (left : Int) (w : World) (h0 : 0 ≤ left) (h1 : left ≤ 1048576) (hn : n ≤ 9223372036854775807) :
    Calls Try.prog 181 #[.agg #[.int .i64 i, .int .i64 v, .bool g, .slice V n c], .int .i64 left] w fun e w' => e = .returned (.int .i64 (szR left n)) ∧ Below w.heap.size w w' := by
  have k1 := hide (fun w => szIntS_any V n c left w h0 h1 hn)
  have hs : szR left n < 0 ∨ 0 ≤ szR left n := by omega
  have hs2 : szR left n < 0 → szR left n = -1 := by unfold szR; split <;> omega
  have hs3 := hide hs2
  clear hs2 h0 h1 hn
  generalize szR left n = r at *
  rcases hs with hs | hs
  · go_enter Try.func181, Try.ntmps181
    go_wp2_with (go_at_call 110; refine (k1.out _).mono ?_; rintro e w1 ⟨rfl, rfl⟩)
    go_ret
    exact ⟨ret_int (hs3.out hs).symm, below1 _ _⟩
  · go_enter Try.func181, Try.ntmps181
    go_wp2_with (go_at_call 110; refine (k1.out _).mono ?_; rintro e w1 ⟨rfl, rfl⟩)
    go_ret
    exact ⟨rfl, below1 _ _⟩

set_option maxHeartbeats 800000 in
theorem szPostS_any (A : Option Addr) (l : List PostD) (c : Nat) (S : Nat → Prop) (left : Int) (w : World) (h0 : 0 ≤ left) (h1 : left ≤ 1048576) (hS : ∀ b, S b → b < w.heap.size) (ha : PostsAt w S A l) :
    Calls Try.prog 141 #[.slice A l.length c, .int .i64 left] w fun e w' => e = .returned (.int .i64 (szR left (postSize l))) ∧ Below w.heap.size w w' := by
  have hn := ha.1
  have Hle := hide (fun k => sumTo_le (viewLens l) k)
  have Hsucc := hide (fun k (hk : k < l.length) => by have h := sumTo_succ (viewLens l) k (by rw [viewLens_len]; exact hk); rw [viewLens_get] at h; exact h)
  have Hall := hide (by have h := sumTo_all (viewLens l); rw [viewLens_len] at h; exact h)
  have Hz := hide (sumTo_zero (viewLens l))
  have Hp := hide (show postSize l = l.length + (viewLens l).sum from rfl)
  by_cases h : left < l.length
  · have HF := hide (szR_neg (left := left) (n := postSize l) (by have := Hp.out; omega))
    go_enter Try.func141, Try.ntmps141
    go_wp2
    go_ret
    exact ⟨ret_int HF.out.symm, Below.refl _ _⟩
  · go_enter Try.func141, Try.ntmps141
    go_wp2
    go_loopw [1, 5] (fun q i wr => ∃ k : Nat, k ≤ l.length ∧ (sumTo (viewLens l) k : Int) ≤ left - l.length ∧ i = .int .i64 k ∧ q = .int .i64 (left - l.length - sumTo (viewLens l) k) ∧ Below w.heap.size w wr) (fun _ i _ => l.length - (intOf i).toNat)
    case atStart => exact ⟨0, Nat.zero_le _, by rw [Hz.out]; omega, rfl, by rw [Hz.out]; simp, Below.refl _ _⟩
    case round =>
      obtain ⟨k, hk, hl, rfl, rfl, hb⟩ := hrel
      by_cases hlt : k < l.length
      · obtain ⟨b, off, rfl, hbB, hc⟩ := (ha.below hb hS).2 (by omega)
        obtain ⟨V, c', ⟨p0, p1, p2, p3⟩, hcap, hin⟩ := hc k hlt
        have hn' := hin.1
        have hs := Hsucc.out k hlt
        by_cases hx : left - l.length - sumTo (viewLens l) k < (getp l k).view.length
        · have HF := hide (szR_neg (left := left) (n := postSize l) (by have := Hle.out (k + 1); have := Hp.out; omega))
          have kc := fun w => szPost_any (getp l k).id (getp l k).val (getp l k).glue V (getp l k).view.length c' (left - l.length - sumTo (viewLens l) k) w (by omega) (by omega) hn'
          simp only [szR_neg hx] at kc
          have KC := hide kc
          clear kc hx hs
          go_wp2_with (go_at_call 181; refine (KC.out _).mono ?_; rintro e w1 ⟨rfl, hb1⟩)
          go_ret
          exact ⟨ret_int HF.out.symm, below_then hb hb1⟩
        · have kc := fun w => szPost_any (getp l k).id (getp l k).val (getp l k).glue V (getp l k).view.length c' (left - l.length - sumTo (viewLens l) k) w (by omega) (by omega) hn'
          simp only [szR_pos hx] at kc
          have KC := hide kc
          have HX : 0 ≤ left - l.length - sumTo (viewLens l) k - (getp l k).view.length := by omega
          have HS := hide hs
          clear kc hx hs
          go_wp2_with (go_at_call 181; refine (KC.out _).mono ?_; rintro e w1 ⟨rfl, hb1⟩)
          go_roundw
          case rel => exact ⟨k + 1, by omega, by rw [HS.out]; omega, by go_num, by rw [HS.out]; go_num, below_then hb hb1⟩
          case measure => simp [intOf]; omega
      · obtain rfl : k = l.length := by omega
        have HF := hide (show szR left (postSize l) = left - l.length - sumTo (viewLens l) l.length by rw [szR_pos (by have := Hall.out; have := Hp.out; omega)]; have := Hall.out; have := Hp.out; omega)
        go_wp2
        go_ret
        exact ⟨ret_int HF.out.symm, hb⟩

set_option maxHeartbeats 400000 in
theorem szHist_any (A : Option Addr) (l : List PostD) (c : Nat) (S : Nat → Prop) (left : Int) (w : World) (h0 : 0 ≤ left) (h1 : left ≤ 1048576) (hS : ∀ b, S b → b < w.heap.size) (ha : PostsAt w S A l) :
    Calls Try.prog 63 #[.agg #[.slice A l.length c], .int .i64 left] w fun e w' => e = .returned (.int .i64 (szR left (postSize l))) ∧ Below w.heap.size w w' := by
  have hb0 := below1 w (Obj.cells #[Value.slice A l.length c] 94)
  have k1 := hide (szPostS_any A l c S left _ h0 h1 (fun b h => Nat.lt_of_lt_of_le (hS b h) hb0.size) (ha.below hb0 hS))
  have hs : szR left (postSize l) < 0 ∨ 0 ≤ szR left (postSize l) := by omega
  have hs2 : szR left (postSize l) < 0 → szR left (postSize l) = -1 := by unfold szR; split <;> omega
  have hs3 := hide hs2
  replace hb0 := hide hb0
  clear hs2 h0 h1
  generalize szR left (postSize l) = r at *
  rcases hs with hs | hs
  all_goals
    go_enter Try.func63, Try.ntmps63
    go_wp2_with fail
    refine k1.out.mono ?_
    rintro e w1 ⟨rfl, hb1⟩
    go_wp2_with fail
    go_ret
    first
      | exact ⟨rfl, below_then hb0.out hb1⟩
      | exact ⟨ret_int (hs3.out hs).symm, below_then hb0.out hb1⟩

set_option maxHeartbeats 800000 in
theorem eqPost_any (d : PostD) (V V' : Option Addr) (c c' : Nat) (S : Nat → Prop) (w : World) (hS : ∀ b, S b → b < w.heap.size) (ha : IntsAt w S V d.view) (ha' : IntsAt w S V' d.view) :
    Calls Try.prog 183 #[.agg #[.int .i64 d.id, .int .i64 d.val, .bool d.glue, .slice V d.view.length c], .agg #[.int .i64 d.id, .int .i64 d.val, .bool d.glue, .slice V' d.view.length c']] w fun e w' => e = .returned (.bool true) ∧ Below w.heap.size w w' := by
  have hb2 := below2 w (Obj.cells #[Value.int .i64 d.id, Value.int .i64 d.val, Value.bool d.glue, Value.slice V d.view.length c] 47) (Obj.cells #[Value.int .i64 d.id, Value.int .i64 d.val, Value.bool d.glue, Value.slice V' d.view.length c'] 47)
  go_enter Try.func183, Try.ntmps183
  go_wp2_with fail
  refine (eqIntS_any V V' d.view c c' S _ (fun b h => Nat.lt_of_lt_of_le (hS b h) hb2.size) (ha.below hb2 hS) (ha'.below hb2 hS)).mono ?_
  rintro e w3 ⟨rfl, hb3⟩
  go_wp2_with fail
  go_ret
  exact ⟨rfl, below_then hb2 hb3⟩

set_option maxRecDepth 100000 in
set_option maxHeartbeats 800000 in
theorem eqPostS_any (A A' : Option Addr) (l : List PostD) (c c' : Nat) (S : Nat → Prop) (w : World) (hS : ∀ b, S b → b < w.heap.size) (ha : PostsAt w S A l) (ha' : PostsAt w S A' l) :
    Calls Try.prog 143 #[.slice A l.length c, .slice A' l.length c'] w fun e w' => e = .returned (.bool true) ∧ Below w.heap.size w w' := by
  have hn := ha.1
  go_enter Try.func143, Try.ntmps143
  go_wp2
  go_loopw [5] (fun i wr => ∃ (k : Nat), k ≤ l.length ∧ i = .int .i64 k ∧ Below w.heap.size w wr) (fun i _ => l.length - (intOf i).toNat)
  case atStart => exact ⟨0, Nat.zero_le _, rfl, Below.refl _ _⟩
  case round =>
    obtain ⟨k, hk, rfl, hb⟩ := hrel
    by_cases hlt : k < l.length
    · obtain ⟨b, off, rfl, hbB, hc⟩ := (ha.below hb hS).2 (by omega)
      obtain ⟨b', off', rfl, hbB', hc'⟩ := (ha'.below hb hS).2 (by omega)
      obtain ⟨V2, c2, ⟨p0, p1, p2, p3⟩, hcap, h2⟩ := hc k hlt
      obtain ⟨V3, c3, ⟨q0, q1, q2, q3⟩, hcap', h4⟩ := hc' k hlt
      have hx : ((k : Int) < (l.length : Int)) := by omega
      clear hc hc'
      go_wp2_with fail
      go_still_tail 8, (by kernel_rfl)
      have hbd := hb.drew
      have h2d : IntsAt wr.drew S V2 (getp l k).view := h2
      have h4d : IntsAt wr.drew S V3 (getp l k).view := h4
      change wpList _ _ _ _ _ wr.drew
      clear p0 p1 p2 p3 q0 q1 q2 q3 h2 h4
      generalize wr.drew = w2 at *
      go_wp2_with (go_at_call 183; refine (eqPost_any (getp l k) V2 V3 c2 c3 S _ (fun b h => Nat.lt_of_lt_of_le (hS b h) hbd.size) h2d h4d).mono ?_; rintro e w3 ⟨rfl, hb3⟩)
      go_roundw
      case rel => exact ⟨k + 1, by omega, by go_num, below_then hbd hb3⟩
      case measure => simp [intOf]; omega
    · obtain rfl : k = l.length := by omega
      go_wp2
      go_ret
      exact ⟨rfl, hb⟩

set_option maxHeartbeats 800000 in
theorem eqHist_any (A A' : Option Addr) (l : List PostD) (c c' : Nat) (S : Nat → Prop) (w : World) (hS : ∀ b, S b → b < w.heap.size) (ha : PostsAt w S A l) (ha' : PostsAt w S A' l) :
    Calls Try.prog 65 #[.agg #[.slice A l.length c], .agg #[.slice A' l.length c']] w fun e w' => e = .returned (.bool true) ∧ Below w.heap.size w w' := by
  have hb2 := below2 w (Obj.cells #[Value.slice A l.length c] 45) (Obj.cells #[Value.slice A' l.length c'] 45)
  go_enter Try.func65, Try.ntmps65
  go_wp2_with fail
  refine (eqPostS_any A A' l c c' S _ (fun b h => Nat.lt_of_lt_of_le (hS b h) hb2.size) (ha.below hb2 hS) (ha'.below hb2 hS)).mono ?_
  rintro e w3 ⟨rfl, hb3⟩
  go_wp2_with fail
  go_ret
  exact ⟨rfl, below_then hb2 hb3⟩
end Go.Proofs.Ytbhfkfapdpedpaa
