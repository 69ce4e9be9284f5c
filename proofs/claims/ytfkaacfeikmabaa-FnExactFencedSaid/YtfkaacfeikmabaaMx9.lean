/- The program's spotsOf: the places of a thread among the spots. -/
import Derived.Test.YtfkaacfeikmabaaMx0
import Derived.Test.YtfkaacfeikmabaaMx1
import Derived.Test.YtfkaacfeikmabaaMx5
import Derived.Test.YtfkaacfeikmabaaMx8
namespace Go.Proofs.Ytfkaacfeikmabaa
open Go.RowKit

structure Grow (W : World) (A : Option Addr) (c : Nat) (zs : List Int) (w : World) : Prop where
  own : w.ownsRow W.heap.size 3 1 (.slice A zs.length c) zs.length (zs.map (Value.int .i64))
  low : Below W.heap.size W w
theorem Grow.nil (W : World) : Grow W none 0 [] W := ⟨⟨rfl, .inl ⟨rfl, rfl⟩⟩, Below.refl _ _⟩
theorem Grow.more {W w w' : World} {A A' : Option Addr} {c c' : Nat} {zs : List Int} {x : Int} {o : Obj} (h : Grow W A c zs w) (hown : w'.ownsRow W.heap.size 3 1 (.slice A' (zs.length + 1) c') (zs.length + 1) (zs.map (Value.int .i64) ++ [Value.int .i64 x])) (hg : (w.alloc o).grownBy w' (Value.slice A zs.length c).ownBlock) : Grow W A' c' (zs ++ [x]) w' := by
  refine ⟨by simpa using hown, (h.low.alloc h.low.size o).trans (below_own hg (fun k hk e => ?_) (by have := h.low.size; simp; omega))⟩
  have := (own_at h.own e.symm).1
  omega
theorem Grow.row {W w w0 : World} {A : Option Addr} {c : Nat} {zs : List Int} (h : Grow W A c zs w) (hb : Below w0.heap.size w0 W) : RowR 3 w0 w (.returned (.slice A zs.length c)) zs.length zs :=
  ⟨A, c, rfl, (RvT.of_own h.own).base hb.size, below_then hb h.low⟩
theorem Grow.src {W w : World} {A : Option Addr} {c : Nat} {zs : List Int} (h : Grow W A c zs w) (x : Int) : IntsAt (w.alloc (Obj.cells #[Value.int .i64 x] 3)) (Old (w.heap.size + 1)) (some ⟨w.heap.size, 0, none⟩) [x] := by
  have _ := h
  exact ⟨by simp, fun _ => ⟨_, 0, rfl, by simp [Old], fun k hk => by
    rw [(Blk.new w 3 #[Value.int .i64 x]).cell]
    match k, hk with
    | 0, _ => rfl⟩⟩
theorem Grow.alloc_own {W w : World} {A : Option Addr} {c : Nat} {zs : List Int} (h : Grow W A c zs w) (o : Obj) : (w.alloc o).ownsRow W.heap.size 3 1 (.slice A zs.length c) zs.length (zs.map (Value.int .i64)) :=
  kept h.own (fun k hk _ => Below.heap_alloc w o k hk)

theorem Grow.next {W w w' : World} {A : Option Addr} {c : Nat} {zs : List Int} (h : Grow W A c zs w) (hb : Below w.heap.size w w') : Grow W A c zs w' :=
  ⟨kept h.own (fun k hk _ => hb.block k hk), h.low.trans (hb.mono h.low.size)⟩
theorem Grow.drew {W w : World} {A : Option Addr} {c : Nat} {zs : List Int} (h : Grow W A c zs w) : Grow W A c zs w.drew := ⟨h.own, ⟨h.low.os, h.low.tape, h.low.output, h.low.size, h.low.block⟩⟩
end Go.Proofs.Ytfkaacfeikmabaa

namespace Go.Proofs.Ytfkaacfeikmabaa
open Go.RowKit

set_option maxRecDepth 100000 in
set_option maxHeartbeats 3200000 in
theorem spotsOf_any (A : Option Addr) (zs : List Int) (n c : Nat) (t : Int) (S : Nat → Prop) (w : World) (hz : zs.length = n * 2) (hn : n ≤ 1048576) (hS : ∀ b, S b → b < w.heap.size) (ha : IntsAt w S A zs) :
    Calls Try.prog 68 #[.int .i64 t, .slice A n c] w fun e w' => RowR 3 w w' e (atsS zs t n).length (atsS zs t n) := by
  obtain ⟨i1, hi1, hy0, hy1, hy2⟩ := info_parts Try.infoInt
  replace hi1 := hide hi1
  go_enter Try.func68, Try.ntmps68
  go_wp2_with fail
  go_loopw [5, 10] (fun v q wr => ∃ (k : Nat) (A' : Option Addr) (c' : Nat), k ≤ n ∧ q = .int .i64 k ∧ v = .slice A' (atsS zs t k).length c' ∧ Hid (Grow w A' c' (atsS zs t k) wr)) (fun _ q _ => n - (intOf q).toNat)
  case atStart => exact ⟨0, none, 0, Nat.zero_le _, rfl, rfl, hide (Grow.nil _)⟩
  case round =>
    obtain ⟨k, A', c', hk, rfl, rfl, hg⟩ := hrel
    by_cases hlt : k < n
    · obtain ⟨b, off, rfl, hbS, d0, d1⟩ := (ha.below hg.out.low hS).two hz hlt
      have hbx := Nat.lt_of_lt_of_le (hS b hbS) hg.out.low.size
      have hlt' : decide ((k : Int) < (n : Int)) = true := decide_eq_true (by omega)
      have hkn : k < n := hlt
      have hlen := hide (atsS_len zs t k)
      by_cases h1 : spT zs k = t
      · have h1' : (geti zs (k * 2) == t) = true := by rw [beq_iff_eq]; exact h1
        have hE := hide (show atsS zs t (k + 1) = atsS zs t k ++ [geti zs (k * 2 + 1)] from atsS_yes h1)
        obtain ⟨ys, hys⟩ : ∃ ys, ys = atsS zs t k := ⟨_, rfl⟩
        rw [← hys] at hg hE hlen ⊢
        replace hys := hide hys
        have hg1 := hide (hg.out.next (below1 wr (Obj.cells #[.int .i64 (geti zs (k * 2)), .int .i64 (geti zs (k * 2 + 1))] 105)))
        have hs0 := hg1.out.src (geti zs (k * 2 + 1))
        simp only [World.size_alloc] at hs0
        have hs := hide hs0
        clear hs0
        have hw := hg.out.low.size
        have hw2 := hide (hg1.out.alloc_own (Obj.cells #[Value.int .i64 (geti zs (k * 2 + 1))] 3))
        clear h1 hg
        go_wp2_with (at_builtin; refine wpList_append_src _ rfl _ _ _ rfl w.heap.size 3 i1 _ 1 8 Try.underlying22 hi1.out hy0 hy1 hy2 rfl (by omega) (.slice A' ys.length c') ys.length (ys.map (Value.int .i64)) rfl hw2.out (Old (_ + 1)) (some ⟨_, 0, none⟩) 1 1 [geti zs (k * 2 + 1)] rfl rfl hs.out (by have := hlen.out; have : maxLen = 9223372036854775807 := rfl; omega) (by have := hlen.out; omega) (by simp; omega) ?_)
        intro A2 c2 w2 hown hgr _
        have hn2 := hide (hg1.out.more (x := geti zs (k * 2 + 1)) hown hgr)
        clear hown hgr hs hw2
        go_wp2_with fail
        go_roundw
        case rel => exact ⟨k + 1, A2, c2, by omega, by go_num, by rw [hE.out, List.length_append]; rfl, hide (by rw [hE.out]; exact hn2.out)⟩
        case measure => simp [intOf]; omega
      · have h1' : (geti zs (k * 2) == t) = false := by rw [beq_eq_false_iff_ne]; exact h1
        have hE := hide (show atsS zs t (k + 1) = atsS zs t k from atsS_no h1)
        have hg1 := hide (hg.out.next (below1 wr (Obj.cells #[.int .i64 (geti zs (k * 2)), .int .i64 (geti zs (k * 2 + 1))] 105)))
        clear h1 hg
        go_wp2_with fail
        go_roundw
        case rel => exact ⟨k + 1, A', c', by omega, by go_num, by rw [hE.out], hide (by rw [hE.out]; exact hg1.out)⟩
        case measure => simp [intOf]; omega
    · obtain rfl : k = n := by omega
      have hlt' : decide ((k : Int) < (k : Int)) = false := decide_eq_false (by omega)
      have hr := hide (hg.out.row (Below.refl _ _))
      clear hg
      go_wp2_with fail
      go_ret
      exact hr.out
end Go.Proofs.Ytfkaacfeikmabaa
