/- Parts of a row of instructions: a fence, literals, three in a block. -/
import Derived.Test.YtjendjbbhohjcaaDqJ
namespace Go.Proofs.Ytjendjbbhohjcaa
open Go.RowKit

set_option maxHeartbeats 800000 in
theorem fenceIf_any (b : Bool) (w : World) : Calls Try.prog 95 #[.bool b] w fun e w' => InsR w w' e (fenL b) := by
  have H := (GrowI.lit (l := [⟨12, 0, 0, 0, 0, 0⟩]) w (cs := #[Value.int .i64 12, Value.int .i64 0, Value.int .i64 0, Value.int .i64 0, Value.int .i64 0, Value.int .i64 0]) (n := 1) (by omega) rfl rfl).ret (Below.refl _ _)
  replace H := hide H
  cases b
  · go_enter Try.func95, Try.ntmps95
    go_wp2_with fail
    go_ret
    exact InsR.nil _
  · go_enter Try.func95, Try.ntmps95
    go_wp2_with fail
    go_ret
    exact H.out
/-- Parts that lie in a block of slices. -/
theorem threads_of {w : World} {b : Nat} {ps : List (List InsD)} {S : Nat → Prop} (hb : S b) (hn : ps.length ≤ 1000) (h : ∀ k, k < ps.length → ∃ A c, w.cell? ⟨b, k, none⟩ = some (.slice A (gett ps k).length c) ∧ (gett ps k).length ≤ c ∧ InssAt w S A (gett ps k)) : ThreadsAt w S (some ⟨b, 0, none⟩) ps :=
  ⟨by omega, fun _ => ⟨b, 0, rfl, hb, fun k hk => by rw [Nat.zero_add]; exact h k hk⟩⟩
/-- Bounds of the jumps. -/
def SmallN (l : List InsD) : Prop := ∀ d ∈ l, -1000000 ≤ d.n ∧ d.n ≤ 1000000
theorem claimL_small : SmallN claimL := by unfold SmallN claimL; simp
theorem lookL_small : SmallN lookL := by unfold SmallN lookL; simp
theorem fenL_small (b : Bool) : SmallN (fenL b) := by unfold SmallN fenL; cases b <;> simp
theorem takeT_small (r : Int) : SmallN (takeT r 0) := by unfold SmallN takeT; simp
theorem stealT_small (r : Int) : SmallN (stealT r 0) := by unfold SmallN stealT; simp
theorem small3 {a b c : List InsD} (ha : SmallN a) (hb : SmallN b) (hc : SmallN c) (k : Nat) (hk : k < [a, b, c].length) : ∀ d ∈ gett [a, b, c] k, -1000000 ≤ d.n ∧ d.n ≤ 1000000 := by
  match k, hk with
  | 0, _ => exact ha
  | 1, _ => exact hb
  | 2, _ => exact hc
/-- Three parts in a block of slices. -/
theorem three_of {w : World} {q : Nat} {a b c : List InsD} {A1 A2 A3 : Option Addr} {c1 c2 c3 : Nat} (h : Blk w q 43 #[.slice A1 a.length c1, .slice A2 b.length c2, .slice A3 c.length c3]) (l1 : a.length ≤ c1) (l2 : b.length ≤ c2) (l3 : c.length ≤ c3)
    (h1 : InssAt w (Old w.heap.size) A1 a) (h2 : InssAt w (Old w.heap.size) A2 b) (h3 : InssAt w (Old w.heap.size) A3 c) : ThreadsAt w (Old w.heap.size) (some ⟨q, 0, none⟩) [a, b, c] :=
  threads_of h.lt (by simp) fun k hk => by
    match k, hk with
    | 0, _ => exact ⟨A1, c1, h.cell 0, l1, h1⟩
    | 1, _ => exact ⟨A2, c2, h.cell 1, l2, h2⟩
    | 2, _ => exact ⟨A3, c3, h.cell 2, l3, h3⟩
theorem InssAt.old {w w' : World} {S : Nat → Prop} {A : Option Addr} {l : List InsD} (h : InssAt w S A l) (hb : Below w.heap.size w w') (hS : ∀ b, S b → b < w.heap.size) : InssAt w' (Old w'.heap.size) A l :=
  (h.below hb hS).more (fun b k => Nat.lt_of_lt_of_le (hS b k) hb.size)
theorem lit_at {W : World} {n : Nat} {l : List InsD} {cs : Array Value} (hn : n ≤ 1000) (hs : cs.size = n * 6) (hl : cs.toList = flat l) (hln : l.length = n) : InssAt (W.alloc (.cells cs 89)) (Old (W.alloc (.cells cs 89)).heap.size) (some ⟨W.heap.size, 0, none⟩) l := by
  have h := (GrowI.lit W hn hs hl).own
  subst hln
  obtain ⟨A, c, e, -, hi⟩ := own_inss h
  cases e
  exact hi.more (fun b k => k.2.2)
end Go.Proofs.Ytjendjbbhohjcaa
