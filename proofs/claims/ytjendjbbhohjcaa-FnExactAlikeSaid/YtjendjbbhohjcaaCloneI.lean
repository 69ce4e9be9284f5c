/- slices.Clone of numbers. -/
import Derived.Test.YtjendjbbhohjcaaRvT
namespace Go.Proofs.Ytjendjbbhohjcaa
open Go.RowKit

set_option maxRecDepth 100000 in
set_option maxHeartbeats 1600000 in
theorem cloneInts_any (A : Option Addr) (zs : List Int) (n c : Nat) (w : World) (hn : zs.length = n) (hz2 : n ≤ 1048576) (hS : IntsAt w (Old w.heap.size) A zs) :
    Calls Try.prog 85 #[.slice A n c] w fun e w' => RowO 3 1 w w' e n zs := by
  rcases A with _ | ad
  · have hz : zs = [] := by
      rcases Nat.eq_zero_or_pos zs.length with h | h
      · exact List.eq_nil_of_length_eq_zero h
      · obtain ⟨b, off, e, _⟩ := hS.2 h
        cases e
    subst hz
    obtain rfl : n = 0 := by simpa using hn.symm
    clear hn hS
    have he : ∀ w : World, (binOp .eql 23 (.slice none 0 c) (.slice none 0 0)).run Try.prog w = .ok (.bool true) w := fun _ => by kernel_rfl
    go_enter Try.func85, Try.ntmps85
    go_wp2
    go_ret
    exact ⟨none, 0, rfl, ⟨rfl, .inl ⟨rfl, rfl⟩⟩, Below.refl _ _⟩
  · obtain ⟨i1, hi1, hy0, hy1, hy2⟩ := info_parts Try.infoInt
    have hb0 := below1 w (Obj.cells #[] 3)
    have hsrc := hide (hS.below hb0 (fun _ h => h))
    clear hS
    replace hn := hide hn
    have he : ∀ w : World, (binOp .eql 23 (.slice (some ad) n c) (.slice none 0 0)).run Try.prog w = .ok (.bool false) w := fun _ => by kernel_rfl
    go_enter Try.func85, Try.ntmps85
    go_wp2_with (at_builtin; refine wpList_append_src _ rfl _ _ _ rfl w.heap.size 3 i1 _ 1 8 Try.underlying23 hi1 hy0 hy1 hy2 rfl (by omega) (.slice (some ⟨w.heap.size, 0, none⟩) 0 0) 0 [] rfl (own_row (Nat.le_refl _) (by omega) rfl) (Old w.heap.size) (some ad) n c zs rfl (by rw [hn.out]; simp) hsrc.out (by have : maxLen = 9223372036854775807 := rfl; omega) (by omega) (by simp) ?_)
    intro A' c' w2 hown hgr hat
    go_wp2_with fail
    go_ret
    exact ⟨A', c', by simp, hown, hb0.trans (below_own hgr (fun k hk => by simp [Value.ownBlock]; omega) (by simp))⟩

end Go.Proofs.Ytjendjbbhohjcaa
