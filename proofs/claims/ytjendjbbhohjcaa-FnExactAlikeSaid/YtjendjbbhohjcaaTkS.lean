/- slices.Sort and slices.Compact of a row of numbers of the call's own. -/
import Derived.Test.YtjendjbbhohjcaaTkD
import Derived.Test.YtjendjbbhohjcaaPrD
import Derived.Test.YtjendjbbhohjcaaShelf
import Derived.Lib.OwnBridge
import Derived.Lib.RowBridge
import Derived.Sort.OwnSortedInts
namespace Go.Proofs.Ytjendjbbhohjcaa
open Go.RowKit Go.Sort

theorem sort_own {w : World} {B n : Nat} {v : Value} {zs : List Int} (h : w.ownsRow B 3 1 v n (zs.map (Value.int .i64))) (hn : n ≤ 1152921504606846976) :
    Calls Try.prog 103 #[v] w fun e w' => e = .returned (.tuple #[]) ∧ w'.ownsRow B 3 1 v n ((sortI zs).map (Value.int .i64)) ∧ w.grownBy w' v.ownBlock := by
  have hl : zs.length = n := by simpa using h.1
  rcases h.2 with ⟨rfl, rfl⟩ | ⟨g, cap, cur, rfl, hb, hg, hcap, hm, hs, ht⟩
  · refine (Try.slices_Sort_int_none none 0 w).mono ?_
    rintro e w' ⟨rfl, rfl⟩
    have hz : zs = [] := List.eq_nil_of_length_eq_zero hl
    subst hz
    exact ⟨rfl, by rw [show sortI [] = [] from by simp [sortI]]; exact h, World.grownBy.refl _ _⟩
  · obtain ⟨g', cap', e, -, hgl, -, -, -, hH⟩ := Lib.holds_of_ownsRow h (by simp)
    cases e
    subst hl
    refine (Try.slices_Sort_int g 0 cap zs w hH hgl (by omega)).mono ?_
    rintro e w' ⟨rfl, m, os, rfl⟩
    exact ⟨rfl, ownsRow_sortedI (ts := sortI zs) (sortI_len zs) hb hg hcap hm hs, grownBy_sortedI _⟩
theorem compact_own {w : World} {B n c : Nat} {A : Option Addr} {zs : List Int} (h : w.ownsRow B 3 1 (.slice A n c) n (zs.map (Value.int .i64))) :
    Calls Try.prog 76 #[.slice A n c] w fun e w' => e = .returned (.slice A (Lib.compact zs).length c) ∧ w'.ownsRow B 3 1 (.slice A (Lib.compact zs).length c) (Lib.compact zs).length ((Lib.compact zs).map (Value.int .i64)) ∧ w.grownBy w' (Value.slice A n c).ownBlock := by
  have hl : zs.length = n := by simpa using h.1
  rcases h.2 with ⟨hv, h0⟩ | ⟨g, cap, cur, hv, hb, hg, hcap, hm, hs, ht⟩
  · cases hv
    refine (Try.slices_Compact_int_empty none 0 w).mono ?_
    rintro e w' ⟨rfl, rfl⟩
    have hz : zs = [] := List.eq_nil_of_length_eq_zero hl
    subst hz
    exact ⟨rfl, h, World.grownBy.refl _ _⟩
  · cases hv
    obtain ⟨g', cap', e, -, hgl, hnc, hcm, -, hH⟩ := Lib.holds_of_ownsRow h (by simp)
    cases e
    have hmx : maxLen = 9223372036854775807 := rfl
    subst hl
    refine (Try.slices_Compact_int g 0 c zs w hH (by omega) hnc).mono ?_
    rintro e w' ⟨rfl, q, rfl⟩
    have hle := Lib.compact_length_le zs
    have ho := Lib.ownsRow_putRow (q := q) (k := (Lib.compact zs).length) (ys := Lib.compact zs ++ List.replicate (zs.length - (Lib.compact zs).length) 0) h (by simp; omega) hle
    rw [List.take_left] at ho
    have hgb := grownBy_sortedI (w := w) (g := g) (n := q) (os := #[]) (Lib.compact zs ++ List.replicate (zs.length - (Lib.compact zs).length) 0).toArray
    rw [grow_empty] at hgb
    exact ⟨rfl, ho, hgb⟩
end Go.Proofs.Ytjendjbbhohjcaa
