/- laws' helpers on a history: markPostS, markHist: they write into the copy's own blocks alone. -/
import Derived.Test.YtikfbhehnpogoaaHistE
namespace Go.Proofs.Ytikfbhehnpogoaa
open Go.RowKit

theorem markIntS_len {w : World} {q n c : Nat} {zs : List Int} {k : Int} (hz : zs.length = n) (hn : n ≤ 1048576) (h0 : 0 ≤ k) (h1 : k ≤ 4194304) (h : RowB w q zs) :
    Calls Try.prog 70 #[.slice (some ⟨q, 0, none⟩) n c, .int .i64 k] w fun e w' => e = .returned (.int .i64 (k + n)) ∧ RowB w' q (marks k.toNat n) ∧ Only q w w' := by
  obtain ⟨j, rfl⟩ : ∃ j : Nat, k = (j : Int) := ⟨k.toNat, by omega⟩
  subst hz
  refine (markIntS_any q zs c j w hn (by omega) h).mono ?_
  rintro e w' ⟨rfl, h1, h2⟩
  exact ⟨by simp, h1, h2⟩

/-- A row of posts whose numbers are being written over. -/
structure MkAt (w : World) (q : Nat) (qs : Nat → Nat) (l : List PostD) : Prop where
  row : ∃ cs, Blk w q 41 cs ∧ l.length * 4 ≤ cs.size ∧ ∀ k, k < l.length → ∃ c, cs[k * 4 + 3]? = some (.slice (some ⟨qs k, 0, none⟩) (getp l k).view.length c)
  views : ∀ k, k < l.length → ∃ zs : List Int, zs.length = (getp l k).view.length ∧ RowB w (qs k) zs
theorem PostsOwn.marked {w : World} {lo hi q : Nat} {qs : Nat → Nat} {l : List PostD} (h : PostsOwn w lo hi q qs l) : MkAt w q qs l := by
  obtain ⟨cs, h1, h2, h3⟩ := h.row
  exact ⟨⟨cs, h1, h2, fun k hk => by obtain ⟨c, ⟨_, _, _, h4⟩, _⟩ := h3 k hk; exact ⟨c, h4⟩⟩, fun k hk => ⟨_, rfl, (h.views k hk).1⟩⟩
theorem rowB_ne {w : World} {q g : Nat} {zs : List Int} {cs : Array Value} (h : RowB w g zs) (hq : Blk w q 41 cs) : g ≠ q := fun e => by
  obtain ⟨ds, h1, _⟩ := h
  subst e
  have h2 : w.heap[g]? = some (.cells cs 41 (0, 0)) := hq
  have h3 : w.heap[g]? = some (.cells ds 3 (0, 0)) := h1
  rw [h2] at h3
  cases h3

set_option maxRecDepth 100000 in
set_option maxHeartbeats 3200000 in
theorem markPostS_own {w : World} {lo hi q c : Nat} {qs : Nat → Nat} {l : List PostD} {k : Int} (hn : postSize l ≤ 1048576) (h0 : 0 ≤ k) (h1 : k + 3 * postSize l ≤ 4194304) (h : PostsOwn w lo hi q qs l) :
    Calls Try.prog 132 #[.slice (some ⟨q, 0, none⟩) l.length c, .int .i64 k] w fun e w' => ∃ z : Int, e = .returned (.int .i64 z) ∧ (k ≤ z ∧ z ≤ k + 3 * postSize l) ∧ Inn lo hi w w' := by
  have Hup := hide h.up
  have Hrng := hide h.rng
  have Hm := h.marked
  have hn2 : l.length ≤ 1048576 := by unfold postSize at hn; omega
  have Hsucc := hide (fun k (hk : k < l.length) => by have h := sumTo_succ (viewLens l) k (by rw [viewLens_len]; exact hk); rw [viewLens_get] at h; exact h)
  have Hle := hide (fun k => sumTo_le (viewLens l) k)
  have Hp := hide (show postSize l = l.length + (viewLens l).sum from rfl)
  clear h
  go_enter Try.func132, Try.ntmps132
  go_wp2_with fail
  go_loopw [1, 5] (fun q1 i wr => ∃ (j : Nat) (z : Int), j ≤ l.length ∧ i = .int .i64 j ∧ q1 = .int .i64 z ∧ k ≤ z ∧ z ≤ k + 3 * j + sumTo (viewLens l) j ∧ MkAt wr q qs l ∧ Inn lo hi w wr) (fun _ i _ => l.length - (intOf i).toNat)
  case atStart => exact ⟨0, k, Nat.zero_le _, rfl, rfl, Int.le_refl _, by simp [sumTo_zero], Hm, Inn.refl _ _ _⟩
  case round =>
    obtain ⟨j, z, hj, rfl, rfl, hz0, hz1, hmk, hin⟩ := hrel
    by_cases hlt : j < l.length
    · obtain ⟨cs, hblk, hsz, hcs⟩ := hmk.row
      obtain ⟨cv, hv3⟩ := hcs j hlt
      obtain ⟨zs, hzl, hrow⟩ := hmk.views j hlt
      have hle := Hle.out (j + 1)
      have hsc := Hsucc.out j hlt
      have hpp := Hp.out
      have hb1 : z + 3 ≤ 4194304 := by omega
      have hb2 : (getp l j).view.length ≤ 1048576 := by omega
      have hlt' : (j : Int) < (l.length : Int) := by omega
      have hz00 : 0 ≤ z := by omega
      obtain ⟨v0, hv0⟩ : ∃ v, cs[j * 4]? = some v := ⟨_, Array.getElem?_eq_getElem (by omega)⟩
      obtain ⟨v1, hv1⟩ : ∃ v, cs[j * 4 + 1]? = some v := ⟨_, Array.getElem?_eq_getElem (by omega)⟩
      obtain ⟨v2, hv2⟩ : ∃ v, cs[j * 4 + 2]? = some v := ⟨_, Array.getElem?_eq_getElem (by omega)⟩
      have g0 := (hblk.cell _).trans hv0
      have g1 := (hblk.cell _).trans hv1
      have g2 := (hblk.cell _).trans hv2
      have g3 := (hblk.cell _).trans hv3
      have z0 := hblk.frozen (j * 4)
      have z1 := hblk.frozen (j * 4 + 1)
      have z2 := hblk.frozen (j * 4 + 2)
      have HN := hide (rowB_ne hrow hblk)
      have HB := hide hblk
      have HR := hide hrow
      have HZ := hide hzl
      have HMK := hide hmk
      have HI := hide hin
      have HCS := hide hcs
      have HSZ := hide hsz
      have hsc' := hide hsc
      have hpp' := hide hpp
      clear hv0 hv1 hv2 hv3 hblk hrow hzl hmk hin hcs hsz hsc hpp
      go_wp2_with fail
      have hrow2 : RowB (((wr.setCell ⟨q, j * 4, none⟩ (Value.int .i64 z)).setCell ⟨q, j * 4 + 1, none⟩ (Value.int .i64 (z + 1))).setCell ⟨q, j * 4 + 2, none⟩ (Value.bool ((z + 1 + 1) % 3 == 0))) (qs j) zs := by
        obtain ⟨ds, d1, d2⟩ := HR.out
        refine ⟨ds, ?_, d2⟩
        iterate 3 (refine Blk.far ?_ (by show qs j ≠ q; exact HN.out) _)
        exact d1
      refine (markIntS_len HZ.out hb2 (by omega) (by omega) hrow2).mono ?_
      rintro e w5 ⟨rfl, hr5, ho5⟩
      go_wp2_with fail
      go_roundw
      case rel =>
        have hrow3 : Blk (((wr.setCell ⟨q, j * 4, none⟩ (Value.int .i64 z)).setCell ⟨q, j * 4 + 1, none⟩ (Value.int .i64 (z + 1))).setCell ⟨q, j * 4 + 2, none⟩ (Value.bool ((z + 1 + 1) % 3 == 0))) q 41 _ := ((HB.out.set_ _ _).set_ _ _).set_ _ _
        refine ⟨j + 1, z + 1 + 1 + 1 + (getp l j).view.length, by omega, by go_num, rfl, by omega, by have := hsc'.out; omega, ⟨⟨_, hrow3.only ho5 (fun e => HN.out e.symm), by have := HSZ.out; simpa using this, fun m hm => ?_⟩, fun m hm => ?_⟩, ?_⟩
        · obtain ⟨c4, h4⟩ := HCS.out m hm
          refine ⟨c4, ?_⟩
          simp only [Array.getElem?_setIfInBounds]
          rw [if_neg (by omega), if_neg (by omega), if_neg (by omega)]
          exact h4
        · by_cases e : m = j
          · subst e
            exact ⟨_, marks_len _ _, hr5⟩
          · obtain ⟨ys, y1, y2⟩ := HMK.out.views m hm
            refine ⟨ys, y1, ?_⟩
            have hne : qs m ≠ q := rowB_ne y2 HB.out
            have hne2 : qs m ≠ qs j := fun e2 => by
              rcases Nat.lt_or_gt_of_ne e with h | h
              · have := Hup.out m j h hlt; omega
              · have := Hup.out j m h hm; omega
            obtain ⟨ds, d1, d2⟩ := y2
            refine RowB.only ⟨ds, ?_, d2⟩ ho5 hne2
            iterate 3 (refine Blk.far ?_ (by show qs m ≠ q; exact hne) _)
            exact d1
        · refine HI.out.trans (Inn.trans (Inn.of_only (g := q) ?_ Hrng.out.1) (Inn.of_only ho5 (Hrng.out.2 j hlt)))
          exact (((Only.refl q wr).setCell (p := ⟨q, j * 4, none⟩) (.inl rfl) _).setCell (p := ⟨q, j * 4 + 1, none⟩) (.inl rfl) _).setCell (p := ⟨q, j * 4 + 2, none⟩) (.inl rfl) _
      case measure => simp [intOf]; omega
    · obtain rfl : j = l.length := by omega
      go_wp2_with fail
      go_ret
      exact ⟨z, rfl, ⟨hz0, by have := Hle.out l.length; have := Hp.out; omega⟩, hin⟩
end Go.Proofs.Ytikfbhehnpogoaa
