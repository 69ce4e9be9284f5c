/- BufAll, of the program and of the model. -/
import Derived.Test.YtmfjdmhcpgljbaaBufFl
import Derived.Deep.DeepCutAuto
namespace Go.Proofs.Ytmfjdmhcpgljbaa
open Go.RowKit

/-- The memory behind the first k Waits. -/
def allTo (zs ms : List Int) : Nat → List Int
  | 0 => ms
  | k + 1 => if cellB (geti zs (k * 2)) ms.length then (allTo zs ms k).set (geti zs (k * 2)).toNat (geti zs (k * 2 + 1)) else allTo zs ms k
theorem allTo_len (zs ms : List Int) (k : Nat) : (allTo zs ms k).length = ms.length := by
  induction k with
  | zero => rfl
  | succ k ih => unfold allTo; split <;> simp [ih]

/-- The row that is being written: nil, or a block of its own. -/
def AtT (w : World) (B : Nat) (v : Value) (m : Nat) (zs : List Int) : Prop := RvT 3 w B v m zs ∧ ∃ A c, v = .slice A m c
theorem RvT.set_ {w : World} {B m c x : Nat} {A : Option Addr} {ms : List Int} (h : RvT 3 w B (.slice A m c) m ms) (hm : ms.length = m) (hx : x < m) : ∃ q, A = some ⟨q, 0, none⟩ ∧ B ≤ q ∧ w.frozen? ⟨q, x, none⟩ = false ∧ (∃ u, w.cell? ⟨q, x, none⟩ = some u) ∧ ∀ v, RvT 3 (w.setCell ⟨q, x, none⟩ (.int .i64 v)) B (.slice A m c) m (ms.set x v) := by
  rcases h with ⟨_, h0, _⟩ | ⟨q, c', e, ⟨ds, h1, h2, h3⟩, hq⟩
  · omega
  · cases e
    refine ⟨q, rfl, hq, h1.frozen x, ⟨_, (h1.cell x).trans (Array.getElem?_eq_getElem (by omega))⟩, fun v => .inr ⟨q, c, rfl, ⟨ds.setIfInBounds x (.int .i64 v), h1.set_ x _, by simpa using h2, fun k hk => ?_⟩, hq⟩⟩
    rw [List.length_set] at hk
    rw [Array.getElem?_setIfInBounds, geti_set]
    by_cases e : x = k
    · subst e; rw [if_pos rfl, if_pos (by omega), if_pos ⟨rfl, hk⟩]
    · rw [if_neg e, if_neg (fun h => e h.1)]; exact h3 k hk

set_option maxRecDepth 100000 in
set_option maxHeartbeats 3200000 in
theorem bufAll_any (A D : Option Addr) (zs ms : List Int) (n c m d : Nat) (w : World) (hn : zs.length = n * 2) (hn2 : n ≤ 1048576) (hm : ms.length = m) (hm2 : m ≤ 1048576) (hS : IntsAt w (Old w.heap.size) A zs) (hM : IntsAt w (Old w.heap.size) D ms) :
    Calls Try.prog 26 #[.agg #[.slice A n c], .slice D m d] w fun e w' => RowR 3 w w' e m (allTo zs ms n) := by
  have hb0 := below1 w (Obj.cells #[Value.slice A n c] 54)
  have hM0 := hide ((hM.below hb0 (fun _ h => h)).more (S' := Old (w.heap.size + 1)) (fun b h => Nat.lt_of_lt_of_le h (by omega)))
  have hP := hide (Blk.new w 54 #[Value.slice A n c])
  replace hn := hide hn
  replace hm := hide hm
  replace hS := hide hS
  clear hM
  go_enter Try.func26, Try.ntmps26
  go_wp2_with fail
  refine (cloneInts_any D ms m d _ hm.out (by omega) (by simpa using hM0.out)).mono ?_
  rintro e w1 ⟨A1, c1, rfl, hown, hb1⟩
  have hz1 := hb1.size
  simp only [World.size_alloc] at hz1
  have hB1 := hide (hb0.trans (hb1.mono (by simp)))
  have hP1 := hP.out.below hb1 (by simp)
  have p1 := hP1.cell 0
  simp only [List.getElem?_toArray, List.getElem?_cons_zero] at p1
  have hQ1 := hide ((RvT.of_own hown).base (B' := w.heap.size + 1) (by simp))
  have hl1 := hP1.lt
  replace hP1 := hide hP1
  clear hown hb1 hb0
  go_wp2_with fail
  go_loopw [13] (fun i wr => ∃ k : Nat, k ≤ n ∧ i = .int .i64 k ∧ RvT 3 wr (w.heap.size + 1) (.slice A1 m c1) m (allTo zs ms k) ∧ Below w.heap.size w wr ∧ w1.heap.size ≤ wr.heap.size) (fun i _ => n - (intOf i).toNat)
  case atStart => exact ⟨0, Nat.zero_le _, rfl, hQ1.out, hB1.out, Nat.le_refl _⟩
  case round =>
    obtain ⟨k, hk, rfl, hQ, hB, hz⟩ := hrel
    replace hQ := hide hQ
    replace hB := hide hB
    by_cases hlt : k < n
    · obtain ⟨b, off, rfl, hbB, c0, c1'⟩ := (hS.out.below hB.out (fun _ h => h)).two hn.out hlt
      cases hc : cellB (geti zs (k * 2)) m
      · have ki := fun w => isCell_any (geti zs (k * 2)) m w
        rw [hc] at ki
        replace ki := hide ki
        have hcl : cellB (geti zs (k * 2)) ms.length = false := by rw [hm.out]; exact hc
        replace hcl := hide hcl
        clear hc
        go_wp2_with fail
        refine (ki.out _).mono ?_
        rintro e w2 ⟨rfl, rfl⟩
        go_wp2_with fail
        go_roundw
        case rel =>
          refine ⟨k + 1, by omega, by go_num, ?_, hB.out.alloc hB.out.size _, by simp; omega⟩
          unfold allTo
          rw [if_neg (by rw [hcl.out]; simp)]
          exact hQ.out.next (below1 _ _)
        case measure => simp [intOf]; omega
      · have ki := fun w => isCell_any (geti zs (k * 2)) m w
        have hx : 0 ≤ geti zs (k * 2) ∧ geti zs (k * 2) < m := by simpa [cellB] using hc
        obtain ⟨x, hxe⟩ : ∃ x : Nat, geti zs (k * 2) = (x : Int) := ⟨(geti zs (k * 2)).toNat, by omega⟩
        rw [hc] at ki
        have hcl : cellB (geti zs (k * 2)) ms.length = true := by rw [hm.out]; exact hc
        rw [hxe] at ki c0 hx
        have hxm : x < m := by omega
        obtain ⟨q, rfl, hq, f0, ⟨u, hu⟩, hset⟩ := hQ.out.set_ (by rw [allTo_len]; exact hm.out) hxm
        have hqr := (hQ.out.own_lt rfl).2
        replace hcl := hide hcl
        replace hxe := hide hxe
        replace hset := hide hset
        replace ki := hide ki
        clear hc hx
        go_wp2_with fail
        refine (ki.out _).mono ?_
        rintro e w2 ⟨rfl, rfl⟩
        go_wp2_with fail
        go_roundw
        case rel =>
          refine ⟨k + 1, by omega, by go_num, ?_, (hB.out.setCell (p := ⟨q, x, none⟩) (by show w.heap.size ≤ q; omega) _).alloc (by simpa using hB.out.size) _, by simp; omega⟩
          unfold allTo
          rw [if_pos hcl.out, hxe.out, Int.toNat_natCast]
          exact (hset.out _).next (below1 _ _)
        case measure => simp [intOf]; omega
    · obtain rfl : k = n := by omega
      go_wp2
      go_ret
      exact ⟨A1, c1, rfl, hQ.out.base (by omega), hB.out⟩

set_option maxRecDepth 100000 in
set_option maxHeartbeats 3200000 in
theorem sbufAll_any (A D : Option Addr) (zs ms : List Int) (n c m d : Nat) (w : World) (hn : zs.length = n * 2) (hn2 : n ≤ 1048576) (hm : ms.length = m) (hm2 : m ≤ 1048576) (hS : IntsAt w (Old w.heap.size) A zs) (hM : IntsAt w (Old w.heap.size) D ms) :
    Calls Try.prog 55 #[.agg #[.slice A n c], .slice D m d] w fun e w' => RowR 3 w w' e m (allTo zs ms n) := by
  have hb0 := below2 w (Obj.cells #[Value.slice A n c] 54) (Obj.cells #[] 3)
  have hM0 := hide ((hM.below hb0 (fun _ h => h)).more (S' := Old (w.heap.size + 1)) (fun b h => Nat.lt_of_lt_of_le h (by omega)))
  have hP := hide ((Blk.new w 54 #[Value.slice A n c]).alloc (Obj.cells #[] 3))
  obtain ⟨i1, hi1, hy0, hy1, hy2⟩ := info_parts Try.infoInt
  have hown0 := own_row (w := w.alloc (Obj.cells #[Value.slice A n c] 54)) (B := w.heap.size + 1) (e := 3) (size := 1) (n := 0) (cs := #[]) (by simp) (by omega) rfl
  simp only [World.size_alloc] at hown0
  replace hown0 := hide hown0
  replace hn := hide hn
  replace hm := hide hm
  replace hS := hide hS
  clear hM
  go_enter Try.func55, Try.ntmps55
  go_wp2_with (at_builtin; refine wpList_append_src _ rfl _ _ _ rfl (w.heap.size + 1) 3 i1 _ 1 8 Try.underlying23 hi1 hy0 hy1 hy2 rfl (by omega) (.slice (some ⟨w.heap.size + 1, 0, none⟩) 0 0) 0 [] rfl hown0.out (Old (w.heap.size + 1)) D m d ms rfl (by rw [hm.out]; simp) hM0.out (by have : maxLen = 9223372036854775807 := rfl; omega) (by omega) (by simp) ?_)
  intro A1 c1 w1 hown hgr _
  have hz1 := hgr.size
  simp only [World.size_alloc] at hz1
  have hlow := below_own (B := w.heap.size + 1) hgr (fun k hk e => by
    have e2 : w.heap.size + 1 = k := by simpa [Value.ownBlock] using e.symm
    omega) (by simp)
  have hB1 := hide (hb0.trans (hlow.mono (by omega)))
  have hP1 := hP.out.below hlow (by omega)
  have p1 := hP1.cell 0
  simp only [List.getElem?_toArray, List.getElem?_cons_zero] at p1
  have hQ1 := hide (RvT.of_own (zs := ms) hown)
  have hl1 := hP1.lt
  replace hP1 := hide hP1
  clear hown hb0 hgr hlow
  go_wp2_with fail
  go_loopw [6] (fun i wr => ∃ k : Nat, k ≤ n ∧ i = .int .i64 k ∧ RvT 3 wr (w.heap.size + 1) (.slice A1 m c1) m (allTo zs ms k) ∧ Below w.heap.size w wr ∧ Blk wr w.heap.size 54 #[Value.slice A n c]) (fun i _ => n - (intOf i).toNat)
  case atStart => exact ⟨0, Nat.zero_le _, rfl, hQ1.out, hB1.out, hP1.out⟩
  case round =>
    obtain ⟨k, hk, rfl, hQ, hB, hPr⟩ := hrel
    have p2 := hPr.cell 0
    simp only [List.getElem?_toArray, List.getElem?_cons_zero] at p2
    replace hQ := hide hQ
    replace hB := hide hB
    replace hPr := hide hPr
    by_cases hlt : k < n
    · obtain ⟨b, off, rfl, hbB, c0, c1'⟩ := (hS.out.below hB.out (fun _ h => h)).two hn.out hlt
      have hki : (k : Int) < (n : Int) := by omega
      cases hc : cellB (geti zs (k * 2)) m
      · have ki := fun w => l3cell_any A1 m c1 (geti zs (k * 2)) w
        rw [hc] at ki
        replace ki := hide ki
        have hcl : cellB (geti zs (k * 2)) ms.length = false := by rw [hm.out]; exact hc
        replace hcl := hide hcl
        clear hc
        go_wp2_with fail
        refine (ki.out _).mono ?_
        rintro e w2 ⟨rfl, rfl⟩
        go_wp2_with fail
        go_roundw
        case rel =>
          refine ⟨k + 1, by omega, by go_num, ?_, hB.out, hPr.out⟩
          unfold allTo
          rw [if_neg (by rw [hcl.out]; simp)]
          exact hQ.out
        case measure => simp [intOf]; omega
      · have ki := fun w => l3cell_any A1 m c1 (geti zs (k * 2)) w
        have hx : 0 ≤ geti zs (k * 2) ∧ geti zs (k * 2) < m := by simpa [cellB] using hc
        obtain ⟨x, hxe⟩ : ∃ x : Nat, geti zs (k * 2) = (x : Int) := ⟨(geti zs (k * 2)).toNat, by omega⟩
        rw [hc] at ki
        have hcl : cellB (geti zs (k * 2)) ms.length = true := by rw [hm.out]; exact hc
        rw [hxe] at ki c0 hx
        have hxm : x < m := by omega
        have hxi : (x : Int) < (m : Int) := by omega
        obtain ⟨q, rfl, hq, f0, ⟨u, hu⟩, hset⟩ := hQ.out.set_ (by rw [allTo_len]; exact hm.out) hxm
        have hqr := (hQ.out.own_lt rfl).2
        replace hcl := hide hcl
        replace hxe := hide hxe
        replace hset := hide hset
        replace ki := hide ki
        clear hc hx
        go_wp2_with fail
        refine (ki.out _).mono ?_
        rintro e w2 ⟨rfl, rfl⟩
        go_wp2_with fail
        go_region
        go_wp2_with fail
        go_roundw
        case rel =>
          refine ⟨k + 1, by omega, by go_num, ?_, (hB.out.setCell (p := ⟨q, x, none⟩) (by show w.heap.size ≤ q; omega) _).drew, hPr.out.far (p := ⟨q, x, none⟩) (by show w.heap.size ≠ q; omega) _⟩
          unfold allTo
          rw [if_pos hcl.out, hxe.out, Int.toNat_natCast]
          exact hset.out _
        case measure => simp [intOf]; omega
    · obtain rfl : k = n := by omega
      go_wp2
      go_ret
      exact ⟨A1, c1, rfl, hQ.out.base (by omega), hB.out⟩
end Go.Proofs.Ytmfjdmhcpgljbaa
