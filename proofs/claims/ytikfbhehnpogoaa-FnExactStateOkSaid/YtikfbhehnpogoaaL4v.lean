/- spec.l4view: any histories, any view. -/
import Derived.Test.YtikfbhehnpogoaaOkD
import Derived.Test.YtikfbhehnpogoaaSPo
import Derived.Deep.RegionHeld3
namespace Go.Proofs.Ytikfbhehnpogoaa
open Go.RowKit

/-- What a round of l4view reads. -/
structure LvR (n g b off bv ov k : Nat) (A A' V : Option Addr) (m cA c' cv mv : Nat) (l : List PostD) (x : Int) (w : World) : Prop where
  st : w.cell? ⟨g, 5, none⟩ = some (.slice A m cA)
  hc : w.cell? ⟨b, off + k, none⟩ = some (.slice A' l.length c')
  vc : w.cell? ⟨bv, ov + k, none⟩ = some (.int .i64 x)
  ps : PostsAt w (Old n) A' l
  lt : g < w.heap.size ∧ b < n ∧ bv < n
  sz : n ≤ w.heap.size
theorem LvR.next {n g b off bv ov k : Nat} {A A' V : Option Addr} {m cA c' cv mv : Nat} {l : List PostD} {x : Int} {w w' : World} (h : LvR n g b off bv ov k A A' V m cA c' cv mv l x w) (hb : Below w.heap.size w w') : LvR n g b off bv ov k A A' V m cA c' cv mv l x w' :=
  ⟨(hb.cell (p := ⟨g, 5, none⟩) h.lt.1).trans h.st, (hb.cell (p := ⟨b, off + k, none⟩) (Nat.lt_of_lt_of_le h.lt.2.1 h.sz)).trans h.hc, (hb.cell (p := ⟨bv, ov + k, none⟩) (Nat.lt_of_lt_of_le h.lt.2.2 h.sz)).trans h.vc, h.ps.below hb (fun _ hx => Nat.lt_of_lt_of_le hx h.sz), ⟨Nat.lt_of_lt_of_le h.lt.1 hb.size, h.lt.2⟩, Nat.le_trans h.sz hb.size⟩

set_option maxRecDepth 100000 in
set_option maxHeartbeats 6400000 in
theorem sl4view_any (g n : Nat) (A : Option Addr) (hs : List (List PostD)) (cA : Nat) (V : Option Addr) (vs : List Int) (c : Nat) (w : World) (hg : w.cell? ⟨g, 5, none⟩ = some (.slice A hs.length cA)) (hgl : g < w.heap.size) (hH : HistsAt w (Old n) A hs) (hV : IntsAt w (Old n) V vs) (hz : n ≤ w.heap.size) :
    Calls Try.prog 137 #[.pointer (some ⟨g, 0, none⟩), .slice V vs.length c] w fun e w' => e = .returned (.bool (viewB hs vs)) ∧ Below w.heap.size w w' := by
  have hn := hV.1
  have hn2 := hH.1
  have hH := hide hH
  have hV := hide hV
  have hgH := hide hg
  go_enter Try.func137, Try.ntmps137
  by_cases hl : vs.length = hs.length
  · have hl' : ((vs.length : Int) != (hs.length : Int)) = false := by simp [hl]
    have hle : vs.length ≤ hs.length := by omega
    replace hl := hide hl
    go_wp2_with fail
    clear hg
    go_loopw [5] (fun i wr => ∃ (k : Nat), k ≤ vs.length ∧ i = .int .i64 k ∧ Hid (∀ j, j < k → 0 ≤ placeI (geth hs j) (geti vs j)) ∧ Hid (Below w.heap.size w wr)) (fun i _ => vs.length - (intOf i).toNat)
    case atStart => exact ⟨0, Nat.zero_le _, rfl, hide (fun j hj => by omega), hide (Below.refl _ _)⟩
    case round =>
      obtain ⟨k, hk, rfl, hdone, hb⟩ := hrel
      by_cases hlt : k < vs.length
      · obtain ⟨b, off, rfl, hSb, hc⟩ := (hH.out.below hb.out (fun b h => Nat.lt_of_lt_of_le h hz)).2 (by omega)
        obtain ⟨A', c', hcell, -, hp⟩ := hc k (by omega)
        obtain ⟨bv, ov, rfl, hSv, hcv⟩ := (hV.out.below hb.out (fun b h => Nat.lt_of_lt_of_le h hz)).2 (by omega)
        have hcell2 := hcv k hlt
        have hlt' : (k : Int) < (vs.length : Int) := by omega
        have hlt2 : (k : Int) < (hs.length : Int) := by omega
        have hk0 : (0 : Int) ≤ (k : Int) := by omega
        clear hc hcv
        obtain ⟨l, hgl2⟩ : ∃ l, l = geth hs k := ⟨_, rfl⟩
        obtain ⟨x, hgx⟩ : ∃ x, x = geti vs k := ⟨_, rfl⟩
        rw [← hgl2] at hcell hp
        rw [← hgx] at hcell2
        have hbad := hide (fun (hx : placeI l x < 0) => (show viewB hs vs = false from by unfold viewB; rw [allB_no (by omega : k < hs.length) (by rw [decide_eq_false]; rw [← hgl2, ← hgx]; omega)]; simp))
        have hgood := hide (fun (hx : 0 ≤ placeI l x) => (show 0 ≤ placeI (geth hs k) (geti vs k) from by rw [← hgl2, ← hgx]; exact hx))
        clear hgl2 hgx
        have R0 := hide (show LvR n g b off bv ov k (some ⟨b, off, none⟩) A' (some ⟨bv, ov, none⟩) hs.length cA c' c vs.length l x wr.drew from
          (⟨(hb.out.cell (p := ⟨g, 5, none⟩) hgl).trans hgH.out, hcell, hcell2, hp, ⟨Nat.lt_of_lt_of_le hgl hb.out.size, hSb, hSv⟩, Nat.le_trans hz hb.out.size⟩ : LvR n g b off bv ov k (some ⟨b, off, none⟩) A' (some ⟨bv, ov, none⟩) hs.length cA c' c vs.length l x wr).next (Below.refl _ _).drew)
        have B0 := hide hb.out.drew
        clear hcell hcell2 hp
        go_wp2_with fail
        go_region_held3 (fun w' => w'.cell? ⟨g, 5, none⟩ = some (.slice (some ⟨b, off, none⟩) hs.length cA) ∧ w'.cell? ⟨b, off + k, none⟩ = some (.slice A' l.length c') ∧ w'.cell? ⟨bv, ov + k, none⟩ = some (.int .i64 x))
          (first | exact ⟨R0.out.st, R0.out.hc, R0.out.vc⟩ | exact ⟨R1.out.st, R1.out.hc, R1.out.vc⟩)
          (first
          | (go_at_call 160; refine (splaceOf_any A' l c' x _ (R0.out.ps.more (fun _ hx => Nat.lt_of_lt_of_le hx R0.out.sz))).mono ?_; rintro e w1 ⟨rfl, hb1⟩; have R1 := hide (R0.out.next hb1); have B1 := hide (below_then B0.out hb1)))
        by_cases hx : placeI l x < 0
        · have hE := hide (hbad.out hx)
          have hd : decide (placeI l x < 0) = true := decide_eq_true hx
          rw [hd]
          go_wp2_with fail
          go_ret
          exact ⟨ret_bool hE.out.symm, B1.out⟩
        · have hok := hide (hgood.out (by omega))
          have hd : decide (placeI l x < 0) = false := decide_eq_false hx
          rw [hd]
          go_wp2_with fail
          go_roundw
          case rel => exact ⟨k + 1, by omega, by go_num, hide (fun j hj => by
            rcases Nat.lt_succ_iff_lt_or_eq.1 hj with h | rfl
            · exact hdone.out j h
            · exact hok.out), B1⟩
          case measure => simp [intOf]; omega
      · obtain rfl : k = vs.length := by omega
        have hE := hide (show viewB hs vs = true from by unfold viewB; rw [← hl.out, allB_yes (fun j hj => decide_eq_true (hdone.out j hj))]; simp)
        go_wp2_with fail
        go_ret
        exact ⟨ret_bool hE.out.symm, hb.out⟩
  · have hl' : ((vs.length : Int) != (hs.length : Int)) = true := by rw [bne_iff_ne]; omega
    have hE := hide (show viewB hs vs = false from by unfold viewB; simp [hl])
    clear hl
    go_wp2_with fail
    go_ret
    exact ⟨ret_bool hE.out.symm, Below.refl _ _⟩
end Go.Proofs.Ytikfbhehnpogoaa
