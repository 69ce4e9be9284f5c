/- The model's ViewJoin, for any histories and views. -/
import Derived.Test.YtbhfkfapdpedpaaSPl
import Derived.Deep.RegionHeld3
import Derived.Deep.DeepCutAuto
namespace Go.Proofs.Ytbhfkfapdpedpaa
open Go.RowKit

attribute [local go_sem ↓] Go.wp_at_zero Go.wp_at_succ

theorem Grow.next {W w w' : World} {A : Option Addr} {c : Nat} {zs : List Int} (h : Grow W A c zs w) (hb : Below w.heap.size w w') : Grow W A c zs w' :=
  ⟨kept h.own (fun k hk _ => hb.block k hk), h.low.trans (hb.mono h.low.size)⟩
theorem Grow.drew {W w : World} {A : Option Addr} {c : Nat} {zs : List Int} (h : Grow W A c zs w) : Grow W A c zs w.drew := ⟨h.own, ⟨h.low.os, h.low.tape, h.low.output, h.low.size, h.low.block⟩⟩

/-- A history and two numbers in cells of blocks below n. -/
structure VjIn (n b o ba oa bb ob : Nat) (A : Option Addr) (c : Nat) (l : List PostD) (x y : Int) (w : World) : Prop where
  hc : w.cell? ⟨b, o, none⟩ = some (.slice A l.length c)
  ac : w.cell? ⟨ba, oa, none⟩ = some (.int .i64 x)
  bc : w.cell? ⟨bb, ob, none⟩ = some (.int .i64 y)
  posts : PostsAt w (Old n) A l
  lt : b < n ∧ ba < n ∧ bb < n
  size : n ≤ w.heap.size
section
variable {n b o ba oa bb ob c : Nat} {A : Option Addr} {l : List PostD} {x y : Int} {w w' : World}
theorem VjIn.next (h : VjIn n b o ba oa bb ob A c l x y w) (hb : Below w.heap.size w w') : VjIn n b o ba oa bb ob A c l x y w' :=
  ⟨(hb.cell (p := ⟨b, o, none⟩) (Nat.lt_of_lt_of_le h.lt.1 h.size)).trans h.hc, (hb.cell (p := ⟨ba, oa, none⟩) (Nat.lt_of_lt_of_le h.lt.2.1 h.size)).trans h.ac, (hb.cell (p := ⟨bb, ob, none⟩) (Nat.lt_of_lt_of_le h.lt.2.2 h.size)).trans h.bc, h.posts.below hb (fun _ hx => Nat.lt_of_lt_of_le hx h.size), h.lt, Nat.le_trans h.size hb.size⟩
theorem VjIn.drew (h : VjIn n b o ba oa bb ob A c l x y w) : VjIn n b o ba oa bb ob A c l x y w.drew := ⟨h.hc, h.ac, h.bc, h.posts, h.lt, h.size⟩
theorem VjIn.cells (h : VjIn n b o ba oa bb ob A c l x y w) : w.cell? ⟨b, o, none⟩ = some (.slice A l.length c) ∧ w.cell? ⟨ba, oa, none⟩ = some (.int .i64 x) ∧ w.cell? ⟨bb, ob, none⟩ = some (.int .i64 y) := ⟨h.hc, h.ac, h.bc⟩
theorem VjIn.src (h : VjIn n b o ba oa bb ob A c l x y w) : PostsAt w (Old w.heap.size) A l := h.posts.more (fun _ hx => Nat.lt_of_lt_of_le hx h.size)
end

set_option maxRecDepth 100000 in
set_option maxHeartbeats 800000 in
theorem sviewJoin_no (C : Option Addr) (n c : Nat) (A : Option Addr) (m ca : Nat) (D : Option Addr) (k cb : Nat) (w : World) (hne : ¬ (m = n ∧ k = n)) :
    Calls Try.prog 32 #[.slice C n c, .slice A m ca, .slice D k cb] w fun e w' => RowR 3 w w' e 0 [] := by
  have hend : RowR 3 w w (.returned (.slice none 0 0)) 0 [] := ⟨none, 0, rfl, .inl ⟨rfl, rfl, rfl⟩, Below.refl _ _⟩
  replace hend := hide hend
  by_cases h1 : m = n
  · have h2 : ((k : Int) != (n : Int)) = true := by rw [bne_iff_ne]; omega
    have h1' : ((m : Int) != (n : Int)) = false := by simp [h1]
    clear hne h1
    go_enter Try.func32, Try.ntmps32
    go_wp2_with fail
    go_ret
    exact hend.out
  · have h1' : ((m : Int) != (n : Int)) = true := by rw [bne_iff_ne]; omega
    clear hne h1
    go_enter Try.func32, Try.ntmps32
    go_wp2_with fail
    go_ret
    exact hend.out

set_option maxRecDepth 100000 in
set_option maxHeartbeats 6400000 in
theorem sviewJoin_yes (C : Option Addr) (hs0 : List (List PostD)) (n c : Nat) (A : Option Addr) (av : List Int) (ca : Nat) (D : Option Addr) (bv : List Int) (cb : Nat) (w : World) (hn : hs0.length = n) (hn2 : n ≤ 1048576) (ha : av.length = n) (hb : bv.length = n)
    (hC : HistsAt w (Old w.heap.size) C hs0) (hA : IntsAt w (Old w.heap.size) A av) (hD : IntsAt w (Old w.heap.size) D bv) :
    Calls Try.prog 32 #[.slice C n c, .slice A n ca, .slice D n cb] w fun e w' => RowR 3 w w' e n (joinTo hs0 av bv n) := by
  obtain ⟨i1, hi1, hy0, hy1, hy2⟩ := info_parts Try.infoInt
  replace hi1 := hide hi1
  have hv := hide (show ∀ k, k < n → ∃ b o ba oa bb ob A' c', C = some ⟨b, o, none⟩ ∧ A = some ⟨ba, oa, none⟩ ∧ D = some ⟨bb, ob, none⟩ ∧ VjIn w.heap.size b (o + k) ba (oa + k) bb (ob + k) A' c' (geth hs0 k) (geti av k) (geti bv k) w from fun k hk => by
    obtain ⟨b, o, e1, h1, h2⟩ := hC.2 (by omega)
    obtain ⟨ba, oa, e2, h3, h4⟩ := hA.2 (by omega)
    obtain ⟨bb, ob, e3, h5, h6⟩ := hD.2 (by omega)
    obtain ⟨A', c', h7, -, h8⟩ := h2 k (by omega)
    exact ⟨b, o, ba, oa, bb, ob, A', c', e1, e2, e3, ⟨h7, h4 k (by omega), h6 k (by omega), h8, ⟨h1, h3, h5⟩, Nat.le_refl _⟩⟩)
  clear hC hA hD ha hb hn
  go_enter Try.func32, Try.ntmps32
  go_wp2_with fail
  go_loopw [7, 8] (fun v q wr => ∃ (k : Nat) (A' : Option Addr) (c' : Nat), k ≤ n ∧ q = .int .i64 k ∧ v = .slice A' (joinTo hs0 av bv k).length c' ∧ Grow w A' c' (joinTo hs0 av bv k) wr) (fun _ q _ => n - (intOf q).toNat)
  case atStart => exact ⟨0, none, 0, Nat.zero_le _, rfl, by rw [joinTo_zero]; rfl, by rw [joinTo_zero]; exact Grow.nil _⟩
  case round =>
    obtain ⟨k, A', c', hk, rfl, rfl, hgr⟩ := hrel
    have hlen := joinTo_len hs0 av bv k
    have hsn := joinTo_succ hs0 av bv k
    by_cases hlt : k < n
    · obtain ⟨b, o, ba, oa, bb, ob, AH, cH, rfl, rfl, rfl, hV⟩ := hv.out k hlt
      have H0 := hide (show VjIn w.heap.size b (o + k) ba (oa + k) bb (ob + k) AH cH (geth hs0 k) (geti av k) (geti bv k) wr from
        ⟨(hgr.low.cell (p := ⟨b, o + k, none⟩) hV.lt.1).trans hV.hc, (hgr.low.cell (p := ⟨ba, oa + k, none⟩) hV.lt.2.1).trans hV.ac, (hgr.low.cell (p := ⟨bb, ob + k, none⟩) hV.lt.2.2).trans hV.bc, hV.posts.below hgr.low (fun _ h => h), hV.lt, hgr.low.size⟩)
      clear hV
      obtain ⟨zs, hzs⟩ : ∃ zs, zs = joinTo hs0 av bv k := ⟨_, rfl⟩
      rw [← hzs] at hgr hlen hsn ⊢
      clear hzs
      have hif : laterI (geth hs0 k) (geti av k) (geti bv k) = if placeI (geth hs0 k) (geti bv k) > placeI (geth hs0 k) (geti av k) then geti bv k else geti av k := rfl
      replace hsn := hide hsn
      generalize geth hs0 k = l at *
      generalize geti av k = x at *
      generalize geti bv k = y at *
      have kP := hide (fun i w h => splaceOf_any AH l cH i w h)
      obtain ⟨⟨d0, d1, d2⟩, -⟩ := (⟨H0.out.cells, trivial⟩ : _ ∧ True)
      replace hlen := hide hlen
      replace hgr := hide hgr
      replace hif := hide hif
      go_wp2_with fail
      replace H0 := hide H0.out.drew
      replace hgr := hide hgr.out.drew
      go_region_held3 (fun w' => w'.cell? ⟨b, o + k, none⟩ = some (.slice AH l.length cH) ∧ w'.cell? ⟨ba, oa + k, none⟩ = some (.int .i64 x) ∧ w'.cell? ⟨bb, ob + k, none⟩ = some (.int .i64 y))
        (first | exact H0.out.cells | exact H1.out.cells | exact H2.out.cells)
        (first
        | (go_at_call_of 40 ([Value.agg #[Value.slice AH l.length cH], Value.int .i64 y]); refine (kP.out y _ H0.out.src).mono ?_; rintro e w1 ⟨rfl, hb1⟩; have H1 := hide (H0.out.next hb1); have G1 := hide (hgr.out.next hb1))
        | (go_at_call_of 40 ([Value.agg #[Value.slice AH l.length cH], Value.int .i64 x]); refine (kP.out x _ H1.out.src).mono ?_; rintro e w2 ⟨rfl, hb2⟩; have H2 := hide (H1.out.next hb2); have G2 := hide (G1.out.next hb2)))
      all_goals
        have hw := G2.out.low.size
        obtain ⟨-, e1, e2⟩ := H2.out.cells
        by_cases hgt : placeI l y > placeI l x
        · have hl := hide (show laterI l x y = y by rw [hif.out, if_pos hgt])
          have hs := hide (G2.out.src y)
          have ho := hide (G2.out.alloc_own (Obj.cells #[Value.int .i64 y] 3))
          generalize placeI l y = py at *
          generalize placeI l x = px at *
          go_wp2_with (at_builtin; refine wpList_append_src _ rfl _ _ _ rfl w.heap.size 3 i1 _ 1 8 Try.underlying30 hi1.out hy0 hy1 hy2 rfl (by omega) (.slice A' zs.length c') zs.length (zs.map (Value.int .i64)) rfl ho.out (Old (_ + 1)) (some ⟨_, 0, none⟩) 1 1 [y] rfl rfl hs.out (by have := hlen.out; have : maxLen = 9223372036854775807 := rfl; omega) (by have := hlen.out; omega) (by simp; omega) ?_)
          intro A2 c2 w3 hown hg2 _
          have hn := hide (show Grow w A2 c2 (joinTo hs0 av bv (k + 1)) w3 from by rw [hsn.out, hl.out]; exact G2.out.more (by simpa using hown) hg2)
          have hle := hide (show (joinTo hs0 av bv (k + 1)).length = zs.length + 1 from by rw [hsn.out]; simp)
          clear hown hg2 ho hs
          go_wp2_with fail
          go_roundw
          case rel => exact ⟨k + 1, A2, c2, by omega, by go_num, by rw [hle.out], hn.out⟩
          case measure => simp [intOf]; omega
        · have hl := hide (show laterI l x y = x by rw [hif.out, if_neg hgt])
          have hs := hide (G2.out.src x)
          have ho := hide (G2.out.alloc_own (Obj.cells #[Value.int .i64 x] 3))
          generalize placeI l y = py at *
          generalize placeI l x = px at *
          go_wp2_with (at_builtin; refine wpList_append_src _ rfl _ _ _ rfl w.heap.size 3 i1 _ 1 8 Try.underlying30 hi1.out hy0 hy1 hy2 rfl (by omega) (.slice A' zs.length c') zs.length (zs.map (Value.int .i64)) rfl ho.out (Old (_ + 1)) (some ⟨_, 0, none⟩) 1 1 [x] rfl rfl hs.out (by have := hlen.out; have : maxLen = 9223372036854775807 := rfl; omega) (by have := hlen.out; omega) (by simp; omega) ?_)
          intro A2 c2 w3 hown hg2 _
          have hn := hide (show Grow w A2 c2 (joinTo hs0 av bv (k + 1)) w3 from by rw [hsn.out, hl.out]; exact G2.out.more (by simpa using hown) hg2)
          have hle := hide (show (joinTo hs0 av bv (k + 1)).length = zs.length + 1 from by rw [hsn.out]; simp)
          clear hown hg2 ho hs
          go_wp2_with fail
          go_roundw
          case rel => exact ⟨k + 1, A2, c2, by omega, by go_num, by rw [hle.out], hn.out⟩
          case measure => simp [intOf]; omega
    · obtain rfl : k = n := by omega
      have hf := hide (show RowR 3 w wr (.returned (.slice A' (joinTo hs0 av bv k).length c')) k (joinTo hs0 av bv k) from by
        have h := hgr.row (Below.refl _ _)
        have hx : RowR 3 w wr (.returned (.slice A' (joinTo hs0 av bv k).length c')) k (joinTo hs0 av bv k) = RowR 3 w wr (.returned (.slice A' (joinTo hs0 av bv k).length c')) (joinTo hs0 av bv k).length (joinTo hs0 av bv k) := by rw [hlen]
        rw [hx]
        exact h)
      clear hgr hsn
      replace hlen := hide hlen
      obtain ⟨m, hm⟩ : ∃ m, m = (joinTo hs0 av bv k).length := ⟨_, rfl⟩
      rw [← hm]
      have hf2 := hide (show RowR 3 w wr (.returned (.slice A' m c')) k (joinTo hs0 av bv k) from by rw [hm]; exact hf.out)
      clear hf hm
      go_wp2_with fail
      go_ret
      exact hf2.out
end Go.Proofs.Ytbhfkfapdpedpaa
