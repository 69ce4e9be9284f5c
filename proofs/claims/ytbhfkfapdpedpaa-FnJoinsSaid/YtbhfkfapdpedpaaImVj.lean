/- The program's ViewJoin, for any histories and views. -/
import Derived.Test.YtbhfkfapdpedpaaImPl
import Derived.Test.YtbhfkfapdpedpaaSVj
namespace Go.Proofs.Ytbhfkfapdpedpaa
open Go.RowKit

attribute [local go_sem ↓] Go.wp_at_zero Go.wp_at_succ

set_option maxRecDepth 100000 in
set_option maxHeartbeats 800000 in
theorem viewJoin_no (C : Option Addr) (n c : Nat) (A : Option Addr) (m ca : Nat) (D : Option Addr) (k cb : Nat) (w : World) (hne : ¬ (m = n ∧ k = n)) :
    Calls Try.prog 30 #[.slice C n c, .slice A m ca, .slice D k cb] w fun e w' => RowR 3 w w' e 0 [] := by
  have hend : RowR 3 w w (.returned (.slice none 0 0)) 0 [] := ⟨none, 0, rfl, .inl ⟨rfl, rfl, rfl⟩, Below.refl _ _⟩
  replace hend := hide hend
  by_cases h1 : m = n
  · have h2 : ((k : Int) != (n : Int)) = true := by rw [bne_iff_ne]; omega
    have h1' : ((m : Int) != (n : Int)) = false := by simp [h1]
    clear hne h1
    go_enter Try.func30, Try.ntmps30
    go_wp2_with fail
    go_ret
    exact hend.out
  · have h1' : ((m : Int) != (n : Int)) = true := by rw [bne_iff_ne]; omega
    clear hne h1
    go_enter Try.func30, Try.ntmps30
    go_wp2_with fail
    go_ret
    exact hend.out

/-- What a round of the program's ViewJoin holds: the round's history in a box of its own, the views, the row in the making. -/
structure VoIn (n b o ba oa bb ob T k : Nat) (A : Option Addr) (c : Nat) (l : List PostD) (x y : Int) (cs : Array Value) (w : World) : Prop where
  vj : VjIn n b o ba oa bb ob A c l x y w
  box : Blk w T 45 #[.slice A l.length c]
  row : Blk w n 3 cs
  kl : k < cs.size
  nT : n < T
section
variable {n b o ba oa bb ob T k c : Nat} {A : Option Addr} {l : List PostD} {x y : Int} {cs : Array Value} {w w' : World}
theorem VoIn.next (h : VoIn n b o ba oa bb ob T k A c l x y cs w) (hb : Below w.heap.size w w') : VoIn n b o ba oa bb ob T k A c l x y cs w' :=
  ⟨h.vj.next hb, h.box.below hb h.box.lt, h.row.below hb h.row.lt, h.kl, h.nT⟩
theorem VoIn.only (h : VoIn n b o ba oa bb ob T k A c l x y cs w) {q : Nat} (ho : Only q w w') (hq : T < q) : VoIn n b o ba oa bb ob T k A c l x y cs w' := by
  have hz := h.box.lt
  have hn := h.nT
  have hb : Below (T + 1) w w' := ⟨ho.os, ho.tape, ho.output, ho.size, fun j hj => ho.block j (by omega) (by omega)⟩
  exact ⟨⟨(hb.cell (p := ⟨b, o, none⟩) (by have := h.vj.lt.1; show b < T + 1; omega)).trans h.vj.hc, (hb.cell (p := ⟨ba, oa, none⟩) (by have := h.vj.lt.2.1; show ba < T + 1; omega)).trans h.vj.ac, (hb.cell (p := ⟨bb, ob, none⟩) (by have := h.vj.lt.2.2; show bb < T + 1; omega)).trans h.vj.bc, h.vj.posts.below hb (fun _ hx => Nat.lt_trans hx (by omega)), h.vj.lt, Nat.le_trans h.vj.size ho.size⟩, h.box.below hb (by omega), h.row.below hb (by omega), h.kl, h.nT⟩
theorem VoIn.drew (h : VoIn n b o ba oa bb ob T k A c l x y cs w) : VoIn n b o ba oa bb ob T k A c l x y cs w.drew := ⟨h.vj.drew, h.box, h.row, h.kl, h.nT⟩
theorem VoIn.cells (h : VoIn n b o ba oa bb ob T k A c l x y cs w) : (w.cell? ⟨ba, oa, none⟩ = some (.int .i64 x) ∧ w.cell? ⟨bb, ob, none⟩ = some (.int .i64 y) ∧ w.cell? ⟨T, 0, none⟩ = some (.slice A l.length c)) ∧ (∃ v, w.cell? ⟨n, k, none⟩ = some v) ∧ w.frozen? ⟨n, k, none⟩ = false ∧ n < w.heap.size ∧ T < w.heap.size :=
  ⟨⟨h.vj.ac, h.vj.bc, h.box.cell 0⟩, ⟨cs[k]'h.kl, (h.row.cell k).trans (Array.getElem?_eq_getElem _)⟩, h.row.frozen k, h.row.lt, h.box.lt⟩
end

set_option maxRecDepth 100000 in
set_option maxHeartbeats 6400000 in
theorem viewJoin_yes (C : Option Addr) (hs0 : List (List PostD)) (n c : Nat) (A : Option Addr) (av : List Int) (ca : Nat) (D : Option Addr) (bv : List Int) (cb : Nat) (w : World) (hn : hs0.length = n) (hn2 : n ≤ 1048576) (ha : av.length = n) (hb : bv.length = n)
    (hsz : ∀ k, k < n → (geth hs0 k).length ≤ 1048576) (hwf : ∀ k, k < n → IdsWf (geth hs0 k)) (hwa : IntsWf av) (hwb : IntsWf bv)
    (hC : HistsAt w (Old w.heap.size) C hs0) (hA : IntsAt w (Old w.heap.size) A av) (hD : IntsAt w (Old w.heap.size) D bv) :
    Calls Try.prog 30 #[.slice C n c, .slice A n ca, .slice D n cb] w fun e w' => RowR 3 w w' e n (joinTo hs0 av bv n) := by
  have hmk := make_ints n hn2
  have hv := hide (show ∀ k, k < n → ∃ b o ba oa bb ob A' c', C = some ⟨b, o, none⟩ ∧ A = some ⟨ba, oa, none⟩ ∧ D = some ⟨bb, ob, none⟩ ∧ VjIn w.heap.size b (o + k) ba (oa + k) bb (ob + k) A' c' (geth hs0 k) (geti av k) (geti bv k) w from fun k hk => by
    obtain ⟨b, o, e1, h1, h2⟩ := hC.2 (by omega)
    obtain ⟨ba, oa, e2, h3, h4⟩ := hA.2 (by omega)
    obtain ⟨bb, ob, e3, h5, h6⟩ := hD.2 (by omega)
    obtain ⟨A', c', h7, -, h8⟩ := h2 k (by omega)
    exact ⟨b, o, ba, oa, bb, ob, A', c', e1, e2, e3, ⟨h7, h4 k (by omega), h6 k (by omega), h8, ⟨h1, h3, h5⟩, Nat.le_refl _⟩⟩)
  have hwf2 := hide (show ∀ k, k < n → (geth hs0 k).length ≤ 1048576 ∧ IdsWf (geth hs0 k) ∧ (Lit.int .i64 (geti av k)).wf = true ∧ (Lit.int .i64 (geti bv k)).wf = true from fun k hk => ⟨hsz k hk, hwf k hk, hwa k (by omega), hwb k (by omega)⟩)
  clear hC hA hD ha hb hn hsz hwf hwa hwb
  have hR0 := hide (Blk.new w 3 (zrow #[.int .i64 0] n))
  have hB0 := hide (below1 w (Obj.cells (zrow #[.int .i64 0] n) 3))
  have hz0 : (zrow #[.int .i64 0] n).size = n := zrow_size1 _ _
  go_enter Try.func30, Try.ntmps30
  go_wp2_with fail
  clear hmk
  go_loopw [27] (fun q wr => ∃ (k : Nat) (cs : Array Value), k ≤ n ∧ q = .int .i64 k ∧ Blk wr w.heap.size 3 cs ∧ cs.size = n ∧ (∀ j, j < k → cs[j]? = some (.int .i64 (geti (joinTo hs0 av bv n) j))) ∧ Below w.heap.size w wr) (fun q _ => n - (intOf q).toNat)
  case atStart => exact ⟨0, _, Nat.zero_le _, rfl, hR0.out, hz0, fun j hj => absurd hj (Nat.not_lt_zero j), hB0.out⟩
  case round =>
    clear hz0
    obtain ⟨k, cs, hk, rfl, hR, hcz, hcs, hB⟩ := hrel
    have hcs2 := hide hcs
    clear hcs
    by_cases hlt : k < n
    · obtain ⟨b, o, ba, oa, bb, ob, AH, cH, rfl, rfl, rfl, hV⟩ := hv.out k hlt
      obtain ⟨hl2, hwl, hwx, hwy⟩ := hwf2.out k hlt
      have hVw : VjIn w.heap.size b (o + k) ba (oa + k) bb (ob + k) AH cH (geth hs0 k) (geti av k) (geti bv k) wr :=
        ⟨(hB.cell (p := ⟨b, o + k, none⟩) hV.lt.1).trans hV.hc, (hB.cell (p := ⟨ba, oa + k, none⟩) hV.lt.2.1).trans hV.ac, (hB.cell (p := ⟨bb, ob + k, none⟩) hV.lt.2.2).trans hV.bc, hV.posts.below hB (fun _ h => h), hV.lt, hB.size⟩
      have hget := hide (joinTo_get hs0 av bv hlt)
      have d0 := hVw.hc
      have hb1 := below1 wr (Obj.cells #[Value.slice AH (geth hs0 k).length cH] 45)
      have V := hide (show VoIn w.heap.size b (o + k) ba (oa + k) bb (ob + k) wr.heap.size k AH cH (geth hs0 k) (geti av k) (geti bv k) cs (wr.alloc (Obj.cells #[Value.slice AH (geth hs0 k).length cH] 45)) from
        ⟨hVw.next hb1, Blk.new _ _ _, hR.alloc _, by omega, hR.lt⟩)
      have HB := hide (show Below w.heap.size w (wr.alloc (Obj.cells #[Value.slice AH (geth hs0 k).length cH] 45)) from hB.trans (hb1.mono hB.size))
      have hq2 := hR.lt
      replace hR := hide hR
      replace hB := hide hB
      replace hwl := hide hwl
      clear hV hVw hb1
      generalize geth hs0 k = l at *
      generalize geti av k = x at *
      generalize geti bv k = y at *
      go_wp2_with fail
      obtain ⟨W1, hW1⟩ : ∃ W, W = wr.alloc (Obj.cells #[Value.slice AH l.length cH] 45) := ⟨_, rfl⟩
      rw [← hW1] at V HB ⊢
      clear hW1 d0
      have hzT := V.out.box.lt
      have V0 := hide V.out.drew
      have HB0 := hide (show Below w.heap.size w W1.drew from HB.out.drew)
      obtain ⟨⟨c0, c1, c2⟩, -, -, -, -⟩ := V0.out.cells
      go_region_law (first
        | (go_simp; refine (historyOf_any AH l cH _ hl2 (by exact V0.out.vj.src)).mono ?_; rintro e w1 ⟨q, p, rfl, hH1, hb1, hq1⟩; have hlo := hH1.lo; have hs1 : W1.heap.size ≤ w1.heap.size := hb1.size; have hTq : wr.heap.size < q := (by have h9 : W1.heap.size ≤ p := hlo.1; omega); have V1 := hide (V0.out.next hb1); have HB1 := hide (HB0.out.trans (hb1.mono (by exact HB0.out.size))); replace hH1 := hide hH1; obtain ⟨⟨f0, f1, f2⟩, -, -, -, -⟩ := V1.out.cells; go_simp)
        | (go_simp; refine (further_any _ _ _ _ _ _ _ _ hl2 hwl.out hwx hwy (.inl hH1.out)).mono ?_; rintro e w2 ⟨rfl, hO2⟩; have V2 := hide (V1.out.only hO2 hTq); have HB2 := hide (below_only HB1.out hO2 (by omega) (by omega)); obtain ⟨⟨g0, g1, g2⟩, ⟨gv, g3⟩, g4, -, -⟩ := V2.out.cells; go_simp)
        | fail)
      all_goals
        have hR2 := hide (V2.out.row.set_ k (.int .i64 (laterI l x y)))
        have hB2 := hide (HB2.out.setCell (p := ⟨w.heap.size, k, none⟩) (Nat.le_refl _) (.int .i64 (laterI l x y)))
        have hcs3 := hide (show ∀ j, j < k + 1 → (cs.setIfInBounds k (.int .i64 (laterI l x y)))[j]? = some (.int .i64 (geti (joinTo hs0 av bv n) j)) from fun j hj => by
          rw [Array.getElem?_setIfInBounds]
          by_cases hjk : k = j
          · subst hjk
            rw [if_pos rfl, if_pos (by omega), hget.out]
          · rw [if_neg hjk]
            exact hcs2.out j (by omega))
        go_wp2_with fail
        go_roundw
        case rel => exact ⟨k + 1, _, by omega, by go_num, hR2.out, by simp; exact hcz, hcs3.out, hB2.out⟩
        case measure => simp [intOf]; omega
    · obtain rfl : k = n := by omega
      have hf := hide (show RowR 3 w wr (.returned (.slice (some ⟨w.heap.size, 0, none⟩) k k)) k (joinTo hs0 av bv k) from
        ⟨_, _, rfl, .inr ⟨_, _, rfl, ⟨cs, hR, by rw [joinTo_len]; omega, fun j hj => hcs2.out j (by rw [joinTo_len] at hj; exact hj)⟩, Nat.le_refl _⟩, hB⟩)
      clear hR hB hcs2
      go_wp2_with fail
      go_ret
      exact hf.out
end Go.Proofs.Ytbhfkfapdpedpaa
