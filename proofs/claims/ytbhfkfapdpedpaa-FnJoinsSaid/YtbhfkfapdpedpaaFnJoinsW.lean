/- The walk of FnJoins: it answers true, whatever is drawn. -/
import Derived.Test.YtbhfkfapdpedpaaDVj
import Derived.Test.YtbhfkfapdpedpaaViews
import Derived.Test.YtbhfkfapdpedpaaPlL
import Derived.Test.YtbhfkfapdpedpaaSVj
import Derived.Test.YtbhfkfapdpedpaaExH
import Derived.Deep.RegionHeld3
namespace Go.Proofs.Ytbhfkfapdpedpaa
open Go.RowKit

attribute [local go_sem ↓] Go.wp_at_zero Go.wp_at_succ

/-- Four cells that a round reads. -/
def JnC (bC oC bV oV bA oA bB oB : Nat) (h v a b : Value) (w : World) : Prop := (w.cell? ⟨bC, oC, none⟩ = some h ∧ w.cell? ⟨bV, oV, none⟩ = some v ∧ w.cell? ⟨bA, oA, none⟩ = some a ∧ w.cell? ⟨bB, oB, none⟩ = some b)
theorem JnC.next {bC oC bV oV bA oA bB oB n : Nat} {h v a b : Value} {w w' : World} (k : JnC bC oC bV oV bA oA bB oB h v a b w) (hl : (bC < n ∧ bV < n ∧ bA < n ∧ bB < n) ∧ n ≤ w.heap.size) (hb : Below w.heap.size w w') : JnC bC oC bV oV bA oA bB oB h v a b w' :=
  ⟨(hb.cell (p := ⟨bC, oC, none⟩) (by have := hl.1.1; have := hl.2; show bC < _; omega)).trans k.1, (hb.cell (p := ⟨bV, oV, none⟩) (by have := hl.1.2.1; have := hl.2; show bV < _; omega)).trans k.2.1, (hb.cell (p := ⟨bA, oA, none⟩) (by have := hl.1.2.2.1; have := hl.2; show bA < _; omega)).trans k.2.2.1, (hb.cell (p := ⟨bB, oB, none⟩) (by have := hl.1.2.2.2; have := hl.2; show bB < _; omega)).trans k.2.2.2⟩
theorem sm_wf {zs : List Int} (h : Sm zs) : IntsWf zs := fun k hk => by
  have h1 : geti zs k ∈ zs := by
    unfold geti
    rw [List.getD_eq_getElem?_getD, List.getElem?_eq_getElem hk]
    exact List.getElem_mem hk
  have := h _ h1
  exact WalkArith.wf_i64 ⟨by omega, by omega⟩

set_option maxRecDepth 100000 in
set_option maxHeartbeats 12800000 in
theorem fnJoins_walk (A : Option Addr) (n c : Nat) (w : World) (hn : n ≤ c) (ha : BytesAt w (Old w.heap.size) A n) :
    Calls Try.prog 6 #[.slice A n c] w fun e w' => e = .returned (.bool true) ∧ Below w.heap.size w w' := by
  go_enter Try.func6, Try.ntmps6
  go_wp2_with fail
  refine (drawViewJoin_any A n c _ hn ha).mono ?_
  rintro e w1 ⟨C, c1, A1, ca, D1, cb, hs, az, bz, rfl, ⟨hn3, hla, hlb⟩, hsm, hsa, hsb, hC, hA, hD, hb0⟩
  replace hb0 := hide hb0
  have S := hide hC
  have SA := hide hA
  have SB := hide hD
  have HB := hide (Below.refl w1.heap.size w1)
  clear hC hA hD ha
  rcases hla with hla | hla
  · have _ := hn3
    have hszs := fun k hk => show (geth hs k).length ≤ 1048576 by have := (hsm k hk).1; omega
    have hwfs := fun k hk => smallP_wf (hsm k hk).2
    have kP := fun w => viewJoin_yes C hs hs.length c1 A1 az ca D1 bz cb w rfl (by omega) hla hlb hszs hwfs (sm_wf hsa) (sm_wf hsb)
    have kS := fun w => sviewJoin_yes C hs hs.length c1 A1 az ca D1 bz cb w rfl (by omega) hla hlb
    have hJl := joinTo_len hs az bz hs.length
    have hJs := joinTo_self hs (joinTo hs az bz hs.length) hs.length hJl
    have hJk := fun k (hk : k < hs.length) => joinTo_get hs az bz hk
    have hJw : IntsWf (joinTo hs az bz hs.length) := fun k hk => by
      rw [hJk k (by omega)]
      rcases laterI_or (geth hs k) (geti az k) (geti bz k) with h | h
      · rw [h]; exact sm_wf hsa k (by omega)
      · rw [h]; exact sm_wf hsb k (by omega)
    have kJ := fun A' c' w => viewJoin_yes C hs hs.length c1 A' (joinTo hs az bz hs.length) c' A' (joinTo hs az bz hs.length) c' w rfl (by omega) hJl hJl hszs hwfs hJw hJw
    rw [hJs] at kJ
    obtain ⟨J, hJ⟩ : ∃ J, J = joinTo hs az bz hs.length := ⟨_, rfl⟩
    rw [← hJ] at kP kS hJl kJ hJk hJw
    rw [hla, hlb]
    clear hJs hJ hszs
    replace kP := hide kP
    replace kS := hide kS
    replace kJ := hide kJ
    replace hJk := hide hJk
    replace hJl := hide hJl
    replace hJw := hide hJw
    replace hla := hide hla
    replace hlb := hide hlb
    replace hwfs := hide hwfs
    replace hsm := hide hsm
    replace hsa := hide hsa
    replace hsb := hide hsb
    go_wp2_with fail
    refine (kP.out _ (S.out.more (old_lts HB.out.size)) (SA.out.more (old_lts HB.out.size)) (SB.out.more (old_lts HB.out.size))).mono ?_
    rintro e w2 ⟨AV, cV, rfl, hr, hb⟩
    have hzw2 := hb.size
    have hBz := HB.out.size
    replace S := hide (S.out.nextI hb hBz)
    replace SA := hide (SA.out.nextI hb hBz)
    replace SB := hide (SB.out.nextI hb hBz)
    replace HB := hide (below_next HB.out hb hBz)
    clear hBz
    clear hb
    have V := hide (RvI.of hr)
    clear hr
    go_wp2_with fail
    refine (kS.out _ (S.out.more (old_lts HB.out.size)) (SA.out.more (old_lts HB.out.size)) (SB.out.more (old_lts HB.out.size))).mono ?_
    rintro e w3 ⟨AV2, cV2, rfl, hr, hb⟩
    have hzw3 := hb.size
    have hBz := HB.out.size
    replace V := hide (V.out.next hb)
    replace S := hide (S.out.nextI hb hBz)
    replace SA := hide (SA.out.nextI hb hBz)
    replace SB := hide (SB.out.nextI hb hBz)
    replace HB := hide (below_next HB.out hb hBz)
    clear hBz
    clear hb
    have V2 := hide (RvI.of hr)
    clear hr
    go_wp2_with fail
    refine (sameIntsI hJl.out (by omega) V.out V2.out).mono ?_
    rintro e w4 ⟨rfl, hb⟩
    have hzw4 := hb.size
    have hBz := HB.out.size
    replace V := hide (V.out.next hb)
    replace V2 := hide (V2.out.next hb)
    replace S := hide (S.out.nextI hb hBz)
    replace SA := hide (SA.out.nextI hb hBz)
    replace SB := hide (SB.out.nextI hb hBz)
    replace HB := hide (below_next HB.out hb hBz)
    clear hBz
    clear hb
    clear V2
    have hVs := hide (V.out.src (by rw [hJl.out]; omega) rfl)
    have hCs := hide (S.out.more (old_lts HB.out.size))
    have hAs := hide (SA.out.more (old_lts HB.out.size))
    have hBs := hide (SB.out.more (old_lts HB.out.size))
    clear kP kS
    go_wp2_with fail
    go_loopw [7] (fun x wr => ∃ k : Nat, k ≤ hs.length ∧ x = .int .i64 k ∧ Hid (Below w4.heap.size w4 wr)) (fun x _ => hs.length - (intOf x).toNat)
    case atStart => exact ⟨0, Nat.zero_le _, rfl, hide (Below.refl _ _)⟩
    case round =>
      obtain ⟨k, hk, rfl, hbr⟩ := hrel
      have hzr := hbr.out.size
      rcases Nat.lt_or_ge k hs.length with hlt | hge
      · obtain ⟨bC, oC, rfl, lC, hc⟩ := (hCs.out.below hbr.out (fun _ h => h)).2 (by omega)
        obtain ⟨A4, c4, cC, hc4, hp4⟩ := hc k hlt
        obtain ⟨bV, oV, rfl, lV, cV0⟩ := (hVs.out.below hbr.out (fun _ h => h)).2 (by rw [hJl.out]; omega)
        obtain ⟨bA, oA, rfl, lA, cA0⟩ := (hAs.out.below hbr.out (fun _ h => h)).2 (by rw [hla.out]; omega)
        obtain ⟨bB, oB, rfl, lB, cB0⟩ := (hBs.out.below hbr.out (fun _ h => h)).2 (by rw [hlb.out]; omega)
        have cV1 := cV0 k (by rw [hJl.out]; omega)
        have cA1 := cA0 k (by rw [hla.out]; omega)
        have cB1 := cB0 k (by rw [hlb.out]; omega)
        have hwv := hJw.out k (by rw [hJl.out]; omega)
        have hwa := sm_wf hsa.out k (by rw [hla.out]; omega)
        have hwb := sm_wf hsb.out k (by rw [hlb.out]; omega)
        have hor := laterI_or (geth hs k) (geti az k) (geti bz k)
        have hge := laterI_ge (geth hs k) (geti az k) (geti bz k)
        rw [← hJk.out k hlt] at hor hge
        have hl5 : (geth hs k).length ≤ 1048576 := by have := (hsm.out k hlt).1; omega
        have hwf := hwfs.out k hlt
        obtain ⟨l, hl⟩ : ∃ l, l = geth hs k := ⟨_, rfl⟩
        obtain ⟨v, hv⟩ : ∃ v, v = geti J k := ⟨_, rfl⟩
        obtain ⟨a, hav⟩ : ∃ a, a = geti az k := ⟨_, rfl⟩
        obtain ⟨b, hbv⟩ : ∃ b, b = geti bz k := ⟨_, rfl⟩
        rw [← hl] at cC hc4 hp4 hge hl5 hwf
        rw [← hv] at cV1 hwv hor hge
        rw [← hav] at cA1 hwa hor hge
        rw [← hbv] at cB1 hwb hor hge
        have kv := fun w' => placeOf_any A4 l c4 v w' hl5 hwf hwv
        have ka := fun w' => placeOf_any A4 l c4 a w' hl5 hwf hwa
        have kb := fun w' => placeOf_any A4 l c4 b w' hl5 hwf hwb
        obtain ⟨pv, hpv⟩ : ∃ p, p = placeI l v := ⟨_, rfl⟩
        obtain ⟨pa, hpa⟩ : ∃ p, p = placeI l a := ⟨_, rfl⟩
        obtain ⟨pb, hpb⟩ : ∃ p, p = placeI l b := ⟨_, rfl⟩
        rw [← hpv] at hge kv
        rw [← hpa] at hge ka
        rw [← hpb] at hge kb
        have hg1 : decide (pv < pa) = false := decide_eq_false (by omega)
        have hg2 : decide (pv < pb) = false := decide_eq_false (by omega)
        have hk1 : (0 : Int) ≤ (k : Int) := by omega
        have hk2 : (k : Int) < (hs.length : Int) := by omega
        have hlts := hide (show (bC < wr.heap.size ∧ bV < wr.heap.size ∧ bA < wr.heap.size ∧ bB < wr.heap.size) from ⟨Nat.lt_of_lt_of_le lC hzr, Nat.lt_of_lt_of_le lV hzr, Nat.lt_of_lt_of_le lA hzr, Nat.lt_of_lt_of_le lB hzr⟩)
        have H0 := hide (show JnC bC (oC + k) bV (oV + k) bA (oA + k) bB (oB + k) (.slice A4 l.length c4) (.int .i64 v) (.int .i64 a) (.int .i64 b) wr.drew from ⟨cC, cV1, cA1, cB1⟩)
        have P0 := hide (show PostsAt wr.drew (Old wr.heap.size) A4 l from hp4.more (fun _ h => Nat.lt_of_lt_of_le h hzr))
        have B0 := hide ((Below.refl wr.heap.size wr).drew)
        replace kv := hide kv
        replace ka := hide ka
        replace kb := hide kb
        clear cC cV0 cV1 cA0 cA1 cB0 cB1 hc hp4 hwv hwa hwb hge hl5 hwf hl hv hav hbv hpv hpa hpb lC lV lA lB hc4
        go_wp2_with fail
        go_region_held3 (fun w' => w'.cell? ⟨bC, oC + k, none⟩ = some (Value.slice A4 l.length c4) ∧ w'.cell? ⟨bV, oV + k, none⟩ = some (Value.int .i64 v) ∧ w'.cell? ⟨bA, oA + k, none⟩ = some (Value.int .i64 a) ∧ w'.cell? ⟨bB, oB + k, none⟩ = some (Value.int .i64 b))
          (first | exact H0.out | exact H1.out)
          (first
          | (go_at_call 34; refine (kv.out _ (P0.out.more (old_lts B0.out.size))).mono ?_; rintro e w21 ⟨rfl, hb1⟩; have H1 := hide (H0.out.next ⟨hlts.out, B0.out.size⟩ hb1); have P1 := hide (P0.out.nextI hb1 B0.out.size); have B1 := hide (below_next B0.out hb1 B0.out.size)))
        all_goals
          clear H0 P0 B0
          replace H1 := hide (show JnC bC (oC + k) bV (oV + k) bA (oA + k) bB (oB + k) (.slice A4 l.length c4) (.int .i64 v) (.int .i64 a) (.int .i64 b) w21.drew from H1.out)
          replace P1 := hide (show PostsAt w21.drew (Old wr.heap.size) A4 l from P1.out)
          replace B1 := hide (B1.out.drew)
          have hz21 := B1.out.size
          clear hb1
          have hcase : ((v != a) = false) ∨ ((v != a) = true ∧ (v != b) = false) := by
            by_cases hva : v = a
            · exact .inl (by simp [hva])
            · rcases hor with h | h
              · exact absurd h hva
              · exact .inr ⟨by rw [bne_iff_ne]; exact hva, by simp [h]⟩
          clear hor
          rcases hcase with hne1 | ⟨hne1, hne2⟩
          · go_wp2_with fail
            refine wp_region_held_drew (S := (fun w' => w'.cell? ⟨bC, oC + k, none⟩ = some (Value.slice A4 l.length c4) ∧ w'.cell? ⟨bV, oV + k, none⟩ = some (Value.int .i64 v) ∧ w'.cell? ⟨bA, oA + k, none⟩ = some (Value.int .i64 a) ∧ w'.cell? ⟨bB, oB + k, none⟩ = some (Value.int .i64 b))) (by kernel_rfl) ?_ (fun hHeld => ?_)
            · exact H1.out
            refine wpAnyH_take (i := 0) (oi := { dst := some 59, op := Op.move (Operand.tmp 6), type := 30, pos := "laws.go:302", after := #[], guard := none }) (v := ?_) rfl (by kernel_rfl) (by kernel_rfl) (by kernel_rfl) (fun _ _ _ h => h) (Or.inl ⟨by rfl, ?_⟩) hHeld ?_
            rotate_left
            · (intro wq hSw; (try dsimp only at hSw); first | (go_simp; done) | (go_simp; with_reducible rfl))
            try simp only [Act.put, List.setIfInBounds_toArray, List.set_cons_zero, List.set_cons_succ]
            refine wpAnyH_take (i := 1) (oi := { dst := some 60, op := Op.move (Operand.tmp 7), type := 3, pos := "laws.go:302", after := #[], guard := none }) (v := ?_) rfl (by kernel_rfl) (by kernel_rfl) (by kernel_rfl) (fun _ _ _ h => h) (Or.inl ⟨by rfl, ?_⟩) hHeld ?_
            rotate_left
            · (intro wq hSw; (try dsimp only at hSw); first | (go_simp; done) | (go_simp; with_reducible rfl))
            try simp only [Act.put, List.setIfInBounds_toArray, List.set_cons_zero, List.set_cons_succ]
            refine wpAnyH_take (i := 2) (oi := { dst := some 61, op := Op.indexAddr 30 (Operand.tmp 59) (Operand.tmp 60), type := 0, pos := "laws.go:302", after := #[{ on := 0, ground := Ground.data }, { on := 1, ground := Ground.data }], guard := none }) (v := ?_) rfl (by kernel_rfl) (by kernel_rfl) (by kernel_rfl) (fun _ _ _ h => h) (Or.inl ⟨by rfl, ?_⟩) hHeld ?_
            rotate_left
            · (intro wq hSw; (try dsimp only at hSw); first | (go_simp; done) | (go_simp; with_reducible rfl))
            try simp only [Act.put, List.setIfInBounds_toArray, List.set_cons_zero, List.set_cons_succ]
            refine wpAnyH_take (i := 3) (oi := { dst := some 62, op := Op.load 3 (Operand.tmp 61), type := 3, pos := "laws.go:302", after := #[{ on := 2, ground := Ground.data }], guard := none }) (v := ?_) rfl (by kernel_rfl) (by kernel_rfl) (by kernel_rfl) (fun _ _ _ h => h) (Or.inl ⟨by rfl, ?_⟩) hHeld ?_
            rotate_left
            · (intro wq hSw; (try dsimp only at hSw); first | (go_simp; done) | (go_simp; with_reducible rfl))
            try simp only [Act.put, List.setIfInBounds_toArray, List.set_cons_zero, List.set_cons_succ]
            refine wpAnyH_take (i := 4) (oi := { dst := some 63, op := Op.move (Operand.tmp 4), type := 30, pos := "laws.go:302", after := #[], guard := none }) (v := ?_) rfl (by kernel_rfl) (by kernel_rfl) (by kernel_rfl) (fun _ _ _ h => h) (Or.inl ⟨by rfl, ?_⟩) hHeld ?_
            rotate_left
            · (intro wq hSw; (try dsimp only at hSw); first | (go_simp; done) | (go_simp; with_reducible rfl))
            try simp only [Act.put, List.setIfInBounds_toArray, List.set_cons_zero, List.set_cons_succ]
            refine wpAnyH_take (i := 5) (oi := { dst := some 64, op := Op.move (Operand.tmp 7), type := 3, pos := "laws.go:302", after := #[], guard := none }) (v := ?_) rfl (by kernel_rfl) (by kernel_rfl) (by kernel_rfl) (fun _ _ _ h => h) (Or.inl ⟨by rfl, ?_⟩) hHeld ?_
            rotate_left
            · (intro wq hSw; (try dsimp only at hSw); first | (go_simp; done) | (go_simp; with_reducible rfl))
            try simp only [Act.put, List.setIfInBounds_toArray, List.set_cons_zero, List.set_cons_succ]
            refine wpAnyH_take (i := 6) (oi := { dst := some 65, op := Op.indexAddr 30 (Operand.tmp 63) (Operand.tmp 64), type := 0, pos := "laws.go:302", after := #[{ on := 4, ground := Ground.data }, { on := 5, ground := Ground.data }], guard := none }) (v := ?_) rfl (by kernel_rfl) (by kernel_rfl) (by kernel_rfl) (fun _ _ _ h => h) (Or.inl ⟨by rfl, ?_⟩) hHeld ?_
            rotate_left
            · (intro wq hSw; (try dsimp only at hSw); first | (go_simp; done) | (go_simp; with_reducible rfl))
            try simp only [Act.put, List.setIfInBounds_toArray, List.set_cons_zero, List.set_cons_succ]
            refine wpAnyH_take (i := 7) (oi := { dst := some 66, op := Op.load 3 (Operand.tmp 65), type := 3, pos := "laws.go:302", after := #[{ on := 6, ground := Ground.data }], guard := none }) (v := ?_) rfl (by kernel_rfl) (by kernel_rfl) (by kernel_rfl) (fun _ _ _ h => h) (Or.inl ⟨by rfl, ?_⟩) hHeld ?_
            rotate_left
            · (intro wq hSw; (try dsimp only at hSw); first | (go_simp; done) | (go_simp; with_reducible rfl))
            try simp only [Act.put, List.setIfInBounds_toArray, List.set_cons_zero, List.set_cons_succ]
            refine wpAnyH_take (i := 8) (oi := { dst := some 67, op := Op.binOp BinOp.neq 3 (Operand.tmp 62) (Operand.tmp 66) 3, type := 4, pos := "laws.go:302", after := #[{ on := 3, ground := Ground.data }, { on := 7, ground := Ground.data }], guard := none }) (v := ?_) rfl (by kernel_rfl) (by kernel_rfl) (by kernel_rfl) (fun _ _ _ h => h) (Or.inl ⟨by rfl, ?_⟩) hHeld ?_
            rotate_left
            · (intro wq hSw; (try dsimp only at hSw); first | (go_simp; done) | (go_simp; with_reducible rfl))
            try simp only [Act.put, List.setIfInBounds_toArray, List.set_cons_zero, List.set_cons_succ]
            refine wpAnyH_take (i := 9) (oi := { dst := some 68, op := Op.move (Operand.tmp 67), type := 4, pos := "laws.go:302", after := #[{ on := 8, ground := Ground.data }], guard := none }) (v := ?_) rfl (by kernel_rfl) (by kernel_rfl) (by kernel_rfl) (fun _ _ _ h => h) (Or.inl ⟨by rfl, ?_⟩) hHeld ?_
            rotate_left
            · (intro wq hSw; (try dsimp only at hSw); first | (go_simp; done) | (go_simp; with_reducible rfl))
            try simp only [Act.put, List.setIfInBounds_toArray, List.set_cons_zero, List.set_cons_succ]
            refine wpAnyH_take (i := 10) (oi := { dst := some 69, op := Op.move (Operand.tmp 6), type := 30, pos := "laws.go:302", after := #[{ on := 9, ground := Ground.guard }], guard := some (9, true) }) (v := undef) rfl (by kernel_rfl) (by kernel_rfl) (by kernel_rfl) (fun _ _ _ h => h) (Or.inr ⟨by rfl, rfl⟩) hHeld ?_
            try simp only [Act.put, List.setIfInBounds_toArray, List.set_cons_zero, List.set_cons_succ]
            refine wpAnyH_take (i := 11) (oi := { dst := some 70, op := Op.move (Operand.tmp 7), type := 3, pos := "laws.go:302", after := #[{ on := 9, ground := Ground.guard }], guard := some (9, true) }) (v := undef) rfl (by kernel_rfl) (by kernel_rfl) (by kernel_rfl) (fun _ _ _ h => h) (Or.inr ⟨by rfl, rfl⟩) hHeld ?_
            try simp only [Act.put, List.setIfInBounds_toArray, List.set_cons_zero, List.set_cons_succ]
            refine wpAnyH_take (i := 12) (oi := { dst := some 71, op := Op.indexAddr 30 (Operand.tmp 69) (Operand.tmp 70), type := 0, pos := "laws.go:302", after := #[{ on := 10, ground := Ground.data }, { on := 11, ground := Ground.data }, { on := 9, ground := Ground.guard }], guard := some (9, true) }) (v := undef) rfl (by kernel_rfl) (by kernel_rfl) (by kernel_rfl) (fun _ _ _ h => h) (Or.inr ⟨by rfl, rfl⟩) hHeld ?_
            try simp only [Act.put, List.setIfInBounds_toArray, List.set_cons_zero, List.set_cons_succ]
            refine wpAnyH_take (i := 13) (oi := { dst := some 72, op := Op.load 3 (Operand.tmp 71), type := 3, pos := "laws.go:302", after := #[{ on := 12, ground := Ground.data }, { on := 9, ground := Ground.guard }], guard := some (9, true) }) (v := undef) rfl (by kernel_rfl) (by kernel_rfl) (by kernel_rfl) (fun _ _ _ h => h) (Or.inr ⟨by rfl, rfl⟩) hHeld ?_
            try simp only [Act.put, List.setIfInBounds_toArray, List.set_cons_zero, List.set_cons_succ]
            refine wpAnyH_take (i := 14) (oi := { dst := some 73, op := Op.move (Operand.tmp 5), type := 30, pos := "laws.go:302", after := #[{ on := 9, ground := Ground.guard }], guard := some (9, true) }) (v := undef) rfl (by kernel_rfl) (by kernel_rfl) (by kernel_rfl) (fun _ _ _ h => h) (Or.inr ⟨by rfl, rfl⟩) hHeld ?_
            try simp only [Act.put, List.setIfInBounds_toArray, List.set_cons_zero, List.set_cons_succ]
            refine wpAnyH_take (i := 15) (oi := { dst := some 74, op := Op.move (Operand.tmp 7), type := 3, pos := "laws.go:302", after := #[{ on := 9, ground := Ground.guard }], guard := some (9, true) }) (v := undef) rfl (by kernel_rfl) (by kernel_rfl) (by kernel_rfl) (fun _ _ _ h => h) (Or.inr ⟨by rfl, rfl⟩) hHeld ?_
            try simp only [Act.put, List.setIfInBounds_toArray, List.set_cons_zero, List.set_cons_succ]
            refine wpAnyH_take (i := 16) (oi := { dst := some 75, op := Op.indexAddr 30 (Operand.tmp 73) (Operand.tmp 74), type := 0, pos := "laws.go:302", after := #[{ on := 14, ground := Ground.data }, { on := 15, ground := Ground.data }, { on := 9, ground := Ground.guard }], guard := some (9, true) }) (v := undef) rfl (by kernel_rfl) (by kernel_rfl) (by kernel_rfl) (fun _ _ _ h => h) (Or.inr ⟨by rfl, rfl⟩) hHeld ?_
            try simp only [Act.put, List.setIfInBounds_toArray, List.set_cons_zero, List.set_cons_succ]
            refine wpAnyH_take (i := 17) (oi := { dst := some 76, op := Op.load 3 (Operand.tmp 75), type := 3, pos := "laws.go:302", after := #[{ on := 16, ground := Ground.data }, { on := 9, ground := Ground.guard }], guard := some (9, true) }) (v := undef) rfl (by kernel_rfl) (by kernel_rfl) (by kernel_rfl) (fun _ _ _ h => h) (Or.inr ⟨by rfl, rfl⟩) hHeld ?_
            try simp only [Act.put, List.setIfInBounds_toArray, List.set_cons_zero, List.set_cons_succ]
            refine wpAnyH_take (i := 18) (oi := { dst := some 77, op := Op.binOp BinOp.neq 3 (Operand.tmp 72) (Operand.tmp 76) 3, type := 4, pos := "laws.go:302", after := #[{ on := 13, ground := Ground.data }, { on := 17, ground := Ground.data }, { on := 9, ground := Ground.guard }], guard := some (9, true) }) (v := undef) rfl (by kernel_rfl) (by kernel_rfl) (by kernel_rfl) (fun _ _ _ h => h) (Or.inr ⟨by rfl, rfl⟩) hHeld ?_
            try simp only [Act.put, List.setIfInBounds_toArray, List.set_cons_zero, List.set_cons_succ]
            refine wpAnyH_take (i := 19) (oi := { dst := some 78, op := Op.pick (Operand.tmp 68) (Operand.tmp 77) (Operand.const (Value.bool false)), type := 4, pos := "laws.go:302", after := #[{ on := 9, ground := Ground.data }, { on := 18, ground := Ground.data }], guard := none }) (v := ?_) rfl (by kernel_rfl) (by kernel_rfl) (by kernel_rfl) (fun _ _ _ h => h) (Or.inl ⟨by rfl, ?_⟩) hHeld ?_
            rotate_left
            · (intro wq hSw; (try dsimp only at hSw); first | (go_simp; done) | (go_simp; with_reducible rfl))
            try simp only [Act.put, List.setIfInBounds_toArray, List.set_cons_zero, List.set_cons_succ]
            refine wpAnyH_take (i := 20) (oi := { dst := some 79, op := Op.move (Operand.tmp 78), type := 4, pos := "laws.go:302", after := #[{ on := 19, ground := Ground.data }, { on := 9, ground := Ground.chain }], guard := none }) (v := ?_) rfl (by kernel_rfl) (by kernel_rfl) (by kernel_rfl) (fun _ _ _ h => h) (Or.inl ⟨by rfl, ?_⟩) hHeld ?_
            rotate_left
            · (intro wq hSw; (try dsimp only at hSw); first | (go_simp; done) | (go_simp; with_reducible rfl))
            try simp only [Act.put, List.setIfInBounds_toArray, List.set_cons_zero, List.set_cons_succ]
            refine wpAnyH_take (i := 21) (oi := { dst := some 80, op := Op.move (Operand.tmp 8), type := 3, pos := "laws.go:302", after := #[{ on := 20, ground := Ground.guard }], guard := some (20, false) }) (v := ?_) rfl (by kernel_rfl) (by kernel_rfl) (by kernel_rfl) (fun _ _ _ h => h) (Or.inl ⟨by rfl, ?_⟩) hHeld ?_
            rotate_left
            · (intro wq hSw; (try dsimp only at hSw); first | (go_simp; done) | (go_simp; with_reducible rfl))
            try simp only [Act.put, List.setIfInBounds_toArray, List.set_cons_zero, List.set_cons_succ]
            refine wpAnyH_take (i := 22) (oi := { dst := some 81, op := Op.move (Operand.tmp 3), type := 38, pos := "laws.go:302", after := #[{ on := 20, ground := Ground.guard }], guard := some (20, false) }) (v := ?_) rfl (by kernel_rfl) (by kernel_rfl) (by kernel_rfl) (fun _ _ _ h => h) (Or.inl ⟨by rfl, ?_⟩) hHeld ?_
            rotate_left
            · (intro wq hSw; (try dsimp only at hSw); first | (go_simp; done) | (go_simp; with_reducible rfl))
            try simp only [Act.put, List.setIfInBounds_toArray, List.set_cons_zero, List.set_cons_succ]
            refine wpAnyH_take (i := 23) (oi := { dst := some 82, op := Op.move (Operand.tmp 7), type := 3, pos := "laws.go:302", after := #[{ on := 20, ground := Ground.guard }], guard := some (20, false) }) (v := ?_) rfl (by kernel_rfl) (by kernel_rfl) (by kernel_rfl) (fun _ _ _ h => h) (Or.inl ⟨by rfl, ?_⟩) hHeld ?_
            rotate_left
            · (intro wq hSw; (try dsimp only at hSw); first | (go_simp; done) | (go_simp; with_reducible rfl))
            try simp only [Act.put, List.setIfInBounds_toArray, List.set_cons_zero, List.set_cons_succ]
            refine wpAnyH_take (i := 24) (oi := { dst := some 83, op := Op.indexAddr 38 (Operand.tmp 81) (Operand.tmp 82), type := 0, pos := "laws.go:302", after := #[{ on := 22, ground := Ground.data }, { on := 23, ground := Ground.data }, { on := 20, ground := Ground.guard }], guard := some (20, false) }) (v := ?_) rfl (by kernel_rfl) (by kernel_rfl) (by kernel_rfl) (fun _ _ _ h => h) (Or.inl ⟨by rfl, ?_⟩) hHeld ?_
            rotate_left
            · (intro wq hSw; (try dsimp only at hSw); first | (go_simp; done) | (go_simp; with_reducible rfl))
            try simp only [Act.put, List.setIfInBounds_toArray, List.set_cons_zero, List.set_cons_succ]
            refine wpAnyH_take (i := 25) (oi := { dst := some 84, op := Op.load 45 (Operand.tmp 83), type := 45, pos := "laws.go:302", after := #[{ on := 24, ground := Ground.data }, { on := 20, ground := Ground.guard }], guard := some (20, false) }) (v := ?_) rfl (by kernel_rfl) (by kernel_rfl) (by kernel_rfl) (fun _ _ _ h => h) (Or.inl ⟨by rfl, ?_⟩) hHeld ?_
            rotate_left
            · (intro wq hSw; (try dsimp only at hSw); first | (go_simp; done) | (go_simp; with_reducible rfl))
            try simp only [Act.put, List.setIfInBounds_toArray, List.set_cons_zero, List.set_cons_succ]
            refine wpAnyH_take (i := 26) (oi := { dst := some 85, op := Op.move (Operand.tmp 4), type := 30, pos := "laws.go:302", after := #[{ on := 20, ground := Ground.guard }], guard := some (20, false) }) (v := ?_) rfl (by kernel_rfl) (by kernel_rfl) (by kernel_rfl) (fun _ _ _ h => h) (Or.inl ⟨by rfl, ?_⟩) hHeld ?_
            rotate_left
            · (intro wq hSw; (try dsimp only at hSw); first | (go_simp; done) | (go_simp; with_reducible rfl))
            try simp only [Act.put, List.setIfInBounds_toArray, List.set_cons_zero, List.set_cons_succ]
            refine wpAnyH_take (i := 27) (oi := { dst := some 86, op := Op.move (Operand.tmp 7), type := 3, pos := "laws.go:302", after := #[{ on := 20, ground := Ground.guard }], guard := some (20, false) }) (v := ?_) rfl (by kernel_rfl) (by kernel_rfl) (by kernel_rfl) (fun _ _ _ h => h) (Or.inl ⟨by rfl, ?_⟩) hHeld ?_
            rotate_left
            · (intro wq hSw; (try dsimp only at hSw); first | (go_simp; done) | (go_simp; with_reducible rfl))
            try simp only [Act.put, List.setIfInBounds_toArray, List.set_cons_zero, List.set_cons_succ]
            refine wpAnyH_take (i := 28) (oi := { dst := some 87, op := Op.indexAddr 30 (Operand.tmp 85) (Operand.tmp 86), type := 0, pos := "laws.go:302", after := #[{ on := 26, ground := Ground.data }, { on := 27, ground := Ground.data }, { on := 20, ground := Ground.guard }], guard := some (20, false) }) (v := ?_) rfl (by kernel_rfl) (by kernel_rfl) (by kernel_rfl) (fun _ _ _ h => h) (Or.inl ⟨by rfl, ?_⟩) hHeld ?_
            rotate_left
            · (intro wq hSw; (try dsimp only at hSw); first | (go_simp; done) | (go_simp; with_reducible rfl))
            try simp only [Act.put, List.setIfInBounds_toArray, List.set_cons_zero, List.set_cons_succ]
            refine wpAnyH_take (i := 29) (oi := { dst := some 88, op := Op.load 3 (Operand.tmp 87), type := 3, pos := "laws.go:302", after := #[{ on := 28, ground := Ground.data }, { on := 20, ground := Ground.guard }], guard := some (20, false) }) (v := ?_) rfl (by kernel_rfl) (by kernel_rfl) (by kernel_rfl) (fun _ _ _ h => h) (Or.inl ⟨by rfl, ?_⟩) hHeld ?_
            rotate_left
            · (intro wq hSw; (try dsimp only at hSw); first | (go_simp; done) | (go_simp; with_reducible rfl))
            try simp only [Act.put, List.setIfInBounds_toArray, List.set_cons_zero, List.set_cons_succ]
            refine wpAnyH_ready (rs := [30]) (by kernel_rfl) (by simp) ?_
            refine AllReadyH.cons (o := { dst := some 89, op := Op.call { callee := Callee.value (Operand.func 34), args := #[Operand.tmp 84, Operand.tmp 88], argTypes := #[45, 3] }, type := 3, pos := "laws.go:302", after := #[{ on := 25, ground := Ground.data }, { on := 29, ground := Ground.data }, { on := 20, ground := Ground.chain }, { on := 20, ground := Ground.guard }], guard := some (20, false) }) rfl (fun K hK => ?_) AllReadyH.nil
            go_simp
            go_at_call_of 34 ([Value.agg #[Value.slice A4 l.length c4], Value.int .i64 a]); refine (ka.out _ (P1.out.more (old_lts B1.out.size))).mono ?_; rintro e w22 ⟨rfl, hb2⟩; have H2 := hide (H1.out.next ⟨hlts.out, B1.out.size⟩ hb2); have P2 := hide (P1.out.nextI hb2 B1.out.size); have B2 := hide (below_next B1.out hb2 B1.out.size)
            refine hK.out _ _ ?_ (fun hHeldN => ?_)
            · exact H2.out
            clear hK K hHeld
            have hHeld := hHeldN
            clear hHeldN
            try simp only [Act.put, List.setIfInBounds_toArray, List.set_cons_zero, List.set_cons_succ]
            refine wpAnyH_take (i := 31) (oi := { dst := some 90, op := Op.binOp BinOp.lss 3 (Operand.tmp 80) (Operand.tmp 89) 3, type := 4, pos := "laws.go:302", after := #[{ on := 21, ground := Ground.data }, { on := 30, ground := Ground.data }, { on := 20, ground := Ground.guard }], guard := some (20, false) }) (v := ?_) rfl (by kernel_rfl) (by kernel_rfl) (by kernel_rfl) (fun _ _ _ h => h) (Or.inl ⟨by rfl, ?_⟩) hHeld ?_
            rotate_left
            · (intro wq hSw; (try dsimp only at hSw); first | (go_simp; done) | (go_simp; with_reducible rfl))
            try simp only [Act.put, List.setIfInBounds_toArray, List.set_cons_zero, List.set_cons_succ]
            refine wpAnyH_take (i := 32) (oi := { dst := some 91, op := Op.pick (Operand.tmp 79) (Operand.const (Value.bool true)) (Operand.tmp 90), type := 4, pos := "laws.go:302", after := #[{ on := 20, ground := Ground.data }, { on := 31, ground := Ground.data }], guard := none }) (v := ?_) rfl (by kernel_rfl) (by kernel_rfl) (by kernel_rfl) (fun _ _ _ h => h) (Or.inl ⟨by rfl, ?_⟩) hHeld ?_
            rotate_left
            · (intro wq hSw; (try dsimp only at hSw); first | (go_simp; done) | (go_simp; with_reducible rfl))
            try simp only [Act.put, List.setIfInBounds_toArray, List.set_cons_zero, List.set_cons_succ]
            refine wpAnyH_take (i := 33) (oi := { dst := some 92, op := Op.move (Operand.tmp 91), type := 4, pos := "laws.go:302", after := #[{ on := 32, ground := Ground.data }, { on := 30, ground := Ground.chain }], guard := none }) (v := ?_) rfl (by kernel_rfl) (by kernel_rfl) (by kernel_rfl) (fun _ _ _ h => h) (Or.inl ⟨by rfl, ?_⟩) hHeld ?_
            rotate_left
            · (intro wq hSw; (try dsimp only at hSw); first | (go_simp; done) | (go_simp; with_reducible rfl))
            try simp only [Act.put, List.setIfInBounds_toArray, List.set_cons_zero, List.set_cons_succ]
            refine wpAnyH_take (i := 34) (oi := { dst := some 93, op := Op.move (Operand.tmp 8), type := 3, pos := "laws.go:302", after := #[{ on := 33, ground := Ground.guard }], guard := some (33, false) }) (v := ?_) rfl (by kernel_rfl) (by kernel_rfl) (by kernel_rfl) (fun _ _ _ h => h) (Or.inl ⟨by rfl, ?_⟩) hHeld ?_
            rotate_left
            · (intro wq hSw; (try dsimp only at hSw); first | (go_simp; done) | (go_simp; with_reducible rfl))
            try simp only [Act.put, List.setIfInBounds_toArray, List.set_cons_zero, List.set_cons_succ]
            refine wpAnyH_take (i := 35) (oi := { dst := some 94, op := Op.move (Operand.tmp 3), type := 38, pos := "laws.go:302", after := #[{ on := 33, ground := Ground.guard }], guard := some (33, false) }) (v := ?_) rfl (by kernel_rfl) (by kernel_rfl) (by kernel_rfl) (fun _ _ _ h => h) (Or.inl ⟨by rfl, ?_⟩) hHeld ?_
            rotate_left
            · (intro wq hSw; (try dsimp only at hSw); first | (go_simp; done) | (go_simp; with_reducible rfl))
            try simp only [Act.put, List.setIfInBounds_toArray, List.set_cons_zero, List.set_cons_succ]
            refine wpAnyH_take (i := 36) (oi := { dst := some 95, op := Op.move (Operand.tmp 7), type := 3, pos := "laws.go:302", after := #[{ on := 33, ground := Ground.guard }], guard := some (33, false) }) (v := ?_) rfl (by kernel_rfl) (by kernel_rfl) (by kernel_rfl) (fun _ _ _ h => h) (Or.inl ⟨by rfl, ?_⟩) hHeld ?_
            rotate_left
            · (intro wq hSw; (try dsimp only at hSw); first | (go_simp; done) | (go_simp; with_reducible rfl))
            try simp only [Act.put, List.setIfInBounds_toArray, List.set_cons_zero, List.set_cons_succ]
            refine wpAnyH_take (i := 37) (oi := { dst := some 96, op := Op.indexAddr 38 (Operand.tmp 94) (Operand.tmp 95), type := 0, pos := "laws.go:302", after := #[{ on := 35, ground := Ground.data }, { on := 36, ground := Ground.data }, { on := 33, ground := Ground.guard }], guard := some (33, false) }) (v := ?_) rfl (by kernel_rfl) (by kernel_rfl) (by kernel_rfl) (fun _ _ _ h => h) (Or.inl ⟨by rfl, ?_⟩) hHeld ?_
            rotate_left
            · (intro wq hSw; (try dsimp only at hSw); first | (go_simp; done) | (go_simp; with_reducible rfl))
            try simp only [Act.put, List.setIfInBounds_toArray, List.set_cons_zero, List.set_cons_succ]
            refine wpAnyH_take (i := 38) (oi := { dst := some 97, op := Op.load 45 (Operand.tmp 96), type := 45, pos := "laws.go:302", after := #[{ on := 37, ground := Ground.data }, { on := 33, ground := Ground.guard }], guard := some (33, false) }) (v := ?_) rfl (by kernel_rfl) (by kernel_rfl) (by kernel_rfl) (fun _ _ _ h => h) (Or.inl ⟨by rfl, ?_⟩) hHeld ?_
            rotate_left
            · (intro wq hSw; (try dsimp only at hSw); first | (go_simp; done) | (go_simp; with_reducible rfl))
            try simp only [Act.put, List.setIfInBounds_toArray, List.set_cons_zero, List.set_cons_succ]
            refine wpAnyH_take (i := 39) (oi := { dst := some 98, op := Op.move (Operand.tmp 5), type := 30, pos := "laws.go:302", after := #[{ on := 33, ground := Ground.guard }], guard := some (33, false) }) (v := ?_) rfl (by kernel_rfl) (by kernel_rfl) (by kernel_rfl) (fun _ _ _ h => h) (Or.inl ⟨by rfl, ?_⟩) hHeld ?_
            rotate_left
            · (intro wq hSw; (try dsimp only at hSw); first | (go_simp; done) | (go_simp; with_reducible rfl))
            try simp only [Act.put, List.setIfInBounds_toArray, List.set_cons_zero, List.set_cons_succ]
            refine wpAnyH_take (i := 40) (oi := { dst := some 99, op := Op.move (Operand.tmp 7), type := 3, pos := "laws.go:302", after := #[{ on := 33, ground := Ground.guard }], guard := some (33, false) }) (v := ?_) rfl (by kernel_rfl) (by kernel_rfl) (by kernel_rfl) (fun _ _ _ h => h) (Or.inl ⟨by rfl, ?_⟩) hHeld ?_
            rotate_left
            · (intro wq hSw; (try dsimp only at hSw); first | (go_simp; done) | (go_simp; with_reducible rfl))
            try simp only [Act.put, List.setIfInBounds_toArray, List.set_cons_zero, List.set_cons_succ]
            refine wpAnyH_take (i := 41) (oi := { dst := some 100, op := Op.indexAddr 30 (Operand.tmp 98) (Operand.tmp 99), type := 0, pos := "laws.go:302", after := #[{ on := 39, ground := Ground.data }, { on := 40, ground := Ground.data }, { on := 33, ground := Ground.guard }], guard := some (33, false) }) (v := ?_) rfl (by kernel_rfl) (by kernel_rfl) (by kernel_rfl) (fun _ _ _ h => h) (Or.inl ⟨by rfl, ?_⟩) hHeld ?_
            rotate_left
            · (intro wq hSw; (try dsimp only at hSw); first | (go_simp; done) | (go_simp; with_reducible rfl))
            try simp only [Act.put, List.setIfInBounds_toArray, List.set_cons_zero, List.set_cons_succ]
            refine wpAnyH_take (i := 42) (oi := { dst := some 101, op := Op.load 3 (Operand.tmp 100), type := 3, pos := "laws.go:302", after := #[{ on := 41, ground := Ground.data }, { on := 33, ground := Ground.guard }], guard := some (33, false) }) (v := ?_) rfl (by kernel_rfl) (by kernel_rfl) (by kernel_rfl) (fun _ _ _ h => h) (Or.inl ⟨by rfl, ?_⟩) hHeld ?_
            rotate_left
            · (intro wq hSw; (try dsimp only at hSw); first | (go_simp; done) | (go_simp; with_reducible rfl))
            try simp only [Act.put, List.setIfInBounds_toArray, List.set_cons_zero, List.set_cons_succ]
            refine wpAnyH_ready (rs := [43]) (by kernel_rfl) (by simp) ?_
            refine AllReadyH.cons (o := { dst := some 102, op := Op.call { callee := Callee.value (Operand.func 34), args := #[Operand.tmp 97, Operand.tmp 101], argTypes := #[45, 3] }, type := 3, pos := "laws.go:302", after := #[{ on := 38, ground := Ground.data }, { on := 42, ground := Ground.data }, { on := 33, ground := Ground.chain }, { on := 33, ground := Ground.guard }], guard := some (33, false) }) rfl (fun K hK => ?_) AllReadyH.nil
            go_simp
            go_at_call_of 34 ([Value.agg #[Value.slice A4 l.length c4], Value.int .i64 b]); refine (kb.out _ (P2.out.more (old_lts B2.out.size))).mono ?_; rintro e w23 ⟨rfl, hb3⟩; have H3 := hide (H2.out.next ⟨hlts.out, B2.out.size⟩ hb3); have B3 := hide (below_next B2.out hb3 B2.out.size)
            refine hK.out _ _ ?_ (fun hHeldN => ?_)
            · exact H3.out
            clear hK K hHeld
            have hHeld := hHeldN
            clear hHeldN
            try simp only [Act.put, List.setIfInBounds_toArray, List.set_cons_zero, List.set_cons_succ]
            refine wpAnyH_take (i := 44) (oi := { dst := some 103, op := Op.binOp BinOp.lss 3 (Operand.tmp 93) (Operand.tmp 102) 3, type := 4, pos := "laws.go:302", after := #[{ on := 34, ground := Ground.data }, { on := 43, ground := Ground.data }, { on := 33, ground := Ground.guard }], guard := some (33, false) }) (v := ?_) rfl (by kernel_rfl) (by kernel_rfl) (by kernel_rfl) (fun _ _ _ h => h) (Or.inl ⟨by rfl, ?_⟩) hHeld ?_
            rotate_left
            · (intro wq hSw; (try dsimp only at hSw); first | (go_simp; done) | (go_simp; with_reducible rfl))
            try simp only [Act.put, List.setIfInBounds_toArray, List.set_cons_zero, List.set_cons_succ]
            refine wpAnyH_take (i := 45) (oi := { dst := some 104, op := Op.pick (Operand.tmp 92) (Operand.const (Value.bool true)) (Operand.tmp 103), type := 4, pos := "laws.go:302", after := #[{ on := 33, ground := Ground.data }, { on := 44, ground := Ground.data }], guard := none }) (v := ?_) rfl (by kernel_rfl) (by kernel_rfl) (by kernel_rfl) (fun _ _ _ h => h) (Or.inl ⟨by rfl, ?_⟩) hHeld ?_
            rotate_left
            · (intro wq hSw; (try dsimp only at hSw); first | (go_simp; done) | (go_simp; with_reducible rfl))
            try simp only [Act.put, List.setIfInBounds_toArray, List.set_cons_zero, List.set_cons_succ]
            refine wpAnyH_done (by kernel_rfl) ?_ _
            go_wp2_with fail
            go_roundw
            case rel => exact ⟨k + 1, by omega, by go_num, hide (hbr.out.trans (B3.out.mono hzr))⟩
            case measure => simp [intOf]; omega
          · go_wp2_with fail
            go_region_held3 (fun w' => w'.cell? ⟨bC, oC + k, none⟩ = some (Value.slice A4 l.length c4) ∧ w'.cell? ⟨bV, oV + k, none⟩ = some (Value.int .i64 v) ∧ w'.cell? ⟨bA, oA + k, none⟩ = some (Value.int .i64 a) ∧ w'.cell? ⟨bB, oB + k, none⟩ = some (Value.int .i64 b))
              (first | exact H1.out | exact H2.out | exact H3.out)
              (first
              | (go_at_call_of 34 ([Value.agg #[Value.slice A4 l.length c4], Value.int .i64 a]); refine (ka.out _ (P1.out.more (old_lts B1.out.size))).mono ?_; rintro e w22 ⟨rfl, hb2⟩; have H2 := hide (H1.out.next ⟨hlts.out, B1.out.size⟩ hb2); have P2 := hide (P1.out.nextI hb2 B1.out.size); have B2 := hide (below_next B1.out hb2 B1.out.size))
              | (go_at_call_of 34 ([Value.agg #[Value.slice A4 l.length c4], Value.int .i64 b]); refine (kb.out _ (P2.out.more (old_lts B2.out.size))).mono ?_; rintro e w23 ⟨rfl, hb3⟩; have H3 := hide (H2.out.next ⟨hlts.out, B2.out.size⟩ hb3); have B3 := hide (below_next B2.out hb3 B2.out.size)))
            all_goals
              go_wp2_with fail
              go_roundw
              case rel => exact ⟨k + 1, by omega, by go_num, hide (hbr.out.trans (B3.out.mono hzr))⟩
              case measure => simp [intOf]; omega
      · obtain rfl : k = hs.length := by omega
        have S' := hide (hCs.out.below hbr.out (fun _ h => h))
        have V' := hide (hVs.out.below hbr.out (fun _ h => h))
        have hzs := HB.out.size
        replace HB := hide (HB.out.trans (hbr.out.mono hzs))
        clear hCs hVs hAs hBs
        go_wp2_with fail
        refine (kJ.out AV cV _ (S'.out.more (old_lts hzr)) (V'.out.more (old_lts hzr)) (V'.out.more (old_lts hzr))).mono ?_
        rintro e w21 ⟨AX, cX, rfl, hr, hb⟩
        have X := hide (RvI.of hr)
        have hz21 := hb.size
        have V2 := hide (V'.out.nextI hb hzr)
        have hzB := HB.out.size
        replace HB := hide (below_next HB.out hb hzB)
        clear hr hb S' V'
        go_wp2_with fail
        refine (sameInts_any AX AV J hs.length cX cV (fun b => b < w21.heap.size) w21 hJl.out (fun _ h => h) (X.out.src (by rw [hJl.out]; omega) rfl) (V2.out.more (old_lts (by omega)))).mono ?_
        rintro e w22 ⟨rfl, hb⟩
        have hzB2 := HB.out.size
        replace HB := hide (below_next HB.out hb hzB2)
        clear hb
        go_wp2_with fail
        refine (views_any _).mono ?_
        rintro e w23 ⟨rfl, hb⟩
        have hzB3 := HB.out.size
        replace HB := hide (below_next HB.out hb hzB3)
        clear hb
        go_wp2_with fail
        go_ret
        exact ⟨rfl, below_then hb0.out HB.out⟩
  · have hneA := hla
    clear hneA
    have kP := fun w => viewJoin_no C hs.length c1 A1 az.length ca D1 bz.length cb w (by omega)
    have kS := fun w => sviewJoin_no C hs.length c1 A1 az.length ca D1 bz.length cb w (by omega)
    have hne : ((az.length : Int) != (hs.length : Int)) = true := by rw [bne_iff_ne]; omega
    replace kP := hide kP
    replace kS := hide kS
    replace hla := hide hla
    replace hlb := hide hlb
    clear S SA SB
    go_wp2_with fail
    refine (kP.out _).mono ?_
    rintro e w2 ⟨AV, cV, rfl, hr, hb⟩
    have hzw2 := hb.size
    have hBz := HB.out.size
    replace HB := hide (below_next HB.out hb hBz)
    clear hBz
    clear hb
    have V := hide (RvI.of hr)
    clear hr
    go_wp2_with fail
    refine (kS.out _).mono ?_
    rintro e w3 ⟨AV2, cV2, rfl, hr, hb⟩
    have hzw3 := hb.size
    have hBz := HB.out.size
    replace V := hide (V.out.next hb)
    replace HB := hide (below_next HB.out hb hBz)
    clear hBz
    clear hb
    have V2 := hide (RvI.of hr)
    clear hr
    go_wp2_with fail
    refine (sameIntsI (by rfl) (by omega) V.out V2.out).mono ?_
    rintro e w4 ⟨rfl, hb⟩
    have hzw4 := hb.size
    have hBz := HB.out.size
    replace V := hide (V.out.next hb)
    replace V2 := hide (V2.out.next hb)
    replace HB := hide (below_next HB.out hb hBz)
    clear hBz
    clear hb
    clear V2
    go_wp2_with fail
    refine (views_any _).mono ?_
    rintro e w5 ⟨rfl, hb⟩
    have hzw5 := hb.size
    have hBz := HB.out.size
    replace V := hide (V.out.next hb)
    replace HB := hide (below_next HB.out hb hBz)
    clear hBz
    clear hb
    go_wp2_with fail
    go_ret
    exact ⟨rfl, below_then hb0.out HB.out⟩
end Go.Proofs.Ytbhfkfapdpedpaa
