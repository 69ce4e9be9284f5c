/- The walk of FnExactWithin: it answers true and leaves its arguments. -/
import Derived.Test.YtbeaijmilpefmaaDoorWithinI
import Derived.Test.YtbeaijmilpefmaaDoorWithinS
import Derived.Test.YtbeaijmilpefmaaDoorOutS
import Derived.Test.YtbeaijmilpefmaaDoorOpenOuts
namespace Go.Proofs.YtbeaijmilpefmaaDoor
open Go.RowKit

theorem zs_same {a a' : List RowD} (h : SameRows a a') : a.map (·.zs) = a'.map (·.zs) := by
  refine List.ext_getElem (by simp [h.1]) (fun k h1 h2 => ?_)
  have hk : k < a.length := by simpa using h1
  have hk' : k < a'.length := by simpa using h2
  have := (h.2 k hk).2
  simpa [getr, List.getD_eq_getElem?_getD, List.getElem?_eq_getElem hk, List.getElem?_eq_getElem hk'] using this
theorem inB_map (b : List RowD) (zs : List Int) : inB b zs = (b.map (·.zs)).any (fun r => r == zs) := by
  unfold inB
  rw [List.any_map]
  rfl
theorem within_same {a a' b b' : List RowD} (ha : SameRows a a') (hb : SameRows b b') : withinB a' b' = withinB a b := by
  have hin : ∀ zs, inB b' zs = inB b zs := fun zs => by rw [inB_map, inB_map, zs_same hb]
  cases h : withinB a b
  · unfold withinB allB at h
    rw [List.all_eq_false] at h
    obtain ⟨k, hk, hv⟩ := h
    have hk' : k < a.length := by simpa using hk
    refine allB_no (f := fun i => inB b' (getr a' i).zs) (k := k) (by rw [← ha.1]; exact hk') ?_
    show inB b' (getr a' k).zs = false
    rw [hin, ← (ha.2 k hk').2]
    simpa using hv
  · refine allB_yes fun k hk => ?_
    rw [← ha.1] at hk
    rw [hin, ← (ha.2 k hk).2]
    exact allB_at (f := fun i => inB b (getr a i).zs) h hk
/-- A copy of a row of outcomes, in the blocks from lo on and below hi. -/
structure OutCp (w : World) (src : List RowD) (lo hi : Nat) (A : Option Addr) (rs : List RowD) : Prop where
  row : RowsI 33 3 w lo hi A rs
  same : SameRows src rs
theorem OutCp.next {w w' : World} {src rs : List RowD} {lo hi : Nat} {A : Option Addr} (h : OutCp w src lo hi A rs) (hb : Below w.heap.size w w') : OutCp w' src lo hi A rs := ⟨h.row.next hb, h.same⟩
theorem OutCp.outs {w w0 : World} {n : Nat} {A0 : Option Addr} {src rs : List RowD} {lo hi : Nat} {A : Option Addr} (h : OutCp w src lo hi A rs) (hs : OutsAt w0 n A0 src) : OutsAt w w.heap.size A rs := by
  have hlen := h.same.1
  have hz : ∀ k, k < rs.length → (getr rs k).zs.length = (getr rs k).n ∧ (getr rs k).n ≤ 1048576 := fun k hk => by
    rw [← hlen] at hk
    rw [← (h.same.2 k hk).1, ← (h.same.2 k hk).2]
    exact hs.len k hk
  refine ⟨⟨by rw [← hlen]; exact hs.row.1, fun hp => ?_⟩, hz, fun k hk => ?_⟩
  · obtain ⟨q, rfl, hq⟩ := h.row.at_ hp
    obtain ⟨cs, h1, h2, h3⟩ := hq.row
    refine ⟨q, 0, rfl, h1.lt, fun k hk => ?_⟩
    rw [Nat.zero_add, h1.cell]
    exact ⟨_, _, h3 k hk, RvI.src (hq.each k hk) (by have := hz k hk; omega) rfl⟩
  · rw [← hlen] at hk
    rw [← (h.same.2 k hk).2]
    exact hs.wf k hk
theorem toOuts {A : Option Addr} {src : List RowD} {c n : Nat} {w : World} (hn : n ≤ w.heap.size) (ha : OutsAt w n A src) :
    Calls Tryd.prog 6 #[.slice A src.length c] w fun e w' => ∃ q rs, e = .returned (.slice (some ⟨q, 0, none⟩) src.length src.length) ∧ OutCp w' src w.heap.size w'.heap.size (some ⟨q, 0, none⟩) rs ∧ Below w.heap.size w w' := by
  refine (toOutcomeS_own A src c (Old n) w ha.len (fun b h => Nat.lt_of_lt_of_le h hn) ha.row).mono ?_
  rintro e w' ⟨q, rs, rfl, ⟨hr, hs⟩, hb⟩
  exact ⟨q, rs, rfl, ⟨.inr ⟨q, rfl, hr⟩, hs⟩, hb⟩
theorem SameRows.symm {a b : List RowD} (h : SameRows a b) : SameRows b a := ⟨h.1.symm, fun k hk => by rw [← h.1] at hk; exact ⟨(h.2 k hk).1.symm, (h.2 k hk).2.symm⟩⟩
theorem SameRows.trans {a b c : List RowD} (h : SameRows a b) (k : SameRows b c) : SameRows a c := ⟨h.1.trans k.1, fun i hi => by have := k.2 i (by rw [← h.1]; exact hi); exact ⟨(h.2 i hi).1.trans this.1, (h.2 i hi).2.trans this.2⟩⟩
theorem eqOuts {A A' A0 : Option Addr} {src rs rs' : List RowD} {lo hi lo' hi' n c c' : Nat} {w w0 : World} (hs : OutsAt w0 n A0 src) (h : OutCp w src lo hi A rs) (k : OutCp w src lo' hi' A' rs') :
    Calls Tryd.prog 8 #[.slice A src.length c, .slice A' src.length c'] w fun e w' => e = .returned (.bool true) ∧ Below w.heap.size w w' := by
  have hz : ∀ j, j < rs.length → (getr rs j).zs.length = (getr rs j).n ∧ (getr rs j).n ≤ 1048576 := fun j hj => by
    rw [← h.same.1] at hj
    rw [← (h.same.2 j hj).1, ← (h.same.2 j hj).2]
    exact hs.len j hj
  have := eqOutcomeSI (c := c) (c' := c') (rs := rs) (rs' := rs') (by rw [← h.same.1]; exact hs.row.1) (h.same.symm.trans k.same) hz h.row k.row
  rw [← h.same.1] at this
  exact this
theorem within_cp {w w0 : World} {a b rs rs' : List RowD} {n lo hi lo' hi' c d : Nat} {A D A0 D0 : Option Addr} (ha : OutsAt w0 n A0 a) (hb : OutsAt w0 n D0 b) (h : OutCp w a lo hi A rs) (k : OutCp w b lo' hi' D rs') (hT : Lib.TabIs Tryd.prog w "internal/strconv.uint64pow10" .u64 Lib.pow10Tab) :
    Calls Tryd.prog 7 #[.slice A a.length c, .slice D b.length d] w fun e w' => e = .returned (.bool (withinB a b)) ∧ Below w.heap.size w w' := by
  have := within_any A D rs rs' c d w (h.outs ha) (k.outs hb) hT
  rw [within_same h.same k.same, ← h.same.1, ← k.same.1] at this
  exact this
theorem swithin_cp {w w0 : World} {a b rs rs' : List RowD} {n lo hi lo' hi' c d : Nat} {A D A0 D0 : Option Addr} (ha : OutsAt w0 n A0 a) (hb : OutsAt w0 n D0 b) (h : OutCp w a lo hi A rs) (k : OutCp w b lo' hi' D rs') :
    Calls Tryd.prog 5 #[.slice A a.length c, .slice D b.length d] w fun e w' => e = .returned (.bool (withinB a b)) ∧ Below w.heap.size w w' := by
  have := swithin_any A D rs rs' c d w (h.outs ha) (k.outs hb)
  rw [within_same h.same k.same, ← h.same.1, ← k.same.1] at this
  exact this

set_option maxRecDepth 100000 in
set_option maxHeartbeats 3200000 in
theorem exWithin_bigA (A D : Option Addr) (a b : List RowD) (c d : Nat) (w : World) (ha : OutArg w A a) (h1 : 1048576 < headSize (olens a)) :
    Calls Tryd.prog 3 #[.slice A a.length c, .slice D b.length d] w fun e w' => e = .returned (.bool true) ∧ Below w.heap.size w w' := by
  have ks := szOutcomeS_any A (olens a) c (Old w.heap.size) 1048576 w (by omega) (by omega) (fun _ h => h) ha.heads
  rw [szR_neg (by omega), olens_len] at ks
  replace ks := hide ks
  clear ha h1
  go_enter Tryd.func3, Tryd.ntmps3
  go_wp2_with fail
  refine ks.out.mono ?_
  rintro e w1 ⟨rfl, hb1⟩
  go_wp2_with fail
  go_ret
  exact ⟨rfl, hb1⟩
set_option maxRecDepth 100000 in
set_option maxHeartbeats 3200000 in
theorem exWithin_bigB (A D : Option Addr) (a b : List RowD) (c d : Nat) (w : World) (ha : OutArg w A a) (hd : OutArg w D b) (h1 : headSize (olens a) ≤ 1048576) (h2 : 1048576 - headSize (olens a) < headSize (olens b)) :
    Calls Tryd.prog 3 #[.slice A a.length c, .slice D b.length d] w fun e w' => e = .returned (.bool true) ∧ Below w.heap.size w w' := by
  have ks := szOutcomeS_any A (olens a) c (Old w.heap.size) 1048576 w (by omega) (by omega) (fun _ h => h) ha.heads
  obtain ⟨s, hs⟩ : ∃ s : Int, s = 1048576 - (headSize (olens a) : Int) := ⟨_, rfl⟩
  have hs0 : ¬ s < 0 := by omega
  rw [szR_pos (by omega), ← hs, olens_len] at ks
  have kt := fun (w1 : World) (hb : Below w.heap.size w w1) => szOutcomeS_any D (olens b) d (Old w.heap.size) s w1 (by omega) (by omega) (fun _ h => Nat.lt_of_lt_of_le h hb.size) (hd.heads.below hb (fun _ h => h))
  rw [szR_neg (by omega), olens_len] at kt
  replace ks := hide ks
  replace kt := hide kt
  replace hs := hide hs
  clear ha h1 hd h2
  go_enter Tryd.func3, Tryd.ntmps3
  go_wp2_with fail
  refine ks.out.mono ?_
  rintro e w1 ⟨rfl, hb1⟩
  go_wp2_with fail
  refine (kt.out _ hb1).mono ?_
  rintro e w2 ⟨rfl, hb2⟩
  go_wp2_with fail
  go_ret
  exact ⟨rfl, below_then hb1 hb2⟩
set_option maxRecDepth 100000 in
set_option maxHeartbeats 6400000 in
theorem exWithin_small (A D : Option Addr) (a b : List RowD) (c d : Nat) (w : World) (ha : OutArg w A a) (hd : OutArg w D b) (h1 : headSize (olens a) ≤ 1048576) (h2 : headSize (olens b) ≤ 1048576 - headSize (olens a))
    (hT : Lib.TabIs Tryd.prog w "internal/strconv.uint64pow10" .u64 Lib.pow10Tab) :
    Calls Tryd.prog 3 #[.slice A a.length c, .slice D b.length d] w fun e w' => e = .returned (.bool true) ∧ Below w.heap.size w w' := by
  have ks := szOutcomeS_any A (olens a) c (Old w.heap.size) 1048576 w (by omega) (by omega) (fun _ h => h) ha.heads
  obtain ⟨s, hs⟩ : ∃ s : Int, s = 1048576 - (headSize (olens a) : Int) := ⟨_, rfl⟩
  have hs0 : ¬ s < 0 := by omega
  rw [szR_pos (by omega), ← hs, olens_len] at ks
  have kt := fun (w1 : World) (hb : Below w.heap.size w w1) => szOutcomeS_any D (olens b) d (Old w.heap.size) s w1 (by omega) (by omega) (fun _ h => Nat.lt_of_lt_of_le h hb.size) (hd.heads.below hb (fun _ h => h))
  obtain ⟨s2, hs2⟩ : ∃ s2 : Int, s2 = s - (headSize (olens b) : Int) := ⟨_, rfl⟩
  have hs20 : ¬ s2 < 0 := by omega
  rw [szR_pos (by omega), ← hs2, olens_len] at kt
  have HA0 := hide (ha.small h1)
  have HD0 := hide (hd.small (by omega))
  have HT := hide (Lib.tabBelow_of_tabIs hT)
  replace ks := hide ks
  replace kt := hide kt
  replace hs := hide hs
  replace hs2 := hide hs2
  clear ha hd h1 h2 hT
  obtain ⟨y, hy⟩ : ∃ y, y = withinB a b := ⟨_, rfl⟩
  replace hy := hide hy
  go_enter Tryd.func3, Tryd.ntmps3
  go_wp2_with fail
  refine ks.out.mono ?_
  rintro e w1 ⟨rfl, hb1⟩
  go_wp2_with fail
  refine (kt.out _ hb1).mono ?_
  rintro e w2 ⟨rfl, hb2⟩
  have HB2 := hide (below_then hb1 hb2)
  have HA2 := hide (HA0.out.below HB2.out)
  have HD2 := hide (HD0.out.below HB2.out)
  clear hb1 hb2 ks kt
  go_wp2_with fail
  refine (toOuts HB2.out.size HA2.out).mono ?_
  rintro e w3 ⟨qS0, rsS0, rfl, hc, hb⟩
  have HB3 := hide (HB2.out.trans (hb.mono HB2.out.size))
  have HA3 := hide (HA2.out.below (hb.mono HB2.out.size))
  have HD3 := hide (HD2.out.below (hb.mono HB2.out.size))
  have S0 := hide hc
  clear hc
  clear hb HB2 HA2 HD2
  go_wp2_with fail
  refine (toOuts HB3.out.size HD3.out).mono ?_
  rintro e w4 ⟨qS1, rsS1, rfl, hc, hb⟩
  have HB4 := hide (HB3.out.trans (hb.mono HB3.out.size))
  have HA4 := hide (HA3.out.below (hb.mono HB3.out.size))
  have HD4 := hide (HD3.out.below (hb.mono HB3.out.size))
  replace S0 := hide (S0.out.next hb)
  have S1 := hide hc
  clear hc
  clear hb HB3 HA3 HD3
  go_wp2_with fail
  refine (swithin_cp HA0.out HD0.out S0.out S1.out).mono ?_
  rintro e w5 ⟨rfl, hb⟩
  have HB5 := hide (HB4.out.trans (hb.mono HB4.out.size))
  have HA5 := hide (HA4.out.below (hb.mono HB4.out.size))
  have HD5 := hide (HD4.out.below (hb.mono HB4.out.size))
  replace S0 := hide (S0.out.next hb)
  replace S1 := hide (S1.out.next hb)
  rw [← hy.out]
  clear hb HB4 HA4 HD4
  clear S0
  clear S1
  go_wp2_with fail
  refine (toOuts HB5.out.size HA5.out).mono ?_
  rintro e w6 ⟨qR0, rsR0, rfl, hc, hb⟩
  have HB6 := hide (HB5.out.trans (hb.mono HB5.out.size))
  have HA6 := hide (HA5.out.below (hb.mono HB5.out.size))
  have HD6 := hide (HD5.out.below (hb.mono HB5.out.size))
  have R0 := hide hc
  clear hc
  clear hb HB5 HA5 HD5
  go_wp2_with fail
  refine (toOuts HB6.out.size HD6.out).mono ?_
  rintro e w7 ⟨qR1, rsR1, rfl, hc, hb⟩
  have HB7 := hide (HB6.out.trans (hb.mono HB6.out.size))
  have HA7 := hide (HA6.out.below (hb.mono HB6.out.size))
  have HD7 := hide (HD6.out.below (hb.mono HB6.out.size))
  replace R0 := hide (R0.out.next hb)
  have R1 := hide hc
  clear hc
  clear hb HB6 HA6 HD6
  go_wp2_with fail
  refine (within_cp HA0.out HD0.out R0.out R1.out (HT.out.on HB7.out).here).mono ?_
  rintro e w8 ⟨rfl, hb⟩
  have HB8 := hide (HB7.out.trans (hb.mono HB7.out.size))
  have HA8 := hide (HA7.out.below (hb.mono HB7.out.size))
  have HD8 := hide (HD7.out.below (hb.mono HB7.out.size))
  replace R0 := hide (R0.out.next hb)
  replace R1 := hide (R1.out.next hb)
  rw [← hy.out]
  clear hb HB7 HA7 HD7
  go_wp2_with fail
  refine (toOuts HB8.out.size HA8.out).mono ?_
  rintro e w9 ⟨qE0, rsE0, rfl, hc, hb⟩
  have HB9 := hide (HB8.out.trans (hb.mono HB8.out.size))
  have HA9 := hide (HA8.out.below (hb.mono HB8.out.size))
  have HD9 := hide (HD8.out.below (hb.mono HB8.out.size))
  replace R0 := hide (R0.out.next hb)
  replace R1 := hide (R1.out.next hb)
  have E0 := hide hc
  clear hc
  clear hb HB8 HA8 HD8
  go_wp2_with fail
  refine (eqOuts HA0.out R0.out E0.out).mono ?_
  rintro e w10 ⟨rfl, hb⟩
  have HB10 := hide (HB9.out.trans (hb.mono HB9.out.size))
  have HA10 := hide (HA9.out.below (hb.mono HB9.out.size))
  have HD10 := hide (HD9.out.below (hb.mono HB9.out.size))
  replace R0 := hide (R0.out.next hb)
  replace R1 := hide (R1.out.next hb)
  replace E0 := hide (E0.out.next hb)
  clear hb HB9 HA9 HD9
  clear E0
  go_wp2_with fail
  refine (toOuts HB10.out.size HD10.out).mono ?_
  rintro e w11 ⟨qE1, rsE1, rfl, hc, hb⟩
  have HB11 := hide (HB10.out.trans (hb.mono HB10.out.size))
  have HA11 := hide (HA10.out.below (hb.mono HB10.out.size))
  have HD11 := hide (HD10.out.below (hb.mono HB10.out.size))
  replace R0 := hide (R0.out.next hb)
  replace R1 := hide (R1.out.next hb)
  have E1 := hide hc
  clear hc
  clear hb HB10 HA10 HD10
  go_wp2_with fail
  refine (eqOuts HD0.out R1.out E1.out).mono ?_
  rintro e w12 ⟨rfl, hb⟩
  have HB12 := hide (HB11.out.trans (hb.mono HB11.out.size))
  have HA12 := hide (HA11.out.below (hb.mono HB11.out.size))
  have HD12 := hide (HD11.out.below (hb.mono HB11.out.size))
  replace R0 := hide (R0.out.next hb)
  replace R1 := hide (R1.out.next hb)
  replace E1 := hide (E1.out.next hb)
  clear hb HB11 HA11 HD11
  go_wp2_with fail
  go_ret
  exact ⟨rfl, HB12.out⟩
theorem exWithin_walk (A D : Option Addr) (a b : List RowD) (c d : Nat) (w : World) (ha : OutArg w A a) (hd : OutArg w D b)
    (hT : Lib.TabIs Tryd.prog w "internal/strconv.uint64pow10" .u64 Lib.pow10Tab) :
    Calls Tryd.prog 3 #[.slice A a.length c, .slice D b.length d] w fun e w' => e = .returned (.bool true) ∧ Below w.heap.size w w' := by
  by_cases h1 : headSize (olens a) ≤ 1048576
  · by_cases h2 : headSize (olens b) ≤ 1048576 - headSize (olens a)
    · exact exWithin_small A D a b c d w ha hd h1 h2 hT
    · exact exWithin_bigB A D a b c d w ha hd h1 (by omega)
  · exact exWithin_bigA A D a b c d w ha (by omega)
end Go.Proofs.YtbeaijmilpefmaaDoor
