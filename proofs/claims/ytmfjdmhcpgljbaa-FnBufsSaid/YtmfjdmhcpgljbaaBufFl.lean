/- BufFlush, of the program and of the model. -/
import Derived.Test.YtmfjdmhcpgljbaaClone
import Derived.BigRegion
import Derived.RegionTactic
namespace Go.Proofs.Ytmfjdmhcpgljbaa
open Go.RowKit

/-- What BufFlush hands back. -/
def FlushR (w w' : World) (e : Ending) (n : Nat) (zs : List Int) (m : Nat) (ms : List Int) (ok : Bool) : Prop := ∃ A c D d, e = .returned (.tuple #[.agg #[.slice A n c], .slice D m d, .bool ok]) ∧ (n ≤ c ∧ m ≤ d) ∧ RvT 62 w' w.heap.size (.slice A n c) n zs ∧ RvT 3 w' w.heap.size (.slice D m d) m ms ∧ Apart (.slice A n c) (.slice D m d) ∧ Below w.heap.size w w'
theorem apart_nil (v : Value) : Apart (.slice none 0 0) v := fun b h => by simp [Value.ownBlock] at h

set_option maxHeartbeats 1600000 in
theorem bufFlush_nil (A D : Option Addr) (c m d : Nat) (w : World) :
    Calls Try.prog 27 #[.agg #[.slice A 0 c], .slice D m d] w fun e w' => FlushR w w' e 0 [] 0 [] false := by
  have hb0 := (below2 w (Obj.cells #[Value.slice A 0 c] 54) (Obj.cells #[Value.slice none 0 0] 54))
  go_enter Try.func27, Try.ntmps27
  go_wp2_with fail
  refine bodyPost_ret (v := .tuple #[.agg #[.slice none 0 0], .slice none 0 0, .bool false]) (by simp [results, Try.results27, go_sem]; done) rfl ⟨none, 0, none, 0, rfl, ⟨Nat.le_refl _, Nat.le_refl _⟩, .inl ⟨rfl, rfl, rfl⟩, .inl ⟨rfl, rfl, rfl⟩, apart_nil _, ?_⟩
  exact hb0

set_option maxHeartbeats 1600000 in
theorem bufFlush_no (A D : Option Addr) (zs : List Int) (n c m d : Nat) (w : World) (hn : zs.length = n * 2) (h0 : 0 < n) (hno : cellB (geti zs 0) m = false) (hS : IntsAt w (Old w.heap.size) A zs) :
    Calls Try.prog 27 #[.agg #[.slice A n c], .slice D m d] w fun e w' => FlushR w w' e 0 [] 0 [] false := by
  have hb0 := (below2 w (Obj.cells #[Value.slice A n c] 54) (Obj.cells #[Value.slice none 0 0] 54))
  obtain ⟨b, off, rfl, hb, c0, -⟩ := (hS.below hb0 (fun _ h => h)).two hn h0
  have e0 : (((n : Int)) == 0) = false := by rw [beq_eq_false_iff_ne]; omega
  have e1 : (0 : Int) < n := by omega
  simp only [Nat.zero_mul, Nat.add_zero] at c0
  clear hS hn
  have ki := fun w => isCell_any (geti zs 0) m w
  rw [hno] at ki
  replace ki := hide ki
  clear hno
  go_enter Try.func27, Try.ntmps27
  go_wp2_with fail
  refine (ki.out _).mono ?_
  rintro e w1 ⟨rfl, rfl⟩
  go_wp2_with fail
  refine bodyPost_ret (v := .tuple #[.agg #[.slice none 0 0], .slice none 0 0, .bool false]) (by simp [results, Try.results27, go_sem]; done) rfl ⟨none, 0, none, 0, rfl, ⟨Nat.le_refl _, Nat.le_refl _⟩, .inl ⟨rfl, rfl, rfl⟩, .inl ⟨rfl, rfl, rfl⟩, apart_nil _, ?_⟩
  exact hb0

theorem geti_set (zs : List Int) (x k : Nat) (v : Int) : geti (zs.set x v) k = if x = k ∧ k < zs.length then v else geti zs k := by
  unfold geti
  simp only [List.getD_eq_getElem?_getD, List.getElem?_set]
  by_cases e : x = k
  · subst e
    by_cases h : x < zs.length
    · simp [h]
    · simp [h]
  · simp [e]
theorem IntsAt.tail {w : World} {S : Nat → Prop} {b off : Nat} {zs : List Int} (h : IntsAt w S (some ⟨b, off, none⟩) zs) (j : Nat) : IntsAt w S (some ⟨b, off + j, none⟩) (zs.drop j) := by
  refine ⟨by have := h.1; simp; omega, fun hl => ?_⟩
  rw [List.length_drop] at hl
  obtain ⟨b', off', e, hb, hc⟩ := h.2 (by omega)
  cases e
  refine ⟨b, off + j, rfl, hb, fun k hk => ?_⟩
  rw [List.length_drop] at hk
  rw [Nat.add_assoc, hc (j + k) (by omega)]
  simp [geti, List.getD_eq_getElem?_getD, List.getElem?_drop]
theorem IntsAt.nilrow {w : World} {S : Nat → Prop} {A : Option Addr} {zs : List Int} (h : zs = []) : IntsAt w S A zs := ⟨by simp [h], fun hl => by simp [h] at hl⟩

set_option maxHeartbeats 3200000 in
theorem bufFlush_yes (A D : Option Addr) (zs ms : List Int) (n c m d : Nat) (w : World) (hn : zs.length = n * 2) (h0 : 0 < n) (hc : n ≤ c) (hn2 : n ≤ 1048576) (hm : ms.length = m) (hm2 : m ≤ 1048576) (hyes : cellB (geti zs 0) m = true) (hS : IntsAt w (Old w.heap.size) A zs) (hM : IntsAt w (Old w.heap.size) D ms) :
    Calls Try.prog 27 #[.agg #[.slice A n c], .slice D m d] w fun e w' => FlushR w w' e (n - 1) (zs.drop 2) m (ms.set (geti zs 0).toNat (geti zs 1)) true := by
  have hb0 := (below2 w (Obj.cells #[Value.slice A n c] 54) (Obj.cells #[Value.slice none 0 0] 54))
  have hSw := hide hS
  have hS0 := hide (hS.below hb0 (fun _ h => h))
  have hM0 := hide ((hM.below hb0 (fun _ h => h)).more (S' := Old (w.heap.size + 1 + 1)) (fun b h => Nat.lt_of_lt_of_le h (by omega)))
  obtain ⟨b, off, rfl, hb, c0, c1⟩ := hS0.out.two hn h0
  have e0 : (((n : Int)) == 0) = false := by rw [beq_eq_false_iff_ne]; omega
  have e1 : (0 : Int) < n := by omega
  simp only [Nat.zero_mul, Nat.add_zero, Nat.zero_add] at c0 c1
  have hx : 0 ≤ geti zs 0 ∧ geti zs 0 < m := by simpa [cellB] using hyes
  obtain ⟨x, hxe⟩ : ∃ x : Nat, geti zs 0 = (x : Int) := ⟨(geti zs 0).toNat, by omega⟩
  have ki := fun w => isCell_any (geti zs 0) m w
  rw [hyes, hxe] at ki
  rw [hxe] at c0
  have hxm : x < m := by omega
  replace hn := hide hn
  replace hm := hide hm
  replace ki := hide ki
  replace hxe := hide hxe
  clear hyes hx hM hS
  have hR := hide (Blk.new (w.alloc (Obj.cells #[Value.slice (some ⟨b, off, none⟩) n c] 54)) 54 #[Value.slice none 0 0])
  have hP := hide ((Blk.new w 54 #[Value.slice (some ⟨b, off, none⟩) n c]).alloc (Obj.cells #[Value.slice none 0 0] 54))
  go_enter Try.func27, Try.ntmps27
  go_wp2_with fail
  refine (ki.out _).mono ?_
  rintro e w1 ⟨rfl, rfl⟩
  go_wp2_with fail
  refine (cloneInts_any D ms m d _ hm.out (by omega) (by simpa using hM0.out)).mono ?_
  rintro e w1 ⟨A1, c1', rfl, hown, hb1⟩
  have hz1 := hb1.size
  simp only [World.size_alloc] at hz1
  have hcap1 := hide (own_cap hown)
  obtain ⟨q, rfl, hq, ds, hD, hds, hdc⟩ := own_pos hown (by omega)
  simp only [World.size_alloc] at hq
  have hB1 := hide (hb0.trans (hb1.mono (by simp; omega)))
  have hS1 := hide (hS0.out.below hb1 (fun b h => Nat.lt_of_lt_of_le h (by simp; omega)))
  obtain ⟨_, _, he, hb', d0, d1⟩ := hS1.out.two hn.out h0
  cases he
  rw [hxe.out] at d0
  simp only [Nat.zero_mul, Nat.add_zero, Nat.zero_add] at d0 d1
  have hR1 := hR.out.below hb1 (by simp)
  have hP1 := hP.out.below hb1 (by simp; omega)
  simp only [World.size_alloc] at hR1
  have p0 := hP1.cell 0
  simp only [List.getElem?_toArray, List.getElem?_cons_zero] at p0
  obtain ⟨u0, hu0⟩ : ∃ u, ds[x]? = some u := ⟨_, Array.getElem?_eq_getElem (by have := hm.out; omega)⟩
  have g0 := (hD.cell x).trans hu0
  have g1 := hD.frozen x
  have hxi : (x : Int) < (m : Int) := by omega
  replace hD := hide hD
  replace hds := hide hds
  replace hdc := hide hdc
  replace hR1 := hide hR1
  replace hP1 := hide hP1
  clear hu0 hown hb1 c0 c1
  go_wp2_with fail
  go_region
  all_goals
    obtain ⟨wr, hwr⟩ : ∃ wr, wr = (w1.setCell ⟨q, x, none⟩ (Value.int .i64 (geti zs 1))).drew := ⟨_, rfl⟩
    have hBr := hide (show Below w.heap.size w wr from by rw [hwr]; exact (hB1.out.setCell (p := ⟨q, x, none⟩) (by show w.heap.size ≤ q; omega) _).drew)
    have hDr := hide (show RvT 3 wr (w.heap.size + 1 + 1) (.slice (some ⟨q, 0, none⟩) m c1') m (ms.set (geti zs 0).toNat (geti zs 1)) from by
      refine .inr ⟨q, c1', rfl, ⟨ds.setIfInBounds x (.int .i64 (geti zs 1)), by rw [hwr]; exact hD.out.set_ x _, by simpa using hds.out, fun k hk => ?_⟩, hq⟩
      rw [hxe.out, Int.toNat_natCast, Array.getElem?_setIfInBounds, geti_set]
      rw [List.length_set] at hk
      by_cases e : x = k
      · subst e; rw [if_pos rfl, if_pos (by have := hds.out; omega), if_pos ⟨rfl, hk⟩]
      · rw [if_neg e, if_neg (fun h => e h.1)]; exact hdc.out k hk)
    have hPr := hide (show Blk wr w.heap.size 54 _ from by rw [hwr]; exact hP1.out.far (p := ⟨q, x, none⟩) (by show w.heap.size ≠ q; omega) _)
    have hRr := hide (show Blk wr (w.heap.size + 1) 54 _ from by rw [hwr]; exact hR1.out.far (p := ⟨q, x, none⟩) (by show w.heap.size + 1 ≠ q; omega) _)
    have hSr := hide ((hSw.out.below hBr.out (fun _ h => h)).more (S' := Old wr.heap.size) (fun b h => Nat.lt_of_lt_of_le h hBr.out.size))
    have hRl := hRr.out.lt
    have hPl := hPr.out.lt
    have hqr : q < wr.heap.size := (hDr.out.own_lt rfl).2
    have p1 := hPr.out.cell 0
    simp only [List.getElem?_toArray, List.getElem?_cons_zero] at p1
    clear hB1 hS1 hR1 hP1 g0 g1 d0 d1 p0 hD hds hdc hb0
    rw [← hwr]
    clear hwr
    go_wp2_with fail
  · refine (cloneWaits_any _ (zs.drop 2) (n - 1) _ _ (by rw [List.length_drop, hn.out]; omega) (by omega) (IntsAt.nilrow (List.eq_nil_of_length_eq_zero (by rw [List.length_drop, hn.out]; omega)))).mono ?_
    rintro e w3 ⟨A3, c3, rfl, hown3, hb3⟩
    have hR3 := hRr.out.below hb3 hRl
    have r3 := hR3.cell 0
    have z3 := hR3.frozen 0
    simp only [List.getElem?_toArray, List.getElem?_cons_zero] at r3
    have hcap3 := hide (own_cap hown3)
    have hQ3 := hide ((RvT.of_own hown3).base (B' := w.heap.size + 1 + 1) (by omega))
    have hap := hide (fun b (h1 : (Value.slice A3 (n - 1) c3).ownBlock = some b) (h2 : (Value.slice (some ⟨q, 0, none⟩) m c1').ownBlock = some b) => (show False from by
      have h3 := (own_at hown3 h1).1
      have h4 := (hDr.out.own_lt h2).2
      omega))
    have hD3 := hide (hDr.out.next hb3)
    have hB3 := hide (hBr.out.trans (hb3.mono hBr.out.size))
    clear hown3 hb3
    go_wp2_with fail
    refine bodyPost_ret (v := .tuple #[.agg #[.slice A3 (n - 1) c3], .slice (some ⟨q, 0, none⟩) m c1', .bool true]) (by simp [results, Try.results27, go_sem, r3]; done) rfl ⟨A3, c3, some ⟨q, 0, none⟩, c1', rfl, ⟨hcap3.out, hcap1.out⟩, ?_, ?_, fun b h1 h2 => hap.out b h1 h2, ?_⟩
    · exact (hQ3.out.setCell (p := ⟨w.heap.size + 1, 0, none⟩) (by simp) _).base (by omega)
    · exact (hD3.out.setCell (p := ⟨w.heap.size + 1, 0, none⟩) (by simp) _).base (by omega)
    · exact hB3.out.setCell (p := ⟨w.heap.size + 1, 0, none⟩) (by simp) _
  · refine (cloneWaits_any _ (zs.drop 2) (n - 1) _ _ (by rw [List.length_drop, hn.out]; omega) (by omega) (hSr.out.tail 2)).mono ?_
    rintro e w3 ⟨A3, c3, rfl, hown3, hb3⟩
    have hR3 := hRr.out.below hb3 hRl
    have r3 := hR3.cell 0
    have z3 := hR3.frozen 0
    simp only [List.getElem?_toArray, List.getElem?_cons_zero] at r3
    have hcap3 := hide (own_cap hown3)
    have hQ3 := hide ((RvT.of_own hown3).base (B' := w.heap.size + 1 + 1) (by omega))
    have hap := hide (fun b (h1 : (Value.slice A3 (n - 1) c3).ownBlock = some b) (h2 : (Value.slice (some ⟨q, 0, none⟩) m c1').ownBlock = some b) => (show False from by
      have h3 := (own_at hown3 h1).1
      have h4 := (hDr.out.own_lt h2).2
      omega))
    have hD3 := hide (hDr.out.next hb3)
    have hB3 := hide (hBr.out.trans (hb3.mono hBr.out.size))
    clear hown3 hb3
    go_wp2_with fail
    refine bodyPost_ret (v := .tuple #[.agg #[.slice A3 (n - 1) c3], .slice (some ⟨q, 0, none⟩) m c1', .bool true]) (by simp [results, Try.results27, go_sem, r3]; done) rfl ⟨A3, c3, some ⟨q, 0, none⟩, c1', rfl, ⟨hcap3.out, hcap1.out⟩, ?_, ?_, fun b h1 h2 => hap.out b h1 h2, ?_⟩
    · exact (hQ3.out.setCell (p := ⟨w.heap.size + 1, 0, none⟩) (by simp) _).base (by omega)
    · exact (hD3.out.setCell (p := ⟨w.heap.size + 1, 0, none⟩) (by simp) _).base (by omega)
    · exact hB3.out.setCell (p := ⟨w.heap.size + 1, 0, none⟩) (by simp) _

set_option maxHeartbeats 1600000 in
theorem sbufFlush_nil (A D : Option Addr) (c m d : Nat) (w : World) :
    Calls Try.prog 52 #[.agg #[.slice A 0 c], .slice D m d] w fun e w' => FlushR w w' e 0 [] 0 [] false := by
  have hb0 := (below2 w (Obj.cells #[Value.slice A 0 c] 54) (Obj.cells #[Value.slice none 0 0] 54))
  go_enter Try.func52, Try.ntmps52
  go_wp2_with fail
  refine bodyPost_ret (v := .tuple #[.agg #[.slice none 0 0], .slice none 0 0, .bool false]) (by simp [results, Try.results52, go_sem]; done) rfl ⟨none, 0, none, 0, rfl, ⟨Nat.le_refl _, Nat.le_refl _⟩, .inl ⟨rfl, rfl, rfl⟩, .inl ⟨rfl, rfl, rfl⟩, apart_nil _, ?_⟩
  exact hb0

set_option maxHeartbeats 1600000 in
theorem sbufFlush_no (A D : Option Addr) (zs : List Int) (n c m d : Nat) (w : World) (hn : zs.length = n * 2) (h0 : 0 < n) (hno : cellB (geti zs 0) m = false) (hS : IntsAt w (Old w.heap.size) A zs) :
    Calls Try.prog 52 #[.agg #[.slice A n c], .slice D m d] w fun e w' => FlushR w w' e 0 [] 0 [] false := by
  have hb0 := (below2 w (Obj.cells #[Value.slice A n c] 54) (Obj.cells #[Value.slice none 0 0] 54))
  obtain ⟨b, off, rfl, hb, c0, -⟩ := (hS.below hb0 (fun _ h => h)).two hn h0
  have e0 : (((n : Int)) == 0) = false := by rw [beq_eq_false_iff_ne]; omega
  have e1 : (0 : Int) < n := by omega
  simp only [Nat.zero_mul, Nat.add_zero] at c0
  clear hS hn
  have ki := fun w => l3cell_any D m d (geti zs 0) w
  rw [hno] at ki
  replace ki := hide ki
  clear hno
  go_enter Try.func52, Try.ntmps52
  go_wp2_with fail
  refine (ki.out _).mono ?_
  rintro e w1 ⟨rfl, rfl⟩
  go_wp2_with fail
  refine bodyPost_ret (v := .tuple #[.agg #[.slice none 0 0], .slice none 0 0, .bool false]) (by simp [results, Try.results52, go_sem]; done) rfl ⟨none, 0, none, 0, rfl, ⟨Nat.le_refl _, Nat.le_refl _⟩, .inl ⟨rfl, rfl, rfl⟩, .inl ⟨rfl, rfl, rfl⟩, apart_nil _, ?_⟩
  exact hb0


set_option maxRecDepth 100000 in
set_option maxHeartbeats 3200000 in
theorem sbufFlush_yes (A D : Option Addr) (zs ms : List Int) (n c m d : Nat) (w : World) (hn : zs.length = n * 2) (h0 : 0 < n) (hc : n ≤ c) (hn2 : n ≤ 1048576) (hm : ms.length = m) (hm2 : m ≤ 1048576) (hyes : cellB (geti zs 0) m = true) (hS : IntsAt w (Old w.heap.size) A zs) (hM : IntsAt w (Old w.heap.size) D ms) :
    Calls Try.prog 52 #[.agg #[.slice A n c], .slice D m d] w fun e w' => FlushR w w' e (n - 1) (zs.drop 2) m (ms.set (geti zs 0).toNat (geti zs 1)) true := by
  have hb0 := (below2 w (Obj.cells #[Value.slice A n c] 54) (Obj.cells #[Value.slice none 0 0] 54))
  have hSw := hide hS
  have hS0 := hide (hS.below hb0 (fun _ h => h))
  have hM0 := hide ((hM.below hb0 (fun _ h => h)).more (S' := Old (w.heap.size + 1 + 1)) (fun b h => Nat.lt_of_lt_of_le h (by omega)))
  obtain ⟨b, off, rfl, hb, c0, c1⟩ := hS0.out.two hn h0
  have e0 : (((n : Int)) == 0) = false := by rw [beq_eq_false_iff_ne]; omega
  have e1 : (0 : Int) < n := by omega
  simp only [Nat.zero_mul, Nat.add_zero, Nat.zero_add] at c0 c1
  have hx : 0 ≤ geti zs 0 ∧ geti zs 0 < m := by simpa [cellB] using hyes
  obtain ⟨x, hxe⟩ : ∃ x : Nat, geti zs 0 = (x : Int) := ⟨(geti zs 0).toNat, by omega⟩
  have ki := fun w => l3cell_any D m d (geti zs 0) w
  rw [hyes, hxe] at ki
  rw [hxe] at c0
  have hxm : x < m := by omega
  replace hn := hide hn
  replace hm := hide hm
  replace ki := hide ki
  replace hxe := hide hxe
  clear hyes hx hM hS
  have hR := hide (Blk.new (w.alloc (Obj.cells #[Value.slice (some ⟨b, off, none⟩) n c] 54)) 54 #[Value.slice none 0 0])
  have hP := hide ((Blk.new w 54 #[Value.slice (some ⟨b, off, none⟩) n c]).alloc (Obj.cells #[Value.slice none 0 0] 54))
  go_enter Try.func52, Try.ntmps52
  go_wp2_with fail
  refine (ki.out _).mono ?_
  rintro e w1 ⟨rfl, rfl⟩
  obtain ⟨i1, hi1, hy0, hy1, hy2⟩ := info_parts Try.infoInt
  obtain ⟨i2, hi2, hw0, hw1, hw2⟩ := info_parts Try.infoWait
  have hown0 := own_row (w := (w.alloc (Obj.cells #[Value.slice (some ⟨b, off, none⟩) n c] 54)).alloc (Obj.cells #[Value.slice none 0 0] 54)) (B := w.heap.size + 1 + 1) (e := 3) (size := 1) (n := 0) (cs := #[]) (by simp) (by omega) rfl
  simp only [World.size_alloc] at hown0
  replace hown0 := hide hown0
  have hbx := below1 ((w.alloc (Obj.cells #[Value.slice (some ⟨b, off, none⟩) n c] 54)).alloc (Obj.cells #[Value.slice none 0 0] 54)) (Obj.cells #[] 3)
  simp only [World.size_alloc] at hbx
  have hM1 := hide (hM0.out.below hbx (fun _ h => h))
  replace hbx := hide hbx
  go_wp2_with (at_builtin; refine wpList_append_src _ rfl _ _ _ rfl (w.heap.size + 1 + 1) 3 i1 _ 1 8 Try.underlying23 hi1 hy0 hy1 hy2 rfl (by omega) (.slice (some ⟨w.heap.size + 1 + 1, 0, none⟩) 0 0) 0 [] rfl hown0.out (Old (w.heap.size + 1 + 1)) D m d ms rfl (by rw [hm.out]; simp) hM1.out (by have : maxLen = 9223372036854775807 := rfl; omega) (by omega) (by simp) ?_)
  intro A1 c1' w1 hown hgr _
  have hb1 : Below (w.heap.size + 1 + 1) ((w.alloc (Obj.cells #[Value.slice (some ⟨b, off, none⟩) n c] 54)).alloc (Obj.cells #[Value.slice none 0 0] 54)) w1 := hbx.out.trans (below_own hgr (fun k hk e => by
    have e2 : w.heap.size + 1 + 1 = k := by simpa [Value.ownBlock] using e.symm
    omega) (by simp))
  clear hgr
  have hz1 := hb1.size
  simp only [World.size_alloc] at hz1
  have hcap1 := hide (own_cap hown)
  obtain ⟨q, rfl, hq, ds, hD, hds, hdc⟩ := own_pos hown (by omega)
  have hB1 := hide (hb0.trans (hb1.mono (by omega)))
  have hS1 := hide (hS0.out.below hb1 (fun b h => Nat.lt_of_lt_of_le h (by omega)))
  obtain ⟨_, _, he, hb', d0, d1⟩ := hS1.out.two hn.out h0
  cases he
  rw [hxe.out] at d0
  simp only [Nat.zero_mul, Nat.add_zero, Nat.zero_add] at d0 d1
  have hR1 := hR.out.below hb1 (by simp)
  have hP1 := hP.out.below hb1 (by omega)
  simp only [World.size_alloc] at hR1
  have p0 := hP1.cell 0
  simp only [List.getElem?_toArray, List.getElem?_cons_zero] at p0
  obtain ⟨u0, hu0⟩ : ∃ u, ds[x]? = some u := ⟨_, Array.getElem?_eq_getElem (by have := hm.out; omega)⟩
  have g0 := (hD.cell x).trans hu0
  have g1 := hD.frozen x
  have hxi : (x : Int) < (m : Int) := by omega
  replace hD := hide hD
  replace hds := hide hds
  replace hdc := hide hdc
  replace hR1 := hide hR1
  replace hP1 := hide hP1
  clear hu0 hown hb1 c0 c1
  go_wp2_with fail
  go_region
  all_goals
    obtain ⟨wr, hwr⟩ : ∃ wr, wr = (w1.setCell ⟨q, x, none⟩ (Value.int .i64 (geti zs 1))).drew := ⟨_, rfl⟩
    have hBr := hide (show Below w.heap.size w wr from by rw [hwr]; exact (hB1.out.setCell (p := ⟨q, x, none⟩) (by show w.heap.size ≤ q; omega) _).drew)
    have hDr := hide (show RvT 3 wr (w.heap.size + 1 + 1) (.slice (some ⟨q, 0, none⟩) m c1') m (ms.set (geti zs 0).toNat (geti zs 1)) from by
      refine .inr ⟨q, c1', rfl, ⟨ds.setIfInBounds x (.int .i64 (geti zs 1)), by rw [hwr]; exact hD.out.set_ x _, by simpa using hds.out, fun k hk => ?_⟩, hq⟩
      rw [hxe.out, Int.toNat_natCast, Array.getElem?_setIfInBounds, geti_set]
      rw [List.length_set] at hk
      by_cases e : x = k
      · subst e; rw [if_pos rfl, if_pos (by have := hds.out; omega), if_pos ⟨rfl, hk⟩]
      · rw [if_neg e, if_neg (fun h => e h.1)]; exact hdc.out k hk)
    have hPr := hide (show Blk wr w.heap.size 54 _ from by rw [hwr]; exact hP1.out.far (p := ⟨q, x, none⟩) (by show w.heap.size ≠ q; omega) _)
    have hRr := hide (show Blk wr (w.heap.size + 1) 54 _ from by rw [hwr]; exact hR1.out.far (p := ⟨q, x, none⟩) (by show w.heap.size + 1 ≠ q; omega) _)
    have hSr := hide ((hSw.out.below hBr.out (fun _ h => h)).more (S' := Old wr.heap.size) (fun b h => Nat.lt_of_lt_of_le h hBr.out.size))
    have hRl := hRr.out.lt
    have hPl := hPr.out.lt
    have hqr : q < wr.heap.size := (hDr.out.own_lt rfl).2
    have p1 := hPr.out.cell 0
    simp only [List.getElem?_toArray, List.getElem?_cons_zero] at p1
    clear hB1 hS1 hR1 hP1 g0 g1 d0 d1 p0 hD hds hdc hb0
    rw [← hwr]
    clear hwr
    have hb4 := below1 wr (Obj.cells #[] 62)
    have hown4 := hide (own_row (w := wr) (B := wr.heap.size) (e := 62) (size := 2) (n := 0) (cs := #[]) (Nat.le_refl _) (by omega) rfl)
    have hS4 := hide (hSr.out.below hb4 (fun _ h => h))
    replace hb4 := hide hb4
    by_cases hc1 : c = 1
    · subst hc1
      obtain rfl : n = 1 := by omega
      have hzn : zs.drop 2 = [] := List.eq_nil_of_length_eq_zero (by rw [List.length_drop, hn.out])
      replace hzn := hide hzn
      go_wp2_with (at_builtin; refine wpList_append_src _ rfl _ _ _ rfl wr.heap.size 62 i2 _ 2 16 Try.underlying52 hi2 hw0 hw1 hw2 rfl (by omega) (.slice (some ⟨wr.heap.size, 0, none⟩) 0 0) 0 [] rfl hown4.out (Old wr.heap.size) (some ⟨b, off, none⟩) 0 _ (zs.drop 2) rfl (by rw [List.length_drop, hn.out]) (IntsAt.nilrow hzn.out) (by have : maxLen = 9223372036854775807 := rfl; omega) (by omega) (by simp) ?_)
      intro A3 c3 w3 hown3 hgr3 _
      have hb3 : Below wr.heap.size wr w3 := hb4.out.trans (below_own hgr3 (fun k hk e => by
        have e2 : wr.heap.size = k := by simpa [Value.ownBlock] using e.symm
        omega) (by simp))
      clear hgr3
      have hR3 := hRr.out.below hb3 hRl
      have r3 := hR3.cell 0
      have z3 := hR3.frozen 0
      simp only [List.getElem?_toArray, List.getElem?_cons_zero] at r3
      have hcap3 := hide (own_cap hown3)
      have hQ3 := hide ((RvT.of_own (zs := zs.drop 2) (by simpa using hown3)).base (B' := w.heap.size + 1 + 1) (by omega))
      have hap := hide (fun b (h1 : (Value.slice A3 0 c3).ownBlock = some b) (h2 : (Value.slice (some ⟨q, 0, none⟩) m c1').ownBlock = some b) => (show False from by
        have h3 := (own_at hown3 h1).1
        have h4 := (hDr.out.own_lt h2).2
        omega))
      have hD3 := hide (hDr.out.next hb3)
      have hB3 := hide (hBr.out.trans (hb3.mono hBr.out.size))
      clear hown3 hb3
      go_wp2_with fail
      refine bodyPost_ret (v := .tuple #[.agg #[.slice A3 0 c3], .slice (some ⟨q, 0, none⟩) m c1', .bool true]) (by simp [results, Try.results52, go_sem, r3]; done) rfl ⟨A3, c3, some ⟨q, 0, none⟩, c1', rfl, ⟨hcap3.out, hcap1.out⟩, ?_, ?_, fun b h1 h2 => hap.out b h1 h2, ?_⟩
      · exact (hQ3.out.setCell (p := ⟨w.heap.size + 1, 0, none⟩) (by simp) _).base (by omega)
      · exact (hD3.out.setCell (p := ⟨w.heap.size + 1, 0, none⟩) (by simp) _).base (by omega)
      · exact hB3.out.setCell (p := ⟨w.heap.size + 1, 0, none⟩) (by simp) _
    · have hc2 : ¬ c = 1 := hc1
      go_wp2_with (at_builtin; refine wpList_append_src _ rfl _ _ _ rfl wr.heap.size 62 i2 _ 2 16 Try.underlying52 hi2 hw0 hw1 hw2 rfl (by omega) (.slice (some ⟨wr.heap.size, 0, none⟩) 0 0) 0 [] rfl hown4.out (Old wr.heap.size) (some ⟨b, off + 2, none⟩) (n - 1) _ (zs.drop 2) rfl (by rw [List.length_drop, hn.out]; omega) (hS4.out.tail 2) (by have : maxLen = 9223372036854775807 := rfl; omega) (by omega) (by simp) ?_)
      intro A3 c3 w3 hown3 hgr3 _
      have hb3 : Below wr.heap.size wr w3 := hb4.out.trans (below_own hgr3 (fun k hk e => by
        have e2 : wr.heap.size = k := by simpa [Value.ownBlock] using e.symm
        omega) (by simp))
      clear hgr3
      have hR3 := hRr.out.below hb3 hRl
      have r3 := hR3.cell 0
      have z3 := hR3.frozen 0
      simp only [List.getElem?_toArray, List.getElem?_cons_zero] at r3
      have hcap3 := hide (own_cap hown3)
      have hQ3 := hide ((RvT.of_own (zs := zs.drop 2) (by simpa using hown3)).base (B' := w.heap.size + 1 + 1) (by omega))
      have hap := hide (fun b (h1 : (Value.slice A3 (n - 1) c3).ownBlock = some b) (h2 : (Value.slice (some ⟨q, 0, none⟩) m c1').ownBlock = some b) => (show False from by
        have h3 := (own_at hown3 h1).1
        have h4 := (hDr.out.own_lt h2).2
        omega))
      have hD3 := hide (hDr.out.next hb3)
      have hB3 := hide (hBr.out.trans (hb3.mono hBr.out.size))
      clear hown3 hb3
      go_wp2_with fail
      refine bodyPost_ret (v := .tuple #[.agg #[.slice A3 (n - 1) c3], .slice (some ⟨q, 0, none⟩) m c1', .bool true]) (by simp [results, Try.results52, go_sem, r3]; done) rfl ⟨A3, c3, some ⟨q, 0, none⟩, c1', rfl, ⟨hcap3.out, hcap1.out⟩, ?_, ?_, fun b h1 h2 => hap.out b h1 h2, ?_⟩
      · exact (hQ3.out.setCell (p := ⟨w.heap.size + 1, 0, none⟩) (by simp) _).base (by omega)
      · exact (hD3.out.setCell (p := ⟨w.heap.size + 1, 0, none⟩) (by simp) _).base (by omega)
      · exact hB3.out.setCell (p := ⟨w.heap.size + 1, 0, none⟩) (by simp) _
end Go.Proofs.Ytmfjdmhcpgljbaa
