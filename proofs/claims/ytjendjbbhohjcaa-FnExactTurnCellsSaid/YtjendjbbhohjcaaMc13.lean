/- The model's l1own: a copy of a program. -/
import Derived.Test.YtjendjbbhohjcaaMc0
import Derived.Test.YtjendjbbhohjcaaMc8
import Derived.Test.YtjendjbbhohjcaaMc9
import Derived.Test.YtjendjbbhohjcaaMc12
import Derived.Deep.RegionHeld3
namespace Go.Proofs.Ytjendjbbhohjcaa
open Go.RowKit

theorem CrAt.startO {w0 w1 : World} {zs : List Int} {v : Value} (hW : Below w0.heap.size w0 w1) (hs : w0.heap.size + 1 ≤ w1.heap.size) (hR : ∃ u u', Blk w1 w0.heap.size 37 #[u, u']) (hv : w1.ownsRow (w0.heap.size + 1) 3 1 v zs.length (zs.map (Value.int .i64))) :
    CrAt w0 w1.heap.size zs v [] [] (.slice none 0 0) (w1.alloc (.cells #[v, .slice none 0 0] 37)) := by
  have hP0 : ProgOwn w1 (w0.heap.size + 1) zs v [] [] (.slice none 0 0) := ⟨hv, ⟨rfl, .inl ⟨rfl, rfl⟩⟩, fun k hk => by simp at hk, fun j k _ hk => by simp at hk⟩
  obtain ⟨u, u', hR⟩ := hR
  exact ⟨hW.alloc hW.size _, Blk.new _ _ _, hP0.keep (fun b _ hlt => Below.heap_alloc _ _ b hlt), hs, u, u', hR.alloc _⟩
theorem take_gett (ts : List (List InsD)) (k : Nat) (h : k < ts.length) : ts.take (k + 1) = ts.take k ++ [gett ts k] := by
  rw [List.take_succ_eq_append_getElem h]
  simp [gett, List.getD_eq_getElem?_getD, List.getElem?_eq_getElem h]
set_option maxRecDepth 100000 in
set_option maxHeartbeats 12800000 in
theorem l1own_any (v : Value) (p : ProgD) (w : World) (hp : ProgAt w (Old w.heap.size) v p) (h6 : p.init.length ≤ 1000) (h3 : p.ts.length ≤ 3) (hl : ∀ k, (gett p.ts k).length ≤ 1000) :
    Calls Try.prog 81 #[v] w fun e w' => PrgR w w' e p := by
  obtain ⟨i1, hi1, hy0, hy1, hy2⟩ := info_parts Try.infoInt
  obtain ⟨i2, hi2, hx0, hx1, hx2⟩ := info_parts Try.infoThr
  replace hi2 := hide hi2
  obtain ⟨i0, hi0, hz0, hz1, hz2⟩ := info_parts Try.infoIns
  replace hi0 := hide hi0
  obtain ⟨A, c, A', c', rfl, hcc, hi, ht⟩ := hp
  obtain ⟨W0, hW0⟩ : ∃ x, x = w.alloc (Obj.cells #[.slice A p.init.length c, .slice A' p.ts.length c'] 37) := ⟨_, rfl⟩
  obtain ⟨W, hW⟩ : ∃ x, x = W0.alloc (Obj.cells #[.slice none 0 0, .slice none 0 0] 37) := ⟨_, rfl⟩
  have hbW0 : Below w.heap.size w W0 := by rw [hW0]; exact below1 _ _
  have hsz0 : w.heap.size + 1 = W0.heap.size := by rw [hW0]; simp
  have hb1 : Below W0.heap.size W0 W := by rw [hW]; exact below1 _ _
  have hsW : W0.heap.size + 1 ≤ W.heap.size := by rw [hW]; simp
  have X0 := hide (show Blk W0 w.heap.size 37 #[.slice A p.init.length c, .slice A' p.ts.length c'] from by rw [hW0]; exact Blk.new _ _ _)
  have R := hide (show Blk W W0.heap.size 37 #[.slice none 0 0, .slice none 0 0] from by rw [hW]; exact Blk.new _ _ _)
  have D0 := hide ((ht.below hbW0 (fun _ h => h)).more (fun b (h : b < w.heap.size) => show b < W0.heap.size from Nat.lt_of_lt_of_le h hbW0.size))
  have hbe := below1 W (Obj.cells #[] 3)
  have Z1 := hide (((hi.below hbW0 (fun _ h => h)).below (hb1.mono hbW0.size) (fun _ h => h)).below (hbe.mono (Nat.le_trans hbW0.size hb1.size)) (fun _ h => h))
  have B00 := hide hbW0
  have hxw := hide (show w.heap.size < W0.heap.size from X0.out.lt)
  obtain ⟨x0, x1⟩ := (show W.cell? ⟨w.heap.size, 0, none⟩ = some (.slice A p.init.length c) ∧ W.cell? ⟨w.heap.size, 1, none⟩ = some (.slice A' p.ts.length c') from ⟨(X0.out.below hb1 X0.out.lt).cell 0, (X0.out.below hb1 X0.out.lt).cell 1⟩)
  have lx := (X0.out.below hb1 X0.out.lt).lt
  have BW := hide hb1
  have hW0s := hide hsz0
  clear hbW0 hi ht hcc hb1 hsz0
  go_enter Try.func81, Try.ntmps81
  go_upto_region 1 with fail
  rw [← hW0, ← hW, hW0s.out]
  clear hW hW0
  have h6' := hide h6
  go_wp2_with (at_builtin; refine wpList_append_src _ rfl _ _ _ rfl (W0.heap.size + 1) 3 i1 _ 1 8 Try.underlying23 hi1 hy0 hy1 hy2 rfl (by omega) (.slice (some ⟨W.heap.size, 0, none⟩) 0 0) 0 [] rfl (own_row hsW (by omega) rfl) (Old w.heap.size) A p.init.length c p.init rfl (by simp) Z1.out (by have : maxLen = 9223372036854775807 := rfl; have := h6'.out; omega) (by have := h6'.out; omega) (by simp; omega) ?_)
  intro A1 c1 w1 hown1 hgr1 hat1
  try simp only [Nat.zero_add, List.nil_append] at hown1
  have hb2 : Below W.heap.size W w1 := hbe.trans (below_own hgr1 (fun j hj => by simp [Value.ownBlock]; omega) (by simp))
  have C4 := CrAt.startO (w0 := W0) (BW.out.trans (hb2.mono BW.out.size)) (Nat.le_trans hsW hb2.size) ⟨_, _, R.out.below hb2 R.out.lt⟩ hown1
  obtain ⟨w4, hw4⟩ : ∃ x, x = w1.alloc (Obj.cells #[.slice A1 p.init.length c1, .slice none 0 0] 37) := ⟨_, rfl⟩
  rw [← hw4] at C4
  have C4 := hide (show CrAt W0 w1.heap.size p.init (.slice A1 p.init.length c1) (p.ts.take 0) [] (.slice none 0 0) w4 from C4)
  clear hown1 hgr1 hat1 hb2 hbe x0 x1 lx
  go_upto_region 2 with fail
  rw [← hw4]
  obtain ⟨T, hT⟩ : ∃ x, x = w1.heap.size := ⟨_, rfl⟩
  rw [← hT] at C4 ⊢
  clear hw4 hT
  go_wp2_with fail
  go_loopw [4] (fun i wr => ∃ (k : Nat) (vs : List Value) (tv : Value), k ≤ p.ts.length ∧ i = .int .i64 k ∧ Hid (CrAt W0 T p.init (.slice A1 p.init.length c1) (p.ts.take k) vs tv wr)) (fun i _ => p.ts.length - (intOf i).toNat)
  case atStart => exact ⟨0, _, _, Nat.zero_le _, rfl, C4⟩
  case round =>
    clear C4
    obtain ⟨k, vs, tv, hk, rfl, C0⟩ := hrel
    have x1 := (X0.out.below C0.out.below X0.out.lt).cell 1
    have lx := (X0.out.below C0.out.below X0.out.lt).lt
    simp only [List.getElem?_toArray, List.getElem?_cons_zero, List.getElem?_cons_succ] at x1
    by_cases hlt : k < p.ts.length
    · have hlt' : decide ((k : Int) < (p.ts.length : Int)) = true := decide_eq_true (by omega)
      have hkn : k < p.ts.length := hlt
      have hstep := hide (take_gett p.ts k hlt)
      obtain ⟨b, off, rfl, hbS, hc⟩ := D0.out.2 (by omega)
      obtain ⟨A3, c3, hcell, -, hin⟩ := hc k hlt
      have hl24 := hide (hl k)
      obtain ⟨l, hll⟩ : ∃ l, l = gett p.ts k := ⟨_, rfl⟩
      rw [← hll] at hcell hin hstep hl24
      have kS := hide (show ∀ w', Below W0.heap.size W0 w' → w'.cell? ⟨w.heap.size, 1, none⟩ = some (.slice (some ⟨b, off, none⟩) p.ts.length c') ∧ w'.cell? ⟨b, off + k, none⟩ = some (.slice A3 l.length c3) from fun w' hb => ⟨(X0.out.below hb X0.out.lt).cell 1, (hb.cell (p := ⟨b, off + k, none⟩) hbS).trans hcell⟩)
      have BD := hide (show Below W0.heap.size W0 wr.drew from C0.out.below.trans ((Below.refl _ _).drew.mono C0.out.below.size))
      have B2 := hide (show Below wr.heap.size wr (wr.drew.alloc (Obj.cells #[] 89)) from (Below.refl _ _).drew.trans (below1 wr.drew _))
      have BA := hide (show Below W0.heap.size W0 (wr.drew.alloc (Obj.cells #[] 89)) from C0.out.below.trans (B2.out.mono C0.out.below.size))
      have hown0 := hide (show (wr.drew.alloc (Obj.cells #[] 89)).ownsRow wr.heap.size 89 6 (.slice (some ⟨wr.heap.size, 0, none⟩) 0 0) 0 [] from own_row (w := wr.drew) (cs := #[]) (Nat.le_refl _) (by omega) rfl)
      have hI0 := hide (show IntsAt (wr.drew.alloc (Obj.cells #[] 89)) (Old wr.heap.size) A3 (flatZ l) from ((hin.below BA.out (fun _ h => h)).more (fun b (h : b < W0.heap.size) => show b < wr.heap.size from Nat.lt_of_lt_of_le h C0.out.below.size)).ints hl24.out)
      obtain ⟨A6, c6, htv, -⟩ := own_form C0.out.own.rows
      obtain ⟨m, hm⟩ : ∃ m, m = (p.ts.take k).length := ⟨_, rfl⟩
      have hm3 : m ≤ 3 := by rw [hm, List.length_take]; omega
      rw [← hm] at htv
      subst htv
      have hmH := hide hm
      have t5 : wr.cell? ⟨T, 1, none⟩ = some (.slice A6 m c6) := C0.out.blk.cell 1
      have t6 : (wr.drew.alloc (Obj.cells #[] 89)).cell? ⟨T, 1, none⟩ = some (.slice A6 m c6) := (C0.out.next B2.out).blk.cell 1
      have lT := C0.out.blk.lt
      clear hc hll hm hin
      go_upto_region 5 with fail
      clear x1 lx hcell
      refine wp_region_held_drew (S := (fun w' => w'.cell? ⟨w.heap.size, 1, none⟩ = some (.slice (some ⟨b, off, none⟩) p.ts.length c') ∧ w'.cell? ⟨b, off + k, none⟩ = some (.slice A3 l.length c3))) (by kernel_rfl) ?_ (fun hHeld => ?_)
      · exact (kS.out _ BD.out)
      refine wpAnyH_take (i := 0) (oi := { dst := some 17, op := Op.fieldAddr 37 (.tmp 3) 1, type := 0, pos := "l01_prog.go:120", after := #[], guard := none }) (v := ?_) rfl (by kernel_rfl) (by kernel_rfl) (by kernel_rfl) (fun _ _ _ h => h) (Or.inl ⟨by rfl, ?_⟩) hHeld ?_
      rotate_left
      · (intro wq hSw; (try dsimp only at hSw); first | (go_simp; done) | (go_simp; with_reducible rfl))
      try simp only [Act.put, qa, qb, qc]
      refine wpAnyH_take (i := 3) (oi := { dst := some 20, op := Op.fieldAddr 37 (.tmp 1) 1, type := 0, pos := "l01_prog.go:120", after := #[], guard := none }) (v := ?_) rfl (by kernel_rfl) (by kernel_rfl) (by kernel_rfl) (fun _ _ _ h => h) (Or.inl ⟨by rfl, ?_⟩) hHeld ?_
      rotate_left
      · (intro wq hSw; (try dsimp only at hSw); first | (go_simp; done) | (go_simp; with_reducible rfl))
      try simp only [Act.put, qa, qb, qc]
      refine wpAnyH_take (i := 4) (oi := { dst := some 21, op := Op.load 35 (.tmp 20), type := 35, pos := "l01_prog.go:120", after := #[⟨3, .data⟩], guard := none }) (v := ?_) rfl (by kernel_rfl) (by kernel_rfl) (by kernel_rfl) (fun _ _ _ h => h) (Or.inl ⟨by rfl, ?_⟩) hHeld ?_
      rotate_left
      · (intro wq hSw; (try dsimp only at hSw); first | (go_simp; done) | (go_simp; with_reducible rfl))
      try simp only [Act.put, qa, qb, qc]
      refine wpAnyH_take (i := 5) (oi := { dst := some 22, op := Op.move (.tmp 4), type := 3, pos := "l01_prog.go:120", after := #[], guard := none }) (v := ?_) rfl (by kernel_rfl) (by kernel_rfl) (by kernel_rfl) (fun _ _ _ h => h) (Or.inl ⟨by rfl, ?_⟩) hHeld ?_
      rotate_left
      · (intro wq hSw; (try dsimp only at hSw); first | (go_simp; done) | (go_simp; with_reducible rfl))
      try simp only [Act.put, qa, qb, qc]
      refine wpAnyH_take (i := 6) (oi := { dst := some 23, op := Op.indexAddr 35 (.tmp 21) (.tmp 22), type := 0, pos := "l01_prog.go:120", after := #[⟨4, .data⟩, ⟨5, .data⟩], guard := none }) (v := ?_) rfl (by kernel_rfl) (by kernel_rfl) (by kernel_rfl) (fun _ _ _ h => h) (Or.inl ⟨by rfl, ?_⟩) hHeld ?_
      rotate_left
      · (intro wq hSw; (try dsimp only at hSw); first | (go_simp; done) | (go_simp; with_reducible rfl))
      try simp only [Act.put, qa, qb, qc]
      refine wpAnyH_take (i := 7) (oi := { dst := some 24, op := Op.fieldAddr 45 (.tmp 23) 0, type := 0, pos := "l01_prog.go:120", after := #[⟨6, .data⟩], guard := none }) (v := ?_) rfl (by kernel_rfl) (by kernel_rfl) (by kernel_rfl) (fun _ _ _ h => h) (Or.inl ⟨by rfl, ?_⟩) hHeld ?_
      rotate_left
      · (intro wq hSw; (try dsimp only at hSw); first | (go_simp; done) | (go_simp; with_reducible rfl))
      try simp only [Act.put, qa, qb, qc]
      refine wpAnyH_take (i := 8) (oi := { dst := some 25, op := Op.load 43 (.tmp 24), type := 43, pos := "l01_prog.go:120", after := #[⟨7, .data⟩], guard := none }) (v := ?_) rfl (by kernel_rfl) (by kernel_rfl) (by kernel_rfl) (fun _ _ _ h => h) (Or.inl ⟨by rfl, ?_⟩) hHeld ?_
      rotate_left
      · (intro wq hSw; (try dsimp only at hSw); first | (go_simp; done) | (go_simp; with_reducible rfl))
      try simp only [Act.put, qa, qb, qc]
      refine wpAnyH_ready (rs := [1, 2]) (by kernel_rfl) (by simp) ?_
      refine AllReadyH.cons (o := { dst := some 18, op := Op.load 35 (.tmp 17), type := 35, pos := "l01_prog.go:120", after := #[⟨0, .data⟩], guard := none }) rfl (fun K hK => ?_) (AllReadyH.cons (o := { dst := some 19, op := Op.buildSlice 43 0 #[], type := 43, pos := "l01_prog.go:120", after := #[], guard := none }) rfl (fun K hK => ?_) (AllReadyH.nil))
      · go_simp
        refine hK.out _ _ ?_ (fun hHeldN => ?_)
        · exact hHeld
        clear hK K hHeld
        have hHeld := hHeldN
        clear hHeldN
        try simp only [Act.put, qa, qb, qc]
        refine wpAnyH_ready (rs := [2]) (by kernel_rfl) (by simp) ?_
        refine AllReadyH.cons (o := { dst := some 19, op := Op.buildSlice 43 0 #[], type := 43, pos := "l01_prog.go:120", after := #[], guard := none }) rfl (fun K hK => ?_) (AllReadyH.nil)
        · go_simp
          refine hK.out _ _ ?_ (fun hHeldN => ?_)
          · exact (kS.out _ BA.out)
          clear hK K hHeld
          have hHeld := hHeldN
          clear hHeldN
          try simp only [Act.put, qa, qb, qc]
          refine wpAnyH_ready (rs := [9]) (by kernel_rfl) (by simp) ?_
          refine AllReadyH.cons (o := { dst := some 26, op := Op.call { callee := Callee.builtin Builtin.append, args := #[.tmp 19, .tmp 25], argTypes := #[43, 43] }, type := 43, pos := "l01_prog.go:120", after := #[⟨2, .data⟩, ⟨8, .data⟩], guard := none }) rfl (fun K hK => ?_) (AllReadyH.nil)
          · rw [if_pos (by rfl)]
            refine wp_append_src _ _ _ _ (by rfl) wr.heap.size 89 i0 _ 6 48 Try.underlying43 hi0.out hz0 hz1 hz2 rfl (by omega) (.slice (some ⟨wr.heap.size, 0, none⟩) 0 0) 0 [] (by rfl) hown0.out (Old wr.heap.size) A3 l.length c3 (flatZ l) (by rfl) (flatZ_len l) hI0.out (by have : maxLen = 9223372036854775807 := rfl; have := hl24.out; omega) (by have := hl24.out; omega) (by simp) ?_
            intro A5 c5 w5 hown5 hgr5 hat5
            simp only [Nat.zero_add, List.nil_append, flatZ_map] at hown5
            have hb5 := hide (show Below wr.heap.size wr w5 from B2.out.trans (below_own hgr5 (fun j hj => by simp [Value.ownBlock]; omega) (by simp)))
            have L5 := hide (C0.out.lat hb5.out hown5)
            have L6 := hide (L5.out.alloc (Obj.cells #[(.slice A5 l.length c5)] 45))
            have t8 : w5.cell? ⟨T, 1, none⟩ = some (.slice A6 m c6) := L5.out.cr.blk.cell 1
            have t9 : (w5.alloc (Obj.cells #[(.slice A5 l.length c5)] 45)).cell? ⟨T, 1, none⟩ = some (.slice A6 m c6) := L6.out.cr.blk.cell 1
            have hR := hide (show (w5.alloc (Obj.cells #[(.slice A5 l.length c5)] 45)).ownsRow (W0.heap.size + 1) 45 1 (.slice A6 m c6) m vs from by rw [hmH.out]; rw [hmH.out] at L6; exact L6.out.cr.own.rows)
            have hsz : W0.heap.size + 1 ≤ w5.heap.size := by have := L5.out.cr.blk.lt; have := L5.out.cr.lo; omega
            have lT5 := L5.out.cr.blk.lt
            clear hown5 hgr5 hat5
            refine hK.out _ _ ?_ (fun hHeldN => ?_)
            · exact (kS.out _ L5.out.cr.below)
            clear hK K hHeld
            have hHeld := hHeldN
            clear hHeldN
            try simp only [Act.put, qa, qb, qc]
            refine wpAnyH_take (i := 10) (oi := { dst := some 27, op := Op.build 45 #[(0, .tmp 26)], type := 45, pos := "l01_prog.go:120", after := #[⟨9, .data⟩], guard := none }) (v := ?_) rfl (by kernel_rfl) (by kernel_rfl) (by kernel_rfl) (fun _ _ _ h => h) (Or.inl ⟨by rfl, ?_⟩) hHeld ?_
            rotate_left
            · (intro wq hSw; (try dsimp only at hSw); first | (go_simp; done) | (go_simp; with_reducible rfl))
            try simp only [Act.put, qa, qb, qc]
            refine wpAnyH_ready (rs := [11]) (by kernel_rfl) (by simp) ?_
            refine AllReadyH.cons (o := { dst := some 28, op := Op.buildSlice 35 1 #[(0, .tmp 27)], type := 35, pos := "l01_prog.go:120", after := #[⟨10, .data⟩], guard := none }) rfl (fun K hK => ?_) (AllReadyH.nil)
            · go_simp
              refine hK.out _ _ ?_ (fun hHeldN => ?_)
              · exact (kS.out _ L6.out.cr.below)
              clear hK K hHeld
              have hHeld := hHeldN
              clear hHeldN
              try simp only [Act.put, qa, qb, qc]
              refine wpAnyH_ready (rs := [12]) (by kernel_rfl) (by simp) ?_
              refine AllReadyH.cons (o := { dst := some 29, op := Op.call { callee := Callee.builtin Builtin.append, args := #[.tmp 18, .tmp 28], argTypes := #[35, 35] }, type := 35, pos := "l01_prog.go:120", after := #[⟨1, .data⟩, ⟨11, .data⟩, ⟨9, .chain⟩], guard := none }) rfl (fun K hK => ?_) (AllReadyH.nil)
              · rw [if_pos (by rfl)]
                refine wp_append_lies _ _ _ _ (by rfl) (W0.heap.size + 1) 45 i2 _ 1 24 Try.underlying35 hi2.out hx0 hx1 hx2 rfl (by omega) (.slice A6 m c6) m vs (by rfl) hR.out ⟨w5.heap.size, 0, none⟩ 1 1 [(.slice A5 l.length c5)] (by rfl) (by rfl) (World.news_of_block (cs := #[(.slice A5 l.length c5)]) (heap_alloc_new _ _)) (by simp [Value.oneCell']) (by omega) (by have : maxLen = 9223372036854775807 := rfl; omega) (by omega) (by simp; omega) _ rfl ?_
                intro g7 cap7 w7 hown7 hgr7 hat7 hlt7
                have hgB := hide (show Below W0.heap.size W0 w7 from L6.out.cr.below.trans (below_own hgr7 (fun j hj e => by have := (own_lt hR.out e.symm).1; omega) L6.out.cr.below.size))
                obtain ⟨⟨⟨s0, s1⟩, s2, s3⟩, hC7⟩ := L6.out.growRows rfl (by rw [← hmH.out]; exact hown7) hgr7
                have C7 := hide hC7
                have lT7 : T < w7.heap.size := by have := C7.out.blk.lt; simpa using this
                clear hown7 hgr7 hat7 hC7
                refine hK.out _ _ ?_ (fun hHeldN => ?_)
                · exact (kS.out _ hgB.out)
                clear hK K hHeld
                have hHeld := hHeldN
                clear hHeldN
                try simp only [Act.put, qa, qb, qc]
                refine wpAnyH_take (i := 13) (oi := { dst := some 30, op := Op.fieldAddr 37 (.tmp 3) 1, type := 0, pos := "l01_prog.go:120", after := #[⟨0, .phase⟩, ⟨1, .phase⟩, ⟨2, .phase⟩, ⟨3, .phase⟩, ⟨4, .phase⟩, ⟨5, .phase⟩, ⟨6, .phase⟩, ⟨7, .phase⟩, ⟨8, .phase⟩, ⟨9, .phase⟩, ⟨10, .phase⟩, ⟨11, .phase⟩, ⟨12, .phase⟩], guard := none }) (v := ?_) rfl (by kernel_rfl) (by kernel_rfl) (by kernel_rfl) (fun _ _ _ h => h) (Or.inl ⟨by rfl, ?_⟩) hHeld ?_
                rotate_left
                · (intro wq hSw; (try dsimp only at hSw); first | (go_simp; done) | (go_simp; with_reducible rfl))
                try simp only [Act.put, qa, qb, qc]
                refine wpAnyH_ready (rs := [14]) (by kernel_rfl) (by simp) ?_
                refine AllReadyH.cons (o := { dst := none, op := Op.store 35 (.tmp 30) (.tmp 29), type := 0, pos := "l01_prog.go:120", after := #[⟨13, .data⟩, ⟨12, .data⟩, ⟨12, .chain⟩, ⟨0, .phase⟩, ⟨1, .phase⟩, ⟨2, .phase⟩, ⟨3, .phase⟩, ⟨4, .phase⟩, ⟨5, .phase⟩, ⟨6, .phase⟩, ⟨7, .phase⟩, ⟨8, .phase⟩, ⟨9, .phase⟩, ⟨10, .phase⟩, ⟨11, .phase⟩, ⟨12, .phase⟩], guard := none }) rfl (fun K hK => ?_) (AllReadyH.nil)
                · go_simp
                  refine hK.out _ _ ?_ (fun hHeldN => ?_)
                  · exact (kS.out _ C7.out.below)
                  clear hK K hHeld
                  have hHeld := hHeldN
                  clear hHeldN
                  try simp only [Act.put, qa, qb, qc]
                  refine wpAnyH_done (by kernel_rfl) ?_ _
                  clear hHeld
                  go_wp2_with fail
                  go_roundw
                  case rel => exact ⟨k + 1, _, _, by omega, by go_num, hide (by rw [hstep.out]; exact C7.out)⟩
                  case measure => simp [intOf]; omega
      · go_simp
        refine hK.out _ _ ?_ (fun hHeldN => ?_)
        · exact (kS.out _ BA.out)
        clear hK K hHeld
        have hHeld := hHeldN
        clear hHeldN
        try simp only [Act.put, qa, qb, qc]
        refine wpAnyH_ready (rs := [1, 9]) (by kernel_rfl) (by simp) ?_
        refine AllReadyH.cons (o := { dst := some 18, op := Op.load 35 (.tmp 17), type := 35, pos := "l01_prog.go:120", after := #[⟨0, .data⟩], guard := none }) rfl (fun K hK => ?_) (AllReadyH.cons (o := { dst := some 26, op := Op.call { callee := Callee.builtin Builtin.append, args := #[.tmp 19, .tmp 25], argTypes := #[43, 43] }, type := 43, pos := "l01_prog.go:120", after := #[⟨2, .data⟩, ⟨8, .data⟩], guard := none }) rfl (fun K hK => ?_) (AllReadyH.nil))
        · go_simp
          refine hK.out _ _ ?_ (fun hHeldN => ?_)
          · exact hHeld
          clear hK K hHeld
          have hHeld := hHeldN
          clear hHeldN
          try simp only [Act.put, qa, qb, qc]
          refine wpAnyH_ready (rs := [9]) (by kernel_rfl) (by simp) ?_
          refine AllReadyH.cons (o := { dst := some 26, op := Op.call { callee := Callee.builtin Builtin.append, args := #[.tmp 19, .tmp 25], argTypes := #[43, 43] }, type := 43, pos := "l01_prog.go:120", after := #[⟨2, .data⟩, ⟨8, .data⟩], guard := none }) rfl (fun K hK => ?_) (AllReadyH.nil)
          · rw [if_pos (by rfl)]
            refine wp_append_src _ _ _ _ (by rfl) wr.heap.size 89 i0 _ 6 48 Try.underlying43 hi0.out hz0 hz1 hz2 rfl (by omega) (.slice (some ⟨wr.heap.size, 0, none⟩) 0 0) 0 [] (by rfl) hown0.out (Old wr.heap.size) A3 l.length c3 (flatZ l) (by rfl) (flatZ_len l) hI0.out (by have : maxLen = 9223372036854775807 := rfl; have := hl24.out; omega) (by have := hl24.out; omega) (by simp) ?_
            intro A5 c5 w5 hown5 hgr5 hat5
            simp only [Nat.zero_add, List.nil_append, flatZ_map] at hown5
            have hb5 := hide (show Below wr.heap.size wr w5 from B2.out.trans (below_own hgr5 (fun j hj => by simp [Value.ownBlock]; omega) (by simp)))
            have L5 := hide (C0.out.lat hb5.out hown5)
            have L6 := hide (L5.out.alloc (Obj.cells #[(.slice A5 l.length c5)] 45))
            have t8 : w5.cell? ⟨T, 1, none⟩ = some (.slice A6 m c6) := L5.out.cr.blk.cell 1
            have t9 : (w5.alloc (Obj.cells #[(.slice A5 l.length c5)] 45)).cell? ⟨T, 1, none⟩ = some (.slice A6 m c6) := L6.out.cr.blk.cell 1
            have hR := hide (show (w5.alloc (Obj.cells #[(.slice A5 l.length c5)] 45)).ownsRow (W0.heap.size + 1) 45 1 (.slice A6 m c6) m vs from by rw [hmH.out]; rw [hmH.out] at L6; exact L6.out.cr.own.rows)
            have hsz : W0.heap.size + 1 ≤ w5.heap.size := by have := L5.out.cr.blk.lt; have := L5.out.cr.lo; omega
            have lT5 := L5.out.cr.blk.lt
            clear hown5 hgr5 hat5
            refine hK.out _ _ ?_ (fun hHeldN => ?_)
            · exact (kS.out _ L5.out.cr.below)
            clear hK K hHeld
            have hHeld := hHeldN
            clear hHeldN
            try simp only [Act.put, qa, qb, qc]
            refine wpAnyH_take (i := 10) (oi := { dst := some 27, op := Op.build 45 #[(0, .tmp 26)], type := 45, pos := "l01_prog.go:120", after := #[⟨9, .data⟩], guard := none }) (v := ?_) rfl (by kernel_rfl) (by kernel_rfl) (by kernel_rfl) (fun _ _ _ h => h) (Or.inl ⟨by rfl, ?_⟩) hHeld ?_
            rotate_left
            · (intro wq hSw; (try dsimp only at hSw); first | (go_simp; done) | (go_simp; with_reducible rfl))
            try simp only [Act.put, qa, qb, qc]
            refine wpAnyH_ready (rs := [11]) (by kernel_rfl) (by simp) ?_
            refine AllReadyH.cons (o := { dst := some 28, op := Op.buildSlice 35 1 #[(0, .tmp 27)], type := 35, pos := "l01_prog.go:120", after := #[⟨10, .data⟩], guard := none }) rfl (fun K hK => ?_) (AllReadyH.nil)
            · go_simp
              refine hK.out _ _ ?_ (fun hHeldN => ?_)
              · exact (kS.out _ L6.out.cr.below)
              clear hK K hHeld
              have hHeld := hHeldN
              clear hHeldN
              try simp only [Act.put, qa, qb, qc]
              refine wpAnyH_ready (rs := [12]) (by kernel_rfl) (by simp) ?_
              refine AllReadyH.cons (o := { dst := some 29, op := Op.call { callee := Callee.builtin Builtin.append, args := #[.tmp 18, .tmp 28], argTypes := #[35, 35] }, type := 35, pos := "l01_prog.go:120", after := #[⟨1, .data⟩, ⟨11, .data⟩, ⟨9, .chain⟩], guard := none }) rfl (fun K hK => ?_) (AllReadyH.nil)
              · rw [if_pos (by rfl)]
                refine wp_append_lies _ _ _ _ (by rfl) (W0.heap.size + 1) 45 i2 _ 1 24 Try.underlying35 hi2.out hx0 hx1 hx2 rfl (by omega) (.slice A6 m c6) m vs (by rfl) hR.out ⟨w5.heap.size, 0, none⟩ 1 1 [(.slice A5 l.length c5)] (by rfl) (by rfl) (World.news_of_block (cs := #[(.slice A5 l.length c5)]) (heap_alloc_new _ _)) (by simp [Value.oneCell']) (by omega) (by have : maxLen = 9223372036854775807 := rfl; omega) (by omega) (by simp; omega) _ rfl ?_
                intro g7 cap7 w7 hown7 hgr7 hat7 hlt7
                have hgB := hide (show Below W0.heap.size W0 w7 from L6.out.cr.below.trans (below_own hgr7 (fun j hj e => by have := (own_lt hR.out e.symm).1; omega) L6.out.cr.below.size))
                obtain ⟨⟨⟨s0, s1⟩, s2, s3⟩, hC7⟩ := L6.out.growRows rfl (by rw [← hmH.out]; exact hown7) hgr7
                have C7 := hide hC7
                have lT7 : T < w7.heap.size := by have := C7.out.blk.lt; simpa using this
                clear hown7 hgr7 hat7 hC7
                refine hK.out _ _ ?_ (fun hHeldN => ?_)
                · exact (kS.out _ hgB.out)
                clear hK K hHeld
                have hHeld := hHeldN
                clear hHeldN
                try simp only [Act.put, qa, qb, qc]
                refine wpAnyH_take (i := 13) (oi := { dst := some 30, op := Op.fieldAddr 37 (.tmp 3) 1, type := 0, pos := "l01_prog.go:120", after := #[⟨0, .phase⟩, ⟨1, .phase⟩, ⟨2, .phase⟩, ⟨3, .phase⟩, ⟨4, .phase⟩, ⟨5, .phase⟩, ⟨6, .phase⟩, ⟨7, .phase⟩, ⟨8, .phase⟩, ⟨9, .phase⟩, ⟨10, .phase⟩, ⟨11, .phase⟩, ⟨12, .phase⟩], guard := none }) (v := ?_) rfl (by kernel_rfl) (by kernel_rfl) (by kernel_rfl) (fun _ _ _ h => h) (Or.inl ⟨by rfl, ?_⟩) hHeld ?_
                rotate_left
                · (intro wq hSw; (try dsimp only at hSw); first | (go_simp; done) | (go_simp; with_reducible rfl))
                try simp only [Act.put, qa, qb, qc]
                refine wpAnyH_ready (rs := [14]) (by kernel_rfl) (by simp) ?_
                refine AllReadyH.cons (o := { dst := none, op := Op.store 35 (.tmp 30) (.tmp 29), type := 0, pos := "l01_prog.go:120", after := #[⟨13, .data⟩, ⟨12, .data⟩, ⟨12, .chain⟩, ⟨0, .phase⟩, ⟨1, .phase⟩, ⟨2, .phase⟩, ⟨3, .phase⟩, ⟨4, .phase⟩, ⟨5, .phase⟩, ⟨6, .phase⟩, ⟨7, .phase⟩, ⟨8, .phase⟩, ⟨9, .phase⟩, ⟨10, .phase⟩, ⟨11, .phase⟩, ⟨12, .phase⟩], guard := none }) rfl (fun K hK => ?_) (AllReadyH.nil)
                · go_simp
                  refine hK.out _ _ ?_ (fun hHeldN => ?_)
                  · exact (kS.out _ C7.out.below)
                  clear hK K hHeld
                  have hHeld := hHeldN
                  clear hHeldN
                  try simp only [Act.put, qa, qb, qc]
                  refine wpAnyH_done (by kernel_rfl) ?_ _
                  clear hHeld
                  go_wp2_with fail
                  go_roundw
                  case rel => exact ⟨k + 1, _, _, by omega, by go_num, hide (by rw [hstep.out]; exact C7.out)⟩
                  case measure => simp [intOf]; omega
        · rw [if_pos (by rfl)]
          refine wp_append_src _ _ _ _ (by rfl) wr.heap.size 89 i0 _ 6 48 Try.underlying43 hi0.out hz0 hz1 hz2 rfl (by omega) (.slice (some ⟨wr.heap.size, 0, none⟩) 0 0) 0 [] (by rfl) hown0.out (Old wr.heap.size) A3 l.length c3 (flatZ l) (by rfl) (flatZ_len l) hI0.out (by have : maxLen = 9223372036854775807 := rfl; have := hl24.out; omega) (by have := hl24.out; omega) (by simp) ?_
          intro A5 c5 w5 hown5 hgr5 hat5
          simp only [Nat.zero_add, List.nil_append, flatZ_map] at hown5
          have hb5 := hide (show Below wr.heap.size wr w5 from B2.out.trans (below_own hgr5 (fun j hj => by simp [Value.ownBlock]; omega) (by simp)))
          have L5 := hide (C0.out.lat hb5.out hown5)
          have L6 := hide (L5.out.alloc (Obj.cells #[(.slice A5 l.length c5)] 45))
          have t8 : w5.cell? ⟨T, 1, none⟩ = some (.slice A6 m c6) := L5.out.cr.blk.cell 1
          have t9 : (w5.alloc (Obj.cells #[(.slice A5 l.length c5)] 45)).cell? ⟨T, 1, none⟩ = some (.slice A6 m c6) := L6.out.cr.blk.cell 1
          have hR := hide (show (w5.alloc (Obj.cells #[(.slice A5 l.length c5)] 45)).ownsRow (W0.heap.size + 1) 45 1 (.slice A6 m c6) m vs from by rw [hmH.out]; rw [hmH.out] at L6; exact L6.out.cr.own.rows)
          have hsz : W0.heap.size + 1 ≤ w5.heap.size := by have := L5.out.cr.blk.lt; have := L5.out.cr.lo; omega
          have lT5 := L5.out.cr.blk.lt
          clear hown5 hgr5 hat5
          refine hK.out _ _ ?_ (fun hHeldN => ?_)
          · exact (kS.out _ L5.out.cr.below)
          clear hK K hHeld
          have hHeld := hHeldN
          clear hHeldN
          try simp only [Act.put, qa, qb, qc]
          refine wpAnyH_take (i := 10) (oi := { dst := some 27, op := Op.build 45 #[(0, .tmp 26)], type := 45, pos := "l01_prog.go:120", after := #[⟨9, .data⟩], guard := none }) (v := ?_) rfl (by kernel_rfl) (by kernel_rfl) (by kernel_rfl) (fun _ _ _ h => h) (Or.inl ⟨by rfl, ?_⟩) hHeld ?_
          rotate_left
          · (intro wq hSw; (try dsimp only at hSw); first | (go_simp; done) | (go_simp; with_reducible rfl))
          try simp only [Act.put, qa, qb, qc]
          refine wpAnyH_ready (rs := [1, 11]) (by kernel_rfl) (by simp) ?_
          refine AllReadyH.cons (o := { dst := some 18, op := Op.load 35 (.tmp 17), type := 35, pos := "l01_prog.go:120", after := #[⟨0, .data⟩], guard := none }) rfl (fun K hK => ?_) (AllReadyH.cons (o := { dst := some 28, op := Op.buildSlice 35 1 #[(0, .tmp 27)], type := 35, pos := "l01_prog.go:120", after := #[⟨10, .data⟩], guard := none }) rfl (fun K hK => ?_) (AllReadyH.nil))
          · go_simp
            refine hK.out _ _ ?_ (fun hHeldN => ?_)
            · exact hHeld
            clear hK K hHeld
            have hHeld := hHeldN
            clear hHeldN
            try simp only [Act.put, qa, qb, qc]
            refine wpAnyH_ready (rs := [11]) (by kernel_rfl) (by simp) ?_
            refine AllReadyH.cons (o := { dst := some 28, op := Op.buildSlice 35 1 #[(0, .tmp 27)], type := 35, pos := "l01_prog.go:120", after := #[⟨10, .data⟩], guard := none }) rfl (fun K hK => ?_) (AllReadyH.nil)
            · go_simp
              refine hK.out _ _ ?_ (fun hHeldN => ?_)
              · exact (kS.out _ L6.out.cr.below)
              clear hK K hHeld
              have hHeld := hHeldN
              clear hHeldN
              try simp only [Act.put, qa, qb, qc]
              refine wpAnyH_ready (rs := [12]) (by kernel_rfl) (by simp) ?_
              refine AllReadyH.cons (o := { dst := some 29, op := Op.call { callee := Callee.builtin Builtin.append, args := #[.tmp 18, .tmp 28], argTypes := #[35, 35] }, type := 35, pos := "l01_prog.go:120", after := #[⟨1, .data⟩, ⟨11, .data⟩, ⟨9, .chain⟩], guard := none }) rfl (fun K hK => ?_) (AllReadyH.nil)
              · rw [if_pos (by rfl)]
                refine wp_append_lies _ _ _ _ (by rfl) (W0.heap.size + 1) 45 i2 _ 1 24 Try.underlying35 hi2.out hx0 hx1 hx2 rfl (by omega) (.slice A6 m c6) m vs (by rfl) hR.out ⟨w5.heap.size, 0, none⟩ 1 1 [(.slice A5 l.length c5)] (by rfl) (by rfl) (World.news_of_block (cs := #[(.slice A5 l.length c5)]) (heap_alloc_new _ _)) (by simp [Value.oneCell']) (by omega) (by have : maxLen = 9223372036854775807 := rfl; omega) (by omega) (by simp; omega) _ rfl ?_
                intro g7 cap7 w7 hown7 hgr7 hat7 hlt7
                have hgB := hide (show Below W0.heap.size W0 w7 from L6.out.cr.below.trans (below_own hgr7 (fun j hj e => by have := (own_lt hR.out e.symm).1; omega) L6.out.cr.below.size))
                obtain ⟨⟨⟨s0, s1⟩, s2, s3⟩, hC7⟩ := L6.out.growRows rfl (by rw [← hmH.out]; exact hown7) hgr7
                have C7 := hide hC7
                have lT7 : T < w7.heap.size := by have := C7.out.blk.lt; simpa using this
                clear hown7 hgr7 hat7 hC7
                refine hK.out _ _ ?_ (fun hHeldN => ?_)
                · exact (kS.out _ hgB.out)
                clear hK K hHeld
                have hHeld := hHeldN
                clear hHeldN
                try simp only [Act.put, qa, qb, qc]
                refine wpAnyH_take (i := 13) (oi := { dst := some 30, op := Op.fieldAddr 37 (.tmp 3) 1, type := 0, pos := "l01_prog.go:120", after := #[⟨0, .phase⟩, ⟨1, .phase⟩, ⟨2, .phase⟩, ⟨3, .phase⟩, ⟨4, .phase⟩, ⟨5, .phase⟩, ⟨6, .phase⟩, ⟨7, .phase⟩, ⟨8, .phase⟩, ⟨9, .phase⟩, ⟨10, .phase⟩, ⟨11, .phase⟩, ⟨12, .phase⟩], guard := none }) (v := ?_) rfl (by kernel_rfl) (by kernel_rfl) (by kernel_rfl) (fun _ _ _ h => h) (Or.inl ⟨by rfl, ?_⟩) hHeld ?_
                rotate_left
                · (intro wq hSw; (try dsimp only at hSw); first | (go_simp; done) | (go_simp; with_reducible rfl))
                try simp only [Act.put, qa, qb, qc]
                refine wpAnyH_ready (rs := [14]) (by kernel_rfl) (by simp) ?_
                refine AllReadyH.cons (o := { dst := none, op := Op.store 35 (.tmp 30) (.tmp 29), type := 0, pos := "l01_prog.go:120", after := #[⟨13, .data⟩, ⟨12, .data⟩, ⟨12, .chain⟩, ⟨0, .phase⟩, ⟨1, .phase⟩, ⟨2, .phase⟩, ⟨3, .phase⟩, ⟨4, .phase⟩, ⟨5, .phase⟩, ⟨6, .phase⟩, ⟨7, .phase⟩, ⟨8, .phase⟩, ⟨9, .phase⟩, ⟨10, .phase⟩, ⟨11, .phase⟩, ⟨12, .phase⟩], guard := none }) rfl (fun K hK => ?_) (AllReadyH.nil)
                · go_simp
                  refine hK.out _ _ ?_ (fun hHeldN => ?_)
                  · exact (kS.out _ C7.out.below)
                  clear hK K hHeld
                  have hHeld := hHeldN
                  clear hHeldN
                  try simp only [Act.put, qa, qb, qc]
                  refine wpAnyH_done (by kernel_rfl) ?_ _
                  clear hHeld
                  go_wp2_with fail
                  go_roundw
                  case rel => exact ⟨k + 1, _, _, by omega, by go_num, hide (by rw [hstep.out]; exact C7.out)⟩
                  case measure => simp [intOf]; omega
          · go_simp
            refine hK.out _ _ ?_ (fun hHeldN => ?_)
            · exact (kS.out _ L6.out.cr.below)
            clear hK K hHeld
            have hHeld := hHeldN
            clear hHeldN
            try simp only [Act.put, qa, qb, qc]
            refine wpAnyH_ready (rs := [1]) (by kernel_rfl) (by simp) ?_
            refine AllReadyH.cons (o := { dst := some 18, op := Op.load 35 (.tmp 17), type := 35, pos := "l01_prog.go:120", after := #[⟨0, .data⟩], guard := none }) rfl (fun K hK => ?_) (AllReadyH.nil)
            · go_simp
              refine hK.out _ _ ?_ (fun hHeldN => ?_)
              · exact hHeld
              clear hK K hHeld
              have hHeld := hHeldN
              clear hHeldN
              try simp only [Act.put, qa, qb, qc]
              refine wpAnyH_ready (rs := [12]) (by kernel_rfl) (by simp) ?_
              refine AllReadyH.cons (o := { dst := some 29, op := Op.call { callee := Callee.builtin Builtin.append, args := #[.tmp 18, .tmp 28], argTypes := #[35, 35] }, type := 35, pos := "l01_prog.go:120", after := #[⟨1, .data⟩, ⟨11, .data⟩, ⟨9, .chain⟩], guard := none }) rfl (fun K hK => ?_) (AllReadyH.nil)
              · rw [if_pos (by rfl)]
                refine wp_append_lies _ _ _ _ (by rfl) (W0.heap.size + 1) 45 i2 _ 1 24 Try.underlying35 hi2.out hx0 hx1 hx2 rfl (by omega) (.slice A6 m c6) m vs (by rfl) hR.out ⟨w5.heap.size, 0, none⟩ 1 1 [(.slice A5 l.length c5)] (by rfl) (by rfl) (World.news_of_block (cs := #[(.slice A5 l.length c5)]) (heap_alloc_new _ _)) (by simp [Value.oneCell']) (by omega) (by have : maxLen = 9223372036854775807 := rfl; omega) (by omega) (by simp; omega) _ rfl ?_
                intro g7 cap7 w7 hown7 hgr7 hat7 hlt7
                have hgB := hide (show Below W0.heap.size W0 w7 from L6.out.cr.below.trans (below_own hgr7 (fun j hj e => by have := (own_lt hR.out e.symm).1; omega) L6.out.cr.below.size))
                obtain ⟨⟨⟨s0, s1⟩, s2, s3⟩, hC7⟩ := L6.out.growRows rfl (by rw [← hmH.out]; exact hown7) hgr7
                have C7 := hide hC7
                have lT7 : T < w7.heap.size := by have := C7.out.blk.lt; simpa using this
                clear hown7 hgr7 hat7 hC7
                refine hK.out _ _ ?_ (fun hHeldN => ?_)
                · exact (kS.out _ hgB.out)
                clear hK K hHeld
                have hHeld := hHeldN
                clear hHeldN
                try simp only [Act.put, qa, qb, qc]
                refine wpAnyH_take (i := 13) (oi := { dst := some 30, op := Op.fieldAddr 37 (.tmp 3) 1, type := 0, pos := "l01_prog.go:120", after := #[⟨0, .phase⟩, ⟨1, .phase⟩, ⟨2, .phase⟩, ⟨3, .phase⟩, ⟨4, .phase⟩, ⟨5, .phase⟩, ⟨6, .phase⟩, ⟨7, .phase⟩, ⟨8, .phase⟩, ⟨9, .phase⟩, ⟨10, .phase⟩, ⟨11, .phase⟩, ⟨12, .phase⟩], guard := none }) (v := ?_) rfl (by kernel_rfl) (by kernel_rfl) (by kernel_rfl) (fun _ _ _ h => h) (Or.inl ⟨by rfl, ?_⟩) hHeld ?_
                rotate_left
                · (intro wq hSw; (try dsimp only at hSw); first | (go_simp; done) | (go_simp; with_reducible rfl))
                try simp only [Act.put, qa, qb, qc]
                refine wpAnyH_ready (rs := [14]) (by kernel_rfl) (by simp) ?_
                refine AllReadyH.cons (o := { dst := none, op := Op.store 35 (.tmp 30) (.tmp 29), type := 0, pos := "l01_prog.go:120", after := #[⟨13, .data⟩, ⟨12, .data⟩, ⟨12, .chain⟩, ⟨0, .phase⟩, ⟨1, .phase⟩, ⟨2, .phase⟩, ⟨3, .phase⟩, ⟨4, .phase⟩, ⟨5, .phase⟩, ⟨6, .phase⟩, ⟨7, .phase⟩, ⟨8, .phase⟩, ⟨9, .phase⟩, ⟨10, .phase⟩, ⟨11, .phase⟩, ⟨12, .phase⟩], guard := none }) rfl (fun K hK => ?_) (AllReadyH.nil)
                · go_simp
                  refine hK.out _ _ ?_ (fun hHeldN => ?_)
                  · exact (kS.out _ C7.out.below)
                  clear hK K hHeld
                  have hHeld := hHeldN
                  clear hHeldN
                  try simp only [Act.put, qa, qb, qc]
                  refine wpAnyH_done (by kernel_rfl) ?_ _
                  clear hHeld
                  go_wp2_with fail
                  go_roundw
                  case rel => exact ⟨k + 1, _, _, by omega, by go_num, hide (by rw [hstep.out]; exact C7.out)⟩
                  case measure => simp [intOf]; omega
    · obtain rfl : k = p.ts.length := by omega
      have hlt' : decide ((p.ts.length : Int) < (p.ts.length : Int)) = false := decide_eq_false (by omega)
      rw [List.take_length] at C0
      obtain ⟨A9, c9, rfl, -⟩ := own_form C0.out.own.rows
      obtain ⟨⟨t0, t1⟩, t2, t3⟩ := C0.out.cells
      have lT := C0.out.blk.lt
      obtain ⟨u, u', hR⟩ := C0.out.out
      obtain ⟨r0, r1⟩ := (show wr.cell? ⟨W0.heap.size, 0, none⟩ = some u ∧ wr.cell? ⟨W0.heap.size, 1, none⟩ = some u' from ⟨hR.cell 0, hR.cell 1⟩)
      obtain ⟨r2, r3⟩ := (show wr.frozen? ⟨W0.heap.size, 0, none⟩ = false ∧ wr.frozen? ⟨W0.heap.size, 1, none⟩ = false from ⟨hR.frozen 0, hR.frozen 1⟩)
      have lR := hR.lt
      have hTR := hide (show W0.heap.size ≠ T from by have := C0.out.lo; omega)
      clear hR
      go_wp2_with fail
      refine bodyPost_ret (v := .agg #[.slice A1 p.init.length c1, .slice A9 p.ts.length c9]) (by simp [results, Try.results81, go_sem, r0, r1]; done) rfl ?_
      refine ⟨_, _, vs, rfl, ?_, B00.out.trans (((C0.out.below.setCell (p := ⟨W0.heap.size, 0, none⟩) (Nat.le_refl _) _).setCell (p := ⟨W0.heap.size, 1, none⟩) (Nat.le_refl _) _).mono B00.out.size)⟩
      have h1 := C0.out.own.keep (w1 := (wr.setCell ⟨W0.heap.size, 0, none⟩ (.slice A1 p.init.length c1)).setCell ⟨W0.heap.size, 1, none⟩ (.slice A9 p.ts.length c9)) (fun b hb _ => (Below.heap_setCell _ _ _ b (by show b ≠ W0.heap.size; omega)).trans (Below.heap_setCell _ _ _ b (by show b ≠ W0.heap.size; omega)))
      have hle := B00.out.size
      exact ⟨own_base h1.ints (by omega), own_base h1.rows (by omega), fun j hj => own_base (h1.thr j hj) (by omega), h1.apart⟩
end Go.Proofs.Ytjendjbbhohjcaa
