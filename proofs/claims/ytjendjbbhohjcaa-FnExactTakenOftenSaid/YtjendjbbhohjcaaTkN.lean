/- The model's l8got and Taken. -/
import Derived.Test.YtjendjbbhohjcaaTkT
import Derived.Deep.RegionHeld3
namespace Go.Proofs.Ytjendjbbhohjcaa
open Go.RowKit

set_option maxRecDepth 100000 in
set_option maxHeartbeats 6400000 in
theorem sgot_any (A : Option Addr) (rs : List Int) (c n : Nat) (S : Nat → Prop) (w : World) (hz : rs.length = n) (hS : ∀ b, S b → b < w.heap.size) (ha : IntsAt w S A rs) (hn : n ≤ 1048576) :
    Calls Try.prog 75 #[.agg #[.slice A n c]] w fun e w' => ∃ A' c', e = .returned (.slice A' (gotTo rs n).length c') ∧ w'.ownsRow w.heap.size 3 1 (.slice A' (gotTo rs n).length c') (gotTo rs n).length ((gotTo rs n).map (Value.int .i64)) ∧ Below w.heap.size w w' := by
  obtain ⟨i1, hi1, hy0, hy1, hy2⟩ := info_parts Try.infoInt
  replace hi1 := hide hi1
  obtain ⟨W, hW⟩ : ∃ x, x = w.alloc (Obj.cells #[.slice A n c] 25) := ⟨_, rfl⟩
  have hbW : Below w.heap.size w W := by rw [hW]; exact below1 _ _
  have X := hide (show Blk W w.heap.size 25 #[.slice A n c] from by rw [hW]; exact Blk.new _ _ _)
  have Z := hide ((ha.below hbW hS).more (S' := Old W.heap.size) (fun b h => Nat.lt_of_lt_of_le (hS b h) hbW.size))
  have BW := hide hbW
  replace hz := hide hz
  clear hbW ha hS
  go_enter Try.func75, Try.ntmps75
  go_upto_region 1 with fail
  rw [← hW]
  clear hW
  go_wp2_with fail
  go_loopw [3, 4] (fun t i wr => ∃ (k m : Nat) (A' : Option Addr) (c' : Nat), k ≤ n ∧ i = .int .i64 k ∧ t = .slice A' m c' ∧ Hid (m = (gotTo rs k).length) ∧ Hid (Grow W A' c' (gotTo rs k) wr)) (fun _ i _ => n - (intOf i).toNat)
  case atStart => exact ⟨0, 0, none, 0, Nat.zero_le _, rfl, rfl, hide rfl, hide (Grow.nil W)⟩
  case round =>
    obtain ⟨k, m, A1, c1, hk, rfl, rfl, hm, G0⟩ := hrel
    have X0 := X.out.below G0.out.low X.out.lt
    have x0 := X0.cell 0
    have lx := X0.lt
    simp only [List.getElem?_toArray, List.getElem?_cons_zero] at x0
    clear X0
    by_cases hlt : k < n
    · obtain ⟨b, off, rfl, hbS, hc⟩ := (Z.out.below G0.out.low (fun _ h => h)).2 (by rw [hz.out]; omega)
      have hcell := hc k (by rw [hz.out]; exact hlt)
      have hst := hide (show gotTo rs (k + 1) = if getsB rs k then gotTo rs k ++ [geti rs k] else gotTo rs k from rfl)
      have hgb := hide (show getsB rs k = (decide (k % 6 < 2) && (geti rs k != 0)) from rfl)
      obtain ⟨z, hzz⟩ : ∃ z, z = geti rs k := ⟨_, rfl⟩
      rw [← hzz] at hcell hst hgb
      have hlt' : decide ((k : Int) < (n : Int)) = true := decide_eq_true (by omega)
      have hkn : k < n := hlt
      have hbl := Nat.lt_of_lt_of_le hbS G0.out.low.size
      clear hc hzz
      by_cases hq : k % 6 < 2
      · have hq1 : decide ((k : Int) % 6 < 2) = true := decide_eq_true (by omega)
        have hq2 : decide (k % 6 < 2) = true := decide_eq_true hq
        cases hzb : (z != 0)
        · have hst1 := hide (show gotTo rs (k + 1) = gotTo rs k from by rw [hst.out, hgb.out, hzb, hq2]; rfl)
          clear hst hgb
          go_wp2_with fail
          go_roundw
          case rel => exact ⟨k + 1, m, _, _, by omega, by go_num, rfl, hide (by rw [hst1.out]; exact hm.out), hide (by rw [hst1.out]; exact G0.out)⟩
          case measure => simp [intOf]; omega
        · have hst1 := hide (show gotTo rs (k + 1) = gotTo rs k ++ [z] from by rw [hst.out, hgb.out, hzb, hq2]; rfl)
          have hmk : m ≤ k := by have := gotTo_len rs k; have := hm.out; omega
          have hR := hide (show (wr.alloc (Obj.cells #[.int .i64 z] 3)).ownsRow W.heap.size 3 1 (.slice A1 m c1) m ((gotTo rs k).map (Value.int .i64)) from by rw [hm.out]; exact G0.out.alloc_own _)
          have hsz := G0.out.low.size
          clear hst hgb
          go_wp2_with (at_builtin; refine wpList_append_lies _ rfl _ _ _ rfl W.heap.size 3 i1 _ 1 8 Try.underlying23 hi1.out hy0 hy1 hy2 rfl (by omega) (.slice A1 m c1) m ((gotTo rs k).map (Value.int .i64)) rfl hR.out ⟨wr.heap.size, 0, none⟩ 1 1 [.int .i64 z] rfl rfl (World.news_of_block (cs := #[.int .i64 z]) (t := 3) (fr := (0, 0)) (heap_alloc_new _ _)) (by simp [Value.oneCell']) (by omega) (by have : maxLen = 9223372036854775807 := rfl; omega) (by omega) (by simp; omega) _ rfl ?_)
          intro g5 cap5 w5 hown5 hgr5 hat5 hlt5
          have G5 := hide (G0.out.more (x := z) (by rw [← hm.out]; exact hown5) (by rw [← hm.out]; exact hgr5))
          have hm1 := hide (show m + 1 = (gotTo rs (k + 1)).length from by rw [hst1.out, List.length_append, List.length_singleton, hm.out])
          clear hown5 hgr5 hat5 hlt5 hR hsz G0 hm
          go_wp2_with fail
          go_roundw
          case rel => exact ⟨k + 1, m + 1, _, _, by omega, by go_num, rfl, hm1, hide (by rw [hst1.out]; exact G5.out)⟩
          case measure => simp [intOf]; omega
      · have hq1 : decide ((k : Int) % 6 < 2) = false := decide_eq_false (by omega)
        have hq2 : decide (k % 6 < 2) = false := decide_eq_false hq
        have hst1 := hide (show gotTo rs (k + 1) = gotTo rs k from by rw [hst.out, hgb.out, hq2]; rfl)
        clear hst hgb
        go_wp2_with fail
        go_roundw
        case rel => exact ⟨k + 1, m, _, _, by omega, by go_num, rfl, hide (by rw [hst1.out]; exact hm.out), hide (by rw [hst1.out]; exact G0.out)⟩
        case measure => simp [intOf]; omega
    · obtain rfl : k = n := by omega
      have hlt' : decide ((k : Int) < (k : Int)) = false := decide_eq_false (by omega)
      have B1 := hide (BW.out.trans (G0.out.low.mono BW.out.size))
      have hWw := hide BW.out.size
      go_wp2_with fail
      go_ret
      have hO := G0.out.own
      rw [← hm.out] at hO ⊢
      exact ⟨A1, c1, rfl, own_base hO hWw.out, B1.out⟩

/-- What Taken's walk carries: what is got, what has been put in. -/
structure TkW (W : World) (l o : List Int) (A4 A3 : Option Addr) (c4 c3 m p : Nat) (w : World) : Prop where
  got : w.ownsRow W.heap.size 3 1 (.slice A4 m c4) m (l.map (Value.int .i64))
  out : w.ownsRow W.heap.size 3 1 (.slice A3 p c3) p (o.map (Value.int .i64))
  low : Below W.heap.size W w
section
variable {W w w' : World} {l o : List Int} {A4 A3 A A' : Option Addr} {c4 c3 m p c c' a : Nat} {zs ys : List Int}
theorem TkW.next (h : TkW W l o A4 A3 c4 c3 m p w) (hb : Below w.heap.size w w') : TkW W l o A4 A3 c4 c3 m p w' :=
  ⟨kept h.got (fun k hk _ => hb.block k hk), kept h.out (fun k hk _ => hb.block k hk), h.low.trans (hb.mono h.low.size)⟩
theorem TkW.drew (h : TkW W l o A4 A3 c4 c3 m p w) : TkW W l o A4 A3 c4 c3 m p w.drew := h.next (Below.refl _ _).drew
/-- A row that was built since w takes the other's place. -/
theorem TkW.put (h : TkW W l o A4 A3 c4 c3 m p w) (hg : Grow w A c zs w') : TkW W l zs A4 A c4 c m zs.length w' :=
  ⟨kept h.got (fun k hk _ => hg.low.block k hk), own_base hg.own h.low.size, h.low.trans (hg.low.mono h.low.size)⟩
theorem Grow.same {n : Nat} (h : Grow W A c zs w) (hn : zs.length = n) (hown : w'.ownsRow W.heap.size 3 1 (.slice A' n c') n (zs.map (Value.int .i64))) (hg : w.grownBy w' (Value.slice A n c).ownBlock) : Grow W A' c' zs w' := by
  subst hn
  exact ⟨hown, h.low.trans (below_own hg (fun k hk e => by have := (own_at h.own e.symm).1; omega) h.low.size)⟩
theorem Grow.first {q k : Nat} (h : Grow W (some ⟨q, 0, none⟩) 0 [] w) (_hk : ys.length = k) (hown : w'.ownsRow W.heap.size 3 1 (.slice A' k c') k (ys.map (Value.int .i64))) (hg : w.grownBy w' (Value.slice (some ⟨q, 0, none⟩) 0 0).ownBlock) : Grow W A' c' ys w' := by
  subst _hk
  exact ⟨hown, h.low.trans (below_own hg (fun k hk e => by have := (own_at h.own e.symm).1; omega) h.low.size)⟩
theorem Grow.moreS {n k : Nat} (h : Grow W A c zs w) (hn : zs.length = n) (hk : ys.length = k) (hown : w'.ownsRow W.heap.size 3 1 (.slice A' (n + k) c') (n + k) (zs.map (Value.int .i64) ++ ys.map (Value.int .i64))) (hg : w.grownBy w' (Value.slice A n c).ownBlock) : Grow W A' c' (zs ++ ys) w' := by
  subst hn; subst hk
  refine ⟨by simpa using hown, h.low.trans (below_own hg (fun k hk e => ?_) h.low.size)⟩
  have := (own_at h.own e.symm).1
  omega
theorem IntsAt.take {S : Nat → Prop} (h : IntsAt w S A zs) (k : Nat) : IntsAt w S A (zs.take k) := by
  refine ⟨by rw [List.length_take]; have := h.1; omega, fun hp => ?_⟩
  rw [List.length_take] at hp
  obtain ⟨b, off, e, hb, hc⟩ := h.2 (by omega)
  refine ⟨b, off, e, hb, fun j hj => ?_⟩
  rw [List.length_take] at hj
  rw [hc j (by omega)]
  simp only [geti, List.getD_eq_getElem?_getD]
  rw [List.getElem?_take, if_pos (by omega)]
theorem IntsAt.dropZ {S : Nat → Prop} {q : Nat} (h : IntsAt w S (some ⟨q, 0, none⟩) zs) (hk : a < zs.length) : IntsAt w S (some ⟨q, a, none⟩) (zs.drop a) := by
  refine ⟨by rw [List.length_drop]; have := h.1; omega, fun _ => ?_⟩
  obtain ⟨b, off, e, hb, hc⟩ := h.2 (by omega)
  cases e
  refine ⟨q, a, rfl, hb, fun j hj => ?_⟩
  rw [List.length_drop] at hj
  have h1 := hc (a + j) (by omega)
  rw [Nat.zero_add] at h1
  rw [h1]
  simp only [geti, List.getD_eq_getElem?_getD]
  rw [List.getElem?_drop]
theorem TkW.cast {p' : Nat} (h : TkW W l o A4 A3 c4 c3 m p w) (e : p = p') : TkW W l o A4 A3 c4 c3 m p' w := by subst e; exact h
theorem IntsAt.none_nil {S : Nat → Prop} (A : Option Addr) : IntsAt w S A [] := ⟨by simp, fun h => by simp at h⟩
end
set_option maxRecDepth 100000 in
set_option maxHeartbeats 25600000 in
theorem staken_any (A : Option Addr) (rs : List Int) (c n : Nat) (S : Nat → Prop) (w : World) (hz : rs.length = n) (hS : ∀ b, S b → b < w.heap.size) (ha : IntsAt w S A rs) (hn : n ≤ 1048576) :
    Calls Try.prog 29 #[.agg #[.slice A n c]] w fun e w' => ∃ A' c', e = .returned (.slice A' (uniqI (gotTo rs n)).length c') ∧ w'.ownsRow w.heap.size 3 1 (.slice A' (uniqI (gotTo rs n)).length c') (uniqI (gotTo rs n)).length ((uniqI (gotTo rs n)).map (Value.int .i64)) ∧ Below w.heap.size w w' := by
  obtain ⟨i1, hi1, hy0, hy1, hy2⟩ := info_parts Try.infoInt
  replace hi1 := hide hi1
  obtain ⟨W, hW⟩ : ∃ x, x = w.alloc (Obj.cells #[.slice A n c] 25) := ⟨_, rfl⟩
  have hbW : Below w.heap.size w W := by rw [hW]; exact below1 _ _
  have X := hide (show Blk W w.heap.size 25 #[.slice A n c] from by rw [hW]; exact Blk.new _ _ _)
  have kG := sgot_any A rs c n (Old W.heap.size) W hz (fun _ h => h) ((ha.below hbW hS).more (fun b h => Nat.lt_of_lt_of_le (hS b h) hbW.size)) hn
  have BW := hide hbW
  have hgl := gotTo_len rs n
  rw [← takenTo_all]
  obtain ⟨l, hll⟩ : ∃ l, l = gotTo rs n := ⟨_, rfl⟩
  rw [← hll] at kG hgl ⊢
  obtain ⟨m, hm⟩ : ∃ m, m = l.length := ⟨_, rfl⟩
  have hm2 : m ≤ 1048576 := by omega
  rw [← hm] at kG
  replace hl := hide hm.symm
  replace kG := hide kG
  rw [← hm]
  clear hbW ha hS hz hgl hll hm
  go_enter Try.func29, Try.ntmps29
  go_upto_region 1 with fail
  rw [← hW]
  clear hW
  have x0 := X.out.cell 0
  have lx := X.out.lt
  simp only [List.getElem?_toArray, List.getElem?_cons_zero] at x0
  go_wp2_with fail
  clear x0 lx
  refine kG.out.mono ?_
  rintro e w1 ⟨A4, c4, rfl, ho1, hb1⟩
  have D1 := hide (show TkW W l (takenTo l 0) A4 none c4 0 m 0 w1 from ⟨ho1, ⟨rfl, .inl ⟨rfl, rfl⟩⟩, hb1⟩)
  clear ho1 hb1 kG X
  go_wp2_with fail
  go_loopw [3, 5] (fun t i wr => ∃ (k p : Nat) (A3 : Option Addr) (c3 : Nat), k ≤ m ∧ i = .int .i64 k ∧ t = .slice A3 p c3 ∧ Hid ((takenTo l k).length = p) ∧ Hid (TkW W l (takenTo l k) A4 A3 c4 c3 m p wr)) (fun _ i _ => m - (intOf i).toNat)
  case atStart => exact ⟨0, 0, none, 0, Nat.zero_le _, rfl, rfl, hide rfl, D1⟩
  case round =>
    clear D1
    obtain ⟨i, p, A3, c3, hk, rfl, rfl, hp, D0⟩ := hrel
    by_cases hlt : i < m
    · obtain ⟨o, ho⟩ : ∃ o, o = takenTo l i := ⟨_, rfl⟩
      obtain ⟨x, hx⟩ : ∃ x, x = geti l i := ⟨_, rfl⟩
      have hstep := hide (show takenTo l (i + 1) = insU x o from by rw [ho, hx]; rfl)
      have hpi : p ≤ i := by have := takenTo_len l i; have := hp.out; omega
      rw [← ho] at hp D0
      replace hx := hide hx
      clear ho
      have hlt' : decide ((i : Int) < (m : Int)) = true := decide_eq_true (by omega)
      have him : i < m := hlt
      go_wp2_with fail
      rename_i wr0
      go_loopw [6] (fun t wr => ∃ (a : Nat), a ≤ p ∧ t = .int .i64 a ∧ Hid (∀ j, j < a → geti o j < x) ∧ Hid (TkW W l o A4 A3 c4 c3 m p wr)) (fun t _ => p - (intOf t).toNat)
      case atStart => exact ⟨0, Nat.zero_le _, rfl, hide (fun j hj => by omega), D0⟩
      case round =>
        clear D0
        obtain ⟨a, hap, rfl, hlow, D0⟩ := hrel
        by_cases hlta : a < p
        · have hlta' : decide ((a : Int) < (p : Int)) = true := decide_eq_true (by omega)
          have hlta2 : decide (a < p) = true := decide_eq_true (by omega)
          obtain ⟨q4, e4, -, cs4, hB4, hs4, hc4⟩ := own_pos D0.out.got (by omega)
          subst e4
          have x0 : wr.cell? ⟨q4, i, none⟩ = some (.int .i64 x) := by rw [hx.out, hB4.cell]; exact hc4 i (by rw [hl.out]; omega)
          have lq4 := hB4.lt
          clear hB4 hs4 hc4
          obtain ⟨q3, e3, -, cs3, hB3, hs3, hc3⟩ := own_pos D0.out.out (by omega)
          subst e3
          obtain ⟨y, hy⟩ : ∃ y, y = geti o a := ⟨_, rfl⟩
          have y0 : wr.cell? ⟨q3, a, none⟩ = some (.int .i64 y) := by rw [hy, hB3.cell]; exact hc3 a (by rw [hp.out]; omega)
          replace hy := hide hy
          have lq3 := hB3.lt
          clear hB3 hs3 hc3
          by_cases hyx : y < x
          · have hyx' : decide (y < x) = true := decide_eq_true hyx
            have D1 := hide D0.out.drew
            go_upto_region 7 with fail
            refine wp_region_held_drew (S := (fun w' : World => w'.cell? ⟨q3, a, none⟩ = some (.int .i64 y) ∧ w'.cell? ⟨q4, i, none⟩ = some (.int .i64 x))) (by kernel_rfl) ?_ (fun hHeld => ?_)
            · exact ⟨y0, x0⟩
            refine wpAnyH_take (i := 0) (oi := { dst := some 16, op := Op.move (Operand.tmp 6), type := 3, pos := "l08_deque.go:97", after := #[], guard := none }) (v := ?_) rfl (by kernel_rfl) (by kernel_rfl) (by kernel_rfl) (fun _ _ _ h => h) (Or.inl ⟨by rfl, ?_⟩) hHeld ?_
            rotate_left
            · (intro wq hSw; (try dsimp only at hSw); first | (go_simp; done) | (go_simp; with_reducible rfl))
            try simp only [Act.put, List.setIfInBounds_toArray, List.set_cons_zero, List.set_cons_succ]
            refine wpAnyH_take (i := 1) (oi := { dst := some 17, op := Op.move (Operand.tmp 3), type := 23, pos := "l08_deque.go:97", after := #[], guard := none }) (v := ?_) rfl (by kernel_rfl) (by kernel_rfl) (by kernel_rfl) (fun _ _ _ h => h) (Or.inl ⟨by rfl, ?_⟩) hHeld ?_
            rotate_left
            · (intro wq hSw; (try dsimp only at hSw); first | (go_simp; done) | (go_simp; with_reducible rfl))
            try simp only [Act.put, List.setIfInBounds_toArray, List.set_cons_zero, List.set_cons_succ]
            refine wpAnyH_take (i := 2) (oi := { dst := some 18, op := Op.call { callee := Callee.builtin Builtin.len, args := #[Operand.tmp 17], argTypes := #[23] }, type := 3, pos := "l08_deque.go:97", after := #[{ on := 1, ground := Ground.data }], guard := none }) (v := ?_) rfl (by kernel_rfl) (by kernel_rfl) (by kernel_rfl) (fun _ _ _ h => h) (Or.inl ⟨by rfl, ?_⟩) hHeld ?_
            rotate_left
            · (intro wq hSw; (try dsimp only at hSw); first | (go_simp; done) | (go_simp; with_reducible rfl))
            try simp only [Act.put, List.setIfInBounds_toArray, List.set_cons_zero, List.set_cons_succ]
            refine wpAnyH_take (i := 3) (oi := { dst := some 19, op := Op.binOp BinOp.lss 3 (Operand.tmp 16) (Operand.tmp 18) 3, type := 4, pos := "l08_deque.go:97", after := #[{ on := 0, ground := Ground.data }, { on := 2, ground := Ground.data }], guard := none }) (v := ?_) rfl (by kernel_rfl) (by kernel_rfl) (by kernel_rfl) (fun _ _ _ h => h) (Or.inl ⟨by rfl, ?_⟩) hHeld ?_
            rotate_left
            · (intro wq hSw; (try dsimp only at hSw); first | (go_simp; done) | (go_simp; with_reducible rfl))
            try simp only [Act.put, List.setIfInBounds_toArray, List.set_cons_zero, List.set_cons_succ]
            refine wpAnyH_take (i := 4) (oi := { dst := some 20, op := Op.move (Operand.tmp 19), type := 4, pos := "l08_deque.go:97", after := #[{ on := 3, ground := Ground.data }], guard := none }) (v := ?_) rfl (by kernel_rfl) (by kernel_rfl) (by kernel_rfl) (fun _ _ _ h => h) (Or.inl ⟨by rfl, ?_⟩) hHeld ?_
            rotate_left
            · (intro wq hSw; (try dsimp only at hSw); first | (go_simp; done) | (go_simp; with_reducible rfl))
            try simp only [Act.put, List.setIfInBounds_toArray, List.set_cons_zero, List.set_cons_succ]
            refine wpAnyH_take (i := 5) (oi := { dst := some 21, op := Op.move (Operand.tmp 3), type := 23, pos := "l08_deque.go:97", after := #[{ on := 4, ground := Ground.guard }], guard := some (4, true) }) (v := ?_) rfl (by kernel_rfl) (by kernel_rfl) (by kernel_rfl) (fun _ _ _ h => h) (Or.inl ⟨by rfl, ?_⟩) hHeld ?_
            rotate_left
            · (intro wq hSw; (try dsimp only at hSw); first | (go_simp; done) | (go_simp; with_reducible rfl))
            try simp only [Act.put, List.setIfInBounds_toArray, List.set_cons_zero, List.set_cons_succ]
            refine wpAnyH_take (i := 6) (oi := { dst := some 22, op := Op.move (Operand.tmp 6), type := 3, pos := "l08_deque.go:97", after := #[{ on := 4, ground := Ground.guard }], guard := some (4, true) }) (v := ?_) rfl (by kernel_rfl) (by kernel_rfl) (by kernel_rfl) (fun _ _ _ h => h) (Or.inl ⟨by rfl, ?_⟩) hHeld ?_
            rotate_left
            · (intro wq hSw; (try dsimp only at hSw); first | (go_simp; done) | (go_simp; with_reducible rfl))
            try simp only [Act.put, List.setIfInBounds_toArray, List.set_cons_zero, List.set_cons_succ]
            refine wpAnyH_take (i := 7) (oi := { dst := some 23, op := Op.indexAddr 23 (Operand.tmp 21) (Operand.tmp 22), type := 0, pos := "l08_deque.go:97", after := #[{ on := 5, ground := Ground.data }, { on := 6, ground := Ground.data }, { on := 4, ground := Ground.guard }], guard := some (4, true) }) (v := ?_) rfl (by kernel_rfl) (by kernel_rfl) (by kernel_rfl) (fun _ _ _ h => h) (Or.inl ⟨by rfl, ?_⟩) hHeld ?_
            rotate_left
            · (intro wq hSw; (try dsimp only at hSw); first | (go_simp; done) | (go_simp; with_reducible rfl))
            try simp only [Act.put, List.setIfInBounds_toArray, List.set_cons_zero, List.set_cons_succ]
            refine wpAnyH_take (i := 8) (oi := { dst := some 24, op := Op.load 3 (Operand.tmp 23), type := 3, pos := "l08_deque.go:97", after := #[{ on := 7, ground := Ground.data }, { on := 4, ground := Ground.guard }], guard := some (4, true) }) (v := ?_) rfl (by kernel_rfl) (by kernel_rfl) (by kernel_rfl) (fun _ _ _ h => h) (Or.inl ⟨by rfl, ?_⟩) hHeld ?_
            rotate_left
            · (intro wq hSw; (try dsimp only at hSw); first | (go_simp; done) | (go_simp; with_reducible rfl))
            try simp only [Act.put, List.setIfInBounds_toArray, List.set_cons_zero, List.set_cons_succ]
            refine wpAnyH_take (i := 9) (oi := { dst := some 25, op := Op.move (Operand.tmp 4), type := 23, pos := "l08_deque.go:97", after := #[{ on := 4, ground := Ground.guard }], guard := some (4, true) }) (v := ?_) rfl (by kernel_rfl) (by kernel_rfl) (by kernel_rfl) (fun _ _ _ h => h) (Or.inl ⟨by rfl, ?_⟩) hHeld ?_
            rotate_left
            · (intro wq hSw; (try dsimp only at hSw); first | (go_simp; done) | (go_simp; with_reducible rfl))
            try simp only [Act.put, List.setIfInBounds_toArray, List.set_cons_zero, List.set_cons_succ]
            refine wpAnyH_take (i := 10) (oi := { dst := some 26, op := Op.move (Operand.tmp 5), type := 3, pos := "l08_deque.go:97", after := #[{ on := 4, ground := Ground.guard }], guard := some (4, true) }) (v := ?_) rfl (by kernel_rfl) (by kernel_rfl) (by kernel_rfl) (fun _ _ _ h => h) (Or.inl ⟨by rfl, ?_⟩) hHeld ?_
            rotate_left
            · (intro wq hSw; (try dsimp only at hSw); first | (go_simp; done) | (go_simp; with_reducible rfl))
            try simp only [Act.put, List.setIfInBounds_toArray, List.set_cons_zero, List.set_cons_succ]
            refine wpAnyH_take (i := 11) (oi := { dst := some 27, op := Op.indexAddr 23 (Operand.tmp 25) (Operand.tmp 26), type := 0, pos := "l08_deque.go:97", after := #[{ on := 9, ground := Ground.data }, { on := 10, ground := Ground.data }, { on := 4, ground := Ground.guard }], guard := some (4, true) }) (v := ?_) rfl (by kernel_rfl) (by kernel_rfl) (by kernel_rfl) (fun _ _ _ h => h) (Or.inl ⟨by rfl, ?_⟩) hHeld ?_
            rotate_left
            · (intro wq hSw; (try dsimp only at hSw); first | (go_simp; done) | (go_simp; with_reducible rfl))
            try simp only [Act.put, List.setIfInBounds_toArray, List.set_cons_zero, List.set_cons_succ]
            refine wpAnyH_take (i := 12) (oi := { dst := some 28, op := Op.load 3 (Operand.tmp 27), type := 3, pos := "l08_deque.go:97", after := #[{ on := 11, ground := Ground.data }, { on := 4, ground := Ground.guard }], guard := some (4, true) }) (v := ?_) rfl (by kernel_rfl) (by kernel_rfl) (by kernel_rfl) (fun _ _ _ h => h) (Or.inl ⟨by rfl, ?_⟩) hHeld ?_
            rotate_left
            · (intro wq hSw; (try dsimp only at hSw); first | (go_simp; done) | (go_simp; with_reducible rfl))
            try simp only [Act.put, List.setIfInBounds_toArray, List.set_cons_zero, List.set_cons_succ]
            refine wpAnyH_take (i := 13) (oi := { dst := some 29, op := Op.binOp BinOp.lss 3 (Operand.tmp 24) (Operand.tmp 28) 3, type := 4, pos := "l08_deque.go:97", after := #[{ on := 8, ground := Ground.data }, { on := 12, ground := Ground.data }, { on := 4, ground := Ground.guard }], guard := some (4, true) }) (v := ?_) rfl (by kernel_rfl) (by kernel_rfl) (by kernel_rfl) (fun _ _ _ h => h) (Or.inl ⟨by rfl, ?_⟩) hHeld ?_
            rotate_left
            · (intro wq hSw; (try dsimp only at hSw); first | (go_simp; done) | (go_simp; with_reducible rfl))
            try simp only [Act.put, List.setIfInBounds_toArray, List.set_cons_zero, List.set_cons_succ]
            refine wpAnyH_take (i := 14) (oi := { dst := some 30, op := Op.pick (Operand.tmp 20) (Operand.tmp 29) (Operand.const (Value.bool false)), type := 4, pos := "l08_deque.go:97", after := #[{ on := 4, ground := Ground.data }, { on := 13, ground := Ground.data }], guard := none }) (v := ?_) rfl (by kernel_rfl) (by kernel_rfl) (by kernel_rfl) (fun _ _ _ h => h) (Or.inl ⟨by rfl, ?_⟩) hHeld ?_
            rotate_left
            · (intro wq hSw; (try dsimp only at hSw); first | (go_simp; done) | (go_simp; with_reducible rfl))
            try simp only [Act.put, List.setIfInBounds_toArray, List.set_cons_zero, List.set_cons_succ]
            refine wpAnyH_done (by kernel_rfl) ?_ _
            go_wp2_with fail
            go_roundw
            case rel => exact ⟨a + 1, by omega, by go_num, hide (fun j hj => by
              rcases Nat.lt_or_ge j a with h | h
              · exact hlow.out j h
              · have : j = a := by omega
                subst this; rw [← hy.out]; exact hyx), D1⟩
            case measure => simp [intOf]; omega
          · have hyx' : decide (y < x) = false := decide_eq_false hyx
            have D1 := hide D0.out.drew
            go_upto_region 7 with fail
            refine wp_region_held_drew (S := (fun w' : World => w'.cell? ⟨q3, a, none⟩ = some (.int .i64 y) ∧ w'.cell? ⟨q4, i, none⟩ = some (.int .i64 x))) (by kernel_rfl) ?_ (fun hHeld => ?_)
            · exact ⟨y0, x0⟩
            refine wpAnyH_take (i := 0) (oi := { dst := some 16, op := Op.move (Operand.tmp 6), type := 3, pos := "l08_deque.go:97", after := #[], guard := none }) (v := ?_) rfl (by kernel_rfl) (by kernel_rfl) (by kernel_rfl) (fun _ _ _ h => h) (Or.inl ⟨by rfl, ?_⟩) hHeld ?_
            rotate_left
            · (intro wq hSw; (try dsimp only at hSw); first | (go_simp; done) | (go_simp; with_reducible rfl))
            try simp only [Act.put, List.setIfInBounds_toArray, List.set_cons_zero, List.set_cons_succ]
            refine wpAnyH_take (i := 1) (oi := { dst := some 17, op := Op.move (Operand.tmp 3), type := 23, pos := "l08_deque.go:97", after := #[], guard := none }) (v := ?_) rfl (by kernel_rfl) (by kernel_rfl) (by kernel_rfl) (fun _ _ _ h => h) (Or.inl ⟨by rfl, ?_⟩) hHeld ?_
            rotate_left
            · (intro wq hSw; (try dsimp only at hSw); first | (go_simp; done) | (go_simp; with_reducible rfl))
            try simp only [Act.put, List.setIfInBounds_toArray, List.set_cons_zero, List.set_cons_succ]
            refine wpAnyH_take (i := 2) (oi := { dst := some 18, op := Op.call { callee := Callee.builtin Builtin.len, args := #[Operand.tmp 17], argTypes := #[23] }, type := 3, pos := "l08_deque.go:97", after := #[{ on := 1, ground := Ground.data }], guard := none }) (v := ?_) rfl (by kernel_rfl) (by kernel_rfl) (by kernel_rfl) (fun _ _ _ h => h) (Or.inl ⟨by rfl, ?_⟩) hHeld ?_
            rotate_left
            · (intro wq hSw; (try dsimp only at hSw); first | (go_simp; done) | (go_simp; with_reducible rfl))
            try simp only [Act.put, List.setIfInBounds_toArray, List.set_cons_zero, List.set_cons_succ]
            refine wpAnyH_take (i := 3) (oi := { dst := some 19, op := Op.binOp BinOp.lss 3 (Operand.tmp 16) (Operand.tmp 18) 3, type := 4, pos := "l08_deque.go:97", after := #[{ on := 0, ground := Ground.data }, { on := 2, ground := Ground.data }], guard := none }) (v := ?_) rfl (by kernel_rfl) (by kernel_rfl) (by kernel_rfl) (fun _ _ _ h => h) (Or.inl ⟨by rfl, ?_⟩) hHeld ?_
            rotate_left
            · (intro wq hSw; (try dsimp only at hSw); first | (go_simp; done) | (go_simp; with_reducible rfl))
            try simp only [Act.put, List.setIfInBounds_toArray, List.set_cons_zero, List.set_cons_succ]
            refine wpAnyH_take (i := 4) (oi := { dst := some 20, op := Op.move (Operand.tmp 19), type := 4, pos := "l08_deque.go:97", after := #[{ on := 3, ground := Ground.data }], guard := none }) (v := ?_) rfl (by kernel_rfl) (by kernel_rfl) (by kernel_rfl) (fun _ _ _ h => h) (Or.inl ⟨by rfl, ?_⟩) hHeld ?_
            rotate_left
            · (intro wq hSw; (try dsimp only at hSw); first | (go_simp; done) | (go_simp; with_reducible rfl))
            try simp only [Act.put, List.setIfInBounds_toArray, List.set_cons_zero, List.set_cons_succ]
            refine wpAnyH_take (i := 5) (oi := { dst := some 21, op := Op.move (Operand.tmp 3), type := 23, pos := "l08_deque.go:97", after := #[{ on := 4, ground := Ground.guard }], guard := some (4, true) }) (v := ?_) rfl (by kernel_rfl) (by kernel_rfl) (by kernel_rfl) (fun _ _ _ h => h) (Or.inl ⟨by rfl, ?_⟩) hHeld ?_
            rotate_left
            · (intro wq hSw; (try dsimp only at hSw); first | (go_simp; done) | (go_simp; with_reducible rfl))
            try simp only [Act.put, List.setIfInBounds_toArray, List.set_cons_zero, List.set_cons_succ]
            refine wpAnyH_take (i := 6) (oi := { dst := some 22, op := Op.move (Operand.tmp 6), type := 3, pos := "l08_deque.go:97", after := #[{ on := 4, ground := Ground.guard }], guard := some (4, true) }) (v := ?_) rfl (by kernel_rfl) (by kernel_rfl) (by kernel_rfl) (fun _ _ _ h => h) (Or.inl ⟨by rfl, ?_⟩) hHeld ?_
            rotate_left
            · (intro wq hSw; (try dsimp only at hSw); first | (go_simp; done) | (go_simp; with_reducible rfl))
            try simp only [Act.put, List.setIfInBounds_toArray, List.set_cons_zero, List.set_cons_succ]
            refine wpAnyH_take (i := 7) (oi := { dst := some 23, op := Op.indexAddr 23 (Operand.tmp 21) (Operand.tmp 22), type := 0, pos := "l08_deque.go:97", after := #[{ on := 5, ground := Ground.data }, { on := 6, ground := Ground.data }, { on := 4, ground := Ground.guard }], guard := some (4, true) }) (v := ?_) rfl (by kernel_rfl) (by kernel_rfl) (by kernel_rfl) (fun _ _ _ h => h) (Or.inl ⟨by rfl, ?_⟩) hHeld ?_
            rotate_left
            · (intro wq hSw; (try dsimp only at hSw); first | (go_simp; done) | (go_simp; with_reducible rfl))
            try simp only [Act.put, List.setIfInBounds_toArray, List.set_cons_zero, List.set_cons_succ]
            refine wpAnyH_take (i := 8) (oi := { dst := some 24, op := Op.load 3 (Operand.tmp 23), type := 3, pos := "l08_deque.go:97", after := #[{ on := 7, ground := Ground.data }, { on := 4, ground := Ground.guard }], guard := some (4, true) }) (v := ?_) rfl (by kernel_rfl) (by kernel_rfl) (by kernel_rfl) (fun _ _ _ h => h) (Or.inl ⟨by rfl, ?_⟩) hHeld ?_
            rotate_left
            · (intro wq hSw; (try dsimp only at hSw); first | (go_simp; done) | (go_simp; with_reducible rfl))
            try simp only [Act.put, List.setIfInBounds_toArray, List.set_cons_zero, List.set_cons_succ]
            refine wpAnyH_take (i := 9) (oi := { dst := some 25, op := Op.move (Operand.tmp 4), type := 23, pos := "l08_deque.go:97", after := #[{ on := 4, ground := Ground.guard }], guard := some (4, true) }) (v := ?_) rfl (by kernel_rfl) (by kernel_rfl) (by kernel_rfl) (fun _ _ _ h => h) (Or.inl ⟨by rfl, ?_⟩) hHeld ?_
            rotate_left
            · (intro wq hSw; (try dsimp only at hSw); first | (go_simp; done) | (go_simp; with_reducible rfl))
            try simp only [Act.put, List.setIfInBounds_toArray, List.set_cons_zero, List.set_cons_succ]
            refine wpAnyH_take (i := 10) (oi := { dst := some 26, op := Op.move (Operand.tmp 5), type := 3, pos := "l08_deque.go:97", after := #[{ on := 4, ground := Ground.guard }], guard := some (4, true) }) (v := ?_) rfl (by kernel_rfl) (by kernel_rfl) (by kernel_rfl) (fun _ _ _ h => h) (Or.inl ⟨by rfl, ?_⟩) hHeld ?_
            rotate_left
            · (intro wq hSw; (try dsimp only at hSw); first | (go_simp; done) | (go_simp; with_reducible rfl))
            try simp only [Act.put, List.setIfInBounds_toArray, List.set_cons_zero, List.set_cons_succ]
            refine wpAnyH_take (i := 11) (oi := { dst := some 27, op := Op.indexAddr 23 (Operand.tmp 25) (Operand.tmp 26), type := 0, pos := "l08_deque.go:97", after := #[{ on := 9, ground := Ground.data }, { on := 10, ground := Ground.data }, { on := 4, ground := Ground.guard }], guard := some (4, true) }) (v := ?_) rfl (by kernel_rfl) (by kernel_rfl) (by kernel_rfl) (fun _ _ _ h => h) (Or.inl ⟨by rfl, ?_⟩) hHeld ?_
            rotate_left
            · (intro wq hSw; (try dsimp only at hSw); first | (go_simp; done) | (go_simp; with_reducible rfl))
            try simp only [Act.put, List.setIfInBounds_toArray, List.set_cons_zero, List.set_cons_succ]
            refine wpAnyH_take (i := 12) (oi := { dst := some 28, op := Op.load 3 (Operand.tmp 27), type := 3, pos := "l08_deque.go:97", after := #[{ on := 11, ground := Ground.data }, { on := 4, ground := Ground.guard }], guard := some (4, true) }) (v := ?_) rfl (by kernel_rfl) (by kernel_rfl) (by kernel_rfl) (fun _ _ _ h => h) (Or.inl ⟨by rfl, ?_⟩) hHeld ?_
            rotate_left
            · (intro wq hSw; (try dsimp only at hSw); first | (go_simp; done) | (go_simp; with_reducible rfl))
            try simp only [Act.put, List.setIfInBounds_toArray, List.set_cons_zero, List.set_cons_succ]
            refine wpAnyH_take (i := 13) (oi := { dst := some 29, op := Op.binOp BinOp.lss 3 (Operand.tmp 24) (Operand.tmp 28) 3, type := 4, pos := "l08_deque.go:97", after := #[{ on := 8, ground := Ground.data }, { on := 12, ground := Ground.data }, { on := 4, ground := Ground.guard }], guard := some (4, true) }) (v := ?_) rfl (by kernel_rfl) (by kernel_rfl) (by kernel_rfl) (fun _ _ _ h => h) (Or.inl ⟨by rfl, ?_⟩) hHeld ?_
            rotate_left
            · (intro wq hSw; (try dsimp only at hSw); first | (go_simp; done) | (go_simp; with_reducible rfl))
            try simp only [Act.put, List.setIfInBounds_toArray, List.set_cons_zero, List.set_cons_succ]
            refine wpAnyH_take (i := 14) (oi := { dst := some 30, op := Op.pick (Operand.tmp 20) (Operand.tmp 29) (Operand.const (Value.bool false)), type := 4, pos := "l08_deque.go:97", after := #[{ on := 4, ground := Ground.data }, { on := 13, ground := Ground.data }], guard := none }) (v := ?_) rfl (by kernel_rfl) (by kernel_rfl) (by kernel_rfl) (fun _ _ _ h => h) (Or.inl ⟨by rfl, ?_⟩) hHeld ?_
            rotate_left
            · (intro wq hSw; (try dsimp only at hSw); first | (go_simp; done) | (go_simp; with_reducible rfl))
            try simp only [Act.put, List.setIfInBounds_toArray, List.set_cons_zero, List.set_cons_succ]
            refine wpAnyH_done (by kernel_rfl) ?_ _
            clear hHeld
            have D2 := hide D1.out.drew
            clear D0 D1
            have hne : ((a : Int) == (p : Int)) = false := by rw [beq_eq_false_iff_ne]; omega
            have hne2 : (a == p) = false := by rw [beq_eq_false_iff_ne]; omega
            have hne3 : decide (a = p) = false := decide_eq_false (by omega)
            by_cases hxy : y = x
            · have hq1 : (y != x) = false := by rw [hxy]; simp
              have hst9 := hide (show takenTo l (i + 1) = o from by rw [hstep.out]; exact insU_old x o a (by rw [hp.out]; exact hlta) hlow.out (by rw [← hy.out]; exact hxy))
              go_upto_region 9 with fail
              refine wp_region_held_drew (S := (fun w' : World => w'.cell? ⟨q3, a, none⟩ = some (.int .i64 y) ∧ w'.cell? ⟨q4, i, none⟩ = some (.int .i64 x))) (by kernel_rfl) ?_ (fun hHeld => ?_)
              · exact ⟨y0, x0⟩
              refine wpAnyH_take (i := 0) (oi := { dst := some 33, op := Op.move (Operand.tmp 6), type := 3, pos := "l08_deque.go:100", after := #[], guard := none }) (v := ?_) rfl (by kernel_rfl) (by kernel_rfl) (by kernel_rfl) (fun _ _ _ h => h) (Or.inl ⟨by rfl, ?_⟩) hHeld ?_
              rotate_left
              · (intro wq hSw; (try dsimp only at hSw); first | (go_simp; done) | (go_simp; with_reducible rfl))
              try simp only [Act.put, List.setIfInBounds_toArray, List.set_cons_zero, List.set_cons_succ]
              refine wpAnyH_take (i := 1) (oi := { dst := some 34, op := Op.move (Operand.tmp 3), type := 23, pos := "l08_deque.go:100", after := #[], guard := none }) (v := ?_) rfl (by kernel_rfl) (by kernel_rfl) (by kernel_rfl) (fun _ _ _ h => h) (Or.inl ⟨by rfl, ?_⟩) hHeld ?_
              rotate_left
              · (intro wq hSw; (try dsimp only at hSw); first | (go_simp; done) | (go_simp; with_reducible rfl))
              try simp only [Act.put, List.setIfInBounds_toArray, List.set_cons_zero, List.set_cons_succ]
              refine wpAnyH_take (i := 2) (oi := { dst := some 35, op := Op.call { callee := Callee.builtin Builtin.len, args := #[Operand.tmp 34], argTypes := #[23] }, type := 3, pos := "l08_deque.go:100", after := #[{ on := 1, ground := Ground.data }], guard := none }) (v := ?_) rfl (by kernel_rfl) (by kernel_rfl) (by kernel_rfl) (fun _ _ _ h => h) (Or.inl ⟨by rfl, ?_⟩) hHeld ?_
              rotate_left
              · (intro wq hSw; (try dsimp only at hSw); first | (go_simp; done) | (go_simp; with_reducible rfl))
              try simp only [Act.put, List.setIfInBounds_toArray, List.set_cons_zero, List.set_cons_succ]
              refine wpAnyH_take (i := 3) (oi := { dst := some 36, op := Op.binOp BinOp.eql 3 (Operand.tmp 33) (Operand.tmp 35) 3, type := 4, pos := "l08_deque.go:100", after := #[{ on := 0, ground := Ground.data }, { on := 2, ground := Ground.data }], guard := none }) (v := ?_) rfl (by kernel_rfl) (by kernel_rfl) (by kernel_rfl) (fun _ _ _ h => h) (Or.inl ⟨by rfl, ?_⟩) hHeld ?_
              rotate_left
              · (intro wq hSw; (try dsimp only at hSw); first | (go_simp; done) | (go_simp; with_reducible rfl))
              try simp only [Act.put, List.setIfInBounds_toArray, List.set_cons_zero, List.set_cons_succ]
              refine wpAnyH_take (i := 4) (oi := { dst := some 37, op := Op.move (Operand.tmp 36), type := 4, pos := "l08_deque.go:100", after := #[{ on := 3, ground := Ground.data }], guard := none }) (v := ?_) rfl (by kernel_rfl) (by kernel_rfl) (by kernel_rfl) (fun _ _ _ h => h) (Or.inl ⟨by rfl, ?_⟩) hHeld ?_
              rotate_left
              · (intro wq hSw; (try dsimp only at hSw); first | (go_simp; done) | (go_simp; with_reducible rfl))
              try simp only [Act.put, List.setIfInBounds_toArray, List.set_cons_zero, List.set_cons_succ]
              refine wpAnyH_take (i := 5) (oi := { dst := some 38, op := Op.move (Operand.tmp 3), type := 23, pos := "l08_deque.go:100", after := #[{ on := 4, ground := Ground.guard }], guard := some (4, false) }) (v := ?_) rfl (by kernel_rfl) (by kernel_rfl) (by kernel_rfl) (fun _ _ _ h => h) (Or.inl ⟨by rfl, ?_⟩) hHeld ?_
              rotate_left
              · (intro wq hSw; (try dsimp only at hSw); first | (go_simp; done) | (go_simp; with_reducible rfl))
              try simp only [Act.put, List.setIfInBounds_toArray, List.set_cons_zero, List.set_cons_succ]
              refine wpAnyH_take (i := 6) (oi := { dst := some 39, op := Op.move (Operand.tmp 6), type := 3, pos := "l08_deque.go:100", after := #[{ on := 4, ground := Ground.guard }], guard := some (4, false) }) (v := ?_) rfl (by kernel_rfl) (by kernel_rfl) (by kernel_rfl) (fun _ _ _ h => h) (Or.inl ⟨by rfl, ?_⟩) hHeld ?_
              rotate_left
              · (intro wq hSw; (try dsimp only at hSw); first | (go_simp; done) | (go_simp; with_reducible rfl))
              try simp only [Act.put, List.setIfInBounds_toArray, List.set_cons_zero, List.set_cons_succ]
              refine wpAnyH_take (i := 7) (oi := { dst := some 40, op := Op.indexAddr 23 (Operand.tmp 38) (Operand.tmp 39), type := 0, pos := "l08_deque.go:100", after := #[{ on := 5, ground := Ground.data }, { on := 6, ground := Ground.data }, { on := 4, ground := Ground.guard }], guard := some (4, false) }) (v := ?_) rfl (by kernel_rfl) (by kernel_rfl) (by kernel_rfl) (fun _ _ _ h => h) (Or.inl ⟨by rfl, ?_⟩) hHeld ?_
              rotate_left
              · (intro wq hSw; (try dsimp only at hSw); first | (go_simp; done) | (go_simp; with_reducible rfl))
              try simp only [Act.put, List.setIfInBounds_toArray, List.set_cons_zero, List.set_cons_succ]
              refine wpAnyH_take (i := 8) (oi := { dst := some 41, op := Op.load 3 (Operand.tmp 40), type := 3, pos := "l08_deque.go:100", after := #[{ on := 7, ground := Ground.data }, { on := 4, ground := Ground.guard }], guard := some (4, false) }) (v := ?_) rfl (by kernel_rfl) (by kernel_rfl) (by kernel_rfl) (fun _ _ _ h => h) (Or.inl ⟨by rfl, ?_⟩) hHeld ?_
              rotate_left
              · (intro wq hSw; (try dsimp only at hSw); first | (go_simp; done) | (go_simp; with_reducible rfl))
              try simp only [Act.put, List.setIfInBounds_toArray, List.set_cons_zero, List.set_cons_succ]
              refine wpAnyH_take (i := 9) (oi := { dst := some 42, op := Op.move (Operand.tmp 4), type := 23, pos := "l08_deque.go:100", after := #[{ on := 4, ground := Ground.guard }], guard := some (4, false) }) (v := ?_) rfl (by kernel_rfl) (by kernel_rfl) (by kernel_rfl) (fun _ _ _ h => h) (Or.inl ⟨by rfl, ?_⟩) hHeld ?_
              rotate_left
              · (intro wq hSw; (try dsimp only at hSw); first | (go_simp; done) | (go_simp; with_reducible rfl))
              try simp only [Act.put, List.setIfInBounds_toArray, List.set_cons_zero, List.set_cons_succ]
              refine wpAnyH_take (i := 10) (oi := { dst := some 43, op := Op.move (Operand.tmp 5), type := 3, pos := "l08_deque.go:100", after := #[{ on := 4, ground := Ground.guard }], guard := some (4, false) }) (v := ?_) rfl (by kernel_rfl) (by kernel_rfl) (by kernel_rfl) (fun _ _ _ h => h) (Or.inl ⟨by rfl, ?_⟩) hHeld ?_
              rotate_left
              · (intro wq hSw; (try dsimp only at hSw); first | (go_simp; done) | (go_simp; with_reducible rfl))
              try simp only [Act.put, List.setIfInBounds_toArray, List.set_cons_zero, List.set_cons_succ]
              refine wpAnyH_take (i := 11) (oi := { dst := some 44, op := Op.indexAddr 23 (Operand.tmp 42) (Operand.tmp 43), type := 0, pos := "l08_deque.go:100", after := #[{ on := 9, ground := Ground.data }, { on := 10, ground := Ground.data }, { on := 4, ground := Ground.guard }], guard := some (4, false) }) (v := ?_) rfl (by kernel_rfl) (by kernel_rfl) (by kernel_rfl) (fun _ _ _ h => h) (Or.inl ⟨by rfl, ?_⟩) hHeld ?_
              rotate_left
              · (intro wq hSw; (try dsimp only at hSw); first | (go_simp; done) | (go_simp; with_reducible rfl))
              try simp only [Act.put, List.setIfInBounds_toArray, List.set_cons_zero, List.set_cons_succ]
              refine wpAnyH_take (i := 12) (oi := { dst := some 45, op := Op.load 3 (Operand.tmp 44), type := 3, pos := "l08_deque.go:100", after := #[{ on := 11, ground := Ground.data }, { on := 4, ground := Ground.guard }], guard := some (4, false) }) (v := ?_) rfl (by kernel_rfl) (by kernel_rfl) (by kernel_rfl) (fun _ _ _ h => h) (Or.inl ⟨by rfl, ?_⟩) hHeld ?_
              rotate_left
              · (intro wq hSw; (try dsimp only at hSw); first | (go_simp; done) | (go_simp; with_reducible rfl))
              try simp only [Act.put, List.setIfInBounds_toArray, List.set_cons_zero, List.set_cons_succ]
              refine wpAnyH_take (i := 13) (oi := { dst := some 46, op := Op.binOp BinOp.neq 3 (Operand.tmp 41) (Operand.tmp 45) 3, type := 4, pos := "l08_deque.go:100", after := #[{ on := 8, ground := Ground.data }, { on := 12, ground := Ground.data }, { on := 4, ground := Ground.guard }], guard := some (4, false) }) (v := ?_) rfl (by kernel_rfl) (by kernel_rfl) (by kernel_rfl) (fun _ _ _ h => h) (Or.inl ⟨by rfl, ?_⟩) hHeld ?_
              rotate_left
              · (intro wq hSw; (try dsimp only at hSw); first | (go_simp; done) | (go_simp; with_reducible rfl))
              try simp only [Act.put, List.setIfInBounds_toArray, List.set_cons_zero, List.set_cons_succ]
              refine wpAnyH_take (i := 14) (oi := { dst := some 47, op := Op.pick (Operand.tmp 37) (Operand.const (Value.bool true)) (Operand.tmp 46), type := 4, pos := "l08_deque.go:100", after := #[{ on := 4, ground := Ground.data }, { on := 13, ground := Ground.data }], guard := none }) (v := ?_) rfl (by kernel_rfl) (by kernel_rfl) (by kernel_rfl) (fun _ _ _ h => h) (Or.inl ⟨by rfl, ?_⟩) hHeld ?_
              rotate_left
              · (intro wq hSw; (try dsimp only at hSw); first | (go_simp; done) | (go_simp; with_reducible rfl))
              try simp only [Act.put, List.setIfInBounds_toArray, List.set_cons_zero, List.set_cons_succ]
              refine wpAnyH_done (by kernel_rfl) ?_ _
              clear hHeld hlow
              go_wp2_with fail
              go_roundw
              case rel => exact ⟨i + 1, p, _, _, by omega, by go_num, rfl, hide (by rw [hst9.out]; exact hp.out), hide (by rw [hst9.out]; exact D2.out)⟩
              case measure => simp [intOf]; omega
            · have hq1 : (y != x) = true := by simpa using hxy
              have hnew := hide (insU_new x o a (by rw [hp.out]; exact hap) hlow.out (.inr ⟨by rw [hp.out]; exact hlta, by rw [← hy.out]; exact hyx, by rw [← hy.out]; exact hxy⟩))
              go_upto_region 9 with fail
              refine wp_region_held_drew (S := (fun w' : World => w'.cell? ⟨q3, a, none⟩ = some (.int .i64 y) ∧ w'.cell? ⟨q4, i, none⟩ = some (.int .i64 x))) (by kernel_rfl) ?_ (fun hHeld => ?_)
              · exact ⟨y0, x0⟩
              refine wpAnyH_take (i := 0) (oi := { dst := some 33, op := Op.move (Operand.tmp 6), type := 3, pos := "l08_deque.go:100", after := #[], guard := none }) (v := ?_) rfl (by kernel_rfl) (by kernel_rfl) (by kernel_rfl) (fun _ _ _ h => h) (Or.inl ⟨by rfl, ?_⟩) hHeld ?_
              rotate_left
              · (intro wq hSw; (try dsimp only at hSw); first | (go_simp; done) | (go_simp; with_reducible rfl))
              try simp only [Act.put, List.setIfInBounds_toArray, List.set_cons_zero, List.set_cons_succ]
              refine wpAnyH_take (i := 1) (oi := { dst := some 34, op := Op.move (Operand.tmp 3), type := 23, pos := "l08_deque.go:100", after := #[], guard := none }) (v := ?_) rfl (by kernel_rfl) (by kernel_rfl) (by kernel_rfl) (fun _ _ _ h => h) (Or.inl ⟨by rfl, ?_⟩) hHeld ?_
              rotate_left
              · (intro wq hSw; (try dsimp only at hSw); first | (go_simp; done) | (go_simp; with_reducible rfl))
              try simp only [Act.put, List.setIfInBounds_toArray, List.set_cons_zero, List.set_cons_succ]
              refine wpAnyH_take (i := 2) (oi := { dst := some 35, op := Op.call { callee := Callee.builtin Builtin.len, args := #[Operand.tmp 34], argTypes := #[23] }, type := 3, pos := "l08_deque.go:100", after := #[{ on := 1, ground := Ground.data }], guard := none }) (v := ?_) rfl (by kernel_rfl) (by kernel_rfl) (by kernel_rfl) (fun _ _ _ h => h) (Or.inl ⟨by rfl, ?_⟩) hHeld ?_
              rotate_left
              · (intro wq hSw; (try dsimp only at hSw); first | (go_simp; done) | (go_simp; with_reducible rfl))
              try simp only [Act.put, List.setIfInBounds_toArray, List.set_cons_zero, List.set_cons_succ]
              refine wpAnyH_take (i := 3) (oi := { dst := some 36, op := Op.binOp BinOp.eql 3 (Operand.tmp 33) (Operand.tmp 35) 3, type := 4, pos := "l08_deque.go:100", after := #[{ on := 0, ground := Ground.data }, { on := 2, ground := Ground.data }], guard := none }) (v := ?_) rfl (by kernel_rfl) (by kernel_rfl) (by kernel_rfl) (fun _ _ _ h => h) (Or.inl ⟨by rfl, ?_⟩) hHeld ?_
              rotate_left
              · (intro wq hSw; (try dsimp only at hSw); first | (go_simp; done) | (go_simp; with_reducible rfl))
              try simp only [Act.put, List.setIfInBounds_toArray, List.set_cons_zero, List.set_cons_succ]
              refine wpAnyH_take (i := 4) (oi := { dst := some 37, op := Op.move (Operand.tmp 36), type := 4, pos := "l08_deque.go:100", after := #[{ on := 3, ground := Ground.data }], guard := none }) (v := ?_) rfl (by kernel_rfl) (by kernel_rfl) (by kernel_rfl) (fun _ _ _ h => h) (Or.inl ⟨by rfl, ?_⟩) hHeld ?_
              rotate_left
              · (intro wq hSw; (try dsimp only at hSw); first | (go_simp; done) | (go_simp; with_reducible rfl))
              try simp only [Act.put, List.setIfInBounds_toArray, List.set_cons_zero, List.set_cons_succ]
              refine wpAnyH_take (i := 5) (oi := { dst := some 38, op := Op.move (Operand.tmp 3), type := 23, pos := "l08_deque.go:100", after := #[{ on := 4, ground := Ground.guard }], guard := some (4, false) }) (v := ?_) rfl (by kernel_rfl) (by kernel_rfl) (by kernel_rfl) (fun _ _ _ h => h) (Or.inl ⟨by rfl, ?_⟩) hHeld ?_
              rotate_left
              · (intro wq hSw; (try dsimp only at hSw); first | (go_simp; done) | (go_simp; with_reducible rfl))
              try simp only [Act.put, List.setIfInBounds_toArray, List.set_cons_zero, List.set_cons_succ]
              refine wpAnyH_take (i := 6) (oi := { dst := some 39, op := Op.move (Operand.tmp 6), type := 3, pos := "l08_deque.go:100", after := #[{ on := 4, ground := Ground.guard }], guard := some (4, false) }) (v := ?_) rfl (by kernel_rfl) (by kernel_rfl) (by kernel_rfl) (fun _ _ _ h => h) (Or.inl ⟨by rfl, ?_⟩) hHeld ?_
              rotate_left
              · (intro wq hSw; (try dsimp only at hSw); first | (go_simp; done) | (go_simp; with_reducible rfl))
              try simp only [Act.put, List.setIfInBounds_toArray, List.set_cons_zero, List.set_cons_succ]
              refine wpAnyH_take (i := 7) (oi := { dst := some 40, op := Op.indexAddr 23 (Operand.tmp 38) (Operand.tmp 39), type := 0, pos := "l08_deque.go:100", after := #[{ on := 5, ground := Ground.data }, { on := 6, ground := Ground.data }, { on := 4, ground := Ground.guard }], guard := some (4, false) }) (v := ?_) rfl (by kernel_rfl) (by kernel_rfl) (by kernel_rfl) (fun _ _ _ h => h) (Or.inl ⟨by rfl, ?_⟩) hHeld ?_
              rotate_left
              · (intro wq hSw; (try dsimp only at hSw); first | (go_simp; done) | (go_simp; with_reducible rfl))
              try simp only [Act.put, List.setIfInBounds_toArray, List.set_cons_zero, List.set_cons_succ]
              refine wpAnyH_take (i := 8) (oi := { dst := some 41, op := Op.load 3 (Operand.tmp 40), type := 3, pos := "l08_deque.go:100", after := #[{ on := 7, ground := Ground.data }, { on := 4, ground := Ground.guard }], guard := some (4, false) }) (v := ?_) rfl (by kernel_rfl) (by kernel_rfl) (by kernel_rfl) (fun _ _ _ h => h) (Or.inl ⟨by rfl, ?_⟩) hHeld ?_
              rotate_left
              · (intro wq hSw; (try dsimp only at hSw); first | (go_simp; done) | (go_simp; with_reducible rfl))
              try simp only [Act.put, List.setIfInBounds_toArray, List.set_cons_zero, List.set_cons_succ]
              refine wpAnyH_take (i := 9) (oi := { dst := some 42, op := Op.move (Operand.tmp 4), type := 23, pos := "l08_deque.go:100", after := #[{ on := 4, ground := Ground.guard }], guard := some (4, false) }) (v := ?_) rfl (by kernel_rfl) (by kernel_rfl) (by kernel_rfl) (fun _ _ _ h => h) (Or.inl ⟨by rfl, ?_⟩) hHeld ?_
              rotate_left
              · (intro wq hSw; (try dsimp only at hSw); first | (go_simp; done) | (go_simp; with_reducible rfl))
              try simp only [Act.put, List.setIfInBounds_toArray, List.set_cons_zero, List.set_cons_succ]
              refine wpAnyH_take (i := 10) (oi := { dst := some 43, op := Op.move (Operand.tmp 5), type := 3, pos := "l08_deque.go:100", after := #[{ on := 4, ground := Ground.guard }], guard := some (4, false) }) (v := ?_) rfl (by kernel_rfl) (by kernel_rfl) (by kernel_rfl) (fun _ _ _ h => h) (Or.inl ⟨by rfl, ?_⟩) hHeld ?_
              rotate_left
              · (intro wq hSw; (try dsimp only at hSw); first | (go_simp; done) | (go_simp; with_reducible rfl))
              try simp only [Act.put, List.setIfInBounds_toArray, List.set_cons_zero, List.set_cons_succ]
              refine wpAnyH_take (i := 11) (oi := { dst := some 44, op := Op.indexAddr 23 (Operand.tmp 42) (Operand.tmp 43), type := 0, pos := "l08_deque.go:100", after := #[{ on := 9, ground := Ground.data }, { on := 10, ground := Ground.data }, { on := 4, ground := Ground.guard }], guard := some (4, false) }) (v := ?_) rfl (by kernel_rfl) (by kernel_rfl) (by kernel_rfl) (fun _ _ _ h => h) (Or.inl ⟨by rfl, ?_⟩) hHeld ?_
              rotate_left
              · (intro wq hSw; (try dsimp only at hSw); first | (go_simp; done) | (go_simp; with_reducible rfl))
              try simp only [Act.put, List.setIfInBounds_toArray, List.set_cons_zero, List.set_cons_succ]
              refine wpAnyH_take (i := 12) (oi := { dst := some 45, op := Op.load 3 (Operand.tmp 44), type := 3, pos := "l08_deque.go:100", after := #[{ on := 11, ground := Ground.data }, { on := 4, ground := Ground.guard }], guard := some (4, false) }) (v := ?_) rfl (by kernel_rfl) (by kernel_rfl) (by kernel_rfl) (fun _ _ _ h => h) (Or.inl ⟨by rfl, ?_⟩) hHeld ?_
              rotate_left
              · (intro wq hSw; (try dsimp only at hSw); first | (go_simp; done) | (go_simp; with_reducible rfl))
              try simp only [Act.put, List.setIfInBounds_toArray, List.set_cons_zero, List.set_cons_succ]
              refine wpAnyH_take (i := 13) (oi := { dst := some 46, op := Op.binOp BinOp.neq 3 (Operand.tmp 41) (Operand.tmp 45) 3, type := 4, pos := "l08_deque.go:100", after := #[{ on := 8, ground := Ground.data }, { on := 12, ground := Ground.data }, { on := 4, ground := Ground.guard }], guard := some (4, false) }) (v := ?_) rfl (by kernel_rfl) (by kernel_rfl) (by kernel_rfl) (fun _ _ _ h => h) (Or.inl ⟨by rfl, ?_⟩) hHeld ?_
              rotate_left
              · (intro wq hSw; (try dsimp only at hSw); first | (go_simp; done) | (go_simp; with_reducible rfl))
              try simp only [Act.put, List.setIfInBounds_toArray, List.set_cons_zero, List.set_cons_succ]
              refine wpAnyH_take (i := 14) (oi := { dst := some 47, op := Op.pick (Operand.tmp 37) (Operand.const (Value.bool true)) (Operand.tmp 46), type := 4, pos := "l08_deque.go:100", after := #[{ on := 4, ground := Ground.data }, { on := 13, ground := Ground.data }], guard := none }) (v := ?_) rfl (by kernel_rfl) (by kernel_rfl) (by kernel_rfl) (fun _ _ _ h => h) (Or.inl ⟨by rfl, ?_⟩) hHeld ?_
              rotate_left
              · (intro wq hSw; (try dsimp only at hSw); first | (go_simp; done) | (go_simp; with_reducible rfl))
              try simp only [Act.put, List.setIfInBounds_toArray, List.set_cons_zero, List.set_cons_succ]
              refine wpAnyH_done (by kernel_rfl) ?_ _
              clear hHeld hlow hy y0 x0
              go_upto_region 10 with fail
              obtain ⟨ot, hot⟩ : ∃ y, y = o.take a := ⟨_, rfl⟩
              obtain ⟨od, hod⟩ : ∃ y, y = o.drop a := ⟨_, rfl⟩
              rw [← hot, ← hod] at hnew
              replace hot := hide hot
              replace hod := hide hod
              obtain ⟨w1, hw1⟩ : ∃ x, x = wr.drew.drew := ⟨_, rfl⟩
              have D1 := hide (show TkW W l o (some ⟨q4, 0, none⟩) (some ⟨q3, 0, none⟩) c4 c3 m p w1 from by rw [hw1]; exact D2.out)
              rw [← hw1]
              clear hw1 D2
              have X1 := own_row (w := w1) (B := w1.heap.size) (e := 3) (size := 1) (n := 0) (cs := #[]) (Nat.le_refl _) (by omega) rfl
              have hbx := below1 w1 (Obj.cells #[] 3)
              have G1 := hide (show Grow w1 (some ⟨w1.heap.size, 0, none⟩) 0 [] (w1.alloc (Obj.cells #[] 3)) from ⟨X1, hbx⟩)
              have htl := hide (show ot.length = a from by rw [hot.out, List.length_take, hp.out]; omega)
              have hcap := own_cap D1.out.out
              have hO3 := hide (show IntsAt w1 (Old w1.heap.size) (some ⟨q3, 0, none⟩) o from (RvT.of_own D1.out.out).ints (by rw [hp.out]; omega) rfl)
              have hT1 := hide (show IntsAt (w1.alloc (Obj.cells #[] 3)) (Old w1.heap.size) (some ⟨q3, 0, none⟩) ot from by rw [hot.out]; exact (hO3.out.below hbx (fun _ h => h)).take a)
              clear X1 hbx
              go_wp2_with (at_builtin; refine wpList_append_src _ rfl _ _ _ rfl w1.heap.size 3 i1 _ 1 8 Try.underlying23 hi1.out hy0 hy1 hy2 rfl (by omega) (.slice (some ⟨w1.heap.size, 0, none⟩) 0 0) 0 [] rfl G1.out.own (Old w1.heap.size) (some ⟨q3, 0, none⟩) a c3 ot rfl (by rw [htl.out]; omega) hT1.out (by have : maxLen = 9223372036854775807 := rfl; omega) (by omega) (by simp) ?_)
              intro A5 c5 w5 hown5 hgr5 hat5
              have G5 := hide (G1.out.first htl.out (by simpa using hown5) hgr5)
              clear hown5 hgr5 hat5 G1 hT1
              try rw [Nat.zero_add]
              have x5 : w5.cell? ⟨q4, i, none⟩ = some (.int .i64 x) := (G5.out.low.cell (p := ⟨q4, i, none⟩) (by have := (own_lt D1.out.got rfl).2.1; exact this)).trans (by
                obtain ⟨q4', e4, -, cs4, hB4, hs4, hc4⟩ := own_pos D1.out.got (by omega)
                cases e4
                rw [hx.out, hB4.cell]; exact hc4 i (by rw [hl.out]; omega))
              have l5 : q4 < w5.heap.size := Nat.lt_of_lt_of_le (own_lt D1.out.got rfl).2.1 G5.out.low.size
              have hR := hide (show (w5.alloc (Obj.cells #[.int .i64 x] 3)).ownsRow w1.heap.size 3 1 (.slice A5 a c5) a (ot.map (Value.int .i64)) from by have := G5.out.alloc_own (Obj.cells #[.int .i64 x] 3); rw [htl.out] at this; exact this)
              have hsz5 := G5.out.low.size
              go_wp2_with (at_builtin; refine wpList_append_lies _ rfl _ _ _ rfl w1.heap.size 3 i1 _ 1 8 Try.underlying23 hi1.out hy0 hy1 hy2 rfl (by omega) (.slice A5 a c5) a (ot.map (Value.int .i64)) rfl hR.out ⟨w5.heap.size, 0, none⟩ 1 1 [.int .i64 x] rfl rfl (World.news_of_block (cs := #[.int .i64 x]) (t := 3) (fr := (0, 0)) (heap_alloc_new _ _)) (by simp [Value.oneCell']) (by omega) (by have : maxLen = 9223372036854775807 := rfl; omega) (by omega) (by simp; omega) _ rfl ?_)
              intro g6 cap6 w6 hown6 hgr6 hat6 hlt6
              have G6 := hide (G5.out.more (x := x) (by rw [htl.out]; exact hown6) (by rw [htl.out]; exact hgr6))
              obtain ⟨z6, hz6⟩ : ∃ y, y = ot ++ [x] := ⟨_, rfl⟩
              have ht6 := hide (show z6.length = a + 1 from by rw [hz6, List.length_append, htl.out]; rfl)
              rw [← hz6] at G6
              replace hnew := hide (show insU x o = z6 ++ od from by rw [hnew.out, hz6])
              clear hz6
              clear hown6 hgr6 hat6 hlt6 hR hsz5 x5 l5 G5
              have hR6 := hide (show w6.ownsRow w1.heap.size 3 1 (.slice (some ⟨g6, 0, none⟩) (a + 1) cap6) (a + 1) (z6.map (Value.int .i64)) from by have := G6.out.own; rw [ht6.out] at this; exact this)
              have hsz6 := G6.out.low.size
              have hT6 := hide (show IntsAt w6 (Old w1.heap.size) (some ⟨q3, a, none⟩) od from by rw [hod.out]; exact (hO3.out.below G6.out.low (fun _ h => h)).dropZ (by rw [hp.out]; omega))
              go_wp2_with (at_builtin; refine wpList_append_src _ rfl _ _ _ rfl w1.heap.size 3 i1 _ 1 8 Try.underlying23 hi1.out hy0 hy1 hy2 rfl (by omega) (.slice (some ⟨g6, 0, none⟩) (a + 1) cap6) (a + 1) (z6.map (Value.int .i64)) rfl hR6.out (Old w1.heap.size) (some ⟨q3, a, none⟩) (p - a) _ od rfl (by rw [hod.out, List.length_drop, hp.out]; omega) hT6.out (by have : maxLen = 9223372036854775807 := rfl; omega) (by omega) (by omega) ?_)
              intro A7 c7 w7 hown7 hgr7 hat7
              have G7 := hide (G6.out.moreS (n := a + 1) ht6.out (by rw [hod.out, List.length_drop, hp.out]) hown7 hgr7)
              have hz7 := hide (show (z6 ++ od).length = a + 1 + (p - a) from by rw [List.length_append, ht6.out, hod.out, List.length_drop, hp.out])
              have hst7 := hide (show takenTo l (i + 1) = z6 ++ od from by rw [hstep.out, hnew.out])
              clear hown7 hgr7 hat7 hR6 hsz6 G6 hnew
              go_wp2_with fail
              go_roundw
              case rel => exact ⟨i + 1, _, _, _, by omega, by go_num, rfl, hide (by rw [hst7.out, hz7.out]), hide (by rw [hst7.out]; exact (D1.out.put G7.out).cast (by rw [hz7.out]))⟩
              case measure => simp [intOf]; omega
        · have hlta' : decide ((a : Int) < (p : Int)) = false := decide_eq_false (by omega)
          have hlta2 : decide (a < p) = false := decide_eq_false (by omega)
          have hap2 : a = p := by omega
          have hne : ((a : Int) == (p : Int)) = true := by rw [hap2]; simp
          have hne2 : (a == p) = true := by rw [hap2]; simp
          have hne3 : decide (a = p) = true := decide_eq_true hap2
          have hnew := hide (insU_new x o a (by rw [hp.out]; exact hap) hlow.out (.inl (by rw [hp.out]; exact hap2)))
          have x0 : True := trivial
          obtain ⟨q4, e4, -, cs4, hB4, hs4, hc4⟩ := own_pos D0.out.got (by omega)
          subst e4
          have x0 : wr.cell? ⟨q4, i, none⟩ = some (.int .i64 x) := by rw [hx.out, hB4.cell]; exact hc4 i (by rw [hl.out]; omega)
          have lq4 := hB4.lt
          clear hB4 hs4 hc4
          clear x0 lq4
          have hDD := D0.out.out.2
          rcases hDD with ⟨e3, hp0⟩ | ⟨q3, cap, cur, e3, -⟩
          · obtain ⟨rfl, rfl⟩ : A3 = none ∧ c3 = 0 := by cases e3; exact ⟨rfl, rfl⟩
            subst hp0
            obtain rfl : a = 0 := hap2
            have D2 := hide D0.out.drew.drew
            clear D0 hlow e3 hne hne2 hne3 hlta' hlta2 hlta
            go_upto_region 7 with fail
            refine wp_region_held_drew (S := (fun _ => True)) (by kernel_rfl) ?_ (fun hHeld => ?_)
            · exact trivial
            refine wpAnyH_take (i := 0) (oi := { dst := some 16, op := Op.move (Operand.tmp 6), type := 3, pos := "l08_deque.go:97", after := #[], guard := none }) (v := ?_) rfl (by kernel_rfl) (by kernel_rfl) (by kernel_rfl) (fun _ _ _ h => h) (Or.inl ⟨by rfl, ?_⟩) hHeld ?_
            rotate_left
            · (intro wq hSw; (try dsimp only at hSw); first | (go_simp; done) | (go_simp; with_reducible rfl))
            try simp only [Act.put, List.setIfInBounds_toArray, List.set_cons_zero, List.set_cons_succ]
            refine wpAnyH_take (i := 1) (oi := { dst := some 17, op := Op.move (Operand.tmp 3), type := 23, pos := "l08_deque.go:97", after := #[], guard := none }) (v := ?_) rfl (by kernel_rfl) (by kernel_rfl) (by kernel_rfl) (fun _ _ _ h => h) (Or.inl ⟨by rfl, ?_⟩) hHeld ?_
            rotate_left
            · (intro wq hSw; (try dsimp only at hSw); first | (go_simp; done) | (go_simp; with_reducible rfl))
            try simp only [Act.put, List.setIfInBounds_toArray, List.set_cons_zero, List.set_cons_succ]
            refine wpAnyH_take (i := 2) (oi := { dst := some 18, op := Op.call { callee := Callee.builtin Builtin.len, args := #[Operand.tmp 17], argTypes := #[23] }, type := 3, pos := "l08_deque.go:97", after := #[{ on := 1, ground := Ground.data }], guard := none }) (v := ?_) rfl (by kernel_rfl) (by kernel_rfl) (by kernel_rfl) (fun _ _ _ h => h) (Or.inl ⟨by rfl, ?_⟩) hHeld ?_
            rotate_left
            · (intro wq hSw; (try dsimp only at hSw); first | (go_simp; done) | (go_simp; with_reducible rfl))
            try simp only [Act.put, List.setIfInBounds_toArray, List.set_cons_zero, List.set_cons_succ]
            refine wpAnyH_take (i := 3) (oi := { dst := some 19, op := Op.binOp BinOp.lss 3 (Operand.tmp 16) (Operand.tmp 18) 3, type := 4, pos := "l08_deque.go:97", after := #[{ on := 0, ground := Ground.data }, { on := 2, ground := Ground.data }], guard := none }) (v := ?_) rfl (by kernel_rfl) (by kernel_rfl) (by kernel_rfl) (fun _ _ _ h => h) (Or.inl ⟨by rfl, ?_⟩) hHeld ?_
            rotate_left
            · (intro wq hSw; (try dsimp only at hSw); first | (go_simp; done) | (go_simp; with_reducible rfl))
            try simp only [Act.put, List.setIfInBounds_toArray, List.set_cons_zero, List.set_cons_succ]
            refine wpAnyH_take (i := 4) (oi := { dst := some 20, op := Op.move (Operand.tmp 19), type := 4, pos := "l08_deque.go:97", after := #[{ on := 3, ground := Ground.data }], guard := none }) (v := ?_) rfl (by kernel_rfl) (by kernel_rfl) (by kernel_rfl) (fun _ _ _ h => h) (Or.inl ⟨by rfl, ?_⟩) hHeld ?_
            rotate_left
            · (intro wq hSw; (try dsimp only at hSw); first | (go_simp; done) | (go_simp; with_reducible rfl))
            try simp only [Act.put, List.setIfInBounds_toArray, List.set_cons_zero, List.set_cons_succ]
            refine wpAnyH_take (i := 5) (oi := { dst := some 21, op := Op.move (Operand.tmp 3), type := 23, pos := "l08_deque.go:97", after := #[{ on := 4, ground := Ground.guard }], guard := some (4, true) }) (v := undef) rfl (by kernel_rfl) (by kernel_rfl) (by kernel_rfl) (fun _ _ _ h => h) (Or.inr ⟨by rfl, rfl⟩) hHeld ?_
            try simp only [Act.put, List.setIfInBounds_toArray, List.set_cons_zero, List.set_cons_succ]
            refine wpAnyH_take (i := 6) (oi := { dst := some 22, op := Op.move (Operand.tmp 6), type := 3, pos := "l08_deque.go:97", after := #[{ on := 4, ground := Ground.guard }], guard := some (4, true) }) (v := undef) rfl (by kernel_rfl) (by kernel_rfl) (by kernel_rfl) (fun _ _ _ h => h) (Or.inr ⟨by rfl, rfl⟩) hHeld ?_
            try simp only [Act.put, List.setIfInBounds_toArray, List.set_cons_zero, List.set_cons_succ]
            refine wpAnyH_take (i := 7) (oi := { dst := some 23, op := Op.indexAddr 23 (Operand.tmp 21) (Operand.tmp 22), type := 0, pos := "l08_deque.go:97", after := #[{ on := 5, ground := Ground.data }, { on := 6, ground := Ground.data }, { on := 4, ground := Ground.guard }], guard := some (4, true) }) (v := undef) rfl (by kernel_rfl) (by kernel_rfl) (by kernel_rfl) (fun _ _ _ h => h) (Or.inr ⟨by rfl, rfl⟩) hHeld ?_
            try simp only [Act.put, List.setIfInBounds_toArray, List.set_cons_zero, List.set_cons_succ]
            refine wpAnyH_take (i := 8) (oi := { dst := some 24, op := Op.load 3 (Operand.tmp 23), type := 3, pos := "l08_deque.go:97", after := #[{ on := 7, ground := Ground.data }, { on := 4, ground := Ground.guard }], guard := some (4, true) }) (v := undef) rfl (by kernel_rfl) (by kernel_rfl) (by kernel_rfl) (fun _ _ _ h => h) (Or.inr ⟨by rfl, rfl⟩) hHeld ?_
            try simp only [Act.put, List.setIfInBounds_toArray, List.set_cons_zero, List.set_cons_succ]
            refine wpAnyH_take (i := 9) (oi := { dst := some 25, op := Op.move (Operand.tmp 4), type := 23, pos := "l08_deque.go:97", after := #[{ on := 4, ground := Ground.guard }], guard := some (4, true) }) (v := undef) rfl (by kernel_rfl) (by kernel_rfl) (by kernel_rfl) (fun _ _ _ h => h) (Or.inr ⟨by rfl, rfl⟩) hHeld ?_
            try simp only [Act.put, List.setIfInBounds_toArray, List.set_cons_zero, List.set_cons_succ]
            refine wpAnyH_take (i := 10) (oi := { dst := some 26, op := Op.move (Operand.tmp 5), type := 3, pos := "l08_deque.go:97", after := #[{ on := 4, ground := Ground.guard }], guard := some (4, true) }) (v := undef) rfl (by kernel_rfl) (by kernel_rfl) (by kernel_rfl) (fun _ _ _ h => h) (Or.inr ⟨by rfl, rfl⟩) hHeld ?_
            try simp only [Act.put, List.setIfInBounds_toArray, List.set_cons_zero, List.set_cons_succ]
            refine wpAnyH_take (i := 11) (oi := { dst := some 27, op := Op.indexAddr 23 (Operand.tmp 25) (Operand.tmp 26), type := 0, pos := "l08_deque.go:97", after := #[{ on := 9, ground := Ground.data }, { on := 10, ground := Ground.data }, { on := 4, ground := Ground.guard }], guard := some (4, true) }) (v := undef) rfl (by kernel_rfl) (by kernel_rfl) (by kernel_rfl) (fun _ _ _ h => h) (Or.inr ⟨by rfl, rfl⟩) hHeld ?_
            try simp only [Act.put, List.setIfInBounds_toArray, List.set_cons_zero, List.set_cons_succ]
            refine wpAnyH_take (i := 12) (oi := { dst := some 28, op := Op.load 3 (Operand.tmp 27), type := 3, pos := "l08_deque.go:97", after := #[{ on := 11, ground := Ground.data }, { on := 4, ground := Ground.guard }], guard := some (4, true) }) (v := undef) rfl (by kernel_rfl) (by kernel_rfl) (by kernel_rfl) (fun _ _ _ h => h) (Or.inr ⟨by rfl, rfl⟩) hHeld ?_
            try simp only [Act.put, List.setIfInBounds_toArray, List.set_cons_zero, List.set_cons_succ]
            refine wpAnyH_take (i := 13) (oi := { dst := some 29, op := Op.binOp BinOp.lss 3 (Operand.tmp 24) (Operand.tmp 28) 3, type := 4, pos := "l08_deque.go:97", after := #[{ on := 8, ground := Ground.data }, { on := 12, ground := Ground.data }, { on := 4, ground := Ground.guard }], guard := some (4, true) }) (v := undef) rfl (by kernel_rfl) (by kernel_rfl) (by kernel_rfl) (fun _ _ _ h => h) (Or.inr ⟨by rfl, rfl⟩) hHeld ?_
            try simp only [Act.put, List.setIfInBounds_toArray, List.set_cons_zero, List.set_cons_succ]
            refine wpAnyH_take (i := 14) (oi := { dst := some 30, op := Op.pick (Operand.tmp 20) (Operand.tmp 29) (Operand.const (Value.bool false)), type := 4, pos := "l08_deque.go:97", after := #[{ on := 4, ground := Ground.data }, { on := 13, ground := Ground.data }], guard := none }) (v := ?_) rfl (by kernel_rfl) (by kernel_rfl) (by kernel_rfl) (fun _ _ _ h => h) (Or.inl ⟨by rfl, ?_⟩) hHeld ?_
            rotate_left
            · (intro wq hSw; (try dsimp only at hSw); first | (go_simp; done) | (go_simp; with_reducible rfl))
            try simp only [Act.put, List.setIfInBounds_toArray, List.set_cons_zero, List.set_cons_succ]
            refine wpAnyH_done (by kernel_rfl) ?_ _
            clear hHeld
            go_upto_region 9 with fail
            refine wp_region_held_drew (S := (fun _ => True)) (by kernel_rfl) ?_ (fun hHeld => ?_)
            · exact trivial
            refine wpAnyH_take (i := 0) (oi := { dst := some 33, op := Op.move (Operand.tmp 6), type := 3, pos := "l08_deque.go:100", after := #[], guard := none }) (v := ?_) rfl (by kernel_rfl) (by kernel_rfl) (by kernel_rfl) (fun _ _ _ h => h) (Or.inl ⟨by rfl, ?_⟩) hHeld ?_
            rotate_left
            · (intro wq hSw; (try dsimp only at hSw); first | (go_simp; done) | (go_simp; with_reducible rfl))
            try simp only [Act.put, List.setIfInBounds_toArray, List.set_cons_zero, List.set_cons_succ]
            refine wpAnyH_take (i := 1) (oi := { dst := some 34, op := Op.move (Operand.tmp 3), type := 23, pos := "l08_deque.go:100", after := #[], guard := none }) (v := ?_) rfl (by kernel_rfl) (by kernel_rfl) (by kernel_rfl) (fun _ _ _ h => h) (Or.inl ⟨by rfl, ?_⟩) hHeld ?_
            rotate_left
            · (intro wq hSw; (try dsimp only at hSw); first | (go_simp; done) | (go_simp; with_reducible rfl))
            try simp only [Act.put, List.setIfInBounds_toArray, List.set_cons_zero, List.set_cons_succ]
            refine wpAnyH_take (i := 2) (oi := { dst := some 35, op := Op.call { callee := Callee.builtin Builtin.len, args := #[Operand.tmp 34], argTypes := #[23] }, type := 3, pos := "l08_deque.go:100", after := #[{ on := 1, ground := Ground.data }], guard := none }) (v := ?_) rfl (by kernel_rfl) (by kernel_rfl) (by kernel_rfl) (fun _ _ _ h => h) (Or.inl ⟨by rfl, ?_⟩) hHeld ?_
            rotate_left
            · (intro wq hSw; (try dsimp only at hSw); first | (go_simp; done) | (go_simp; with_reducible rfl))
            try simp only [Act.put, List.setIfInBounds_toArray, List.set_cons_zero, List.set_cons_succ]
            refine wpAnyH_take (i := 3) (oi := { dst := some 36, op := Op.binOp BinOp.eql 3 (Operand.tmp 33) (Operand.tmp 35) 3, type := 4, pos := "l08_deque.go:100", after := #[{ on := 0, ground := Ground.data }, { on := 2, ground := Ground.data }], guard := none }) (v := ?_) rfl (by kernel_rfl) (by kernel_rfl) (by kernel_rfl) (fun _ _ _ h => h) (Or.inl ⟨by rfl, ?_⟩) hHeld ?_
            rotate_left
            · (intro wq hSw; (try dsimp only at hSw); first | (go_simp; done) | (go_simp; with_reducible rfl))
            try simp only [Act.put, List.setIfInBounds_toArray, List.set_cons_zero, List.set_cons_succ]
            refine wpAnyH_take (i := 4) (oi := { dst := some 37, op := Op.move (Operand.tmp 36), type := 4, pos := "l08_deque.go:100", after := #[{ on := 3, ground := Ground.data }], guard := none }) (v := ?_) rfl (by kernel_rfl) (by kernel_rfl) (by kernel_rfl) (fun _ _ _ h => h) (Or.inl ⟨by rfl, ?_⟩) hHeld ?_
            rotate_left
            · (intro wq hSw; (try dsimp only at hSw); first | (go_simp; done) | (go_simp; with_reducible rfl))
            try simp only [Act.put, List.setIfInBounds_toArray, List.set_cons_zero, List.set_cons_succ]
            refine wpAnyH_take (i := 5) (oi := { dst := some 38, op := Op.move (Operand.tmp 3), type := 23, pos := "l08_deque.go:100", after := #[{ on := 4, ground := Ground.guard }], guard := some (4, false) }) (v := undef) rfl (by kernel_rfl) (by kernel_rfl) (by kernel_rfl) (fun _ _ _ h => h) (Or.inr ⟨by rfl, rfl⟩) hHeld ?_
            try simp only [Act.put, List.setIfInBounds_toArray, List.set_cons_zero, List.set_cons_succ]
            refine wpAnyH_take (i := 6) (oi := { dst := some 39, op := Op.move (Operand.tmp 6), type := 3, pos := "l08_deque.go:100", after := #[{ on := 4, ground := Ground.guard }], guard := some (4, false) }) (v := undef) rfl (by kernel_rfl) (by kernel_rfl) (by kernel_rfl) (fun _ _ _ h => h) (Or.inr ⟨by rfl, rfl⟩) hHeld ?_
            try simp only [Act.put, List.setIfInBounds_toArray, List.set_cons_zero, List.set_cons_succ]
            refine wpAnyH_take (i := 7) (oi := { dst := some 40, op := Op.indexAddr 23 (Operand.tmp 38) (Operand.tmp 39), type := 0, pos := "l08_deque.go:100", after := #[{ on := 5, ground := Ground.data }, { on := 6, ground := Ground.data }, { on := 4, ground := Ground.guard }], guard := some (4, false) }) (v := undef) rfl (by kernel_rfl) (by kernel_rfl) (by kernel_rfl) (fun _ _ _ h => h) (Or.inr ⟨by rfl, rfl⟩) hHeld ?_
            try simp only [Act.put, List.setIfInBounds_toArray, List.set_cons_zero, List.set_cons_succ]
            refine wpAnyH_take (i := 8) (oi := { dst := some 41, op := Op.load 3 (Operand.tmp 40), type := 3, pos := "l08_deque.go:100", after := #[{ on := 7, ground := Ground.data }, { on := 4, ground := Ground.guard }], guard := some (4, false) }) (v := undef) rfl (by kernel_rfl) (by kernel_rfl) (by kernel_rfl) (fun _ _ _ h => h) (Or.inr ⟨by rfl, rfl⟩) hHeld ?_
            try simp only [Act.put, List.setIfInBounds_toArray, List.set_cons_zero, List.set_cons_succ]
            refine wpAnyH_take (i := 9) (oi := { dst := some 42, op := Op.move (Operand.tmp 4), type := 23, pos := "l08_deque.go:100", after := #[{ on := 4, ground := Ground.guard }], guard := some (4, false) }) (v := undef) rfl (by kernel_rfl) (by kernel_rfl) (by kernel_rfl) (fun _ _ _ h => h) (Or.inr ⟨by rfl, rfl⟩) hHeld ?_
            try simp only [Act.put, List.setIfInBounds_toArray, List.set_cons_zero, List.set_cons_succ]
            refine wpAnyH_take (i := 10) (oi := { dst := some 43, op := Op.move (Operand.tmp 5), type := 3, pos := "l08_deque.go:100", after := #[{ on := 4, ground := Ground.guard }], guard := some (4, false) }) (v := undef) rfl (by kernel_rfl) (by kernel_rfl) (by kernel_rfl) (fun _ _ _ h => h) (Or.inr ⟨by rfl, rfl⟩) hHeld ?_
            try simp only [Act.put, List.setIfInBounds_toArray, List.set_cons_zero, List.set_cons_succ]
            refine wpAnyH_take (i := 11) (oi := { dst := some 44, op := Op.indexAddr 23 (Operand.tmp 42) (Operand.tmp 43), type := 0, pos := "l08_deque.go:100", after := #[{ on := 9, ground := Ground.data }, { on := 10, ground := Ground.data }, { on := 4, ground := Ground.guard }], guard := some (4, false) }) (v := undef) rfl (by kernel_rfl) (by kernel_rfl) (by kernel_rfl) (fun _ _ _ h => h) (Or.inr ⟨by rfl, rfl⟩) hHeld ?_
            try simp only [Act.put, List.setIfInBounds_toArray, List.set_cons_zero, List.set_cons_succ]
            refine wpAnyH_take (i := 12) (oi := { dst := some 45, op := Op.load 3 (Operand.tmp 44), type := 3, pos := "l08_deque.go:100", after := #[{ on := 11, ground := Ground.data }, { on := 4, ground := Ground.guard }], guard := some (4, false) }) (v := undef) rfl (by kernel_rfl) (by kernel_rfl) (by kernel_rfl) (fun _ _ _ h => h) (Or.inr ⟨by rfl, rfl⟩) hHeld ?_
            try simp only [Act.put, List.setIfInBounds_toArray, List.set_cons_zero, List.set_cons_succ]
            refine wpAnyH_take (i := 13) (oi := { dst := some 46, op := Op.binOp BinOp.neq 3 (Operand.tmp 41) (Operand.tmp 45) 3, type := 4, pos := "l08_deque.go:100", after := #[{ on := 8, ground := Ground.data }, { on := 12, ground := Ground.data }, { on := 4, ground := Ground.guard }], guard := some (4, false) }) (v := undef) rfl (by kernel_rfl) (by kernel_rfl) (by kernel_rfl) (fun _ _ _ h => h) (Or.inr ⟨by rfl, rfl⟩) hHeld ?_
            try simp only [Act.put, List.setIfInBounds_toArray, List.set_cons_zero, List.set_cons_succ]
            refine wpAnyH_take (i := 14) (oi := { dst := some 47, op := Op.pick (Operand.tmp 37) (Operand.const (Value.bool true)) (Operand.tmp 46), type := 4, pos := "l08_deque.go:100", after := #[{ on := 4, ground := Ground.data }, { on := 13, ground := Ground.data }], guard := none }) (v := ?_) rfl (by kernel_rfl) (by kernel_rfl) (by kernel_rfl) (fun _ _ _ h => h) (Or.inl ⟨by rfl, ?_⟩) hHeld ?_
            rotate_left
            · (intro wq hSw; (try dsimp only at hSw); first | (go_simp; done) | (go_simp; with_reducible rfl))
            try simp only [Act.put, List.setIfInBounds_toArray, List.set_cons_zero, List.set_cons_succ]
            refine wpAnyH_done (by kernel_rfl) ?_ _
            clear hHeld
            go_upto_region 10 with fail
            obtain ⟨ot, hot⟩ : ∃ y, y = o.take 0 := ⟨_, rfl⟩
            obtain ⟨od, hod⟩ : ∃ y, y = o.drop 0 := ⟨_, rfl⟩
            rw [← hot, ← hod] at hnew
            replace hot := hide hot
            replace hod := hide hod
            obtain ⟨w1, hw1⟩ : ∃ x, x = wr.drew.drew := ⟨_, rfl⟩
            have D1 := hide (show TkW W l o (some ⟨q4, 0, none⟩) none c4 0 m 0 w1 from by rw [hw1]; exact D2.out)
            rw [← hw1]
            clear hw1 D2
            have X1 := own_row (w := w1) (B := w1.heap.size) (e := 3) (size := 1) (n := 0) (cs := #[]) (Nat.le_refl _) (by omega) rfl
            have hbx := below1 w1 (Obj.cells #[] 3)
            have G1 := hide (show Grow w1 (some ⟨w1.heap.size, 0, none⟩) 0 [] (w1.alloc (Obj.cells #[] 3)) from ⟨X1, hbx⟩)
            have htl := hide (show ot.length = 0 from by rw [hot.out, List.length_take, hp.out]; omega)
            have hcap := own_cap D1.out.out
            clear X1 hbx
            have G5 := hide (show Grow w1 (some ⟨w1.heap.size, 0, none⟩) 0 ot (w1.alloc (Obj.cells #[] 3)) from by rw [show ot = [] from List.eq_nil_of_length_eq_zero htl.out]; exact G1.out)
            go_upto_region 11 with fail
            obtain ⟨w5, hw5⟩ : ∃ x, x = w1.alloc (Obj.cells #[] 3) := ⟨_, rfl⟩
            obtain ⟨A5, hA5⟩ : ∃ x, x = (some ⟨w1.heap.size, 0, none⟩ : Option Addr) := ⟨_, rfl⟩
            obtain ⟨c5, hc5⟩ : ∃ x : Nat, x = 0 := ⟨_, rfl⟩
            rw [← hw5, ← hA5, ← hc5] at G5
            replace hA5 := hide hA5
            replace hc5 := hide hc5
            rw [← hw5]
            clear hw5 G1
            have x5 : w5.cell? ⟨q4, i, none⟩ = some (.int .i64 x) := (G5.out.low.cell (p := ⟨q4, i, none⟩) (by have := (own_lt D1.out.got rfl).2.1; exact this)).trans (by
              obtain ⟨q4', e4, -, cs4, hB4, hs4, hc4⟩ := own_pos D1.out.got (by omega)
              cases e4
              rw [hx.out, hB4.cell]; exact hc4 i (by rw [hl.out]; omega))
            have l5 : q4 < w5.heap.size := Nat.lt_of_lt_of_le (own_lt D1.out.got rfl).2.1 G5.out.low.size
            have hR := hide (show (w5.alloc (Obj.cells #[.int .i64 x] 3)).ownsRow w1.heap.size 3 1 (.slice (some ⟨w1.heap.size, 0, none⟩) 0 0) 0 (ot.map (Value.int .i64)) from by have := G5.out.alloc_own (Obj.cells #[.int .i64 x] 3); rw [htl.out] at this; rw [hA5.out, hc5.out] at this; exact this)
            have hsz5 := G5.out.low.size
            go_wp2_with (at_builtin; refine wpList_append_lies _ rfl _ _ _ rfl w1.heap.size 3 i1 _ 1 8 Try.underlying23 hi1.out hy0 hy1 hy2 rfl (by omega) (.slice (some ⟨w1.heap.size, 0, none⟩) 0 0) 0 (ot.map (Value.int .i64)) rfl hR.out ⟨w5.heap.size, 0, none⟩ 1 1 [.int .i64 x] rfl rfl (World.news_of_block (cs := #[.int .i64 x]) (t := 3) (fr := (0, 0)) (heap_alloc_new _ _)) (by simp [Value.oneCell']) (by omega) (by have : maxLen = 9223372036854775807 := rfl; omega) (by omega) (by simp; omega) _ rfl ?_)
            intro g6 cap6 w6 hown6 hgr6 hat6 hlt6
            have G6 := hide (G5.out.more (x := x) (by rw [htl.out]; exact hown6) (by rw [htl.out]; rw [hA5.out, hc5.out]; exact hgr6))
            obtain ⟨z6, hz6⟩ : ∃ y, y = ot ++ [x] := ⟨_, rfl⟩
            have ht6 := hide (show z6.length = 0 + 1 from by rw [hz6, List.length_append, htl.out]; rfl)
            rw [← hz6] at G6
            replace hnew := hide (show insU x o = z6 ++ od from by rw [hnew.out, hz6])
            clear hz6
            clear hown6 hgr6 hat6 hlt6 hR hsz5 x5 l5 G5
            have hR6 := hide (show w6.ownsRow w1.heap.size 3 1 (.slice (some ⟨g6, 0, none⟩) 1 cap6) 1 (z6.map (Value.int .i64)) from by have := G6.out.own; rw [ht6.out] at this; exact this)
            have hsz6 := G6.out.low.size
            go_wp2_with (at_builtin; refine wpList_append_src _ rfl _ _ _ rfl w1.heap.size 3 i1 _ 1 8 Try.underlying23 hi1.out hy0 hy1 hy2 rfl (by omega) (.slice (some ⟨g6, 0, none⟩) 1 cap6) 1 (z6.map (Value.int .i64)) rfl hR6.out (Old w1.heap.size) none 0 _ [] rfl rfl (IntsAt.none_nil _) (by have : maxLen = 9223372036854775807 := rfl; omega) (by omega) (by omega) ?_)
            intro A7 c7 w7 hown7 hgr7 hat7
            have G7 := hide (G6.out.same (n := 1) ht6.out (by simpa using hown7) hgr7)
            have hst7 := hide (show takenTo l (i + 1) = z6 from by rw [hstep.out, hnew.out, show od = [] from by rw [hod.out]; exact List.drop_eq_nil_of_le (by have := hp.out; omega)]; exact List.append_nil _)
            clear hown7 hgr7 hat7 hR6 hsz6 G6 hnew
            go_wp2_with fail
            go_roundw
            case rel => exact ⟨i + 1, _, _, _, by omega, by go_num, rfl, hide (by rw [hst7.out, ht6.out]), hide (by rw [hst7.out]; exact (D1.out.put G7.out).cast (by rw [ht6.out]))⟩
            case measure => simp [intOf]; omega
          · obtain ⟨rfl, rfl⟩ : A3 = some ⟨q3, 0, none⟩ ∧ c3 = cap := by cases e3; exact ⟨rfl, rfl⟩
            clear e3
            subst hap2
            have D2 := hide D0.out.drew.drew
            clear D0 hlow
            go_upto_region 7 with fail
            refine wp_region_held_drew (S := (fun _ => True)) (by kernel_rfl) ?_ (fun hHeld => ?_)
            · exact trivial
            refine wpAnyH_take (i := 0) (oi := { dst := some 16, op := Op.move (Operand.tmp 6), type := 3, pos := "l08_deque.go:97", after := #[], guard := none }) (v := ?_) rfl (by kernel_rfl) (by kernel_rfl) (by kernel_rfl) (fun _ _ _ h => h) (Or.inl ⟨by rfl, ?_⟩) hHeld ?_
            rotate_left
            · (intro wq hSw; (try dsimp only at hSw); first | (go_simp; done) | (go_simp; with_reducible rfl))
            try simp only [Act.put, List.setIfInBounds_toArray, List.set_cons_zero, List.set_cons_succ]
            refine wpAnyH_take (i := 1) (oi := { dst := some 17, op := Op.move (Operand.tmp 3), type := 23, pos := "l08_deque.go:97", after := #[], guard := none }) (v := ?_) rfl (by kernel_rfl) (by kernel_rfl) (by kernel_rfl) (fun _ _ _ h => h) (Or.inl ⟨by rfl, ?_⟩) hHeld ?_
            rotate_left
            · (intro wq hSw; (try dsimp only at hSw); first | (go_simp; done) | (go_simp; with_reducible rfl))
            try simp only [Act.put, List.setIfInBounds_toArray, List.set_cons_zero, List.set_cons_succ]
            refine wpAnyH_take (i := 2) (oi := { dst := some 18, op := Op.call { callee := Callee.builtin Builtin.len, args := #[Operand.tmp 17], argTypes := #[23] }, type := 3, pos := "l08_deque.go:97", after := #[{ on := 1, ground := Ground.data }], guard := none }) (v := ?_) rfl (by kernel_rfl) (by kernel_rfl) (by kernel_rfl) (fun _ _ _ h => h) (Or.inl ⟨by rfl, ?_⟩) hHeld ?_
            rotate_left
            · (intro wq hSw; (try dsimp only at hSw); first | (go_simp; done) | (go_simp; with_reducible rfl))
            try simp only [Act.put, List.setIfInBounds_toArray, List.set_cons_zero, List.set_cons_succ]
            refine wpAnyH_take (i := 3) (oi := { dst := some 19, op := Op.binOp BinOp.lss 3 (Operand.tmp 16) (Operand.tmp 18) 3, type := 4, pos := "l08_deque.go:97", after := #[{ on := 0, ground := Ground.data }, { on := 2, ground := Ground.data }], guard := none }) (v := ?_) rfl (by kernel_rfl) (by kernel_rfl) (by kernel_rfl) (fun _ _ _ h => h) (Or.inl ⟨by rfl, ?_⟩) hHeld ?_
            rotate_left
            · (intro wq hSw; (try dsimp only at hSw); first | (go_simp; done) | (go_simp; with_reducible rfl))
            try simp only [Act.put, List.setIfInBounds_toArray, List.set_cons_zero, List.set_cons_succ]
            refine wpAnyH_take (i := 4) (oi := { dst := some 20, op := Op.move (Operand.tmp 19), type := 4, pos := "l08_deque.go:97", after := #[{ on := 3, ground := Ground.data }], guard := none }) (v := ?_) rfl (by kernel_rfl) (by kernel_rfl) (by kernel_rfl) (fun _ _ _ h => h) (Or.inl ⟨by rfl, ?_⟩) hHeld ?_
            rotate_left
            · (intro wq hSw; (try dsimp only at hSw); first | (go_simp; done) | (go_simp; with_reducible rfl))
            try simp only [Act.put, List.setIfInBounds_toArray, List.set_cons_zero, List.set_cons_succ]
            refine wpAnyH_take (i := 5) (oi := { dst := some 21, op := Op.move (Operand.tmp 3), type := 23, pos := "l08_deque.go:97", after := #[{ on := 4, ground := Ground.guard }], guard := some (4, true) }) (v := undef) rfl (by kernel_rfl) (by kernel_rfl) (by kernel_rfl) (fun _ _ _ h => h) (Or.inr ⟨by rfl, rfl⟩) hHeld ?_
            try simp only [Act.put, List.setIfInBounds_toArray, List.set_cons_zero, List.set_cons_succ]
            refine wpAnyH_take (i := 6) (oi := { dst := some 22, op := Op.move (Operand.tmp 6), type := 3, pos := "l08_deque.go:97", after := #[{ on := 4, ground := Ground.guard }], guard := some (4, true) }) (v := undef) rfl (by kernel_rfl) (by kernel_rfl) (by kernel_rfl) (fun _ _ _ h => h) (Or.inr ⟨by rfl, rfl⟩) hHeld ?_
            try simp only [Act.put, List.setIfInBounds_toArray, List.set_cons_zero, List.set_cons_succ]
            refine wpAnyH_take (i := 7) (oi := { dst := some 23, op := Op.indexAddr 23 (Operand.tmp 21) (Operand.tmp 22), type := 0, pos := "l08_deque.go:97", after := #[{ on := 5, ground := Ground.data }, { on := 6, ground := Ground.data }, { on := 4, ground := Ground.guard }], guard := some (4, true) }) (v := undef) rfl (by kernel_rfl) (by kernel_rfl) (by kernel_rfl) (fun _ _ _ h => h) (Or.inr ⟨by rfl, rfl⟩) hHeld ?_
            try simp only [Act.put, List.setIfInBounds_toArray, List.set_cons_zero, List.set_cons_succ]
            refine wpAnyH_take (i := 8) (oi := { dst := some 24, op := Op.load 3 (Operand.tmp 23), type := 3, pos := "l08_deque.go:97", after := #[{ on := 7, ground := Ground.data }, { on := 4, ground := Ground.guard }], guard := some (4, true) }) (v := undef) rfl (by kernel_rfl) (by kernel_rfl) (by kernel_rfl) (fun _ _ _ h => h) (Or.inr ⟨by rfl, rfl⟩) hHeld ?_
            try simp only [Act.put, List.setIfInBounds_toArray, List.set_cons_zero, List.set_cons_succ]
            refine wpAnyH_take (i := 9) (oi := { dst := some 25, op := Op.move (Operand.tmp 4), type := 23, pos := "l08_deque.go:97", after := #[{ on := 4, ground := Ground.guard }], guard := some (4, true) }) (v := undef) rfl (by kernel_rfl) (by kernel_rfl) (by kernel_rfl) (fun _ _ _ h => h) (Or.inr ⟨by rfl, rfl⟩) hHeld ?_
            try simp only [Act.put, List.setIfInBounds_toArray, List.set_cons_zero, List.set_cons_succ]
            refine wpAnyH_take (i := 10) (oi := { dst := some 26, op := Op.move (Operand.tmp 5), type := 3, pos := "l08_deque.go:97", after := #[{ on := 4, ground := Ground.guard }], guard := some (4, true) }) (v := undef) rfl (by kernel_rfl) (by kernel_rfl) (by kernel_rfl) (fun _ _ _ h => h) (Or.inr ⟨by rfl, rfl⟩) hHeld ?_
            try simp only [Act.put, List.setIfInBounds_toArray, List.set_cons_zero, List.set_cons_succ]
            refine wpAnyH_take (i := 11) (oi := { dst := some 27, op := Op.indexAddr 23 (Operand.tmp 25) (Operand.tmp 26), type := 0, pos := "l08_deque.go:97", after := #[{ on := 9, ground := Ground.data }, { on := 10, ground := Ground.data }, { on := 4, ground := Ground.guard }], guard := some (4, true) }) (v := undef) rfl (by kernel_rfl) (by kernel_rfl) (by kernel_rfl) (fun _ _ _ h => h) (Or.inr ⟨by rfl, rfl⟩) hHeld ?_
            try simp only [Act.put, List.setIfInBounds_toArray, List.set_cons_zero, List.set_cons_succ]
            refine wpAnyH_take (i := 12) (oi := { dst := some 28, op := Op.load 3 (Operand.tmp 27), type := 3, pos := "l08_deque.go:97", after := #[{ on := 11, ground := Ground.data }, { on := 4, ground := Ground.guard }], guard := some (4, true) }) (v := undef) rfl (by kernel_rfl) (by kernel_rfl) (by kernel_rfl) (fun _ _ _ h => h) (Or.inr ⟨by rfl, rfl⟩) hHeld ?_
            try simp only [Act.put, List.setIfInBounds_toArray, List.set_cons_zero, List.set_cons_succ]
            refine wpAnyH_take (i := 13) (oi := { dst := some 29, op := Op.binOp BinOp.lss 3 (Operand.tmp 24) (Operand.tmp 28) 3, type := 4, pos := "l08_deque.go:97", after := #[{ on := 8, ground := Ground.data }, { on := 12, ground := Ground.data }, { on := 4, ground := Ground.guard }], guard := some (4, true) }) (v := undef) rfl (by kernel_rfl) (by kernel_rfl) (by kernel_rfl) (fun _ _ _ h => h) (Or.inr ⟨by rfl, rfl⟩) hHeld ?_
            try simp only [Act.put, List.setIfInBounds_toArray, List.set_cons_zero, List.set_cons_succ]
            refine wpAnyH_take (i := 14) (oi := { dst := some 30, op := Op.pick (Operand.tmp 20) (Operand.tmp 29) (Operand.const (Value.bool false)), type := 4, pos := "l08_deque.go:97", after := #[{ on := 4, ground := Ground.data }, { on := 13, ground := Ground.data }], guard := none }) (v := ?_) rfl (by kernel_rfl) (by kernel_rfl) (by kernel_rfl) (fun _ _ _ h => h) (Or.inl ⟨by rfl, ?_⟩) hHeld ?_
            rotate_left
            · (intro wq hSw; (try dsimp only at hSw); first | (go_simp; done) | (go_simp; with_reducible rfl))
            try simp only [Act.put, List.setIfInBounds_toArray, List.set_cons_zero, List.set_cons_succ]
            refine wpAnyH_done (by kernel_rfl) ?_ _
            clear hHeld
            go_upto_region 9 with fail
            refine wp_region_held_drew (S := (fun _ => True)) (by kernel_rfl) ?_ (fun hHeld => ?_)
            · exact trivial
            refine wpAnyH_take (i := 0) (oi := { dst := some 33, op := Op.move (Operand.tmp 6), type := 3, pos := "l08_deque.go:100", after := #[], guard := none }) (v := ?_) rfl (by kernel_rfl) (by kernel_rfl) (by kernel_rfl) (fun _ _ _ h => h) (Or.inl ⟨by rfl, ?_⟩) hHeld ?_
            rotate_left
            · (intro wq hSw; (try dsimp only at hSw); first | (go_simp; done) | (go_simp; with_reducible rfl))
            try simp only [Act.put, List.setIfInBounds_toArray, List.set_cons_zero, List.set_cons_succ]
            refine wpAnyH_take (i := 1) (oi := { dst := some 34, op := Op.move (Operand.tmp 3), type := 23, pos := "l08_deque.go:100", after := #[], guard := none }) (v := ?_) rfl (by kernel_rfl) (by kernel_rfl) (by kernel_rfl) (fun _ _ _ h => h) (Or.inl ⟨by rfl, ?_⟩) hHeld ?_
            rotate_left
            · (intro wq hSw; (try dsimp only at hSw); first | (go_simp; done) | (go_simp; with_reducible rfl))
            try simp only [Act.put, List.setIfInBounds_toArray, List.set_cons_zero, List.set_cons_succ]
            refine wpAnyH_take (i := 2) (oi := { dst := some 35, op := Op.call { callee := Callee.builtin Builtin.len, args := #[Operand.tmp 34], argTypes := #[23] }, type := 3, pos := "l08_deque.go:100", after := #[{ on := 1, ground := Ground.data }], guard := none }) (v := ?_) rfl (by kernel_rfl) (by kernel_rfl) (by kernel_rfl) (fun _ _ _ h => h) (Or.inl ⟨by rfl, ?_⟩) hHeld ?_
            rotate_left
            · (intro wq hSw; (try dsimp only at hSw); first | (go_simp; done) | (go_simp; with_reducible rfl))
            try simp only [Act.put, List.setIfInBounds_toArray, List.set_cons_zero, List.set_cons_succ]
            refine wpAnyH_take (i := 3) (oi := { dst := some 36, op := Op.binOp BinOp.eql 3 (Operand.tmp 33) (Operand.tmp 35) 3, type := 4, pos := "l08_deque.go:100", after := #[{ on := 0, ground := Ground.data }, { on := 2, ground := Ground.data }], guard := none }) (v := ?_) rfl (by kernel_rfl) (by kernel_rfl) (by kernel_rfl) (fun _ _ _ h => h) (Or.inl ⟨by rfl, ?_⟩) hHeld ?_
            rotate_left
            · (intro wq hSw; (try dsimp only at hSw); first | (go_simp; done) | (go_simp; with_reducible rfl))
            try simp only [Act.put, List.setIfInBounds_toArray, List.set_cons_zero, List.set_cons_succ]
            refine wpAnyH_take (i := 4) (oi := { dst := some 37, op := Op.move (Operand.tmp 36), type := 4, pos := "l08_deque.go:100", after := #[{ on := 3, ground := Ground.data }], guard := none }) (v := ?_) rfl (by kernel_rfl) (by kernel_rfl) (by kernel_rfl) (fun _ _ _ h => h) (Or.inl ⟨by rfl, ?_⟩) hHeld ?_
            rotate_left
            · (intro wq hSw; (try dsimp only at hSw); first | (go_simp; done) | (go_simp; with_reducible rfl))
            try simp only [Act.put, List.setIfInBounds_toArray, List.set_cons_zero, List.set_cons_succ]
            refine wpAnyH_take (i := 5) (oi := { dst := some 38, op := Op.move (Operand.tmp 3), type := 23, pos := "l08_deque.go:100", after := #[{ on := 4, ground := Ground.guard }], guard := some (4, false) }) (v := undef) rfl (by kernel_rfl) (by kernel_rfl) (by kernel_rfl) (fun _ _ _ h => h) (Or.inr ⟨by rfl, rfl⟩) hHeld ?_
            try simp only [Act.put, List.setIfInBounds_toArray, List.set_cons_zero, List.set_cons_succ]
            refine wpAnyH_take (i := 6) (oi := { dst := some 39, op := Op.move (Operand.tmp 6), type := 3, pos := "l08_deque.go:100", after := #[{ on := 4, ground := Ground.guard }], guard := some (4, false) }) (v := undef) rfl (by kernel_rfl) (by kernel_rfl) (by kernel_rfl) (fun _ _ _ h => h) (Or.inr ⟨by rfl, rfl⟩) hHeld ?_
            try simp only [Act.put, List.setIfInBounds_toArray, List.set_cons_zero, List.set_cons_succ]
            refine wpAnyH_take (i := 7) (oi := { dst := some 40, op := Op.indexAddr 23 (Operand.tmp 38) (Operand.tmp 39), type := 0, pos := "l08_deque.go:100", after := #[{ on := 5, ground := Ground.data }, { on := 6, ground := Ground.data }, { on := 4, ground := Ground.guard }], guard := some (4, false) }) (v := undef) rfl (by kernel_rfl) (by kernel_rfl) (by kernel_rfl) (fun _ _ _ h => h) (Or.inr ⟨by rfl, rfl⟩) hHeld ?_
            try simp only [Act.put, List.setIfInBounds_toArray, List.set_cons_zero, List.set_cons_succ]
            refine wpAnyH_take (i := 8) (oi := { dst := some 41, op := Op.load 3 (Operand.tmp 40), type := 3, pos := "l08_deque.go:100", after := #[{ on := 7, ground := Ground.data }, { on := 4, ground := Ground.guard }], guard := some (4, false) }) (v := undef) rfl (by kernel_rfl) (by kernel_rfl) (by kernel_rfl) (fun _ _ _ h => h) (Or.inr ⟨by rfl, rfl⟩) hHeld ?_
            try simp only [Act.put, List.setIfInBounds_toArray, List.set_cons_zero, List.set_cons_succ]
            refine wpAnyH_take (i := 9) (oi := { dst := some 42, op := Op.move (Operand.tmp 4), type := 23, pos := "l08_deque.go:100", after := #[{ on := 4, ground := Ground.guard }], guard := some (4, false) }) (v := undef) rfl (by kernel_rfl) (by kernel_rfl) (by kernel_rfl) (fun _ _ _ h => h) (Or.inr ⟨by rfl, rfl⟩) hHeld ?_
            try simp only [Act.put, List.setIfInBounds_toArray, List.set_cons_zero, List.set_cons_succ]
            refine wpAnyH_take (i := 10) (oi := { dst := some 43, op := Op.move (Operand.tmp 5), type := 3, pos := "l08_deque.go:100", after := #[{ on := 4, ground := Ground.guard }], guard := some (4, false) }) (v := undef) rfl (by kernel_rfl) (by kernel_rfl) (by kernel_rfl) (fun _ _ _ h => h) (Or.inr ⟨by rfl, rfl⟩) hHeld ?_
            try simp only [Act.put, List.setIfInBounds_toArray, List.set_cons_zero, List.set_cons_succ]
            refine wpAnyH_take (i := 11) (oi := { dst := some 44, op := Op.indexAddr 23 (Operand.tmp 42) (Operand.tmp 43), type := 0, pos := "l08_deque.go:100", after := #[{ on := 9, ground := Ground.data }, { on := 10, ground := Ground.data }, { on := 4, ground := Ground.guard }], guard := some (4, false) }) (v := undef) rfl (by kernel_rfl) (by kernel_rfl) (by kernel_rfl) (fun _ _ _ h => h) (Or.inr ⟨by rfl, rfl⟩) hHeld ?_
            try simp only [Act.put, List.setIfInBounds_toArray, List.set_cons_zero, List.set_cons_succ]
            refine wpAnyH_take (i := 12) (oi := { dst := some 45, op := Op.load 3 (Operand.tmp 44), type := 3, pos := "l08_deque.go:100", after := #[{ on := 11, ground := Ground.data }, { on := 4, ground := Ground.guard }], guard := some (4, false) }) (v := undef) rfl (by kernel_rfl) (by kernel_rfl) (by kernel_rfl) (fun _ _ _ h => h) (Or.inr ⟨by rfl, rfl⟩) hHeld ?_
            try simp only [Act.put, List.setIfInBounds_toArray, List.set_cons_zero, List.set_cons_succ]
            refine wpAnyH_take (i := 13) (oi := { dst := some 46, op := Op.binOp BinOp.neq 3 (Operand.tmp 41) (Operand.tmp 45) 3, type := 4, pos := "l08_deque.go:100", after := #[{ on := 8, ground := Ground.data }, { on := 12, ground := Ground.data }, { on := 4, ground := Ground.guard }], guard := some (4, false) }) (v := undef) rfl (by kernel_rfl) (by kernel_rfl) (by kernel_rfl) (fun _ _ _ h => h) (Or.inr ⟨by rfl, rfl⟩) hHeld ?_
            try simp only [Act.put, List.setIfInBounds_toArray, List.set_cons_zero, List.set_cons_succ]
            refine wpAnyH_take (i := 14) (oi := { dst := some 47, op := Op.pick (Operand.tmp 37) (Operand.const (Value.bool true)) (Operand.tmp 46), type := 4, pos := "l08_deque.go:100", after := #[{ on := 4, ground := Ground.data }, { on := 13, ground := Ground.data }], guard := none }) (v := ?_) rfl (by kernel_rfl) (by kernel_rfl) (by kernel_rfl) (fun _ _ _ h => h) (Or.inl ⟨by rfl, ?_⟩) hHeld ?_
            rotate_left
            · (intro wq hSw; (try dsimp only at hSw); first | (go_simp; done) | (go_simp; with_reducible rfl))
            try simp only [Act.put, List.setIfInBounds_toArray, List.set_cons_zero, List.set_cons_succ]
            refine wpAnyH_done (by kernel_rfl) ?_ _
            clear hHeld
            go_upto_region 10 with fail
            obtain ⟨ot, hot⟩ : ∃ y, y = o.take a := ⟨_, rfl⟩
            obtain ⟨od, hod⟩ : ∃ y, y = o.drop a := ⟨_, rfl⟩
            rw [← hot, ← hod] at hnew
            replace hot := hide hot
            replace hod := hide hod
            obtain ⟨w1, hw1⟩ : ∃ x, x = wr.drew.drew := ⟨_, rfl⟩
            have D1 := hide (show TkW W l o (some ⟨q4, 0, none⟩) (some ⟨q3, 0, none⟩) c4 c3 m a w1 from by rw [hw1]; exact D2.out)
            rw [← hw1]
            clear hw1 D2
            have X1 := own_row (w := w1) (B := w1.heap.size) (e := 3) (size := 1) (n := 0) (cs := #[]) (Nat.le_refl _) (by omega) rfl
            have hbx := below1 w1 (Obj.cells #[] 3)
            have G1 := hide (show Grow w1 (some ⟨w1.heap.size, 0, none⟩) 0 [] (w1.alloc (Obj.cells #[] 3)) from ⟨X1, hbx⟩)
            have htl := hide (show ot.length = a from by rw [hot.out, List.length_take, hp.out]; omega)
            have hcap := own_cap D1.out.out
            have hO3 := hide (show IntsAt w1 (Old w1.heap.size) (some ⟨q3, 0, none⟩) o from (RvT.of_own D1.out.out).ints (by rw [hp.out]; omega) rfl)
            have hT1 := hide (show IntsAt (w1.alloc (Obj.cells #[] 3)) (Old w1.heap.size) (some ⟨q3, 0, none⟩) ot from by rw [hot.out]; exact (hO3.out.below hbx (fun _ h => h)).take a)
            clear X1 hbx
            go_wp2_with (at_builtin; refine wpList_append_src _ rfl _ _ _ rfl w1.heap.size 3 i1 _ 1 8 Try.underlying23 hi1.out hy0 hy1 hy2 rfl (by omega) (.slice (some ⟨w1.heap.size, 0, none⟩) 0 0) 0 [] rfl G1.out.own (Old w1.heap.size) (some ⟨q3, 0, none⟩) a c3 ot rfl (by rw [htl.out]; omega) hT1.out (by have : maxLen = 9223372036854775807 := rfl; omega) (by omega) (by simp) ?_)
            intro A5 c5 w5 hown5 hgr5 hat5
            have G5 := hide (G1.out.first htl.out (by simpa using hown5) hgr5)
            clear hown5 hgr5 hat5 G1 hT1
            try rw [Nat.zero_add]
            have x5 : w5.cell? ⟨q4, i, none⟩ = some (.int .i64 x) := (G5.out.low.cell (p := ⟨q4, i, none⟩) (by have := (own_lt D1.out.got rfl).2.1; exact this)).trans (by
              obtain ⟨q4', e4, -, cs4, hB4, hs4, hc4⟩ := own_pos D1.out.got (by omega)
              cases e4
              rw [hx.out, hB4.cell]; exact hc4 i (by rw [hl.out]; omega))
            have l5 : q4 < w5.heap.size := Nat.lt_of_lt_of_le (own_lt D1.out.got rfl).2.1 G5.out.low.size
            have hR := hide (show (w5.alloc (Obj.cells #[.int .i64 x] 3)).ownsRow w1.heap.size 3 1 (.slice A5 a c5) a (ot.map (Value.int .i64)) from by have := G5.out.alloc_own (Obj.cells #[.int .i64 x] 3); rw [htl.out] at this; exact this)
            have hsz5 := G5.out.low.size
            go_wp2_with (at_builtin; refine wpList_append_lies _ rfl _ _ _ rfl w1.heap.size 3 i1 _ 1 8 Try.underlying23 hi1.out hy0 hy1 hy2 rfl (by omega) (.slice A5 a c5) a (ot.map (Value.int .i64)) rfl hR.out ⟨w5.heap.size, 0, none⟩ 1 1 [.int .i64 x] rfl rfl (World.news_of_block (cs := #[.int .i64 x]) (t := 3) (fr := (0, 0)) (heap_alloc_new _ _)) (by simp [Value.oneCell']) (by omega) (by have : maxLen = 9223372036854775807 := rfl; omega) (by omega) (by simp; omega) _ rfl ?_)
            intro g6 cap6 w6 hown6 hgr6 hat6 hlt6
            have G6 := hide (G5.out.more (x := x) (by rw [htl.out]; exact hown6) (by rw [htl.out]; exact hgr6))
            obtain ⟨z6, hz6⟩ : ∃ y, y = ot ++ [x] := ⟨_, rfl⟩
            have ht6 := hide (show z6.length = a + 1 from by rw [hz6, List.length_append, htl.out]; rfl)
            rw [← hz6] at G6
            replace hnew := hide (show insU x o = z6 ++ od from by rw [hnew.out, hz6])
            clear hz6
            clear hown6 hgr6 hat6 hlt6 hR hsz5 x5 l5 G5
            rcases Nat.eq_or_lt_of_le hcap with hca | hca
            · subst hca
              have hR6 := hide (show w6.ownsRow w1.heap.size 3 1 (.slice (some ⟨g6, 0, none⟩) (a + 1) cap6) (a + 1) (z6.map (Value.int .i64)) from by have := G6.out.own; rw [ht6.out] at this; exact this)
              have hsz6 := G6.out.low.size
              go_wp2_with (at_builtin; refine wpList_append_src _ rfl _ _ _ rfl w1.heap.size 3 i1 _ 1 8 Try.underlying23 hi1.out hy0 hy1 hy2 rfl (by omega) (.slice (some ⟨g6, 0, none⟩) (a + 1) cap6) (a + 1) (z6.map (Value.int .i64)) rfl hR6.out (Old w1.heap.size) (some ⟨q3, 0, none⟩) 0 _ [] rfl rfl (IntsAt.none_nil _) (by have : maxLen = 9223372036854775807 := rfl; omega) (by omega) (by omega) ?_)
              intro A7 c7 w7 hown7 hgr7 hat7
              have G7 := hide (G6.out.same ht6.out (by simpa using hown7) hgr7)
              have hst7 := hide (show takenTo l (i + 1) = z6 from by rw [hstep.out, hnew.out, show od = [] from by rw [hod.out]; exact List.drop_eq_nil_of_le (by have := hp.out; omega)]; exact List.append_nil _)
              clear hown7 hgr7 hat7 hR6 hsz6 G6 hnew
              go_wp2_with fail
              go_roundw
              case rel => exact ⟨i + 1, _, _, _, by omega, by go_num, rfl, hide (by rw [hst7.out, ht6.out]), hide (by rw [hst7.out]; exact (D1.out.put G7.out).cast (by rw [ht6.out]))⟩
              case measure => simp [intOf]; omega
            · have hca2 : ¬ c3 = a := by omega
              have hca3 : c3 - a ≠ 0 := by omega
              have hR6 := hide (show w6.ownsRow w1.heap.size 3 1 (.slice (some ⟨g6, 0, none⟩) (a + 1) cap6) (a + 1) (z6.map (Value.int .i64)) from by have := G6.out.own; rw [ht6.out] at this; exact this)
              have hsz6 := G6.out.low.size
              go_wp2_with (at_builtin; refine wpList_append_src _ rfl _ _ _ rfl w1.heap.size 3 i1 _ 1 8 Try.underlying23 hi1.out hy0 hy1 hy2 rfl (by omega) (.slice (some ⟨g6, 0, none⟩) (a + 1) cap6) (a + 1) (z6.map (Value.int .i64)) rfl hR6.out (Old w1.heap.size) (some ⟨q3, a, none⟩) 0 _ [] rfl rfl (IntsAt.none_nil _) (by have : maxLen = 9223372036854775807 := rfl; omega) (by omega) (by omega) ?_)
              intro A7 c7 w7 hown7 hgr7 hat7
              have G7 := hide (G6.out.same ht6.out (by simpa using hown7) hgr7)
              have hst7 := hide (show takenTo l (i + 1) = z6 from by rw [hstep.out, hnew.out, show od = [] from by rw [hod.out]; exact List.drop_eq_nil_of_le (by have := hp.out; omega)]; exact List.append_nil _)
              clear hown7 hgr7 hat7 hR6 hsz6 G6 hnew
              go_wp2_with fail
              go_roundw
              case rel => exact ⟨i + 1, _, _, _, by omega, by go_num, rfl, hide (by rw [hst7.out, ht6.out]), hide (by rw [hst7.out]; exact (D1.out.put G7.out).cast (by rw [ht6.out]))⟩
              case measure => simp [intOf]; omega
    · obtain rfl : i = m := by omega
      have hlt' : decide ((i : Int) < (i : Int)) = false := decide_eq_false (by omega)
      have hWw := hide BW.out.size
      go_wp2_with fail
      go_ret
      have hO := D0.out.out
      rw [hp.out]
      exact ⟨A3, c3, rfl, own_base hO hWw.out, BW.out.trans (D0.out.low.mono BW.out.size)⟩
end Go.Proofs.Ytjendjbbhohjcaa
