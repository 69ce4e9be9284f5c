/- laws.has; spec.DrawDequeProg: numbers drawn. -/
import Derived.Test.YthgpifeljeldjaaTkD
import Derived.Test.YthgpifeljeldjaaPrD
import Derived.Test.YthgpifeljeldjaaCode
import Derived.Deep.RegionLaw
import Derived.Deep.DeepCutAuto
namespace Go.Proofs.Ythgpifeljeldjaa
open Go.RowKit

set_option maxHeartbeats 1600000 in
theorem has_any (A : Option Addr) (zs : List Int) (c n : Nat) (x : Int) (S : Nat → Prop) (w : World) (hz : zs.length = n) (ha : IntsAt w S A zs) (hx : x ∈ zs) : Calls Try.prog 15 #[.slice A n c, .int .i64 x] w fun e w' => e = .returned (.bool true) ∧ w = w' := by
  have hzl := ha.1
  rw [hz] at hzl
  replace hz := hide hz
  replace hx := hide hx
  go_enter Try.func15, Try.ntmps15
  go_wp2_with fail
  go_loop [5] (fun i => ∃ k : Nat, k ≤ n ∧ i = .int .i64 k ∧ Hid (∀ j, j < k → geti zs j ≠ x)) (fun i => n - (intOf i).toNat)
  case atStart => exact ⟨0, Nat.zero_le _, rfl, hide (fun j hj => by omega)⟩
  case round =>
    obtain ⟨k, hk, rfl, hall⟩ := hrel
    by_cases hlt : k < n
    · obtain ⟨b, off, rfl, -, hc⟩ := ha.2 (by rw [hz.out]; omega)
      have hcell := hc k (by rw [hz.out]; exact hlt)
      obtain ⟨z, hzz⟩ : ∃ z, z = geti zs k := ⟨_, rfl⟩
      rw [← hzz] at hcell
      replace hzz := hide hzz
      clear hc
      cases hzx : (z == x)
      · go_wp2_with fail
        go_round
        case rel => exact ⟨k + 1, by omega, by go_num, hide (fun j hj => by
          rcases Nat.lt_or_ge j k with h | h
          · exact hall.out j h
          · have : j = k := by omega
            subst this; rw [← hzz.out]; simpa using hzx)⟩
        case measure => simp [intOf]; omega
      · go_wp2_with fail
        go_ret
        exact ⟨rfl, rfl⟩
    · have hkn : k = n := by omega
      exact absurd hx.out (fun h => by
        obtain ⟨j, hj, e⟩ := List.getElem_of_mem h
        have h2 : geti zs j = x := by rw [← e]; simp [geti, List.getD_eq_getElem?_getD, List.getElem?_eq_getElem hj]
        exact hall.out j (by have := hz.out; omega) h2)

theorem lit_at2 (w : World) (x y : Int) : IntsAt (w.alloc (Obj.cells #[.int .i64 x, .int .i64 y] 3)) (fun b => b = w.heap.size) (some ⟨w.heap.size, 0, none⟩) [x, y] :=
  ⟨by simp, fun _ => ⟨_, 0, rfl, rfl, fun k hk => by
    rw [(Blk.new w 3 #[.int .i64 x, .int .i64 y]).cell]
    match k, hk with
    | 0, _ => rfl
    | 1, _ => rfl⟩⟩
/-- A row that is drawn beside a cursor, since the world W. -/
structure DqC (g : Nat) (W : World) (A : Option Addr) (c p : Nat) (zs : List Int) (w : World) : Prop where
  cur : Cur w g
  only : Only g W w
  row : w.ownsRow W.heap.size 3 1 (.slice A p c) p (zs.map (Value.int .i64))
  lt : g < W.heap.size
section
variable {g c c' p : Nat} {W w w' : World} {A A' : Option Addr} {zs : List Int} {x : Int}
theorem DqC.call (h : DqC g W A c p zs w) (hc : Cur w' g) (ho : Only g w w') : DqC g W A c p zs w' :=
  ⟨hc, h.only.trans ho, own_keep h.row (fun b hb hlt => ho.block b hlt (by have := h.lt; omega)), h.lt⟩
theorem DqC.next (h : DqC g W A c p zs w) (hb : Below w.heap.size w w') : DqC g W A c p zs w' :=
  h.call (h.cur.below (hb.mono (by have := h.cur.lt; omega))) (Only.of_below hb)
theorem DqC.len (h : DqC g W A c p zs w) : zs.length = p := by simpa using h.row.1
theorem DqC.more (h : DqC g W A c p zs w) (hown : w'.ownsRow W.heap.size 3 1 (.slice A' (p + 1) c') (p + 1) (zs.map (Value.int .i64) ++ [Value.int .i64 x])) (hg : w.grownBy w' (Value.slice A p c).ownBlock) : DqC g W A' c' (p + 1) (zs ++ [x]) w' := by
  have hf : some g ≠ (Value.slice A p c).ownBlock := own_far h.row h.lt
  have hlt := h.cur.lt
  have hz := h.only.size
  refine ⟨?_, ⟨hg.os.trans h.only.os, hg.tape.trans h.only.tape, hg.output.trans h.only.output, Nat.le_trans hz hg.size, fun k hk hkg => (hg.block k (by omega) (fun e => by have := (own_lt h.row e.symm).1; omega)).trans (h.only.block k hk hkg)⟩, by simpa using hown, h.lt⟩
  · obtain ⟨B, n, d, i, y, h1, h2, h3⟩ := h.cur
    refine ⟨B, n, d, i, y, (hg.block g hlt hf).trans h1, h2, h3.keep (fun b o hb => ?_)⟩
    have hb' : b < g := hb
    have e := hg.block b (by omega) (fun e => by have := (own_lt h.row e.symm).1; have := h.lt; omega)
    simp only [World.cell?, e]
end
set_option maxRecDepth 100000 in
set_option maxHeartbeats 6400000 in
theorem drawDq_any (A : Option Addr) (n c : Nat) (w : World) (hn : n ≤ c) (ha : BytesAt w (Old w.heap.size) A n) :
    Calls Try.prog 9 #[.slice A n c] w fun e w' => ∃ (z f : Int) (zs : List Int) (A' : Option Addr) (c' : Nat), e = .returned (.tuple #[.int .i64 z, .slice A' zs.length c', .int .i64 f]) ∧ zs.length ≤ 4 ∧ IntsAt w' (Old w'.heap.size) A' zs ∧ Below w.heap.size w w' := by
  obtain ⟨i1, hi1, hy0, hy1, hy2⟩ := info_parts Try.infoInt
  replace hi1 := hide hi1
  have kN := hide (l1New_any A n c w hn ha)
  clear hn ha
  go_enter Try.func9, Try.ntmps9
  go_wp2_with fail
  refine kN.out.mono ?_
  rintro e W ⟨g, rfl, hgw, hcur, hbW⟩
  have D0 := hide (show DqC g W none 0 0 [] W from ⟨hcur, Only.refl _ _, ⟨rfl, .inl ⟨rfl, rfl⟩⟩, hcur.lt⟩)
  have BW := hide hbW
  replace hgw := hide hgw
  clear kN hcur hbW
  go_wp2_with fail
  refine (l1Below_any g 4 _ (by omega) (by omega) D0.out.cur).mono ?_
  rintro e w1 ⟨k0, rfl, hk0, hc1, ho1⟩
  have D1 := hide (D0.out.call hc1 ho1)
  have hk1 := hk0.2 (by omega)
  clear D0 hc1 ho1 hk0
  go_wp2_with fail
  go_loopw [6, 7] (fun t i wr => ∃ (k : Int) (p : Nat) (zs : List Int) (A' : Option Addr) (c' : Nat), (0 ≤ k ∧ (p : Int) + k ≤ 3) ∧ i = .int .i64 k ∧ t = .slice A' p c' ∧ Hid (DqC g W A' c' p zs wr)) (fun _ i _ => (intOf i).toNat)
  case atStart => exact ⟨k0, 0, [], none, 0, by omega, rfl, rfl, D1⟩
  case round =>
    clear D1
    obtain ⟨k, p, zs, A1, c1, ⟨hk, hpk⟩, rfl, rfl, D1⟩ := hrel
    by_cases hlt : 0 < k
    · have hd : decide (0 < k) = true := decide_eq_true hlt
      go_wp2_with fail
      refine (l1Below_any g 2 _ (by omega) (by omega) D1.out.cur).mono ?_
      rintro e w2 ⟨x, rfl, hx, hc2, ho2⟩
      have D2 := hide (D1.out.call hc2 ho2)
      have hx2 := hx.2 (by omega)
      have hw1 : IntKind.i64.wrap (1 + x) = 1 + x := by rw [IntKind.wrap_i64]; omega
      have hw2 : IntKind.i64.wrap (k - 1) = k - 1 := by rw [IntKind.wrap_i64]; omega
      clear D1 hc2 ho2 hx
      obtain ⟨y, hy⟩ : ∃ y, y = 1 + x := ⟨_, rfl⟩
      rw [← hy] at hw1
      have hw1' : IntKind.i64.wrap (1 + x) = y := by rw [← hy]; exact hw1
      have D3 := hide (D2.out.next (below1 w2 (Obj.cells #[.int .i64 y] 3)))
      have hsz := D2.out.only.size
      have hp4 : p ≤ 3 := by omega
      replace hy := hide hy
      clear hw1
      go_wp2_with (at_builtin; refine wpList_append_lies _ rfl _ _ _ rfl W.heap.size 3 i1 _ 1 8 Try.underlying23 hi1.out hy0 hy1 hy2 rfl (by omega) (.slice A1 p c1) p (zs.map (Value.int .i64)) rfl D3.out.row ⟨w2.heap.size, 0, none⟩ 1 1 [.int .i64 y] rfl rfl (World.news_of_block (cs := #[.int .i64 y]) (t := 3) (fr := (0, 0)) (heap_alloc_new _ _)) (by simp [Value.oneCell']) (by omega) (by have : maxLen = 9223372036854775807 := rfl; omega) (by omega) (by simp; omega) _ rfl ?_)
      intro g5 cap5 w5 hown5 hgr5 hat5 hlt5
      have D5 := hide (D3.out.more hown5 hgr5)
      clear hown5 hgr5 hat5 hlt5 D2 D3 hsz hw1'
      go_wp2_with fail
      go_roundw
      case rel => exact ⟨k - 1, p + 1, _, _, _, by omega, by first | rfl | (rw [hw2]), rfl, D5⟩
      case measure => simp [intOf]; omega
    · have hd : decide (0 < k) = false := decide_eq_false hlt
      have hp4 : p ≤ 3 := by omega
      go_wp2_with fail
      refine (l1Once_any g 8 _ (by omega) (by omega) D1.out.cur).mono ?_
      rintro e w2 ⟨q, rfl, hc2, ho2⟩
      have D2 := hide (D1.out.call hc2 ho2)
      clear D1 hc2 ho2
      cases q
      · obtain ⟨wL, hwL⟩ : ∃ y, y = w2 := ⟨_, rfl⟩
        rw [← hwL] at D2
        rw [← hwL]
        clear hwL
        have hlen := hide D2.out.len
        go_wp2_with fail
        refine (l1Below_any g 7 _ (by omega) (by omega) D2.out.cur).mono ?_
        rintro e w7 ⟨z, rfl, -, hc7, ho7⟩
        have D7 := hide (D2.out.call hc7 ho7)
        clear D2 hc7 ho7
        go_wp2_with fail
        refine (l1Below_any g 6 _ (by omega) (by omega) D7.out.cur).mono ?_
        rintro e w8 ⟨f, rfl, -, hc8, ho8⟩
        have D8 := hide (D7.out.call hc8 ho8)
        clear D7 hc8 ho8
        go_wp2_with fail
        have hR := (RvT.of_own D8.out.row).ints (by rw [hlen.out]; omega) rfl
        have he := hlen.out
        subst he
        refine bodyPost_ret (v := .tuple #[.int .i64 (wrap64 (z - 1)), .slice A1 zs.length c1, .int .i64 (wrap64 (f - 1))]) (by simp [results, Try.results9, go_sem]; done) rfl ⟨_, _, _, _, _, rfl, by omega, hR, BW.out.trans ⟨D8.out.only.os, D8.out.only.tape, D8.out.only.output, D8.out.only.size, fun k hk => D8.out.only.block k (Nat.lt_of_lt_of_le hk BW.out.size) (by have := hgw.out; omega)⟩⟩
      · have D3 := hide (D2.out.next (below1 w2 (Obj.cells #[.int .i64 0, .int .i64 3] 3)))
        have hI := (lit_at2 w2 0 3).keep (w' := w2.alloc (Obj.cells #[.int .i64 0, .int .i64 3] 3)) (S' := fun b => b < (w2.alloc (Obj.cells #[.int .i64 0, .int .i64 3] 3)).heap.size ∧ b ≠ g) (fun _ _ _ => rfl) (fun b hb => by have := D2.out.cur.lt; subst hb; simp; omega)
        obtain ⟨w3, hw3⟩ : ∃ y, y = w2.alloc (Obj.cells #[.int .i64 0, .int .i64 3] 3) := ⟨_, rfl⟩
        rw [← hw3] at D3 hI
        have kP := hide (l1PickInt_any g (some ⟨w2.heap.size, 0, none⟩) [0, 3] 2 w3 (by simp) (by simp) hI D3.out.cur)
        clear hI D2
        go_wp2_with fail
        rw [← hw3]
        clear hw3
        refine kP.out.mono ?_
        rintro e w4 ⟨j, hj, rfl, hc4, ho4⟩
        have D4 := hide (D3.out.call hc4 ho4)
        obtain ⟨y, hy⟩ : ∃ y, y = geti [0, 3] j := ⟨_, rfl⟩
        rw [← hy]
        clear hy hj hc4 ho4 D3 kP
        have D5 := hide (D4.out.next (below1 w4 (Obj.cells #[.int .i64 y] 3)))
        have hsz := D4.out.only.size
        go_wp2_with (at_builtin; refine wpList_append_lies _ rfl _ _ _ rfl W.heap.size 3 i1 _ 1 8 Try.underlying23 hi1.out hy0 hy1 hy2 rfl (by omega) (.slice A1 p c1) p (zs.map (Value.int .i64)) rfl D5.out.row ⟨w4.heap.size, 0, none⟩ 1 1 [.int .i64 y] rfl rfl (World.news_of_block (cs := #[.int .i64 y]) (t := 3) (fr := (0, 0)) (heap_alloc_new _ _)) (by simp [Value.oneCell']) (by omega) (by have : maxLen = 9223372036854775807 := rfl; omega) (by omega) (by simp; omega) _ rfl ?_)
        intro g6 cap6 w6 hown6 hgr6 hat6 hlt6
        have D6 := hide (D5.out.more hown6 hgr6)
        clear hown6 hgr6 hat6 hlt6 D4 D5 hsz
        obtain ⟨wL, hwL⟩ : ∃ y, y = w6 := ⟨_, rfl⟩
        rw [← hwL] at D6
        rw [← hwL]
        clear hwL
        have D2 := hide D6.out
        clear D6
        have hlen := hide D2.out.len
        go_wp2_with fail
        refine (l1Below_any g 7 _ (by omega) (by omega) D2.out.cur).mono ?_
        rintro e w7 ⟨z, rfl, -, hc7, ho7⟩
        have D7 := hide (D2.out.call hc7 ho7)
        clear D2 hc7 ho7
        go_wp2_with fail
        refine (l1Below_any g 6 _ (by omega) (by omega) D7.out.cur).mono ?_
        rintro e w8 ⟨f, rfl, -, hc8, ho8⟩
        have D8 := hide (D7.out.call hc8 ho8)
        clear D7 hc8 ho8
        go_wp2_with fail
        have hR := (RvT.of_own D8.out.row).ints (by rw [hlen.out]; omega) rfl
        have he := hlen.out
        refine bodyPost_ret (v := .tuple #[.int .i64 (wrap64 (z - 1)), .slice (some ⟨g6, 0, none⟩) (p + 1) cap6, .int .i64 (wrap64 (f - 1))]) (by simp [results, Try.results9, go_sem]; done) rfl ⟨wrap64 (z - 1), wrap64 (f - 1), zs ++ [y], some ⟨g6, 0, none⟩, cap6, by rw [he], by omega, hR, BW.out.trans ⟨D8.out.only.os, D8.out.only.tape, D8.out.only.output, D8.out.only.size, fun k hk => D8.out.only.block k (Nat.lt_of_lt_of_le hk BW.out.size) (by have := hgw.out; omega)⟩⟩
end Go.Proofs.Ythgpifeljeldjaa
