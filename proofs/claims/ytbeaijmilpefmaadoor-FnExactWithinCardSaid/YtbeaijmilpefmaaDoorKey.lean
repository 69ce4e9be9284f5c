/- impl.Outcome.key: the numbers' text. -/
import Derived.Test.YtbeaijmilpefmaaDoorWithinD
import Derived.Test.YtbeaijmilpefmaaDoorKeyB
import Derived.Test.YtbeaijmilpefmaaDoorExD
import Derived.Test.YtbeaijmilpefmaaDoorShelf
import Derived.Lib.AppendIntMem
import Derived.Lib.ItoaLen
import Derived.Lib.Slices
import Derived.Lib.Hide
import Derived.Laws.IdiomStrings
import Derived.OwnWalk
import Derived.BigCall
namespace Go.Proofs.YtbeaijmilpefmaaDoor
open Go.RowKit Go.Shelf

theorem Tryd.infoByteK : (Tryd.prog.info? 5).map (fun i => (i.zero, i.size, i.bytes)) = some (some (.int .u8 0), 1, 1) := by kernel_rfl

/-- A text in the making: its box, its bytes in a row of their own, from block B on. -/
structure TextAt (B g : Nat) (bs : List UInt8) (w : World) : Prop where
  own : ∃ sv, Blk w g 42 #[sv, .slice none 0 0] ∧ w.ownsRow B 5 1 sv bs.length (Lib.byteCells bs)
  lo : B ≤ g
  sz : B ≤ w.heap.size
theorem TextAt.next {B g : Nat} {bs : List UInt8} {w w' : World} (h : TextAt B g bs w) (hb : Below w.heap.size w w') : TextAt B g bs w' := by
  obtain ⟨sv, h1, h2⟩ := h.own
  exact ⟨⟨sv, h1.below hb h1.lt, kept h2 (fun k hk _ => hb.block k hk)⟩, h.lo, Nat.le_trans h.sz hb.size⟩

set_option maxRecDepth 100000 in
set_option maxHeartbeats 6400000 in
theorem number_any (B g : Nat) (bs : List UInt8) (x : Int) (w : World) (h0 : -9223372036854775808 ≤ x) (h1 : x ≤ 9223372036854775807) (hl : bs.length ≤ 140737488355000) (h : TextAt B g bs w)
    (hT : Lib.TabBelow Tryd.prog B w "internal/strconv.uint64pow10" .u64 Lib.pow10Tab) :
    Calls Tryd.prog 18 #[.pointer (some ⟨g, 0, none⟩), .int .i64 x] w fun e w' => e = .returned (.tuple #[]) ∧ TextAt B g (bs ++ (Lib.itoa x ++ [32])) w' ∧ Below B w w' := by
  obtain ⟨i0, hi, hz0, hz1, hz2⟩ := info_parts Tryd.infoByteK
  obtain ⟨⟨sv, hg, hown⟩, hlo, hsz⟩ := h
  have ll := Lib.itoa_length_le x h0 h1
  have c0 : w.cell? ⟨g, 0, none⟩ = some sv := hg.cell 0
  have hgl := hg.lt
  have HG := hide hg
  have HO := hide hown
  replace hi := hide hi
  replace hT := hide hT
  obtain ⟨m, hm⟩ : ∃ m, m = (Lib.itoa x).length := ⟨_, rfl⟩
  obtain ⟨A, c, rfl⟩ := own_slice hown
  clear hg hown
  go_enter Tryd.func18, Tryd.ntmps18
  go_wp2_with fail
  refine (Tryd.strconv_AppendInt_10 B bs.length x h0 h1 (.slice A bs.length c) (Lib.byteCells bs) w HO.out hsz (by omega) hT.out).mono ?_
  rintro e w1 ⟨v1, rfl, hown1, hnx1, hok⟩
  have HG1 := hide (show Blk w1 g 42 #[.slice A bs.length c, .slice none 0 0] from hok g _ HG.out (by simp) (fun c' fz e => by cases e))
  have hs1 := hnx1.size
  have hO1 := hide hown1
  obtain ⟨A1, c1, rfl⟩ := own_slice hown1
  have hgl1 := HG1.out.lt
  have hne : (Value.slice A1 (bs.length + (Lib.itoa x).length) c1).ownBlock ≠ some g := fun e => by
    rcases hO1.out.2 with ⟨hv, -⟩ | ⟨q, cap, cur, hv, _, hq, _⟩
    · rw [hv] at e; simp [Value.ownBlock] at e
    · rw [hv] at e
      obtain rfl : q = g := by simpa [Value.ownBlock] using e
      have h2 : w1.heap[q]? = some (.cells #[.slice A bs.length c, .slice none 0 0] 42 (0, 0)) := HG1.out
      rw [hq] at h2
      cases h2
  have hne := hide hne
  have hnx1 := hide hnx1
  have hi' := hi.out
  clear hok c0 HG HO hT hown1 hi
  go_wp2_with (at_builtin; refine wpList_append_own _ rfl _ _ 40 rfl B 5 i0 (.int .u8 0) 1 1 Tryd.underlying40 hi' hz0 hz1 hz2 rfl (by decide) _ _ _ rfl (hO1.out.alloc _) ⟨w1.heap.size, 0, none⟩ 1 1 [Value.int .u8 32] rfl rfl (by intro j u' hj; match j, hj with | 0, hj => simp at hj; subst hj; simp [Addr.add]) (by intro u' hu'; simp at hu'; subst hu'; rfl) (by unfold maxLen; omega) (by omega) (by simp; omega) ?_)
  intro v2 w2 hown2 hgrow _
  obtain ⟨A2, c2, rfl⟩ := own_slice hown2
  obtain ⟨v2, hv2⟩ : ∃ v, v = Value.slice A2 (bs.length + (Lib.itoa x).length + 1) c2 := ⟨_, rfl⟩
  have hO2 := hide hown2
  rw [← hv2] at hO2
  replace hv2 := hide hv2
  have hB2 := hgrow.block g (by simp; omega) (fun e => hne.out e.symm)
  have HG2 := hide (show Blk w2 g 42 #[.slice A bs.length c, .slice none 0 0] from hB2.trans ((Below.heap_alloc w1 _ g hgl1).trans HG1.out))
  have hnx2 := hide (show Below B w w2 from (hnx1.out.alloc (by omega) _).grown hgrow (by simp; omega) (fun k hk => (hO1.out.lt k hk).1))
  have z2 := HG2.out.frozen 0
  have g2 : w2.cell? ⟨g, 0, none⟩ = some (.slice A bs.length c) := HG2.out.cell 0
  have l2 := HG2.out.lt
  clear hown2 hgrow hB2 hi'
  go_wp2_with fail
  first | refine bodyPost_end (results_none rfl _ _ _) rfl ?_ | refine bodyPost_ret (results_none rfl _ _ _) rfl ?_
  rw [← hv2.out]
  refine ⟨rfl, ⟨⟨v2, ?_, ?_⟩, hlo, ?_⟩, hnx2.out.setCell hlo _⟩
  · simpa using HG2.out.set_ 0 v2
  · have h3 := hO2.out
    have e1 : bs.length + (Lib.itoa x).length + 1 = (bs ++ (Lib.itoa x ++ [32])).length := by simp; omega
    have e2 : Lib.byteCells bs ++ Lib.byteCells (Lib.itoa x) ++ [Value.int .u8 32] = Lib.byteCells (bs ++ (Lib.itoa x ++ [32])) := by simp [Lib.byteCells]
    have e3 : Lib.byteCells bs ++ (Lib.byteCells (Lib.itoa x) ++ [Value.int .u8 32]) = Lib.byteCells (bs ++ (Lib.itoa x ++ [32])) := by simp [Lib.byteCells]
    rw [e1] at h3
    first | rw [e2] at h3 | rw [e3] at h3
    refine kept h3 (fun k _ hk => Below.heap_setCell w2 _ v2 k (fun e => ?_))
    rcases h3.2 with ⟨hv, -⟩ | ⟨q, cap, cur, hv, _, hq, _⟩
    · rw [hv] at hk; simp [Value.ownBlock] at hk
    · rw [hv] at hk
      obtain rfl : q = k := by simpa [Value.ownBlock] using hk
      have h2 : w2.heap[q]? = some (.cells #[.slice A bs.length c, .slice none 0 0] 42 (0, 0)) := by rw [e]; exact HG2.out
      rw [hq] at h2
      cases h2
  · have := hnx2.out.size
    simp
    omega

theorem keyB_len : ∀ (zs : List Int), Int64s zs → (keyB zs).length ≤ zs.length * 22
  | [], _ => by simp [keyB]
  | z :: zs, h => by
    have h0 := h 0 (by simp)
    have hz := Lib.itoa_length_le z h0.1 h0.2
    have := keyB_len zs (fun k hk => h (k + 1) (by simpa using hk))
    rw [keyB_cons]
    simp
    omega
theorem keyB_take (zs : List Int) (k : Nat) (hk : k < zs.length) : keyB (zs.take (k + 1)) = keyB (zs.take k) ++ (Lib.itoa (geti zs k) ++ [32]) := by
  have e : geti zs k = zs[k] := by simp [geti, List.getD_eq_getElem?_getD, List.getElem?_eq_getElem hk]
  rw [List.take_succ_eq_append_getElem hk, keyB_snoc, e]
theorem Int64s.take {zs : List Int} (h : Int64s zs) (k : Nat) : Int64s (zs.take k) := fun j hj => by
  have hj' : j < zs.length ∧ j < k := by simp at hj; omega
  have e : geti (zs.take k) j = geti zs j := by
    unfold geti
    rw [List.getD_eq_getElem?_getD, List.getD_eq_getElem?_getD, List.getElem?_take, if_pos hj'.2]
  rw [e]
  exact h j hj'.1

set_option maxRecDepth 100000 in
set_option maxHeartbeats 3200000 in
theorem row_any (B g : Nat) (A : Option Addr) (zs : List Int) (c : Nat) (w : World) (hn : zs.length ≤ 1048576) (hwf : Int64s zs) (h : TextAt B g [] w) (ha : IntsAt w (Old B) A zs)
    (hT : Lib.TabBelow Tryd.prog B w "internal/strconv.uint64pow10" .u64 Lib.pow10Tab) :
    Calls Tryd.prog 16 #[.pointer (some ⟨g, 0, none⟩), .slice A zs.length c] w fun e w' => e = .returned (.tuple #[]) ∧ TextAt B g (keyB zs) w' ∧ Below B w w' := by
  replace hT := hide hT
  replace h := hide h
  go_enter Tryd.func16, Tryd.ntmps16
  go_wp2_with fail
  go_loopw [8] (fun i wr => ∃ (k : Nat), k ≤ zs.length ∧ i = .int .i64 k ∧ TextAt B g (keyB (zs.take k)) wr ∧ Below B w wr) (fun i _ => zs.length - (intOf i).toNat)
  case atStart => exact ⟨0, Nat.zero_le _, rfl, by simpa [keyB] using h.out, Below.refl _ _⟩
  case round =>
    obtain ⟨k, hk, rfl, ht, hb⟩ := hrel
    by_cases hlt : k < zs.length
    · obtain ⟨b, off, rfl, hbB, hc⟩ := (ha.below hb (fun _ h => h)).2 (by omega)
      have c0 := hc k hlt
      have hx := hwf k hlt
      have hlt' : (k : Int) < (zs.length : Int) := by omega
      have hl := keyB_len _ (hwf.take k)
      have hl2 : (zs.take k).length ≤ 1048576 := by simp; omega
      have hL : (keyB (zs.take k)).length ≤ 140737488355000 := by omega
      replace ht := hide ht
      replace hb := hide hb
      have hT2 := hide (hT.out.on hb.out)
      have hK := hide (keyB_take zs k hlt)
      clear hc hl hl2
      go_wp2_with fail
      refine (number_any B g _ (geti zs k) wr hx.1 hx.2 hL ht.out hT2.out).mono ?_
      rintro e w1 ⟨rfl, ht1, hb1⟩
      rw [← hK.out] at ht1
      go_wp2_with fail
      go_roundw
      case rel => exact ⟨k + 1, by omega, by go_num, ht1, hb.out.trans hb1⟩
      case measure => simp [intOf]; omega
    · obtain rfl : k = zs.length := by omega
      rw [List.take_length] at ht
      go_wp2_with fail
      first | refine bodyPost_end (results_none rfl _ _ _) rfl ?_ | refine bodyPost_ret (results_none rfl _ _ _) rfl ?_
      exact ⟨rfl, ht, hb⟩

set_option maxRecDepth 100000 in
set_option maxHeartbeats 3200000 in
theorem key_any (A : Option Addr) (zs : List Int) (c : Nat) (w : World) (hn : zs.length ≤ 1048576) (hwf : Int64s zs) (ha : IntsAt w (Old w.heap.size) A zs)
    (hT : Lib.TabIs Tryd.prog w "internal/strconv.uint64pow10" .u64 Lib.pow10Tab) :
    Calls Tryd.prog 12 #[.agg #[.slice A zs.length c]] w fun e w' => e = .returned (.string ⟨(keyB zs).toArray⟩) ∧ Below w.heap.size w w' := by
  have B0 := below2 w (Obj.cells #[.slice A zs.length c] 33) (Obj.cells #[.slice none 0 0, .slice none 0 0] 42)
  have hT2 := hide ((Lib.tabBelow_of_tabIs hT).on B0)
  have X0 := (Blk.new w 33 #[.slice A zs.length c]).alloc (Obj.cells #[.slice none 0 0, .slice none 0 0] 42)
  have T0 := Blk.new (w.alloc (Obj.cells #[.slice A zs.length c] 33)) 42 #[.slice none 0 0, .slice none 0 0]
  simp only [World.size_alloc] at T0
  have ht := hide (show TextAt w.heap.size (w.heap.size + 1) [] ((w.alloc (Obj.cells #[.slice A zs.length c] 33)).alloc (Obj.cells #[.slice none 0 0, .slice none 0 0] 42)) from
    ⟨⟨_, T0, World.ownsRow_nil _ _ _ _⟩, by omega, by simp; omega⟩)
  have ha2 := hide (ha.below B0 (fun _ h => h))
  clear X0 T0 hT
  replace B0 := hide B0
  obtain ⟨l, hl⟩ : ∃ l, l = keyB zs := ⟨_, rfl⟩
  rw [← hl]
  replace hl := hide hl
  go_enter Tryd.func12, Tryd.ntmps12
  go_wp2_with fail
  refine (row_any w.heap.size (w.heap.size + 1) A zs c _ hn hwf ht.out ha2.out hT2.out).mono ?_
  rintro e w1 ⟨rfl, ht1, hb1⟩
  obtain ⟨⟨sv, h1, h2⟩, -, -⟩ := ht1
  have t0 : w1.cell? ⟨w.heap.size + 1, 0, none⟩ = some sv := h1.cell 0
  have hgl := h1.lt
  have hB := hide (B0.out.trans hb1)
  rw [← hl.out] at h2
  clear hl ht hT2 ha2 B0
  rcases h2.2 with ⟨hv, h0⟩ | ⟨q, cap, cur, hv, -, -, -, -, -, -⟩
  · subst hv
    have hnil : l = [] := List.length_eq_zero_iff.1 h0
    have hcv : (convert 40 9 (.slice none 0 0)).run Tryd.prog w1 = .ok (.string ⟨#[]⟩) w1 := by
      rw [run_convert_bytes_string w1 40 9 5 none 0 0 Tryd.underlying40 Tryd.underlying5 Tryd.underlying9]
      rfl
    subst hnil
    clear h2 h0
    go_wp2_with fail
    go_ret
    exact ⟨rfl, hB.out⟩
  · subst hv
    have hcv := run_convert_bytes_back (P := Tryd.prog) w1 40 9 5 ⟨q, 0, none⟩ cap l Tryd.underlying40 Tryd.underlying5 Tryd.underlying9 (fun j hj => h2.cells (g := q) rfl j _ (by simp [Lib.byteCells, hj]))
    clear h2
    go_wp2_with fail
    go_ret
    exact ⟨rfl, hB.out⟩
end Go.Proofs.YtbeaijmilpefmaaDoor
