/- The model's functions on views: PlaceOf, Readable, Writable, ViewJoin, for any history. -/
import Derived.Test.YtbhfkfapdpedpaaPlD
import Derived.Test.YtbhfkfapdpedpaaExI
import Derived.Deep.RegionLaw
import Derived.Deep.DeepCutAuto
import Derived.Deep.DrawnRows
namespace Go.Proofs.Ytbhfkfapdpedpaa
open Go.RowKit

attribute [local go_sem ↓] Go.wp_at_zero Go.wp_at_succ

set_option maxRecDepth 100000 in
set_option maxHeartbeats 800000 in
theorem splaceOf_any (A : Option Addr) (l : List PostD) (c : Nat) (i : Int) (w : World) (hS : PostsAt w (Old w.heap.size) A l) :
    Calls Try.prog 40 #[.agg #[.slice A l.length c], .int .i64 i] w fun e w' => e = .returned (.int .i64 (placeI l i)) ∧ Below w.heap.size w w' := by
  have hn := hS.1
  have hB0 := below1 w (Obj.cells #[Value.slice A l.length c] 45)
  have hX := (Blk.new w 45 #[Value.slice A l.length c]).cell 0
  simp only [List.getElem?_toArray, List.getElem?_cons_zero] at hX
  replace hS := hide (hS.below hB0 (fun _ h => h))
  obtain ⟨W, hW⟩ : ∃ W, W = w.alloc (Obj.cells #[Value.slice A l.length c] 45) := ⟨_, rfl⟩
  rw [← hW] at hX hB0 hS
  go_enter Try.func40, Try.ntmps40
  go_wp2_with fail
  rw [← hW]
  clear hW
  replace hB0 := hide hB0
  go_loop [5] (fun q => ∃ k : Nat, k ≤ l.length ∧ q = .int .i64 k ∧ ∀ j, j < k → idAt l j ≠ i) (fun q => l.length - (intOf q).toNat)
  case atStart => exact ⟨0, Nat.zero_le _, rfl, fun j hj => absurd hj (Nat.not_lt_zero j)⟩
  case round =>
    obtain ⟨k, hk, rfl, hno⟩ := hrel
    replace hno := hide hno
    by_cases hlt : k < l.length
    · obtain ⟨b, off, rfl, hbB, hc⟩ := hS.out.2 (by omega)
      obtain ⟨V, cv, ⟨p0, p1, p2, p3⟩, hcap, hin⟩ := hc k hlt
      clear hc
      by_cases he : (getp l k).id = i
      · have hpl := hide (place_hit hlt he hno.out)
        go_wp2_with fail
        go_ret
        exact ⟨ret_int hpl.out.symm, hB0.out⟩
      · have he' : ((getp l k).id == i) = false := by simpa using he
        have hno2 := hide (show ∀ j, j < k + 1 → idAt l j ≠ i from fun j hj => by
          rcases Nat.lt_or_ge j k with h | h
          · exact hno.out j h
          · obtain rfl : j = k := by omega
            exact he)
        clear he
        go_wp2_with fail
        go_round
        case rel => exact ⟨k + 1, by omega, by go_num, hno2.out⟩
        case measure => simp [intOf]; omega
    · obtain rfl : k = l.length := by omega
      have hpl := hide (place_miss hno.out)
      go_wp2_with fail
      go_ret
      exact ⟨ret_int hpl.out.symm, hB0.out⟩

/-- A row in the making since the world W: its numbers, and that nothing else has changed. -/
structure Grow (W : World) (A : Option Addr) (c : Nat) (zs : List Int) (w : World) : Prop where
  own : w.ownsRow W.heap.size 3 1 (.slice A zs.length c) zs.length (zs.map (Value.int .i64))
  low : Below W.heap.size W w
theorem Grow.nil (W : World) : Grow W none 0 [] W := ⟨⟨rfl, .inl ⟨rfl, rfl⟩⟩, Below.refl _ _⟩
/-- One number more, behind the box that it lies in. -/
theorem Grow.more {W w w' : World} {A A' : Option Addr} {c c' : Nat} {zs : List Int} {x : Int} {o : Obj} (h : Grow W A c zs w) (hown : w'.ownsRow W.heap.size 3 1 (.slice A' (zs.length + 1) c') (zs.length + 1) (zs.map (Value.int .i64) ++ [Value.int .i64 x])) (hg : (w.alloc o).grownBy w' (Value.slice A zs.length c).ownBlock) : Grow W A' c' (zs ++ [x]) w' := by
  refine ⟨by simpa using hown, (h.low.alloc h.low.size o).trans (below_own hg (fun k hk e => ?_) (by have := h.low.size; simp; omega))⟩
  have := (own_at h.own e.symm).1
  omega
theorem Grow.row {W w w0 : World} {A : Option Addr} {c : Nat} {zs : List Int} (h : Grow W A c zs w) (hb : Below w0.heap.size w0 W) : RowR 3 w0 w (.returned (.slice A zs.length c)) zs.length zs :=
  ⟨A, c, rfl, (RvT.of_own h.own).base hb.size, below_then hb h.low⟩
theorem Grow.src {W w : World} {A : Option Addr} {c : Nat} {zs : List Int} (h : Grow W A c zs w) (x : Int) : IntsAt (w.alloc (Obj.cells #[Value.int .i64 x] 3)) (Old (w.heap.size + 1)) (some ⟨w.heap.size, 0, none⟩) [x] := by
  have _ := h
  exact ⟨by simp, fun _ => ⟨_, 0, rfl, by simp [Old], fun k hk => by
    rw [(Blk.new w 3 #[Value.int .i64 x]).cell]
    match k, hk with
    | 0, _ => rfl⟩⟩
theorem Grow.alloc_own {W w : World} {A : Option Addr} {c : Nat} {zs : List Int} (h : Grow W A c zs w) (o : Obj) : (w.alloc o).ownsRow W.heap.size 3 1 (.slice A zs.length c) zs.length (zs.map (Value.int .i64)) :=
  kept h.own (fun k hk _ => Below.heap_alloc w o k hk)

set_option maxRecDepth 100000 in
set_option maxHeartbeats 1600000 in
theorem sreadable_any (A : Option Addr) (l : List PostD) (c : Nat) (i : Int) (w : World) (hn2 : l.length ≤ 1048576) (hS : PostsAt w (Old w.heap.size) A l) :
    Calls Try.prog 38 #[.agg #[.slice A l.length c], .int .i64 i] w fun e w' => RowR 3 w w' e (readI l i).length (readI l i) := by
  have hB0 := below1 w (Obj.cells #[Value.slice A l.length c] 45)
  have hX := Blk.new w 45 #[Value.slice A l.length c]
  obtain ⟨i1, hi1, hy0, hy1, hy2⟩ := info_parts Try.infoInt
  replace hi1 := hide hi1
  replace hS := hide ((hS.below hB0 (fun _ h => h)).more (fun b (h : Old w.heap.size b) => show Old (w.alloc (Obj.cells #[Value.slice A l.length c] 45)).heap.size b from Nat.lt_of_lt_of_le h hB0.size))
  have kP := hide (splaceOf_any A l c i _ hS.out)
  obtain ⟨W, hW⟩ : ∃ W, W = w.alloc (Obj.cells #[Value.slice A l.length c] 45) := ⟨_, rfl⟩
  rw [← hW] at hX hB0 hS kP
  have hlt0 := hX.lt
  replace hX := hide hX
  have x0 := hX.out.cell 0
  simp only [List.getElem?_toArray, List.getElem?_cons_zero] at x0
  go_enter Try.func38, Try.ntmps38
  go_wp2_with fail
  rw [← hW]
  clear hW
  refine kP.out.mono ?_
  rintro e w1 ⟨rfl, hb1⟩
  have hB1 := hide (below_then hB0 hb1)
  have x1 := (hX.out.below hb1 hlt0).cell 0
  simp only [List.getElem?_toArray, List.getElem?_cons_zero] at x1
  have hlt1 := Nat.lt_of_lt_of_le hlt0 hb1.size
  clear x0 hX kP hB0 hb1
  rcases place_cases l i with ⟨hp, -⟩ | ⟨p, hp, hpl, -⟩
  · have hR := hide (show RowR 3 w w1 (.returned (.slice none 0 0)) (readI l i).length (readI l i) from by
      have e : readI l i = [] := by unfold readI; rw [if_pos hp]
      rw [e]
      exact ⟨none, 0, rfl, .inl ⟨rfl, rfl, rfl⟩, hB1.out⟩)
    simp only [hp]
    clear hp
    go_wp2_with fail
    go_loopw [5, 7] (fun v q wr => v = .slice none 0 0 ∧ q = .int .i64 (-1) ∧ wr = w1) (fun _ _ _ => 0)
    case atStart => exact ⟨rfl, rfl, rfl⟩
    case round =>
      obtain ⟨rfl, rfl, rfl⟩ := hrel
      go_wp2_with fail
      go_ret
      exact hR.out
  · have hR := hide (show readI l i = fromTo p l.length from by unfold readI; rw [if_neg (by omega), hp, Int.toNat_natCast])
    simp only [hp]
    clear hp
    go_wp2_with fail
    go_loopw [5, 7] (fun v q wr => ∃ (k : Nat) (A' : Option Addr) (c' : Nat), p ≤ k ∧ k ≤ l.length ∧ q = .int .i64 k ∧ v = .slice A' (fromTo p k).length c' ∧ Grow w1 A' c' (fromTo p k) wr) (fun _ q _ => l.length - (intOf q).toNat)
    case atStart => exact ⟨p, none, 0, Nat.le_refl _, by omega, rfl, by rw [fromTo_self]; rfl, by rw [fromTo_self]; exact Grow.nil _⟩
    case round =>
      obtain ⟨k, A', c', hpk, hk, rfl, rfl, hgr⟩ := hrel
      have x2 := (hgr.low.cell (p := ⟨w.heap.size, 0, none⟩) hlt1).trans x1
      have hp0 : (0 : Int) ≤ p := by omega
      have hlen := fromTo_len p k
      have hsn := hide (fromTo_snoc hpk)
      by_cases hlt : k < l.length
      · generalize fromTo p k = zs at *
        replace hlen := hide hlen
        have hs := hide (hgr.src k)
        have ho := hide (hgr.alloc_own (Obj.cells #[Value.int .i64 (k : Int)] 3))
        have hw := hgr.low.size
        replace hgr := hide hgr
        go_wp2_with (at_builtin; refine wpList_append_src _ rfl _ _ _ rfl w1.heap.size 3 i1 _ 1 8 Try.underlying30 hi1.out hy0 hy1 hy2 rfl (by omega) (.slice A' zs.length c') zs.length (zs.map (Value.int .i64)) rfl ho.out (Old (_ + 1)) (some ⟨_, 0, none⟩) 1 1 [(k : Int)] rfl rfl hs.out (by have := hlen.out; have : maxLen = 9223372036854775807 := rfl; omega) (by have := hlen.out; omega) (by simp; omega) ?_)
        intro A2 c2 w2 hown hg2 _
        have hn := hide (hgr.out.more (by simpa using hown) hg2)
        clear hown hg2 ho hs
        go_wp2_with fail
        go_roundw
        case rel => exact ⟨k + 1, A2, c2, by omega, by omega, by go_num, by rw [hsn.out]; simp, by rw [hsn.out]; exact hn.out⟩
        case measure => simp [intOf]; omega
      · obtain rfl : k = l.length := by omega
        have hf := hide (show RowR 3 w _ (.returned (.slice A' (fromTo p l.length).length c')) (readI l i).length (readI l i) from by rw [hR.out]; exact hgr.row hB1.out)
        clear hgr hsn
        generalize fromTo p l.length = zs at *
        replace hlen := hide hlen
        go_wp2_with fail
        go_ret
        exact hf.out

set_option maxRecDepth 100000 in
set_option maxHeartbeats 1600000 in
theorem swritable_any (A : Option Addr) (l : List PostD) (c : Nat) (i : Int) (w : World) (hn2 : l.length ≤ 1048576) (hS : PostsAt w (Old w.heap.size) A l) :
    Calls Try.prog 39 #[.agg #[.slice A l.length c], .int .i64 i] w fun e w' => RowR 3 w w' e (writeI l i).length (writeI l i) := by
  have hB0 := below1 w (Obj.cells #[Value.slice A l.length c] 45)
  have hX := Blk.new w 45 #[Value.slice A l.length c]
  obtain ⟨i1, hi1, hy0, hy1, hy2⟩ := info_parts Try.infoInt
  replace hi1 := hide hi1
  replace hS := hide ((hS.below hB0 (fun _ h => h)).more (fun b (h : Old w.heap.size b) => show Old (w.alloc (Obj.cells #[Value.slice A l.length c] 45)).heap.size b from Nat.lt_of_lt_of_le h hB0.size))
  have kP := hide (splaceOf_any A l c i _ hS.out)
  obtain ⟨W, hW⟩ : ∃ W, W = w.alloc (Obj.cells #[Value.slice A l.length c] 45) := ⟨_, rfl⟩
  rw [← hW] at hX hB0 hS kP
  have hlt0 := hX.lt
  replace hX := hide hX
  have x0 := hX.out.cell 0
  simp only [List.getElem?_toArray, List.getElem?_cons_zero] at x0
  go_enter Try.func39, Try.ntmps39
  go_wp2_with fail
  rw [← hW]
  clear hW
  refine kP.out.mono ?_
  rintro e w1 ⟨rfl, hb1⟩
  have hB1 := hide (below_then hB0 hb1)
  have x1 := (hX.out.below hb1 hlt0).cell 0
  simp only [List.getElem?_toArray, List.getElem?_cons_zero] at x1
  have hlt1 := Nat.lt_of_lt_of_le hlt0 hb1.size
  have hS1 := hide (hS.out.below hb1 (fun _ h => h))
  have hz1 := hb1.size
  clear x0 hX kP hB0 hb1
  rcases place_cases l i with ⟨hp, -⟩ | ⟨p, hp, hpl, -⟩
  · have hR := hide (show RowR 3 w w1 (.returned (.slice none 0 0)) (writeI l i).length (writeI l i) from by
      have e : writeI l i = [] := by unfold writeI; rw [if_pos hp]
      rw [e]
      exact ⟨none, 0, rfl, .inl ⟨rfl, rfl, rfl⟩, hB1.out⟩)
    simp only [hp]
    clear hp
    go_wp2_with fail
    go_loopw [5, 7] (fun v q wr => v = .slice none 0 0 ∧ q = .int .i64 0 ∧ wr = w1) (fun _ _ _ => 0)
    case atStart => exact ⟨rfl, rfl, rfl⟩
    case round =>
      obtain ⟨rfl, rfl, rfl⟩ := hrel
      go_wp2_with fail
      go_ret
      exact hR.out
  · have hR := hide (show writeI l i = putTo l (p + 1) (l.length + 1) from by unfold writeI; rw [if_neg (by omega), hp, Int.toNat_natCast])
    simp only [hp]
    clear hp
    go_wp2_with fail
    have hv := hide (show ∀ k, k < l.length → ∃ b off, A = some ⟨b, off, none⟩ ∧ b < w1.heap.size ∧ w1.cell? ⟨b, off + k * 4 + 2, none⟩ = some (.bool (getp l k).glue) from fun k hk => by
      obtain ⟨b, off, e, hb, hc⟩ := hS1.out.2 (by omega)
      obtain ⟨V, cv, ⟨p0, p1, p2, p3⟩, -, -⟩ := hc k hk
      exact ⟨b, off, e, Nat.lt_of_lt_of_le hb hz1, p2⟩)
    go_loopw [5, 7] (fun v q wr => ∃ (k : Nat) (A' : Option Addr) (c' : Nat), p + 1 ≤ k ∧ k ≤ l.length + 1 ∧ q = .int .i64 k ∧ v = .slice A' (putTo l (p + 1) k).length c' ∧ Grow w1 A' c' (putTo l (p + 1) k) wr) (fun _ q _ => l.length + 1 - (intOf q).toNat)
    case atStart => exact ⟨p + 1, none, 0, Nat.le_refl _, by omega, by go_num, by rw [putTo_self]; rfl, by rw [putTo_self]; exact Grow.nil _⟩
    case round =>
      obtain ⟨k, A', c', hpk, hk, rfl, rfl, hgr⟩ := hrel
      have x2 := (hgr.low.cell (p := ⟨w.heap.size, 0, none⟩) hlt1).trans x1
      have hp0 : (0 : Int) ≤ p := by omega
      have hlen := putTo_len l (p + 1) k
      by_cases hle : k ≤ l.length
      · have hway : (k = l.length ∧ putB l k = true) ∨ (k < l.length ∧ ∃ b off, A = some ⟨b, off, none⟩ ∧ wr.cell? ⟨b, off + k * 4 + 2, none⟩ = some (.bool (getp l k).glue)) := by
          rcases Nat.lt_or_ge k l.length with h | h
          · obtain ⟨b, off, e, hb, hc⟩ := hv.out k h
            exact .inr ⟨h, b, off, e, (hgr.low.cell (p := ⟨b, off + k * 4 + 2, none⟩) hb).trans hc⟩
          · exact .inl ⟨by omega, by unfold putB; simp [h]⟩
        have hyes := hide (fun h => putTo_yes (l := l) hpk h)
        have hnope := hide (fun h => putTo_no (l := l) hpk h)
        generalize putTo l (p + 1) k = zs at *
        replace hlen := hide hlen
        have hs := hide (hgr.src k)
        have ho := hide (hgr.alloc_own (Obj.cells #[Value.int .i64 (k : Int)] 3))
        have hw := hgr.low.size
        replace hgr := hide hgr
        rcases hway with ⟨he, hpb⟩ | ⟨hlt, b, off, rfl, hc⟩
        · have hyes2 := hide (hyes.out hpb)
          clear hyes hnope hpb
          subst he
          go_wp2_with (at_builtin; refine wpList_append_src _ rfl _ _ _ rfl w1.heap.size 3 i1 _ 1 8 Try.underlying30 hi1.out hy0 hy1 hy2 rfl (by omega) (.slice A' zs.length c') zs.length (zs.map (Value.int .i64)) rfl ho.out (Old (_ + 1)) (some ⟨_, 0, none⟩) 1 1 [(l.length : Int)] rfl rfl hs.out (by have := hlen.out; have : maxLen = 9223372036854775807 := rfl; omega) (by have := hlen.out; omega) (by simp; omega) ?_)
          intro A2 c2 w2 hown hg2 _
          have hn := hide (hgr.out.more (by simpa using hown) hg2)
          clear hown hg2 ho hs
          go_wp2_with fail
          go_roundw
          case rel => exact ⟨l.length + 1, A2, c2, by omega, by omega, by go_num, by rw [hyes2.out]; simp, by rw [hyes2.out]; exact hn.out⟩
          case measure => simp [intOf]
        · have he' : ((k : Int) == (l.length : Int)) = false := by rw [beq_eq_false_iff_ne]; omega
          have hne : ¬ (k : Int) = l.length := by omega
          cases hgl : (getp l k).glue
          · have hyes2 := hide (hyes.out (by unfold putB; simp [hgl]))
            rw [hgl] at hc
            clear hyes hnope hgl
            go_wp2_with (at_builtin; refine wpList_append_src _ rfl _ _ _ rfl w1.heap.size 3 i1 _ 1 8 Try.underlying30 hi1.out hy0 hy1 hy2 rfl (by omega) (.slice A' zs.length c') zs.length (zs.map (Value.int .i64)) rfl ho.out (Old (_ + 1)) (some ⟨_, 0, none⟩) 1 1 [(k : Int)] rfl rfl hs.out (by have := hlen.out; have : maxLen = 9223372036854775807 := rfl; omega) (by have := hlen.out; omega) (by simp; omega) ?_)
            intro A2 c2 w2 hown hg2 _
            have hn := hide (hgr.out.more (by simpa using hown) hg2)
            clear hown hg2 ho hs
            go_wp2_with fail
            go_roundw
            case rel => exact ⟨k + 1, A2, c2, by omega, by omega, by go_num, by rw [hyes2.out]; simp, by rw [hyes2.out]; exact hn.out⟩
            case measure => simp [intOf]; omega
          · have hno2 := hide (hnope.out (by unfold putB; simp [hgl]; omega))
            rw [hgl] at hc
            clear hyes hnope hgl ho hs
            go_wp2_with fail
            go_roundw
            case rel => exact ⟨k + 1, A', c', by omega, by omega, by go_num, by rw [hno2.out], by rw [hno2.out]; exact hgr.out⟩
            case measure => simp [intOf]; omega
      · obtain rfl : k = l.length + 1 := by omega
        have hf := hide (show RowR 3 w _ (.returned (.slice A' (putTo l (p + 1) (l.length + 1)).length c')) (writeI l i).length (writeI l i) from by rw [hR.out]; exact hgr.row hB1.out)
        have hq : ¬ ((l.length + 1 : Nat) : Int) ≤ l.length := by omega
        clear hgr
        generalize putTo l (p + 1) (l.length + 1) = zs at *
        replace hlen := hide hlen
        go_wp2_with fail
        go_ret
        exact hf.out
end Go.Proofs.Ytbhfkfapdpedpaa
