/- impl.Within: the others' texts in a map, each of one's own looked up. -/
import Derived.Test.YtbeaijmilpefmaaDoorWithinD
import Derived.Test.YtbeaijmilpefmaaDoorKey
import Derived.Test.YtbeaijmilpefmaaDoorRowsA
import Derived.Maps.Own
import Derived.Maps.Views
import Derived.StringKeys
namespace Go.Proofs.YtbeaijmilpefmaaDoor
open Go.RowKit

/-- Has one of the first k the text t? -/
def hasK (b : List RowD) (k : Nat) (t : List UInt8) : Bool := (b.take k).any (fun r => keyB r.zs == t)
theorem hasK_zero (b : List RowD) (t : List UInt8) : hasK b 0 t = false := rfl
theorem hasK_succ (b : List RowD) (k : Nat) (hk : k < b.length) (t : List UInt8) : hasK b (k + 1) t = (hasK b k t || keyB (getr b k).zs == t) := by
  unfold hasK getr
  rw [List.take_succ_eq_append_getElem hk, List.any_append, List.getD_eq_getElem?_getD, List.getElem?_eq_getElem hk]
  simp
theorem hasK_all (b : List RowD) (zs : List Int) : hasK b b.length (keyB zs) = inB b zs := by
  unfold hasK inB
  rw [List.take_length]
  congr 1
  funext r
  by_cases e : r.zs = zs
  · subst e; simp
  · rw [beq_eq_false_iff_ne.2 e, beq_eq_false_iff_ne.2 (fun h => e (keyB_inj h))]
theorem plainElem_bool_inv' {H : Type} {P : Program} {e : TypeId} (he : P.underlying e = some .bool) {v : Value} {z : DataW H × List MemPlace} (h : plainElem P e v = some z) : ∃ x, v = .bool x ∧ z = (.lit (.bool x), []) := by
  unfold plainElem at h
  rw [he] at h
  cases v <;> simp at h
  exact ⟨_, rfl, h.symm⟩
theorem make_set (n : Int) (w : World) : (Instr.makeMap 35 (some (.int .i64 n))).run Tryd.prog w = .ok (.map (some w.heap.size)) (w.alloc (.map #[] 0)) := by
  simp [Instr.makeMap, run_underlying Tryd.underlying35, asInt, asIntOf, Result.andThen]
theorem zero_bool (w : World) : (zeroValue 4).run Tryd.prog w = .ok (.bool false) w := by kernel_rfl
/-- The set of the first k texts, in block m. -/
def SetAt (b : List RowD) (m k : Nat) (w : World) : Prop := ∃ D : DataW Unit, w.ownsMap Tryd.prog 9 (plainElem Tryd.prog 4) m k D ∧ Maps.IsMap D ∧ ∀ t, D.atKey (.string t) (.lit (.bool false)) = .lit (.bool (hasK b k t))
theorem SetAt.next {b : List RowD} {m k : Nat} {w w' : World} (h : SetAt b m k w) (hb : Below w.heap.size w w') : SetAt b m k w' := by
  obtain ⟨D, h1, h2⟩ := h
  exact ⟨D, h1.kept (row := none) (grown_below hb) (by simp), h2⟩
theorem SetAt.lt {b : List RowD} {m k : Nat} {w : World} (h : SetAt b m k w) : m < w.heap.size := by
  obtain ⟨D, h1, h2⟩ := h
  exact h1.lt
theorem SetAt.look {b : List RowD} {m k : Nat} {w : World} (h : SetAt b m k w) (s : ByteArray) (hs : s.size ≤ maxLen) : (Instr.lookup 35 (.map (some m)) (.string s) false).run Tryd.prog w = .ok (.bool (hasK b k s.data.toList)) w := by
  obtain ⟨D, h1, -, h3⟩ := h
  obtain ⟨v, ps, hrun, hv⟩ := h1.lookup (Maps.string_keyed Tryd.underlying9) Tryd.underlying35 (zero_bool w) (plainElem_bool Tryd.underlying4 false) (Go.WideMaps.keyOf_string_mk Tryd.underlying9 hs)
  obtain ⟨x, rfl, hx⟩ := plainElem_bool_inv' Tryd.underlying4 hv
  rw [h3] at hx
  simp only [Prod.mk.injEq, DataW.lit.injEq, Lit.bool.injEq] at hx
  rw [hrun, hx.1]

set_option maxRecDepth 100000 in
set_option maxHeartbeats 6400000 in
theorem within_any (A D : Option Addr) (a b : List RowD) (c d : Nat) (w : World) (ha : OutsAt w w.heap.size A a) (hb : OutsAt w w.heap.size D b)
    (hT : Lib.TabIs Tryd.prog w "internal/strconv.uint64pow10" .u64 Lib.pow10Tab) :
    Calls Tryd.prog 7 #[.slice A a.length c, .slice D b.length d] w fun e w' => e = .returned (.bool (withinB a b)) ∧ Below w.heap.size w w' := by
  have hT0 := hide (Lib.tabBelow_of_tabIs hT)
  have K := Maps.string_keyed Tryd.underlying9
  have hbl := hb.row.1
  have hal := ha.row.1
  have HA := hide ha
  have HD := hide hb
  clear hT ha hb
  go_enter Tryd.func7, Tryd.ntmps7
  have hmk := make_set (b.length : Int) w
  go_wp2_with fail
  clear hmk
  go_loopw [15] (fun i wr => ∃ (k : Nat), k ≤ b.length ∧ i = .int .i64 k ∧ SetAt b w.heap.size k wr ∧ Below w.heap.size w wr) (fun i _ => b.length - (intOf i).toNat)
  case atStart => exact ⟨0, Nat.zero_le _, rfl, ⟨.map [], World.ownsMap_made _ _ _ _, Maps.isMap_empty, fun t => rfl⟩, below1 _ _⟩
  case round =>
    obtain ⟨k, hk, rfl, hs, hb⟩ := hrel
    by_cases hlt : k < b.length
    · have hlt' : (k : Int) < (b.length : Int) := by omega
      obtain ⟨bb, off, rfl, hbb, hrow⟩ := (HD.out.below hb).row.2 (by omega)
      obtain ⟨A', c', hcell, hints⟩ := hrow k hlt
      obtain ⟨hz, hz2⟩ := HD.out.len k hlt
      have hwf := HD.out.wf k hlt
      have hbl2 := hb.size
      have hbw : bb < wr.heap.size := Nat.lt_of_lt_of_le hbb hbl2
      have hS := hide (hasK_succ b k hlt)
      rw [← hz] at hcell
      obtain ⟨zs, hzs⟩ : ∃ zs, zs = (getr b k).zs := ⟨_, rfl⟩
      rw [← hzs] at hcell hints hwf hS
      have hzl : zs.length ≤ 1048576 := by rw [hzs, hz]; exact hz2
      clear hzs hz hz2 hrow
      have hs' := hide (hs.next (below1 wr (Obj.cells #[.slice A' zs.length c'] 33)))
      have hB1 := below1 wr (Obj.cells #[.slice A' zs.length c'] 33)
      have hT1 := (hT0.out.on (hb.trans (hB1.mono hbl2))).here
      have hints1 := (hints.below (hB1.mono hbl2) (fun _ h => h)).more (fun q (h : q < w.heap.size) => (show Old (wr.alloc (Obj.cells #[.slice A' zs.length c'] 33)).heap.size q by simp [Old]; omega))
      have hkey := hide (key_any A' zs c' _ hzl hwf hints1 hT1)
      have hB0 := hide hb
      have hkl := keyB_len zs hwf
      clear hs hb hB1 hT1 hints1 hints
      go_wp2_with fail
      refine hkey.out.mono ?_
      rintro e w1 ⟨rfl, hb1⟩
      have hs1 := hs'.out.next hb1
      have hw1 := hB0.out.trans ((below1 wr (Obj.cells #[.slice A' zs.length c'] 33)).mono hbl2 |>.trans (hb1.mono (by simp; omega)))
      replace hw1 := hide hw1
      obtain ⟨DD, hown, hIs, hat⟩ := hs1
      replace hat := hide hat
      have hsz : (⟨(keyB zs).toArray⟩ : ByteArray).size ≤ maxLen := by
        show (keyB zs).toArray.size ≤ maxLen
        have : maxLen = 9223372036854775807 := rfl
        simp
        omega
      have hkk := Go.WideMaps.keyOf_string_mk (P := Tryd.prog) Tryd.underlying9 hsz
      clear hkey hs' hB0 hkl hsz
      go_wp2_with (first
        | (at_mapUpdate; refine wpList_mapUpdate_own _ rfl _ _ _ 35 rfl 9 4 K Tryd.underlying35 _ w.heap.size k _ rfl hown (by unfold maxLen; omega) _ _ _ rfl rfl hkk _ [] (plainElem_bool Tryd.underlying4 true) ?_)
        | go_in)
      intro w2 hown2 hgrow2
      have R1 : SetAt b w.heap.size (k + 1) w2 := ⟨_, hown2, hIs.put _ _, fun t => by
        by_cases e : t = keyB zs
        · subst e
          rw [Maps.atKey_put_same hIs (by simp [WideAt.IsKeyLit]), hS.out]
          simp
        · rw [Maps.atKey_put_other (fun h => e (by injection h)), hat.out, hS.out, beq_eq_false_iff_ne.2 (fun h => e h.symm), Bool.or_false]⟩
      have R2 := hw1.out.grown hgrow2 hw1.out.size (fun j hj => by cases hj; exact Nat.le_refl _)
      replace R1 := hide R1
      replace R2 := hide R2
      clear hown2 hgrow2 hown hat hkk
      go_wp2_with fail
      go_roundw
      case rel => exact ⟨k + 1, by omega, by go_num, R1.out, R2.out⟩
      case measure => simp [intOf]; omega
    · obtain rfl : k = b.length := by omega
      have hs0 := hide hs
      have hb0 := hide hb
      clear hs hb
      go_wp2_with fail
      go_loopw [25] (fun i wr => ∃ (k : Nat), k ≤ a.length ∧ i = .int .i64 k ∧ SetAt b w.heap.size b.length wr ∧ Below w.heap.size w wr ∧ Hid (∀ j, j < k → inB b (getr a j).zs = true)) (fun i _ => a.length - (intOf i).toNat)
      case atStart => exact ⟨0, Nat.zero_le _, rfl, hs0.out, hb0.out, hide (fun j hj => by omega)⟩
      case round =>
        obtain ⟨k, hk, rfl, hs, hb, hin⟩ := hrel
        clear hs0 hb0
        by_cases hlt : k < a.length
        · have hlt' : (k : Int) < (a.length : Int) := by omega
          obtain ⟨bb, off, rfl, hbb, hrow⟩ := (HA.out.below hb).row.2 (by omega)
          obtain ⟨A', c', hcell, hints⟩ := hrow k hlt
          obtain ⟨hz, hz2⟩ := HA.out.len k hlt
          have hwf := HA.out.wf k hlt
          have hbl2 := hb.size
          have hbw : bb < wr.heap.size := Nat.lt_of_lt_of_le hbb hbl2
          rw [← hz] at hcell
          have hno := hide (fun (h : inB b (getr a k).zs = false) => show withinB a b = false from allB_no (f := fun i => inB b (getr a i).zs) hlt h)
          have hyes := hide (fun (h : inB b (getr a k).zs = true) => show ∀ j, j < k + 1 → inB b (getr a j).zs = true from fun j hj => by
            by_cases e : j < k
            · exact hin.out j e
            · obtain rfl : j = k := by omega
              exact h)
          obtain ⟨zs, hzs⟩ : ∃ zs, zs = (getr a k).zs := ⟨_, rfl⟩
          rw [← hzs] at hcell hints hwf hno hyes
          have hzl : zs.length ≤ 1048576 := by rw [hzs, hz]; exact hz2
          clear hzs hz hz2 hrow hin
          have hs' := hide (hs.next (below1 wr (Obj.cells #[.slice A' zs.length c'] 33)))
          have hB1 := below1 wr (Obj.cells #[.slice A' zs.length c'] 33)
          have hT1 := (hT0.out.on (hb.trans (hB1.mono hbl2))).here
          have hints1 := (hints.below (hB1.mono hbl2) (fun _ h => h)).more (fun q (h : q < w.heap.size) => (show Old (wr.alloc (Obj.cells #[.slice A' zs.length c'] 33)).heap.size q by simp [Old]; omega))
          have hkey := hide (key_any A' zs c' _ hzl hwf hints1 hT1)
          have hB0 := hide hb
          have hkl := keyB_len zs hwf
          have hE := hasK_all b zs
          clear hs hb hB1 hT1 hints1 hints
          go_wp2_with fail
          refine hkey.out.mono ?_
          rintro e w1 ⟨rfl, hb1⟩
          have hs1 := hs'.out.next hb1
          have hw1 := hB0.out.trans ((below1 wr (Obj.cells #[.slice A' zs.length c'] 33)).mono hbl2 |>.trans (hb1.mono (by simp; omega)))
          replace hw1 := hide hw1
          have hsz : (⟨(keyB zs).toArray⟩ : ByteArray).size ≤ maxLen := by
            show (keyB zs).toArray.size ≤ maxLen
            have : maxLen = 9223372036854775807 := rfl
            simp
            omega
          have hlk := hs1.look ⟨(keyB zs).toArray⟩ hsz
          have hlist : (⟨(keyB zs).toArray⟩ : ByteArray).data.toList = keyB zs := rfl
          rw [hlist, hE] at hlk
          replace hs1 := hide hs1
          clear hkey hs' hB0 hkl hsz hlist hE
          cases hI : inB b zs
          · rw [hI] at hlk
            have hF := hide (hno.out hI)
            go_wp2_with fail
            go_ret
            exact ⟨ret_bool hF.out.symm, hw1.out⟩
          · rw [hI] at hlk
            have hF := hide (hyes.out hI)
            go_wp2_with fail
            go_roundw
            case rel => exact ⟨k + 1, by omega, by go_num, hs1.out, hw1.out, hF⟩
            case measure => simp [intOf]; omega
        · obtain rfl : k = a.length := by omega
          have hF := hide (show withinB a b = true from allB_yes hin.out)
          go_wp2_with fail
          go_ret
          exact ⟨ret_bool hF.out.symm, hb⟩
end Go.Proofs.YtbeaijmilpefmaaDoor
