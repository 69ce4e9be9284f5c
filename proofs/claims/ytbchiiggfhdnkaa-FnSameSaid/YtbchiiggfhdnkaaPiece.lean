/- impl.pieceOf, impl.sameRow: 24 elements at a time. -/
import Derived.Test.YtbchiiggfhdnkaaBlk
import Derived.Test.YtbchiiggfhdnkaaRows
import Derived.StillTailTactics
import Derived.Laws.CopyOwn
import Derived.ChangeKeysEq
import Derived.Deep.MidRow
namespace Go.Proofs.Ytbchiiggfhdnkaa
open Go.RowKit

/-- copy, elements of s cells each. -/
theorem run_copy_sized {P : Program} (w : World) (dT sT ty elem : TypeId) (g o dLen dCap : Nat) (a : Addr) (sLen sCap s : Nat) (cur : Array Value) (t : TypeId) (cs : List Value)
    (hu : P.underlying dT = some (.slice elem)) (hs : (P.info? elem).map (·.size) = some s)
    (hg : w.heap[g]? = some (.cells cur t (0, 0))) (hn : Nat.min sLen dLen * s = cs.length)
    (hsrc : ∀ j v, cs[j]? = some v → w.cell? (a.add j) = some v) (hfit : o + cs.length ≤ cur.size) (h1 : ∀ v ∈ cs, v.oneCell' = true) :
    (Builtin.copy_ #[dT, sT] ty #[.slice (some ⟨g, o, none⟩) dLen dCap, .slice (some a) sLen sCap]).run P w =
      .ok (goInt (Nat.min sLen dLen)) (w.setRow g (cur.toList.take o ++ cs ++ cur.toList.drop (o + cs.length)).toArray) := by
  have hl := run_loadCells_list (P := P) w a cs hsrc
  have hst := run_storeCells_at P g o t cs 0 cur w hg (by simpa using hfit) h1
  cases hq : P.info? elem with
  | none => simp [hq] at hs
  | some i =>
    have hi : i.size = s := by simpa [hq] using hs
    simp [Builtin.copy_, run_underlying hu, Builtin.lenOf, Builtin.firstCells, sizeOf, typeInfo, hq, hi, hn, hl, hst]

theorem wpList_copy_sized {P : Program} {w : World} {ops : Array Oper} {rest : List Oper} {o : Oper} {a : Act} {Q : Exit → Act → World → Prop} (hgd : o.guard = none) (d s : Operand) (dT sT : TypeId)
    (ho : o.op = .call { callee := .builtin .copy, args := #[d, s], argTypes := #[dT, sT] }) (elem : TypeId) (size : Nat) (hu : P.underlying dT = some (.slice elem)) (hsz : (P.info? elem).map (·.size) = some size)
    (g dLen dCap : Nat) (ad : Addr) (sLen sCap : Nat) (hd : a.eval d = .slice (some ⟨g, 0, none⟩) dLen dCap) (hs : a.eval s = .slice (some ad) sLen sCap)
    (cur : Array Value) (t : TypeId) (hg : Blk w g t cur) (cs : List Value) (hn : Nat.min sLen dLen * size = cs.length)
    (hsrc : ∀ j v, cs[j]? = some v → w.cell? (ad.add j) = some v) (hfit : cs.length ≤ cur.size) (h1 : ∀ v ∈ cs, v.oneCell' = true) (B : Nat) (w0 : World) (hb : Below B w0 w) (hBg : B ≤ g)
    (h : ∀ w', Blk w' g t (cs ++ cur.toList.drop cs.length).toArray → Below B w0 w' → (∀ k, k ≠ g → w'.heap[k]? = w.heap[k]?) → w'.heap.size = w.heap.size → wpList P ops Q rest (a.put o.dst (goInt (Nat.min sLen dLen))) w') : wpList P ops Q (o :: rest) a w := by
  refine wpList_plain hgd fun K hK => ?_
  have hrun := run_copy_sized (P := P) w dT sT o.type elem g 0 dLen dCap ad sLen sCap size cur t cs hu hsz hg hn hsrc (by omega) h1
  unfold Oper.wp
  simp [execOp, ho, resolve, invoke, builtin, hd, hs, hrun, Result.andThen]
  exact hK _ _ (h _ (by unfold Blk; simpa using setRow_heap w g cur (cs ++ cur.toList.drop cs.length).toArray t _ hg) (below_setRow hb hBg _) (fun k hk => setRow_other w g k _ hk) (by simp [World.setRow]))

/-- A whole block written anew. -/
def setMany (cur : Array Value) (o : Nat) : List Value → Array Value
  | [] => cur
  | v :: r => setMany (cur.setIfInBounds o v) (o + 1) r
theorem Blk.setCells {g : Nat} {t : TypeId} : ∀ (vs : List Value) (o : Nat) (w : World) (cur : Array Value), Blk w g t cur → Blk (w.setCells g o vs) g t (setMany cur o vs)
  | [], _, _, _, h => h
  | v :: r, o, w, cur, h => by
    rw [World.setCells, setMany]
    exact Blk.setCells r (o + 1) _ _ (h.set_ o v)
theorem setMany_size : ∀ (vs : List Value) (cur : Array Value) (o : Nat), (setMany cur o vs).size = cur.size
  | [], _, _ => rfl
  | v :: r, cur, o => by rw [setMany, setMany_size r]; simp
theorem setMany_get : ∀ (vs : List Value) (cur : Array Value) (o j : Nat), o + vs.length ≤ cur.size → (setMany cur o vs)[j]? = if o ≤ j ∧ j < o + vs.length then vs[j - o]? else cur[j]?
  | [], cur, o, j, _ => by rw [setMany, if_neg (by simp)]
  | v :: r, cur, o, j, h => by
    simp at h
    rw [setMany, setMany_get r _ _ j (by simp; omega)]
    simp only [List.length_cons]
    by_cases h1 : j = o
    · subst h1
      rw [if_neg (by omega), if_pos (by omega), Array.getElem?_setIfInBounds, if_pos rfl, if_pos (by omega)]
      simp
    · by_cases h2 : o + 1 ≤ j ∧ j < o + 1 + r.length
      · rw [if_pos h2, if_pos (by omega)]
        obtain ⟨q, rfl⟩ : ∃ q, j = o + 1 + q := ⟨j - (o + 1), by omega⟩
        rw [show o + 1 + q - (o + 1) = q by omega, show o + 1 + q - o = q + 1 by omega, List.getElem?_cons_succ]
      · rw [if_neg h2, if_neg (by omega), Array.getElem?_setIfInBounds, if_neg (by omega)]
theorem setMany_all (vs cur : Array Value) (h : vs.size = cur.size) : setMany cur 0 vs.toList = vs := by
  apply Array.ext_getElem?
  intro j
  rw [setMany_get _ _ _ _ (by simp; omega)]
  by_cases hj : j < vs.size
  · rw [if_pos (by simp; omega)]; simp
  · rw [if_neg (by simp; omega), Array.getElem?_eq_none (by omega), Array.getElem?_eq_none (by omega)]
theorem there_blk {w : World} {g : Nat} {t : TypeId} {cur : Array Value} (h : Blk w g t cur) : w.there g 0 cur.size := fun j hj => by
  rw [Nat.zero_add]
  exact ⟨by rw [h.cell, Array.getElem?_eq_getElem hj]; rfl, h.frozen j⟩
theorem below_setCells {B g : Nat} {w0 : World} (hg : B ≤ g) : ∀ (vs : List Value) (o : Nat) (w : World), Below B w0 w → Below B w0 (w.setCells g o vs)
  | [], _, _, h => h
  | v :: r, o, w, h => by rw [World.setCells]; exact below_setCells hg r (o + 1) _ (h.setCell hg v)

/-- 24 numbers from a place on, 0 behind the row's end. -/
def pieceI (zs : List Int) (f j : Nat) : Int := if f + j < zs.length then geti zs (f + j) else 0
def pieceL (zs : List Int) (f : Nat) : List Value := (List.range (Nat.min (zs.length - f) 24)).map fun j => Value.int .i64 (geti zs (f + j))
theorem pieceL_len (zs : List Int) (f : Nat) : (pieceL zs f).length = Nat.min (zs.length - f) 24 := by simp [pieceL]
def zeros24 : Array Value := #[Value.int IntKind.i64 0, Value.int IntKind.i64 0, Value.int IntKind.i64 0, Value.int IntKind.i64 0, Value.int IntKind.i64 0, Value.int IntKind.i64 0, Value.int IntKind.i64 0, Value.int IntKind.i64 0, Value.int IntKind.i64 0, Value.int IntKind.i64 0, Value.int IntKind.i64 0, Value.int IntKind.i64 0, Value.int IntKind.i64 0, Value.int IntKind.i64 0, Value.int IntKind.i64 0, Value.int IntKind.i64 0, Value.int IntKind.i64 0, Value.int IntKind.i64 0, Value.int IntKind.i64 0, Value.int IntKind.i64 0, Value.int IntKind.i64 0, Value.int IntKind.i64 0, Value.int IntKind.i64 0, Value.int IntKind.i64 0]
theorem zeros24_size : zeros24.size = 24 := rfl
theorem zeros24_at (j : Nat) (h : j < 24) : zeros24[j]? = some (.int .i64 0) := by
  rw [show zeros24 = (List.replicate 24 (Value.int .i64 0)).toArray from rfl, List.getElem?_toArray, List.getElem?_replicate, if_pos h]
theorem pieceL_row (zs : List Int) (f : Nat) (hf : f < zs.length) (j : Nat) (hj : j < 24) : (pieceL zs f ++ zeros24.toList.drop (pieceL zs f).length).toArray[j]? = some (.int .i64 (pieceI zs f j)) := by
  have hl := pieceL_len zs f
  have hm : Nat.min (zs.length - f) 24 = if zs.length - f ≤ 24 then zs.length - f else 24 := by unfold Nat.min; rfl
  simp only [List.getElem?_toArray]
  unfold pieceI
  by_cases h : f + j < zs.length
  · rw [if_pos h, List.getElem?_append_left (by rw [hl, hm]; split <;> omega)]
    simp only [pieceL, List.getElem?_map]
    rw [List.getElem?_range (by rw [hm]; split <;> omega)]
    rfl
  · rw [if_neg h, List.getElem?_append_right (by rw [hl, hm]; split <;> omega), List.getElem?_drop]
    rw [show (pieceL zs f).length + (j - (pieceL zs f).length) = j by rw [hl, hm]; split <;> omega]
    simpa using zeros24_at j hj

/-- Two arrays of ints, item by item. -/
theorem eqItems_ints {P : Program} {e : TypeId} (he : P.underlying e = some (.int .i64)) (d : Nat) (xs ys : Array Value) (f g : Nat → Int) (w : World) : ∀ is : List Nat, (∀ i ∈ is, xs[i]? = some (.int .i64 (f i))) → (∀ i ∈ is, ys[i]? = some (.int .i64 (g i))) →
    (Op.eqItems (d + 1) e 1 xs ys is).run P w = .ok (is.all fun i => f i == g i) w
  | [], _, _ => by simp [Op.eqItems]
  | i :: is, hx, hy => by
    have p1 : (part e xs (i * 1)).run P w = .ok (.int .i64 (f i)) w := by simp [part, isAgg, run_underlying he, hx i (by simp)]
    have p2 : (part e ys (i * 1)).run P w = .ok (.int .i64 (g i)) w := by simp [part, isAgg, run_underlying he, hy i (by simp)]
    have ih := eqItems_ints he d xs ys f g w is (fun j hj => hx j (by simp [hj])) (fun j hj => hy j (by simp [hj]))
    simp only [Op.eqItems, Sem.run_bind, p1, p2, run_equalIn_int w d e .i64 .i64 (f i) (g i) he, Result.andThen_ok]
    cases h : f i == g i
    · simp [h]
    · simp only [Bool.not_true, Bool.false_eq_true, if_false, ih, List.all_cons, h, Bool.true_and]

theorem cellsOfI : Try.prog.cellsOf 3 = 1 := by kernel_rfl
set_option maxRecDepth 100000 in
theorem infoI : ∃ i, Try.prog.info? 3 = some i := ⟨_, rfl⟩

/-- '!=' of two such arrays. -/
theorem neq24 (xs ys : Array Value) (f g : Nat → Int) (hx : ∀ i, i < 24 → xs[i]? = some (.int .i64 (f i))) (hy : ∀ i, i < 24 → ys[i]? = some (.int .i64 (g i))) (w : World) :
    (binOp .neq 158 (.agg xs) (.agg ys)).run Try.prog w = .ok (.bool (!(allB (fun i => f i == g i) 24))) w := by
  obtain ⟨i, hi⟩ := infoI
  rw [run_neq_struct, run_equalIn_array w 9999 xs ys Try.underlying158 hi, cellsOfI]
  rw [eqItems_ints Try.underlying3 9998 xs ys f g w (List.range 24) (fun j hj => hx j (by simpa using hj)) (fun j hj => hy j (by simpa using hj))]
  rfl

set_option maxRecDepth 100000 in
set_option maxHeartbeats 1600000 in
theorem pieceI_any (A : Option Addr) (zs : List Int) (c f : Nat) (S : Nat → Prop) (w : World) (hc : zs.length ≤ c) (hlen : zs.length ≤ 1048576) (hf : f < zs.length) (hS : ∀ b, S b → b < w.heap.size) (ha : IntsAt w S A zs) :
    Calls Try.prog 134 #[.slice A zs.length c, .int .i64 f] w fun e w' => ∃ arr : Array Value, e = .returned (.agg arr) ∧ Hid (arr.size = 24 ∧ ∀ j, j < 24 → arr[j]? = some (.int .i64 (pieceI zs f j))) ∧ Below w.heap.size w w' := by
  have hne : ¬ c = f := by omega
  have hle : (f : Int) ≤ (zs.length : Int) := by omega
  have hge : (0 : Int) ≤ (f : Int) := by omega
  obtain ⟨b, off, rfl, hbB, hcl⟩ := ha.2 (by omega)
  go_enter Try.func134, Try.ntmps134
  go_wp2_with fail
  have k1 := (Blk.new w 158 zeros24).alloc (Obj.cells zeros24 158)
  have k2 := Blk.new (w.alloc (Obj.cells zeros24 158)) 158 zeros24
  have hb2 := below2 w (Obj.cells zeros24 158) (Obj.cells zeros24 158)
  have hz2 : ((w.alloc (Obj.cells zeros24 158)).alloc (Obj.cells zeros24 158)).heap.size = w.heap.size + 1 + 1 := by simp
  simp only [World.size_alloc] at k2
  unfold zeros24 at k1 k2 hb2 hz2
  generalize (w.alloc (Obj.cells #[Value.int IntKind.i64 0, Value.int IntKind.i64 0, Value.int IntKind.i64 0, Value.int IntKind.i64 0, Value.int IntKind.i64 0, Value.int IntKind.i64 0, Value.int IntKind.i64 0, Value.int IntKind.i64 0, Value.int IntKind.i64 0, Value.int IntKind.i64 0, Value.int IntKind.i64 0, Value.int IntKind.i64 0, Value.int IntKind.i64 0, Value.int IntKind.i64 0, Value.int IntKind.i64 0, Value.int IntKind.i64 0, Value.int IntKind.i64 0, Value.int IntKind.i64 0, Value.int IntKind.i64 0, Value.int IntKind.i64 0, Value.int IntKind.i64 0, Value.int IntKind.i64 0, Value.int IntKind.i64 0, Value.int IntKind.i64 0] 158)).alloc (Obj.cells #[Value.int IntKind.i64 0, Value.int IntKind.i64 0, Value.int IntKind.i64 0, Value.int IntKind.i64 0, Value.int IntKind.i64 0, Value.int IntKind.i64 0, Value.int IntKind.i64 0, Value.int IntKind.i64 0, Value.int IntKind.i64 0, Value.int IntKind.i64 0, Value.int IntKind.i64 0, Value.int IntKind.i64 0, Value.int IntKind.i64 0, Value.int IntKind.i64 0, Value.int IntKind.i64 0, Value.int IntKind.i64 0, Value.int IntKind.i64 0, Value.int IntKind.i64 0, Value.int IntKind.i64 0, Value.int IntKind.i64 0, Value.int IntKind.i64 0, Value.int IntKind.i64 0, Value.int IntKind.i64 0, Value.int IntKind.i64 0] 158) = W at *
  have hcl2 := fun k hk => ((bcell hb2).1 b (off + k) (hS b hbB)).trans (hcl k hk)
  have hbd := hb2.drew
  have HC := hide hcl2
  have K1 : Hid (Blk W.drew w.heap.size 158 zeros24) := hide k1
  have K2 : Hid (Blk W.drew (w.heap.size + 1) 158 zeros24) := hide k2
  have HZ := hide hz2
  clear k1 k2 hcl hcl2 hz2 hb2
  go_still_tail 4, (by kernel_rfl)
  change wpList _ _ _ _ _ W.drew
  refine wpList_copy_sized rfl (.tmp 6) (.tmp 9) 33 33 rfl 3 1 Try.underlying33 (by kernel_rfl) (w.heap.size + 1) 24 24 ⟨b, off + f, none⟩ (zs.length - f) (c - f) rfl rfl zeros24 158 K2.out (pieceL zs f) (by rw [pieceL_len, Nat.mul_one]) ?_ ?_ ?_ w.heap.size w hbd (by omega) ?_
  · intro j v hj
    have hjl : j < (pieceL zs f).length := (List.getElem?_eq_some_iff.1 hj).1
    rw [pieceL_len] at hjl
    have hj2 : j < zs.length - f := Nat.lt_of_lt_of_le hjl (Nat.min_le_left _ _)
    simp only [pieceL, List.getElem?_map] at hj
    rw [List.getElem?_range hjl] at hj
    simp at hj
    subst hj
    rw [Addr.add_mid, Nat.add_assoc]
    exact HC.out (f + j) (by omega)
  · rw [pieceL_len, zeros24_size]; exact Nat.min_le_right _ _
  · intro v hv
    simp only [pieceL, List.mem_map] at hv
    obtain ⟨_, _, rfl⟩ := hv
    rfl
  intro w3 hk3 hb3 hoth hsz3
  have hk1 : Blk w3 w.heap.size 158 zeros24 := (hoth w.heap.size (by omega)).trans K1.out
  have hrow := pieceL_row zs f hf
  have hsz : (pieceL zs f ++ zeros24.toList.drop (pieceL zs f).length).toArray.size = 24 := by
    have := pieceL_len zs f
    have h2 : (pieceL zs f).length ≤ 24 := by rw [this]; exact Nat.min_le_right _ _
    simp [zeros24_size]; omega
  have hone : ((pieceL zs f ++ zeros24.toList.drop (pieceL zs f).length).toArray).all (·.oneCell') = true := by
    rw [Array.all_eq_true]
    intro j hj
    have h1 := hrow j (by omega)
    rw [Array.getElem?_eq_getElem hj] at h1
    injection h1 with h1
    rw [h1]; rfl
  generalize (pieceL zs f ++ zeros24.toList.drop (pieceL zs f).length).toArray = R at *
  have HR := hide (And.intro hsz hrow)
  have HK3 := hide hk3
  have HK1 := hide hk1
  clear hrow hk3 hk1 hoth HC
  go_wp2_with (first | (refine wpList_load_row rfl 158 (.tmp 5) rfl (w.heap.size + 1) rfl _ R (0, 0) _ HK3.out Try.underlying158 rfl (by rw [hsz]; kernel_rfl) ?_) | (refine wpList_store_mid rfl 158 (.tmp 4) (.tmp 11) rfl w.heap.size 0 R rfl rfl (by rw [hsz]; exact there_blk HK1.out) (by rw [hsz]; kernel_rfl) hone ?_))
  have hfin := Blk.setCells R.toList 0 _ _ HK1.out
  rw [setMany_all R zeros24 (by rw [hsz]; rfl)] at hfin
  refine bodyPost_ret (v := .agg R) (results_cell_row Try.results134 _ _ w.heap.size _ R _ _ rfl hfin Try.underlying158 rfl (by rw [hsz]; kernel_rfl)) rfl ⟨R, rfl, HR, below_setCells (Nat.le_refl _) _ _ _ hb3⟩
end Go.Proofs.Ytbchiiggfhdnkaa
