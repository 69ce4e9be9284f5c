/- Where the posts of a history stand, as the program looks it up: a map of the first places. -/
import Derived.Test.YtbhfkfapdpedpaaHst
namespace Go.Proofs.Ytbhfkfapdpedpaa
open Go.RowKit
open Go.Maps (Keyed)

theorem keyed_int : Keyed Try.prog 3 := Maps.int_keyed Try.underlying3
theorem zero_int (w : World) : (zeroValue 3).run Try.prog w = .ok (.int .i64 0) w := by kernel_rfl
theorem make_map (n : Nat) (w : World) : (Instr.makeMap 200 (some (.int .i64 (n : Int)))).run Try.prog w = .ok (.map (some w.heap.size)) (w.alloc (.map #[] 0)) := by
  simp [Instr.makeMap]
  rfl

/-- What the map says of the first k posts. -/
def Placed (l : List PostD) (k : Nat) (D : DataW Unit) : Prop := ∀ i : Int, (∃ j : Nat, j < k ∧ idAt l j = i ∧ (∀ m, m < j → idAt l m ≠ i) ∧ Maps.has D (.int .i64 i) = true ∧ ∀ z, D.atKey (.int .i64 i) z = .lit (.int .i64 j)) ∨ ((∀ j, j < k → idAt l j ≠ i) ∧ Maps.has D (.int .i64 i) = false)
theorem Placed.start (l : List PostD) : Placed l 0 (.map []) := fun _ => .inr ⟨fun j hj => absurd hj (Nat.not_lt_zero j), rfl⟩
theorem Placed.skip {l : List PostD} {k : Nat} {D : DataW Unit} (h : Placed l k D) (hh : Maps.has D (.int .i64 (idAt l k)) = true) : Placed l (k + 1) D := fun i => by
  rcases h i with ⟨j, hj, h2⟩ | ⟨h1, h2⟩
  · exact .inl ⟨j, by omega, h2⟩
  · refine .inr ⟨fun j hj e => ?_, h2⟩
    rcases Nat.lt_or_ge j k with hlt | hge
    · exact h1 j hlt e
    · obtain rfl : j = k := by omega
      rw [e] at hh
      rw [hh] at h2
      cases h2
theorem Placed.put {l : List PostD} {k : Nat} {D : DataW Unit} (h : Placed l k D) (hD : Maps.IsMap D) (hh : Maps.has D (.int .i64 (idAt l k)) = false) : Placed l (k + 1) (D.put (.int .i64 (idAt l k)) (.lit (.int .i64 k))) := fun i => by
  by_cases he : i = idAt l k
  · subst he
    rcases h (idAt l k) with ⟨j, _, _, _, h2, _⟩ | ⟨h1, _⟩
    · rw [hh] at h2; cases h2
    · exact .inl ⟨k, by omega, rfl, h1, Maps.has_put_same hD (by simp [WideAt.IsKeyLit]) _, fun z => Maps.atKey_put_same hD (by simp [WideAt.IsKeyLit]) _ _⟩
  · have hne : (Lit.int .i64 i) ≠ .int .i64 (idAt l k) := fun e => he (by cases e; rfl)
    rcases h i with ⟨j, hj, h2, h3, h4, h5⟩ | ⟨h1, h2⟩
    · exact .inl ⟨j, by omega, h2, h3, (Maps.has_put_other hne _).trans h4, fun z => (Maps.atKey_put_other hne _ _).trans (h5 z)⟩
    · refine .inr ⟨fun j hj e => ?_, (Maps.has_put_other hne _).trans h2⟩
      rcases Nat.lt_or_ge j k with hlt | hge
      · exact h1 j hlt e
      · obtain rfl : j = k := by omega
        exact he e.symm

/-- The map of the first k posts' places in block g. -/
def MapAt (w : World) (g : Nat) (l : List PostD) (k : Nat) : Prop := ∃ D : DataW Unit, w.ownsMap Try.prog 3 (plainElem Try.prog 3) g k D ∧ Placed l k D
theorem MapAt.kept {w w' : World} {g : Nat} {l : List PostD} {k : Nat} (h : MapAt w g l k) (hb : w'.heap[g]? = w.heap[g]?) : MapAt w' g l k := by
  obtain ⟨D, ⟨es, clock, h1, h2⟩, hp⟩ := h
  exact ⟨D, ⟨es, clock, hb.trans h1, h2⟩, hp⟩
theorem MapAt.lt {w : World} {g : Nat} {l : List PostD} {k : Nat} (h : MapAt w g l k) : g < w.heap.size := by
  obtain ⟨D, h, _⟩ := h
  exact h.lt

theorem look_all {w : World} {g n : Nat} {D : DataW Unit} {i : Int} (hM : w.ownsMap Try.prog 3 (plainElem Try.prog 3) g n D) (hw : (Lit.int .i64 i).wf = true) :
    ∃ x : Int, D.atKey (.int .i64 i) (.lit (.int .i64 0)) = .lit (.int .i64 x) ∧ ∀ n, (Instr.lookup 200 (.map (some g)) (.int .i64 i) true).run Try.prog (w.drewN n) = .ok (.tuple #[.int .i64 x, .bool (Maps.has D (.int .i64 i))]) (w.drewN n) := by
  have hkey : keyOf Try.prog 3 (.int .i64 i) = some (.int .i64 i) := Maps.keyOf_int_mk Try.underlying3 hw
  have each : ∀ n, ∃ x : Int, D.atKey (.int .i64 i) (.lit (.int .i64 0)) = .lit (.int .i64 x) ∧ (Instr.lookup 200 (.map (some g)) (.int .i64 i) true).run Try.prog (w.drewN n) = .ok (.tuple #[.int .i64 x, .bool (Maps.has D (.int .i64 i))]) (w.drewN n) := fun n => by
    have hMn : (w.drewN n).ownsMap Try.prog 3 (plainElem (H := Unit) Try.prog 3) g _ D := hM
    obtain ⟨v, ps, hrun, hv⟩ := hMn.look_ok keyed_int Try.underlying200 (zero_int _) (plainElem_int Try.underlying3 (by decide)) hkey
    obtain ⟨x, rfl, e, -⟩ := plainElem_int_inv Try.underlying3 hv
    exact ⟨x, congrArg Prod.fst e, hrun⟩
  obtain ⟨x, hx, -⟩ := each 0
  refine ⟨x, hx, fun n => ?_⟩
  obtain ⟨y, hy, hr⟩ := each n
  rw [hx] at hy
  cases hy
  exact hr

set_option maxRecDepth 100000 in
set_option maxHeartbeats 3200000 in
theorem findPlaces_any (B q p : Nat) (A : Option Addr) (l : List PostD) (s : Int) (w : World) (hn2 : l.length ≤ 1048576) (hwf : IdsWf l) (hH : Hst w B q p A l 0 s (.map none)) :
    Calls Try.prog 166 #[.pointer (some ⟨q, 0, none⟩)] w fun e w' => e = .returned (.tuple #[]) ∧ ∃ g, w.heap.size ≤ g ∧ Hst w' B q p A l 0 s (.map (some g)) ∧ MapAt w' g l l.length ∧ Only q w w' := by
  have hmm := make_map l.length
  have hnot : ∀ (x : Bool) (w : World), (Op.unary .not (.bool x)).run Try.prog w = .ok (.bool (!x)) w := fun _ _ => rfl
  obtain ⟨⟨c0, c1, c2, c4⟩, ⟨f1, f2, f4⟩, hq⟩ := hH.cells
  have hW0 : Only q w ((w.alloc (.map #[] 0)).setCell ⟨q, 4, none⟩ (.map (some w.heap.size))) := ((Only.refl q w).alloc _).setCell (.inl rfl) _
  have hH0 : Hst ((w.alloc (.map #[] 0)).setCell ⟨q, 4, none⟩ (.map (some w.heap.size))) B q p A l 0 s (.map (some w.heap.size)) := hH.keep (fun b hb hl => hW0.block b hl (by have := hH.lo; omega)) (by
    have := (hH.box.alloc (.map #[] 0)).set_ 4 (.map (some w.heap.size))
    simpa using this)
  have hM0 : ((w.alloc (.map #[] 0)).setCell ⟨q, 4, none⟩ (.map (some w.heap.size))).ownsMap Try.prog 3 (plainElem (H := Unit) Try.prog 3) w.heap.size 0 (.map []) := (World.ownsMap_made w Try.prog 3 _).setCell (a := ⟨q, 4, none⟩) (by show w.heap.size ≠ q; omega) _
  have hc4 : ((w.alloc (.map #[] 0))).cell? ⟨q, 4, none⟩ = some (.map none) := (hH.box.alloc _).cell 4
  have hf4 : ((w.alloc (.map #[] 0))).frozen? ⟨q, 4, none⟩ = false := (hH.box.alloc _).frozen 4
  have hc0 : (((w.alloc (.map #[] 0)).setCell ⟨q, 4, none⟩ (.map (some w.heap.size)))).cell? ⟨q, 0, none⟩ = some (.slice (some ⟨p, 0, none⟩) l.length l.length) := hH0.cells.1.1
  have hsw : (w.alloc (.map #[] 0)).setCell ⟨q, 4, none⟩ (.map (some w.heap.size)) = (w.setCell ⟨q, 4, none⟩ (.map (some w.heap.size))).alloc (.map #[] 0) := World.setCell_alloc_past _ _ _ _ hq
  rw [hsw] at hH0 hW0 hM0 hc0
  replace hH0 := hide hH0
  replace hW0 := hide hW0
  replace hM0 := hide hM0
  clear hH
  go_enter Try.func166, Try.ntmps166
  go_wp2_with fail
  go_loopw [20] (fun i wr => ∃ (k : Nat) (D : DataW Unit), k ≤ l.length ∧ i = .int .i64 k ∧ Hst wr B q p A l 0 s (.map (some w.heap.size)) ∧ wr.ownsMap Try.prog 3 (plainElem (H := Unit) Try.prog 3) w.heap.size k D ∧ Placed l k D ∧ Only q w wr) (fun i _ => l.length - (intOf i).toNat)
  case atStart => exact ⟨0, _, Nat.zero_le _, rfl, hH0.out, hM0.out, Placed.start l, hW0.out⟩
  case round =>
    obtain ⟨k, D, hk, rfl, hH, hM, hP, hO⟩ := hrel
    clear hc0
    by_cases hlt : k < l.length
    · obtain ⟨b, off, hp0, hbl, hid, -⟩ := hH.at_ hlt
      have hkey : keyOf Try.prog 3 (.int .i64 (idAt l k)) = some (.int .i64 (idAt l k)) := Maps.keyOf_int_mk Try.underlying3 (hwf k hlt)
      obtain ⟨x, -, hrun⟩ := look_all hM (hwf k hlt)
      obtain ⟨⟨d0, -, -, d4⟩, -, hq1⟩ := hH.cells
      change ∀ n, (Instr.lookup 200 (.map (some w.heap.size)) (.int .i64 (idAt l k)) true).run Try.prog (wr.drewN n) = .ok (.tuple #[.int .i64 x, .bool (Maps.has D (.int .i64 (idAt l k)))]) (wr.drewN n) at hrun
      change wr.cell? _ = some (.int .i64 (idAt l k)) at hid
      have hs := hide (fun h => hP.skip (k := k) h)
      have hp := hide (fun h => hP.put (k := k) (hM.isMap) h)
      replace hM := hide hM
      replace hH := hide hH
      replace hO := hide hO
      replace hP := hide hP
      replace hkey := hide hkey
      cases hh : Maps.has D (.int .i64 (idAt l k))
      · rw [hh] at hrun
        have hp2 := hide (hp.out hh)
        clear hs hp hh
        generalize idAt l k = y at *
        go_wp2_with fail
        go_quiet (fail)
        go_wp2_with fail
        obtain ⟨w3, hup, hM3, hgr3⟩ := (show (wr.drewN (nq + 1)).ownsMap Try.prog 3 (plainElem (H := Unit) Try.prog 3) w.heap.size k D from hM.out).update keyed_int Try.underlying200 (by unfold maxLen; omega) hkey.out (plainElem_int (H := Unit) Try.underlying3 (a := (k : Int)) (WalkArith.wf_i64 (by omega)))
        clear hrun
        go_region
        all_goals
          go_wp2_with fail
          go_roundw
          case rel =>
            have hlo := hH.out.lo
            have hz := hO.out.size
            have hO3 : Only q w w3 := ⟨hgr3.os.trans hO.out.os, hgr3.tape.trans hO.out.tape, hgr3.output.trans hO.out.output, Nat.le_trans hz hgr3.size, fun i hi hg => (hgr3.block i (by show i < wr.heap.size; omega) (fun e => by cases e; omega)).trans (hO.out.block i hi hg)⟩
            exact ⟨k + 1, _, by omega, by go_num, hH.out.keep (fun b hb hl => hgr3.block b hl (fun e => by cases e; omega)) ((hgr3.block q hq1 (fun e => by cases e; omega)).trans hH.out.box), hM3, hp2.out, hO3⟩
          case measure => simp [intOf]; omega
      · rw [hh] at hrun
        have hs2 := hide (hs.out hh)
        clear hs hp hh
        generalize idAt l k = y at *
        go_wp2_with fail
        go_quiet (fail)
        go_wp2_with fail
        go_roundw
        case rel => exact ⟨k + 1, D, by omega, by go_num, ⟨hH.out.box, hH.out.ptrs, hH.out.posts, hH.out.lo⟩, World.ownsMap.mono (by exact hM.out) (by omega), hs2.out, hO.out.drewN _⟩
        case measure => simp [intOf]; omega
    · obtain rfl : k = l.length := by omega
      have hM' := hide (show MapAt wr w.heap.size l l.length from ⟨D, hM, hP⟩)
      replace hH := hide hH
      replace hO := hide hO
      clear hM hP
      go_wp2_with fail
      go_end0
      exact ⟨rfl, w.heap.size, Nat.le_refl _, hH.out, hM'.out, hO.out⟩
end Go.Proofs.Ytbhfkfapdpedpaa
