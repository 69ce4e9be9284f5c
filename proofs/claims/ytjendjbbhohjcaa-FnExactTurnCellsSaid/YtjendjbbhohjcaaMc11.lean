/- The model's l11order. -/
import Derived.Test.YtjendjbbhohjcaaMc0
import Derived.Test.YtjendjbbhohjcaaMc3
import Derived.Test.YtjendjbbhohjcaaMc8
import Derived.Test.YtjendjbbhohjcaaMc9
import Derived.Test.YtjendjbbhohjcaaMc10
import Derived.Deep.RegionHeld3
namespace Go.Proofs.Ytjendjbbhohjcaa
open Go.RowKit

def sentI (s l zs : List Int) : Nat → List Int
  | 0 => s
  | k + 1 => (sentI s l zs k).set (geti zs k).toNat (geti l k)
theorem sentI_len (s l zs : List Int) (k : Nat) : (sentI s l zs k).length = s.length := by
  induction k with
  | zero => rfl
  | succ k ih => rw [sentI, List.length_set, ih]
theorem sentI_get (s s' l zs : List Int) (h : s.length = s'.length) (k j : Nat) (hj : ∃ i, i < k ∧ (geti zs i).toNat = j) : (sentI s l zs k)[j]? = (sentI s' l zs k)[j]? := by
  induction k with
  | zero => obtain ⟨i, hi, _⟩ := hj; omega
  | succ k ih =>
    rw [sentI, sentI, List.getElem?_set, List.getElem?_set, sentI_len, sentI_len, h]
    by_cases e : (geti zs k).toNat = j
    · rw [if_pos e, if_pos e]
    · rw [if_neg e, if_neg e]
      obtain ⟨i, hi, hz⟩ := hj
      refine ih ⟨i, ?_, hz⟩
      rcases Nat.lt_or_ge i k with h1 | h1
      · exact h1
      · obtain rfl : i = k := by omega
        exact absurd hz e
theorem sentI_all (s s' l zs : List Int) (n : Nat) (hs : s.length = n) (hs' : s'.length = n) (ho : orderB zs n = true) : sentI s l zs n = sentI s' l zs n := by
  unfold orderB at ho
  rw [Bool.and_eq_true, decide_eq_true_eq, Bool.and_eq_true] at ho
  have hc := (cover_iff zs n ho.1).2 ⟨ho.2.1, by simpa using ho.2.2⟩
  apply List.ext_getElem?
  intro j
  rcases Nat.lt_or_ge j n with h | h
  · obtain ⟨i, hi, hz⟩ := mem_geti (hc j h)
    exact sentI_get s s' l zs (by omega) n j ⟨i, by omega, by rw [hz]; omega⟩
  · rw [List.getElem?_eq_none (by rw [sentI_len]; omega), List.getElem?_eq_none (by rw [sentI_len]; omega)]
def turnD (zs : List Int) (d : InsD) : InsD := if touchN d.o = 0 then d else upd d 4 (geti zs d.x.toNat)
def oneD (d : InsD) : Bool := decide (countN d.o d.n ≤ 1)
def oneL (l : List InsD) : Bool := allB (fun k => oneD (getd l k)) l.length
def oneP (p : ProgD) : Bool := allB (fun k => oneL (gett p.ts k)) p.ts.length
def turnL (zs : List Int) (l : List InsD) (k : Nat) : List InsD := (l.take k).map (turnD zs) ++ l.drop k
theorem turnL_0 (zs : List Int) (l : List InsD) : turnL zs l 0 = l := rfl
theorem turnL_len (zs : List Int) (l : List InsD) (k : Nat) : (turnL zs l k).length = l.length := by simp [turnL]; omega
theorem turnL_all (zs : List Int) (l : List InsD) : turnL zs l l.length = l.map (turnD zs) := by simp [turnL]
theorem turnL_get (zs : List Int) (l : List InsD) (k : Nat) (h : k < l.length) : getd (turnL zs l k) k = getd l k := by
  unfold getd turnL
  rw [List.getD_eq_getElem?_getD, List.getElem?_append_right (by simp; omega)]
  have e : k - (List.map (turnD zs) (List.take k l)).length = 0 := by simp; omega
  rw [e, List.getElem?_drop, Nat.add_zero, List.getD_eq_getElem?_getD]
theorem turnL_succ (zs : List Int) (l : List InsD) (k : Nat) (h : k < l.length) : turnL zs l (k + 1) = (turnL zs l k).set k (turnD zs (getd l k)) := by
  unfold turnL
  have e : (List.map (turnD zs) (List.take k l)).length = k := by simp; omega
  rw [List.set_append, if_neg (by omega), e, Nat.sub_self, List.take_succ_eq_append_getElem h, List.map_append, List.append_assoc, List.drop_eq_getElem_cons h]
  have e2 : getd l k = l[k] := by unfold getd; rw [List.getD_eq_getElem?_getD, List.getElem?_eq_getElem h]; rfl
  rw [e2]
  rfl
def tcTs (zs : List Int) (ts : List (List InsD)) (k : Nat) : List (List InsD) := (ts.take k).map (List.map (turnD zs)) ++ ts.drop k
theorem tcTs_0 (zs : List Int) (ts : List (List InsD)) : tcTs zs ts 0 = ts := rfl
theorem tcTs_len (zs : List Int) (ts : List (List InsD)) (k : Nat) : (tcTs zs ts k).length = ts.length := by simp [tcTs]; omega
theorem tcTs_all (zs : List Int) (ts : List (List InsD)) : tcTs zs ts ts.length = ts.map (List.map (turnD zs)) := by simp [tcTs]
theorem tcTs_get (zs : List Int) (ts : List (List InsD)) (k : Nat) (h : k < ts.length) : gett (tcTs zs ts k) k = gett ts k := by
  unfold gett tcTs
  rw [List.getD_eq_getElem?_getD, List.getElem?_append_right (by simp; omega)]
  have e : k - (List.map (List.map (turnD zs)) (List.take k ts)).length = 0 := by simp; omega
  rw [e, List.getElem?_drop, Nat.add_zero, List.getD_eq_getElem?_getD]
theorem tcTs_succ (zs : List Int) (ts : List (List InsD)) (k : Nat) (h : k < ts.length) : tcTs zs ts (k + 1) = (tcTs zs ts k).set k ((gett ts k).map (turnD zs)) := by
  unfold tcTs
  have e : (List.map (List.map (turnD zs)) (List.take k ts)).length = k := by simp; omega
  rw [List.set_append, if_neg (by omega), e, Nat.sub_self, List.take_succ_eq_append_getElem h, List.map_append, List.append_assoc, List.drop_eq_getElem_cons h]
  have e2 : gett ts k = ts[k] := by unfold gett; rw [List.getD_eq_getElem?_getD, List.getElem?_eq_getElem h]; rfl
  rw [e2]
  rfl
def tcIn (zs : List Int) (ts : List (List InsD)) (k j : Nat) : List (List InsD) := (tcTs zs ts k).set k (turnL zs (gett ts k) j)
theorem tcIn_0 (zs : List Int) (ts : List (List InsD)) (k : Nat) (h : k < ts.length) : tcIn zs ts k 0 = tcTs zs ts k := by
  unfold tcIn
  rw [turnL_0, ← tcTs_get zs ts k h]
  apply List.ext_getElem?
  intro j
  rw [List.getElem?_set]
  by_cases e : k = j
  · subst e
    rw [if_pos rfl, if_pos (by rw [tcTs_len]; exact h)]
    unfold gett
    rw [List.getD_eq_getElem?_getD, List.getElem?_eq_getElem (by rw [tcTs_len]; exact h)]
    rfl
  · rw [if_neg e]
theorem tcIn_len (zs : List Int) (ts : List (List InsD)) (k j : Nat) : (tcIn zs ts k j).length = ts.length := by rw [tcIn, List.length_set, tcTs_len]
theorem tcIn_get (zs : List Int) (ts : List (List InsD)) (k j : Nat) (h : k < ts.length) : gett (tcIn zs ts k j) k = turnL zs (gett ts k) j := by
  rw [tcIn, gett_put _ _ _ _ (by rw [tcTs_len]; exact h), if_pos rfl]
theorem tcIn_all (zs : List Int) (ts : List (List InsD)) (k : Nat) (h : k < ts.length) : tcIn zs ts k (gett ts k).length = tcTs zs ts (k + 1) := by
  rw [tcIn, turnL_all, tcTs_succ zs ts k h]
theorem tcIn_succ (zs : List Int) (ts : List (List InsD)) (k j : Nat) (h : k < ts.length) (hj : j < (gett ts k).length) : tcIn zs ts k (j + 1) = (tcIn zs ts k j).set k ((gett (tcIn zs ts k j) k).set j (turnD zs (getd (gett ts k) j))) := by
  rw [tcIn_get zs ts k j h, tcIn, tcIn, List.set_set, turnL_succ zs _ j hj]

def tcP (zs : List Int) (ts : List (List InsD)) (k : Nat) : List (List InsD) := (ts.take k).map (List.map (turnD zs))
theorem tcP_succ (zs : List Int) (ts : List (List InsD)) (k : Nat) (h : k < ts.length) : tcP zs ts (k + 1) = tcP zs ts k ++ [(gett ts k).map (turnD zs)] := by
  unfold tcP
  rw [List.take_succ_eq_append_getElem h, List.map_append]
  have e2 : gett ts k = ts[k] := by unfold gett; rw [List.getD_eq_getElem?_getD, List.getElem?_eq_getElem h]; rfl
  rw [e2]
  rfl
theorem tcP_len (zs : List Int) (ts : List (List InsD)) (k : Nat) (h : k ≤ ts.length) : (tcP zs ts k).length = k := by simp [tcP]; omega
theorem tcP_all (zs : List Int) (ts : List (List InsD)) : tcP zs ts ts.length = ts.map (List.map (turnD zs)) := by simp [tcP]
def tcB (p : ProgD) (zs : List Int) : Bool := progB p && (oneP p && orderB zs p.init.length)
def tcQ (p : ProgD) (zs : List Int) : ProgD := if tcB p zs then ⟨sentI p.init p.init zs p.init.length, p.ts.map (List.map (turnD zs))⟩ else ⟨[], []⟩
theorem prog_cell {p : ProgD} (h : progB p = true) {k j : Nat} (hk : k < p.ts.length) (hj : j < (gett p.ts k).length) (ht : touchN (getd (gett p.ts k) j).o ≠ 0) :
    1 ≤ countN (getd (gett p.ts k) j).o (getd (gett p.ts k) j).n ∧ 0 ≤ (getd (gett p.ts k) j).x ∧ (getd (gett p.ts k) j).x < p.init.length := by
  unfold progB at h
  rw [Bool.and_eq_true] at h
  have h1 := allB_at h.2 hk
  unfold thrB at h1
  rw [Bool.and_eq_true] at h1
  have h2 := allB_at h1.2 hj
  unfold insBD insB at h2
  simp only [Bool.and_eq_true] at h2
  have h3 := h2.1.2
  unfold cellsB at h3
  have h4 := of_decide_eq_true h3
  rcases h4 with h4 | h4
  · exact absurd h4 ht
  · omega
end Go.Proofs.Ytjendjbbhohjcaa

namespace Go.Proofs.Ytjendjbbhohjcaa
open Go.RowKit

theorem ints_put {w : World} {B q c n : Nat} {zs : List Int} (h : w.ownsRow B 3 1 (.slice (some ⟨q, 0, none⟩) n c) n (zs.map (Value.int .i64))) (k : Nat) (z : Int) :
    (w.setCell ⟨q, k, none⟩ (.int .i64 z)).ownsRow B 3 1 (.slice (some ⟨q, 0, none⟩) n c) n ((zs.set k z).map (Value.int .i64)) := by
  rcases h.2 with ⟨hv, _⟩ | ⟨q', cap, cur, hv, hb, hh, hcap, hmax, hcs, ht⟩
  · cases hv
  · cases hv
    refine ⟨by simpa using h.1, .inr ⟨q, c, cur.setIfInBounds k (.int .i64 z), rfl, hb, Blk.set_ (t := 3) (cs := cur) hh k _, hcap, hmax, by simpa using hcs, ?_⟩⟩
    rw [List.map_set, ← ht]
    simp [List.take_set]
theorem ints_cell {w : World} {B q c n : Nat} {zs : List Int} (h : w.ownsRow B 3 1 (.slice (some ⟨q, 0, none⟩) n c) n (zs.map (Value.int .i64))) (k : Nat) (hk : k < n) :
    w.cell? ⟨q, k, none⟩ = some (.int .i64 (geti zs k)) ∧ w.frozen? ⟨q, k, none⟩ = false := by
  rcases h.2 with ⟨hv, _⟩ | ⟨q', cap, cur, hv, hb, hh, hcap, hmax, hcs, ht⟩
  · cases hv
  · cases hv
    refine ⟨?_, Blk.frozen (t := 3) (cs := cur) hh k⟩
    have hl : zs.length = n := by simpa using h.1
    rw [cell_of_row w q k cur _ (0, 0) hh, ← Array.getElem?_toList]
    have h1 : cur.toList[k]? = (zs.map (Value.int .i64))[k]? := by rw [← ht, List.getElem?_take, if_pos (by omega)]
    rw [h1, List.getElem?_map, List.getElem?_eq_getElem (by omega)]
    unfold geti
    rw [List.getD_eq_getElem?_getD, List.getElem?_eq_getElem (by omega)]
    rfl
theorem CrAt.putInt {w0 w : World} {T q c n : Nat} {zs : List Int} {ts : List (List InsD)} {vs : List Value} {tv : Value} (h : CrAt w0 T zs (.slice (some ⟨q, 0, none⟩) n c) ts vs tv w) (hn : zs.length = n) (k : Nat) (hk : k < n) (z : Int) :
    (w.cell? ⟨q, k, none⟩ = some (.int .i64 (geti zs k)) ∧ w.frozen? ⟨q, k, none⟩ = false ∧ q < w.heap.size) ∧ CrAt w0 T (zs.set k z) (.slice (some ⟨q, 0, none⟩) n c) ts vs tv (w.setCell ⟨q, k, none⟩ (.int .i64 z)) := by
  subst hn
  have hq : (Value.slice (some ⟨q, 0, none⟩) zs.length c).ownBlock = some q := rfl
  obtain ⟨hq0, hq1, cur, hqc⟩ := own_lt h.own.ints hq
  have hqT : T ≠ q := fun e => blk_far h.blk h.own.ints (by decide) (by rw [hq, e])
  have hlo := h.lo
  have hc := ints_cell h.own.ints k hk
  refine ⟨⟨hc.1, hc.2, hq1⟩, h.below.setCell (by show w0.heap.size ≤ q; omega) _, h.blk.far (by show T ≠ q; exact hqT) _, ⟨?_, own_setFar h.own.rows (fun e => apart_type h.own.ints h.own.rows (by decide) q hq e) _, fun j hj => own_setFar (h.own.thr j hj) (fun e => apart_type h.own.ints (h.own.thr j hj) (by decide) q hq e) _, h.own.apart⟩, h.lo, h.out.imp fun _ => Exists.imp fun _ b => b.far (by show w0.heap.size ≠ q; omega) _⟩
  rw [List.length_set]
  exact ints_put h.own.ints k z
theorem ProgOwn.read {w : World} {B : Nat} {zs : List Int} {v tv : Value} {ts : List (List InsD)} {vs : List Value} (h : ProgOwn w B zs v ts vs tv) {t j : Nat} (ht : t < ts.length) (hj : j < (gett ts t).length) :
    ∃ q c, vat vs t = .slice (some ⟨q, 0, none⟩) (gett ts t).length c ∧ B ≤ q ∧ q < w.heap.size ∧ InsIn w q (j * 6) (getd (gett ts t) j) ∧ ∀ k, w.frozen? ⟨q, k, none⟩ = false := by
  have ho := h.thr t ht
  obtain ⟨q, c, e, hB, hq, cur, hb, _⟩ := inss_at ho (by omega)
  obtain ⟨A, c', e', _, hI⟩ := own_inss ho
  rw [e] at e'
  cases e'
  obtain ⟨b, off, e2, _, hc⟩ := hI.2 (by omega)
  cases e2
  have := hc j hj
  rw [Nat.zero_add] at this
  exact ⟨q, c, e, hB, hq, this, fun k => hb.frozen k⟩
theorem CrAt.setIns {w0 w : World} {T : Nat} {zs : List Int} {ts : List (List InsD)} {vs : List Value} {v tv : Value} (h : CrAt w0 T zs v ts vs tv w) {t j f q c : Nat} (z : Int) (ht : t < ts.length) (hv : vat vs t = .slice (some ⟨q, 0, none⟩) (gett ts t).length c) (hj : j < (gett ts t).length) (hf : f < 6) :
    CrAt w0 T zs v (ts.set t ((gett ts t).set j (upd (getd (gett ts t) j) f z))) vs tv (w.setCell ⟨q, j * 6 + f, none⟩ (.int .i64 z)) := by
  have hq : (vat vs t).ownBlock = some q := by rw [hv]; rfl
  have ho := h.own.thr t ht
  obtain ⟨hq0, hq1, cur, hqc⟩ := own_lt ho hq
  have hqT : T ≠ q := fun e => blk_far h.blk ho (by decide) (by rw [hq, e])
  exact ⟨h.below.setCell (by show w0.heap.size ≤ q; omega) _, h.blk.far (by show T ≠ q; exact hqT) _, h.own.setIns z ht hv hj hf, h.lo, h.out.imp fun _ => Exists.imp fun _ b => b.far (by show w0.heap.size ≠ q; omega) _⟩
end Go.Proofs.Ytjendjbbhohjcaa

namespace Go.Proofs.Ytjendjbbhohjcaa
open Go.RowKit

theorem tgrown_below {w a b : World} {r : Option Nat} (h : w.grownBy a r) (hb : Below a.heap.size a b) : w.grownBy b r :=
  ⟨hb.os.trans h.os, hb.tape.trans h.tape, hb.output.trans h.output, Nat.le_trans h.size hb.size, fun k hk hne => (hb.block k (Nat.lt_of_lt_of_le hk h.size)).trans (h.block k hk hne)⟩
theorem tgrown_set {w a : World} {q k : Nat} (h : w.grownBy a (some q)) (u : Value) : w.grownBy (a.setCell ⟨q, k, none⟩ u) (some q) := by
  have hb := (Below.refl 0 a).setCell (p := ⟨q, k, none⟩) (Nat.zero_le _) u
  exact ⟨hb.os.trans h.os, hb.tape.trans h.tape, hb.output.trans h.output, Nat.le_trans h.size hb.size, fun k' hk hne => (Below.heap_setCell a ⟨q, k, none⟩ u k' (fun e => hne (by rw [e]))).trans (h.block k' hk hne)⟩
theorem tgrown_refl (w : World) (r : Option Nat) : w.grownBy w r := ⟨rfl, rfl, rfl, Nat.le_refl _, fun _ _ _ => rfl⟩
theorem set_getd (l : List InsD) (j : Nat) (h : j < l.length) : l.set j (getd l j) = l := by
  apply List.ext_getElem?
  intro i
  rw [List.getElem?_set]
  by_cases e : j = i
  · subst e
    rw [if_pos rfl, if_pos h]
    unfold getd
    rw [List.getD_eq_getElem?_getD, List.getElem?_eq_getElem h]
    rfl
  · rw [if_neg e]
theorem cell_same {w a : World} {b : Nat} (h : a.heap[b]? = w.heap[b]?) (k : Nat) : a.cell? ⟨b, k, none⟩ = w.cell? ⟨b, k, none⟩ := by
  unfold World.cell?
  simp only [h]
theorem own_put {w : World} {B q c n : Nat} {t : TypeId} {size : Nat} {vs : List Value} (h : w.ownsRow B t size (.slice (some ⟨q, 0, none⟩) n c) n vs) (k : Nat) (u : Value) :
    (w.setCell ⟨q, k, none⟩ u).ownsRow B t size (.slice (some ⟨q, 0, none⟩) n c) n (vs.set k u) := by
  rcases h.2 with ⟨hv, _⟩ | ⟨q', cap, cur, hv, hb, hh, hcap, hmax, hcs, ht⟩
  · cases hv
  · cases hv
    refine ⟨by rw [List.length_set]; exact h.1, .inr ⟨q, c, cur.setIfInBounds k u, rfl, hb, Blk.set_ (t := t) (cs := cur) hh k u, hcap, hmax, by simpa using hcs, ?_⟩⟩
    rw [← ht]
    simp [List.take_set]
set_option maxRecDepth 100000 in
set_option maxHeartbeats 6400000 in
theorem turnCells_any (A AO : Option Addr) (l : List InsD) (zs : List Int) (n0 n c cO B : Nat) (S : Nat → Prop) (w : World) (hB : B ≤ w.heap.size) (hn0 : l.length = n0) (h24 : n0 ≤ 1000) (hz : zs.length = n) (hS : ∀ b, S b → b < B) (ha : IntsAt w S AO zs) (ho : w.ownsRow B 89 6 (.slice A n0 c) n0 (flat l))
    (hx : ∀ j, j < n0 → touchN (getd l j).o ≠ 0 → 0 ≤ (getd l j).x ∧ (getd l j).x < n) :
    Calls Try.prog 94 #[.agg #[.slice A n0 c], .slice AO n cO] w fun e w' => e = .returned (.tuple #[]) ∧ w'.ownsRow B 89 6 (.slice A n0 c) n0 (flat (l.map (turnD zs))) ∧ w.grownBy w' (Value.slice A n0 c).ownBlock := by
  obtain ⟨W, hW⟩ : ∃ x, x = w.alloc (Obj.cells #[.slice A n0 c] 45) := ⟨_, rfl⟩
  have hbW : Below w.heap.size w W := by rw [hW]; exact below1 _ _
  have X := hide (show Blk W w.heap.size 45 #[.slice A n0 c] from by rw [hW]; exact Blk.new _ _ _)
  have O0 := hide (show W.ownsRow B 89 6 (.slice A n0 c) n0 (flat (turnL zs l 0)) from own_keep ho (fun b _ hlt => hbW.block b hlt))
  have G0 := hide (tgrown_below (tgrown_refl w (Value.slice A n0 c).ownBlock) hbW)
  have hnb := hide (show ∀ b, (Value.slice A n0 c).ownBlock = some b → B ≤ b ∧ b < w.heap.size from fun b hb => ⟨(own_lt ho hb).1, (own_lt ho hb).2.1⟩)
  replace ha := hide ha
  replace hS := hide hS
  replace hx := hide hx
  replace hz := hide hz
  replace hn0 := hide hn0
  replace hB := hide hB
  have x0 := X.out.cell 0
  have lx := X.out.lt
  simp only [List.getElem?_toArray, List.getElem?_cons_zero] at x0
  clear hbW ho
  go_enter Try.func94, Try.ntmps94
  go_upto_region 1 with fail
  rw [← hW]
  clear hW
  go_wp2_with fail
  clear x0 lx
  go_loopw [9] (fun i wr => ∃ (j : Nat), j ≤ n0 ∧ i = .int .i64 j ∧ Hid (wr.ownsRow B 89 6 (.slice A n0 c) n0 (flat (turnL zs l j))) ∧ Hid (w.grownBy wr (Value.slice A n0 c).ownBlock) ∧ Hid (Blk wr w.heap.size 45 #[.slice A n0 c])) (fun i _ => n0 - (intOf i).toNat)
  case atStart => exact ⟨0, Nat.zero_le _, rfl, O0, G0, X⟩
  case round =>
    clear O0 G0 X
    obtain ⟨j, hj, rfl, O1, G1, T1⟩ := hrel
    by_cases hlt : j < n0
    · have hlt' : decide ((j : Int) < (n0 : Int)) = true := decide_eq_true (by omega)
      have hjn : j < n0 := hlt
      have hjl : j < l.length := by rw [hn0.out]; exact hlt
      obtain ⟨q, c9, e9, hqB, hqlt, cur, hblk, hcs⟩ := inss_at (l := turnL zs l j) (by rw [turnL_len, hn0.out]; exact O1.out) (by rw [turnL_len, hn0.out]; omega)
      rw [turnL_len, hn0.out] at e9
      cases e9
      have hnq := hide (hnb.out q rfl)
      have hins := (own_inss (l := turnL zs l j) (by rw [turnL_len, hn0.out]; exact O1.out))
      obtain ⟨A8, c8, e8, -, hI8⟩ := hins
      rw [turnL_len, hn0.out] at e8
      cases e8
      obtain ⟨b8, o8, e8, hb8, hc8⟩ := hI8.2 (by rw [turnL_len, hn0.out]; omega)
      cases e8
      have hc := hc8 j (by rw [turnL_len, hn0.out]; exact hlt)
      rw [turnL_get zs l j hjl] at hc
      obtain ⟨c0, c1, c2, c3, c4, c5⟩ := hc
      have hst := hide (turnL_succ zs l j hjl)
      have hdg := hide (turnL_get zs l j hjl)
      have hxj := hx.out j hlt
      obtain ⟨d, hd⟩ : ∃ d, d = getd l j := ⟨_, rfl⟩
      rw [← hd] at c0 c1 c2 c3 c4 c5 hst hxj hdg
      clear hd hc8 hI8 hb8
      obtain ⟨o, r, a, bb, x, m⟩ := d
      simp only [Nat.zero_add] at c0 c1 c2 c3 c4 c5 hxj
      have hbN := below1 wr (Obj.cells #[.int .i64 o, .int .i64 r, .int .i64 a, .int .i64 bb, .int .i64 x, .int .i64 m] 89)
      obtain ⟨w2, hw2⟩ : ∃ wq, wq = wr.alloc (Obj.cells #[.int .i64 o, .int .i64 r, .int .i64 a, .int .i64 bb, .int .i64 x, .int .i64 m] 89) := ⟨_, rfl⟩
      rw [← hw2] at hbN
      have X2 := hide (show Blk w2 wr.heap.size 89 #[.int .i64 o, .int .i64 r, .int .i64 a, .int .i64 bb, .int .i64 x, .int .i64 m] from by rw [hw2]; exact Blk.new _ _ _)
      obtain ⟨y0, y1, y2, y3, y4, y5⟩ := (show w2.cell? ⟨wr.heap.size, 0, none⟩ = some (.int .i64 o) ∧ w2.cell? ⟨wr.heap.size, 1, none⟩ = some (.int .i64 r) ∧ w2.cell? ⟨wr.heap.size, 2, none⟩ = some (.int .i64 a) ∧ w2.cell? ⟨wr.heap.size, 3, none⟩ = some (.int .i64 bb) ∧ w2.cell? ⟨wr.heap.size, 4, none⟩ = some (.int .i64 x) ∧ w2.cell? ⟨wr.heap.size, 5, none⟩ = some (.int .i64 m) from ⟨X2.out.cell 0, X2.out.cell 1, X2.out.cell 2, X2.out.cell 3, X2.out.cell 4, X2.out.cell 5⟩)
      have lX := X2.out.lt
      have O2 := hide (own_keep O1.out (fun b _ h => hbN.block b h))
      have G2 := hide (tgrown_below G1.out hbN)
      have T2 := hide (T1.out.below hbN T1.out.lt)
      have hbx := hide (show w.heap.size < wr.heap.size from T1.out.lt)
      obtain ⟨bx, hbxe⟩ : ∃ bx, bx = wr.heap.size := ⟨_, rfl⟩
      rw [← hbxe] at y0 y1 y2 y3 y4 y5 lX X2 hbx
      go_upto_region 4 with fail
      rw [← hw2, ← hbxe]
      clear hw2 c0 c1 c2 c3 c4 c5 O1 G1 T1 hbN hblk hcs hqlt hbxe
      go_wp2_with fail
      refine (kind_any _ _ _ _ _ _ _).mono ?_
      rintro e w3 ⟨rfl, hb3⟩
      clear y0 y1 y2 y3 y4 y5 lX
      have X3 := hide (X2.out.below hb3 X2.out.lt)
      have O3 := hide (own_keep O2.out (fun b _ h => hb3.block b h))
      have G3 := hide (tgrown_below G2.out hb3)
      have T3 := hide (T2.out.below hb3 T2.out.lt)
      clear X2 O2 G2 T2 hb3
      go_wp2_with fail
      refine (touches_any _ _).mono ?_
      rintro e w4 ⟨rfl, rfl⟩
      obtain ⟨tz, htz⟩ : ∃ tz, tz = touchN o := ⟨_, rfl⟩
      rw [← htz] at hxj ⊢
      by_cases h0 : tz = 0
      · subst h0
        have hst2 := hide (show flat (turnL zs l (j + 1)) = flat (turnL zs l j) from by
          rw [hst.out, turnD, if_pos htz.symm]
          have h7 := set_getd (turnL zs l j) j (by rw [turnL_len]; exact hjl)
          rw [hdg.out] at h7
          rw [h7])
        clear hst htz
        go_wp2_with fail
        go_roundw
        case rel => exact ⟨j + 1, by omega, by go_num, hide (by rw [hst2.out]; exact O3.out), G3, T3⟩
        case measure => simp [intOf]; omega
      · have hne : (tz != 0) = true := by simpa using h0
        obtain ⟨hx0, hx1⟩ := hxj h0
        obtain ⟨y, rfl⟩ : ∃ y : Nat, x = (y : Int) := ⟨x.toNat, by omega⟩
        have hyn : y < n := by omega
        have hst2 := hide (show flat (turnL zs l (j + 1)) = (flat (turnL zs l j)).set (j * 6 + 4) (.int .i64 (geti zs y)) from by
          rw [hst.out, turnD, if_neg (by rw [← htz]; exact h0), flat_set _ _ _ _ (by rw [turnL_len]; exact hjl) (by omega), hdg.out]
          rfl)
        have hcl : ∀ b k, S b → w3.cell? ⟨b, k, none⟩ = w.cell? ⟨b, k, none⟩ := fun b k hb => cell_same (G3.out.block b (Nat.lt_of_lt_of_le (hS.out b hb) hB.out) (fun e => by
          have h1 : q = b := by simpa [Value.ownBlock] using e.symm
          have := hS.out b hb
          omega)) k
        obtain ⟨bo, oo, rfl, hbo, hco⟩ := (ha.out.keep hcl (fun _ h => h)).2 (by rw [hz.out]; omega)
        have hoc := hco y (by rw [hz.out]; exact hyn)
        obtain ⟨z, hzz⟩ : ∃ z, z = geti zs y := ⟨_, rfl⟩
        rw [← hzz] at hoc hst2
        clear hzz
        have hbq : bo ≠ q := by have := hS.out bo hbo; omega
        have hnq2 := hnq.out
        obtain ⟨_, _, cur3, hblk3⟩ := own_lt O3.out (b := q) rfl
        have K3 := hide (show Blk w3 q 89 cur3 from hblk3)
        have hI3 := own_inss (l := turnL zs l j) (by rw [turnL_len, hn0.out]; exact O3.out)
        obtain ⟨A8, c8, e8, -, hI8⟩ := hI3
        rw [turnL_len, hn0.out] at e8
        cases e8
        obtain ⟨b8, o8, e8, hb8, hc8⟩ := hI8.2 (by rw [turnL_len, hn0.out]; omega)
        cases e8
        have hc := hc8 j (by rw [turnL_len, hn0.out]; exact hlt)
        rw [hdg.out] at hc
        have f0 := hc.2.2.2.2.1
        have f1 := K3.out.frozen (j * 6 + 4)
        have fl := K3.out.lt
        simp only [Nat.zero_add] at f0
        have O6 := hide (show (w3.drew.setCell ⟨q, j * 6 + 4, none⟩ (.int .i64 z)).ownsRow B 89 6 (.slice (some ⟨q, 0, none⟩) n0 c) n0 (flat (turnL zs l (j + 1))) from by
          rw [hst2.out]
          have h := own_put O3.out (j * 6 + 4) (.int .i64 z)
          exact h)
        have G6 := hide (tgrown_set (k := j * 6 + 4) (tgrown_below G3.out (Below.refl _ _).drew) (.int .i64 z))
        have T6 := hide ((T3.out.drew).far (p := ⟨q, j * 6 + 4, none⟩) (by show w.heap.size ≠ q; omega) (.int .i64 z))
        have kS := hide (show w3.drew.cell? ⟨w.heap.size, 0, none⟩ = some (.slice (some ⟨q, 0, none⟩) n0 c) ∧ w3.drew.cell? ⟨bx, 4, none⟩ = some (.int .i64 (y : Int)) ∧ w3.drew.cell? ⟨bo, oo + y, none⟩ = some (.int .i64 z) from ⟨T3.out.drew.cell 0, X3.out.drew.cell 4, hoc⟩)
        have hqbx := hide (show q ≠ bx from by have := hbx.out; omega)
        have kS6 := hide (show (w3.drew.setCell ⟨q, j * 6 + 4, none⟩ (.int .i64 z)).cell? ⟨w.heap.size, 0, none⟩ = some (.slice (some ⟨q, 0, none⟩) n0 c) ∧ (w3.drew.setCell ⟨q, j * 6 + 4, none⟩ (.int .i64 z)).cell? ⟨bx, 4, none⟩ = some (.int .i64 (y : Int)) ∧ (w3.drew.setCell ⟨q, j * 6 + 4, none⟩ (.int .i64 z)).cell? ⟨bo, oo + y, none⟩ = some (.int .i64 z) from ⟨T6.out.cell 0, (X3.out.drew.far (p := ⟨q, j * 6 + 4, none⟩) (by show bx ≠ q; exact fun e => hqbx.out e.symm) (.int .i64 z)).cell 4, by
          rw [cell_same (Below.heap_setCell _ _ _ bo (by show bo ≠ q; exact hbq)) (oo + y)]
          exact kS.out.2.2⟩)
        clear hcl hco hc hI8 hc8 hb8 hxj hblk3 hnq2 hbq hnq hqB O3 G3 T3 K3 hoc htz hst
        go_wp2_with fail
        go_upto_region 5 with fail
        refine wp_region_held_drew (S := (fun w' => w'.cell? ⟨w.heap.size, 0, none⟩ = some (.slice (some ⟨q, 0, none⟩) n0 c) ∧ w'.cell? ⟨bx, 4, none⟩ = some (.int .i64 (y : Int)) ∧ w'.cell? ⟨bo, oo + y, none⟩ = some (.int .i64 z))) (by kernel_rfl) ?_ (fun hHeld => ?_)
        · exact kS.out
        refine wpAnyH_take (i := 0) (oi := { dst := some 18, op := Op.fieldAddr 45 (.tmp 2) 0, type := 0, pos := "l11_lock.go:86", after := #[], guard := none }) (v := ?_) rfl (by kernel_rfl) (by kernel_rfl) (by kernel_rfl) (fun _ _ _ h => h) (Or.inl ⟨by rfl, ?_⟩) hHeld ?_
        rotate_left
        · (intro wq hSw; (try dsimp only at hSw); first | (go_simp; done) | (go_simp; with_reducible rfl))
        try simp only [Act.put, qa, qb, qc]
        refine wpAnyH_take (i := 1) (oi := { dst := some 19, op := Op.load 43 (.tmp 18), type := 43, pos := "l11_lock.go:86", after := #[⟨0, .data⟩], guard := none }) (v := ?_) rfl (by kernel_rfl) (by kernel_rfl) (by kernel_rfl) (fun _ _ _ h => h) (Or.inl ⟨by rfl, ?_⟩) hHeld ?_
        rotate_left
        · (intro wq hSw; (try dsimp only at hSw); first | (go_simp; done) | (go_simp; with_reducible rfl))
        try simp only [Act.put, qa, qb, qc]
        refine wpAnyH_take (i := 2) (oi := { dst := some 20, op := Op.move (.tmp 4), type := 3, pos := "l11_lock.go:86", after := #[], guard := none }) (v := ?_) rfl (by kernel_rfl) (by kernel_rfl) (by kernel_rfl) (fun _ _ _ h => h) (Or.inl ⟨by rfl, ?_⟩) hHeld ?_
        rotate_left
        · (intro wq hSw; (try dsimp only at hSw); first | (go_simp; done) | (go_simp; with_reducible rfl))
        try simp only [Act.put, qa, qb, qc]
        refine wpAnyH_take (i := 3) (oi := { dst := some 21, op := Op.move (.tmp 1), type := 23, pos := "l11_lock.go:86", after := #[], guard := none }) (v := ?_) rfl (by kernel_rfl) (by kernel_rfl) (by kernel_rfl) (fun _ _ _ h => h) (Or.inl ⟨by rfl, ?_⟩) hHeld ?_
        rotate_left
        · (intro wq hSw; (try dsimp only at hSw); first | (go_simp; done) | (go_simp; with_reducible rfl))
        try simp only [Act.put, qa, qb, qc]
        refine wpAnyH_take (i := 4) (oi := { dst := some 22, op := Op.fieldAddr 89 (.tmp 5) 4, type := 0, pos := "l11_lock.go:86", after := #[], guard := none }) (v := ?_) rfl (by kernel_rfl) (by kernel_rfl) (by kernel_rfl) (fun _ _ _ h => h) (Or.inl ⟨by rfl, ?_⟩) hHeld ?_
        rotate_left
        · (intro wq hSw; (try dsimp only at hSw); first | (go_simp; done) | (go_simp; with_reducible rfl))
        try simp only [Act.put, qa, qb, qc]
        refine wpAnyH_take (i := 5) (oi := { dst := some 23, op := Op.load 3 (.tmp 22), type := 3, pos := "l11_lock.go:86", after := #[⟨4, .data⟩], guard := none }) (v := ?_) rfl (by kernel_rfl) (by kernel_rfl) (by kernel_rfl) (fun _ _ _ h => h) (Or.inl ⟨by rfl, ?_⟩) hHeld ?_
        rotate_left
        · (intro wq hSw; (try dsimp only at hSw); first | (go_simp; done) | (go_simp; with_reducible rfl))
        try simp only [Act.put, qa, qb, qc]
        refine wpAnyH_take (i := 6) (oi := { dst := some 24, op := Op.indexAddr 23 (.tmp 21) (.tmp 23), type := 0, pos := "l11_lock.go:86", after := #[⟨3, .data⟩, ⟨5, .data⟩], guard := none }) (v := ?_) rfl (by kernel_rfl) (by kernel_rfl) (by kernel_rfl) (fun _ _ _ h => h) (Or.inl ⟨by rfl, ?_⟩) hHeld ?_
        rotate_left
        · (intro wq hSw; (try dsimp only at hSw); first | (go_simp; done) | (go_simp; with_reducible rfl))
        try simp only [Act.put, qa, qb, qc]
        refine wpAnyH_take (i := 7) (oi := { dst := some 25, op := Op.load 3 (.tmp 24), type := 3, pos := "l11_lock.go:86", after := #[⟨6, .data⟩], guard := none }) (v := ?_) rfl (by kernel_rfl) (by kernel_rfl) (by kernel_rfl) (fun _ _ _ h => h) (Or.inl ⟨by rfl, ?_⟩) hHeld ?_
        rotate_left
        · (intro wq hSw; (try dsimp only at hSw); first | (go_simp; done) | (go_simp; with_reducible rfl))
        try simp only [Act.put, qa, qb, qc]
        refine wpAnyH_take (i := 8) (oi := { dst := some 26, op := Op.indexAddr 43 (.tmp 19) (.tmp 20), type := 0, pos := "l11_lock.go:86", after := #[⟨1, .data⟩, ⟨2, .data⟩, ⟨0, .phase⟩, ⟨1, .phase⟩, ⟨2, .phase⟩, ⟨3, .phase⟩, ⟨4, .phase⟩, ⟨5, .phase⟩, ⟨6, .phase⟩, ⟨7, .phase⟩], guard := none }) (v := ?_) rfl (by kernel_rfl) (by kernel_rfl) (by kernel_rfl) (fun _ _ _ h => h) (Or.inl ⟨by rfl, ?_⟩) hHeld ?_
        rotate_left
        · (intro wq hSw; (try dsimp only at hSw); first | (go_simp; done) | (go_simp; with_reducible rfl))
        try simp only [Act.put, qa, qb, qc]
        refine wpAnyH_take (i := 9) (oi := { dst := some 27, op := Op.fieldAddr 89 (.tmp 26) 4, type := 0, pos := "l11_lock.go:86", after := #[⟨8, .data⟩, ⟨0, .phase⟩, ⟨1, .phase⟩, ⟨2, .phase⟩, ⟨3, .phase⟩, ⟨4, .phase⟩, ⟨5, .phase⟩, ⟨6, .phase⟩, ⟨7, .phase⟩], guard := none }) (v := ?_) rfl (by kernel_rfl) (by kernel_rfl) (by kernel_rfl) (fun _ _ _ h => h) (Or.inl ⟨by rfl, ?_⟩) hHeld ?_
        rotate_left
        · (intro wq hSw; (try dsimp only at hSw); first | (go_simp; done) | (go_simp; with_reducible rfl))
        try simp only [Act.put, qa, qb, qc]
        refine wpAnyH_ready (rs := [10]) (by kernel_rfl) (by simp) ?_
        refine AllReadyH.cons (o := { dst := none, op := Op.store 3 (.tmp 27) (.tmp 25), type := 0, pos := "l11_lock.go:86", after := #[⟨9, .data⟩, ⟨7, .data⟩, ⟨0, .phase⟩, ⟨1, .phase⟩, ⟨2, .phase⟩, ⟨3, .phase⟩, ⟨4, .phase⟩, ⟨5, .phase⟩, ⟨6, .phase⟩, ⟨7, .phase⟩], guard := none }) rfl (fun K hK => ?_) (AllReadyH.nil)
        · go_simp
          refine hK.out _ _ ?_ (fun hHeldN => ?_)
          · exact kS6.out
          clear hK K hHeld
          have hHeld := hHeldN
          clear hHeldN
          try simp only [Act.put, qa, qb, qc]
          refine wpAnyH_done (by kernel_rfl) ?_ _
          clear hHeld
          go_wp2_with fail
          go_roundw
          case rel => exact ⟨j + 1, by omega, by go_num, hide O6.out, hide G6.out, hide T6.out⟩
          case measure => simp [intOf]; omega
    · obtain rfl : j = n0 := by omega
      have hlt' : decide ((j : Int) < (j : Int)) = false := decide_eq_false (by omega)
      have hE := hide (show flat (turnL zs l j) = flat (l.map (turnD zs)) from by rw [← turnL_all, hn0.out])
      go_wp2_with fail
      refine bodyPost_end (v := .tuple #[]) (by simp [results, Try.results94, go_sem]; done) rfl ?_
      exact ⟨rfl, by rw [← hE.out]; exact O1.out, G1.out⟩
end Go.Proofs.Ytjendjbbhohjcaa

namespace Go.Proofs.Ytjendjbbhohjcaa
open Go.RowKit

set_option maxRecDepth 100000 in
set_option maxHeartbeats 6400000 in
theorem l11order_any (A : Option Addr) (zs : List Int) (n c m : Nat) (S : Nat → Prop) (w : World) (hz : zs.length = n) (ha : IntsAt w S A zs) :
    Calls Try.prog 63 #[.slice A n c, .int .i64 m] w fun e w' => e = .returned (.bool (orderB zs m)) ∧ w = w' := by
  obtain ⟨res, hres⟩ : ∃ res, res = orderB zs m := ⟨_, rfl⟩
  rw [← hres]
  replace hres := hide hres
  have hz63 := ha.1
  by_cases hnm : n = m
  · subst hnm
    have hn63 : n ≤ 9223372036854775807 := by omega
    replace hz := hide hz
    clear hz63
    go_enter Try.func63, Try.ntmps63
    go_wp2_with fail
    go_loop [5] (fun i => ∃ k : Nat, k ≤ n ∧ i = .int .i64 k ∧ Hid (∀ i : Nat, i < k → (i : Int) ∈ zs)) (fun i => n - (intOf i).toNat)
    case atStart => exact ⟨0, Nat.zero_le _, rfl, hide (fun i hi => by omega)⟩
    case round =>
      obtain ⟨k, hk, rfl, K0⟩ := hrel
      by_cases hlt : k < n
      · have hlt' : decide ((k : Int) < (n : Int)) = true := decide_eq_true (by omega)
        have hkn : k < n := hlt
        go_wp2_with fail
        go_loop [6, 7] (fun f i => ∃ (j : Nat) (q : Bool), j ≤ n ∧ i = .int .i64 j ∧ f = .bool q ∧ Hid (q = decide ((k : Int) ∈ zs.take j))) (fun _ i => n - (intOf i).toNat)
        case atStart => exact ⟨0, false, Nat.zero_le _, rfl, rfl, hide (by simp)⟩
        case round =>
          obtain ⟨j, q, hj, rfl, rfl, hq⟩ := hrel
          by_cases hjl : j < n
          · have hjl' : decide ((j : Int) < (n : Int)) = true := decide_eq_true (by omega)
            have hjn : j < n := hjl
            obtain ⟨b, off, rfl, hbS, hc⟩ := ha.2 (by rw [hz.out]; omega)
            have hcell := hc j (by rw [hz.out]; exact hjl)
            have hst := hide (show decide ((k : Int) ∈ zs.take (j + 1)) = (q || decide (geti zs j = (k : Int))) from by
              rw [take_geti zs j (by rw [hz.out]; exact hjl), hq.out, ← Bool.decide_or]
              apply decide_eq_decide.2
              rw [List.mem_append, List.mem_singleton]
              exact ⟨fun h => h.imp id Eq.symm, fun h => h.imp id Eq.symm⟩)
            obtain ⟨z, hzz⟩ : ∃ z, z = geti zs j := ⟨_, rfl⟩
            rw [← hzz] at hcell hst
            clear hc hzz hq
            cases q
            · by_cases hzk : z = (k : Int)
              · have hzb : (z == (k : Int)) = true := by simpa using hzk
                have hq1 := hide (show true = decide ((k : Int) ∈ zs.take (j + 1)) from by rw [hst.out, decide_eq_true hzk]; rfl)
                clear hzk hst
                go_wp2_with fail
                go_round
                case rel => exact ⟨j + 1, true, by omega, by go_num, rfl, hq1⟩
                case measure => simp [intOf]; omega
              · have hzb : (z == (k : Int)) = false := by simpa using hzk
                have hq1 := hide (show false = decide ((k : Int) ∈ zs.take (j + 1)) from by rw [hst.out, decide_eq_false hzk]; rfl)
                clear hzk hst
                go_wp2_with fail
                go_round
                case rel => exact ⟨j + 1, false, by omega, by go_num, rfl, hq1⟩
                case measure => simp [intOf]; omega
            · have hq1 := hide (show true = decide ((k : Int) ∈ zs.take (j + 1)) from by rw [hst.out]; rfl)
              clear hst
              go_wp2_with fail
              go_round
              case rel => exact ⟨j + 1, true, by omega, by go_num, rfl, hq1⟩
              case measure => simp [intOf]; omega
          · have hjl' : decide ((j : Int) < (n : Int)) = false := decide_eq_false (by omega)
            have hqn := hide (show q = decide ((k : Int) ∈ zs) from by rw [hq.out, List.take_of_length_le (by rw [hz.out]; omega)])
            clear hq
            cases q
            · have hE := hide (show res = false from by rw [hres.out]; exact order_hole zs n k hkn (of_decide_eq_false hqn.out.symm))
              go_wp2_with fail
              go_ret
              exact ⟨ret_bool hE.out.symm, rfl⟩
            · have K1 := hide (show ∀ i : Nat, i < k + 1 → (i : Int) ∈ zs from fun i hi => by
                rcases Nat.lt_or_ge i k with h | h
                · exact K0.out i h
                · have : i = k := by omega
                  subst this; exact of_decide_eq_true hqn.out.symm)
              go_wp2_with fail
              go_round
              case rel => exact ⟨k + 1, by omega, by go_num, K1⟩
              case measure => simp [intOf]; omega
      · obtain rfl : k = n := by omega
        have hlt' : decide ((k : Int) < (k : Int)) = false := decide_eq_false (by omega)
        have hE := hide (show res = true from by rw [hres.out]; exact order_cover zs k hz.out K0.out)
        go_wp2_with fail
        go_ret
        exact ⟨ret_bool hE.out.symm, rfl⟩
  · have hE := hide (show res = false from by rw [hres.out]; exact order_len (by rw [hz]; exact hnm))
    have hne : ((n : Int) != (m : Int)) = true := by simp; omega
    clear hz ha hnm hz63
    go_enter Try.func63, Try.ntmps63
    go_wp2_with fail
    go_ret
    exact ⟨ret_bool hE.out.symm, rfl⟩
end Go.Proofs.Ytjendjbbhohjcaa
