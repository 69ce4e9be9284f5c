/- What answers a program of its own. -/
import Derived.Test.YtjendjbbhohjcaaMc0
import Derived.Test.YtjendjbbhohjcaaMc3
import Derived.Test.YtjendjbbhohjcaaMc6
import Derived.Test.YtjendjbbhohjcaaMc7
import Derived.Test.YtjendjbbhohjcaaMc8
import Derived.Test.YtjendjbbhohjcaaMc9
import Derived.Deep.AppendLies
import Derived.Deep.RegionLaw
import Derived.Deep.DrawnRows
import Derived.Deep.DeepCutAuto
import Derived.Deep.RegionHeld3
namespace Go.Proofs.Ytjendjbbhohjcaa
open Go.RowKit

def dekC (t : Int) : List InsD := [⟨1, 1, 0, 0, 0, 1⟩, ⟨8, 0, 1, 0, t, 0⟩]
def dekL (t : Int) : List InsD := [⟨7, 2, 0, 0, 1 - t, 0⟩, ⟨6, 0, 2, 3, 0, 0⟩]
def dekT (f : Bool) (t : Int) : List InsD := dekC t ++ (fenL f ++ dekL t)
def dekTs (f : Bool) (k : Nat) : List (List InsD) := (List.range k).map fun (t : Nat) => dekT f (t : Int)
def dekP (f : Bool) : ProgD := ⟨[0, 0], dekTs f 2⟩
theorem dekTs_succ (f : Bool) (k : Nat) : dekTs f (k + 1) = dekTs f k ++ [dekT f (k : Int)] := by unfold dekTs; rw [List.range_succ, List.map_append]; rfl
theorem dekTs_len (f : Bool) (k : Nat) : (dekTs f k).length = k := by simp [dekTs]
theorem dekT_len (f : Bool) (t : Int) : (dekT f t).length = if f then 5 else 4 := by cases f <;> rfl
theorem join_dek (f : Bool) (t : Int) : joinTo [dekC t, fenL f, dekL t] 3 = dekT f t := by cases f <;> rfl

def swpT (t : Int) : List InsD := [⟨1, 1, 0, 0, 0, t + 1⟩, ⟨11, 0, 2, 1, 0, 0⟩]
def swpTs (k : Nat) : List (List InsD) := (List.range k).map fun (t : Nat) => swpT (t : Int)
theorem swpTs_succ (k : Nat) : swpTs (k + 1) = swpTs k ++ [swpT (k : Int)] := by unfold swpTs; rw [List.range_succ, List.map_append]; rfl
theorem swpTs_len (k : Nat) : (swpTs k).length = k := by simp [swpTs]
def nthB (n : Int) : Bool := decide (1 ≤ n ∧ n ≤ 3)
def swpP (n : Int) : ProgD := if nthB n then ⟨[0], swpTs n.toNat⟩ else ⟨[], []⟩

def tryL (k e : Int) : List InsD := [⟨7, 2, 0, 0, 0, 0⟩, ⟨1, 3, 0, 0, 0, 1⟩, ⟨3, 3, 2, 3, 0, 0⟩, ⟨11, 4, 2, 3, 0, 0⟩, ⟨13, 0, 4, 0, 0, 7 + k⟩, ⟨2, 0, 2, 0, 0, 0⟩, ⟨14, 0, 0, 0, 0, e⟩]
def ticL (m k : Nat) : List InsD := (List.range k).flatMap fun (j : Nat) => tryL ((7 * j : Nat) : Int) ((7 * m : Nat) : Int)
theorem ticL_succ (m k : Nat) : ticL m (k + 1) = ticL m k ++ tryL ((7 * k : Nat) : Int) ((7 * m : Nat) : Int) := by
  unfold ticL
  rw [List.range_succ, List.flatMap_append]
  simp
theorem ticL_len (m k : Nat) : (ticL m k).length = 7 * k := by
  induction k with
  | zero => rfl
  | succ k ih => rw [ticL_succ, List.length_append, ih]; show 7 * k + 7 = _; omega
def ticTs (m k : Nat) : List (List InsD) := List.replicate k (ticL m m)
theorem ticTs_succ (m k : Nat) : ticTs m (k + 1) = ticTs m k ++ [ticL m m] := by unfold ticTs; exact List.replicate_succ'
theorem ticTs_len (m k : Nat) : (ticTs m k).length = k := by simp [ticTs]
def ticB (n m : Int) : Bool := decide (1 ≤ n ∧ n ≤ 3 ∧ 1 ≤ m ∧ m ≤ 3)
def ticP (n m : Int) : ProgD := if ticB n m then ⟨[1], ticTs m.toNat n.toNat⟩ else ⟨[], []⟩
def ticPs (m k : Nat) : List (List InsD) := (List.range k).map fun (j : Nat) => tryL 0 (((7 * m : Nat) : Int) - ((7 * j : Nat) : Int))
theorem ticPs_succ (m k : Nat) : ticPs m (k + 1) = ticPs m k ++ [tryL 0 (((7 * m : Nat) : Int) - ((7 * k : Nat) : Int))] := by unfold ticPs; rw [List.range_succ, List.map_append]; rfl
theorem ticPs_len (m k : Nat) : (ticPs m k).length = k := by simp [ticPs]
theorem ticPs_get (m k j : Nat) (hj : j < k) : gett (ticPs m k) j = tryL 0 (((7 * m : Nat) : Int) - ((7 * j : Nat) : Int)) := by
  unfold gett ticPs
  rw [List.getD_eq_getElem?_getD, List.getElem?_map, List.getElem?_range hj]
  rfl
theorem join_tic (m : Nat) (n : Nat) : ∀ k, k ≤ n → joinTo (ticPs m n) k = ticL m k := by
  intro k
  induction k with
  | zero => intro _; rfl
  | succ k ih =>
    intro hk
    show joinTo (ticPs m n) k ++ movL ((joinTo (ticPs m n) k).length : Int) (gett (ticPs m n) k) = _
    rw [ih (by omega), ticL_succ, ticL_len, ticPs_get m n k (by omega)]
    congr 1
    have e1 : (7 : Int) + 0 + ((7 * k : Nat) : Int) = 7 + ((7 * k : Nat) : Int) := by omega
    have e2 : ((7 * m : Nat) : Int) - ((7 * k : Nat) : Int) + ((7 * k : Nat) : Int) = ((7 * m : Nat) : Int) := by omega
    show [⟨7, 2, 0, 0, 0, 0⟩, ⟨1, 3, 0, 0, 0, 1⟩, ⟨3, 3, 2, 3, 0, 0⟩, ⟨11, 4, 2, 3, 0, 0⟩, ⟨13, 0, 4, 0, 0, (7 : Int) + 0 + ((7 * k : Nat) : Int)⟩, ⟨2, 0, 2, 0, 0, 0⟩, ⟨14, 0, 0, 0, 0, ((7 * m : Nat) : Int) - ((7 * k : Nat) : Int) + ((7 * k : Nat) : Int)⟩] = tryL _ _
    rw [e1, e2]
    rfl
end Go.Proofs.Ytjendjbbhohjcaa

namespace Go.Proofs.Ytjendjbbhohjcaa
open Go.RowKit

theorem CrAt.start0 {w0 W : World} {zs : List Int} {cs : Array Value} (hW : Below w0.heap.size w0 W) (hs : w0.heap.size + 1 ≤ W.heap.size) (hR : ∃ u u', Blk W w0.heap.size 37 #[u, u']) (hn : zs.length ≤ 1000) (hcs : cs.toList = zs.map (Value.int .i64)) :
    CrAt w0 (W.heap.size + 1) zs (.slice (some ⟨W.heap.size, 0, none⟩) zs.length zs.length) [] [] (.slice none 0 0) ((W.alloc (.cells cs 3)).alloc (.cells #[.slice (some ⟨W.heap.size, 0, none⟩) zs.length zs.length, .slice none 0 0] 37)) := by
  have hV := own_lit W W.heap.size 3 1 zs.length cs (Nat.le_refl _) hn (by have := congrArg List.length hcs; simp at this; omega)
  rw [hcs] at hV
  have hP0 : ProgOwn (W.alloc (.cells cs 3)) (w0.heap.size + 1) zs (.slice (some ⟨W.heap.size, 0, none⟩) zs.length zs.length) [] [] (.slice none 0 0) := ⟨own_base hV hs, ⟨rfl, .inl ⟨rfl, rfl⟩⟩, fun k hk => by simp at hk, fun j k _ hk => by simp at hk⟩
  have hX := Blk.new (W.alloc (.cells cs 3)) 37 #[.slice (some ⟨W.heap.size, 0, none⟩) zs.length zs.length, .slice none 0 0]
  simp only [World.size_alloc] at hX
  obtain ⟨u, u', hR⟩ := hR
  exact ⟨(hW.alloc (by omega) _).alloc (by simp; omega) _, hX, hP0.keep (fun b _ hlt => Below.heap_alloc _ _ b hlt), by omega, u, u', (hR.alloc _).alloc _⟩
set_option maxHeartbeats 800000 in
theorem threadsOk_any (n : Int) (w : World) : Calls Try.prog 67 #[.int .i64 n] w fun e w' => e = .returned (.bool (nthB n)) ∧ w = w' := by
  unfold nthB
  go_enter Try.func67, Try.ntmps67
  go_wp2
  all_goals
    go_ret
    exact ⟨ret_bool (by first | (simp; done) | (simp; omega) | simp_all), rfl⟩
set_option maxRecDepth 100000 in
set_option maxHeartbeats 3200000 in
theorem sswp_no (z : Int) (w : World) (hno : nthB z = false) : Calls Try.prog 52 #[.int .i64 z] w fun e w' => FenR w w' e ⟨[], []⟩ false := by
  have hb : ¬ (1 ≤ z ∧ z ≤ 3) := of_decide_eq_false hno
  obtain ⟨W, hW⟩ : ∃ x, x = w.alloc (Obj.cells #[.slice none 0 0, .slice none 0 0] 37) := ⟨_, rfl⟩
  have hbW : Below w.heap.size w W := by rw [hW]; exact below1 _ _
  have hsW : w.heap.size + 1 ≤ W.heap.size := by rw [hW]; simp
  have R := hide (show Blk W w.heap.size 37 #[.slice none 0 0, .slice none 0 0] from by rw [hW]; exact Blk.new _ _ _)
  have BW := hide hbW
  clear hbW
  go_enter Try.func52, Try.ntmps52
  go_upto_region 1 with fail
  rw [← hW]
  clear hW
  obtain ⟨r0, r1⟩ := (show W.cell? ⟨w.heap.size, 0, none⟩ = some (Value.slice none 0 0) ∧ W.cell? ⟨w.heap.size, 1, none⟩ = some (Value.slice none 0 0) from ⟨R.out.cell 0, R.out.cell 1⟩)
  obtain ⟨r2, r3⟩ := (show W.frozen? ⟨w.heap.size, 0, none⟩ = false ∧ W.frozen? ⟨w.heap.size, 1, none⟩ = false from ⟨R.out.frozen 0, R.out.frozen 1⟩)
  have lR := R.out.lt
  by_cases h1 : z < 1
  · have hd1 : decide (z < 1) = true := decide_eq_true h1
    go_wp2_with fail
    refine bodyPost_ret (v := .tuple #[.agg #[.slice none 0 0, .slice none 0 0], .bool false]) (by simp [results, Try.results52, go_sem, r0, r1]; done) rfl (FenR.no ?_)
    exact (BW.out.setCell (p := ⟨w.heap.size, 0, none⟩) (Nat.le_refl _) _).setCell (p := ⟨w.heap.size, 1, none⟩) (Nat.le_refl _) _
  · have hd1 : decide (z < 1) = false := decide_eq_false h1
    have hd3 : decide (3 < z) = true := decide_eq_true (by omega)
    go_wp2_with fail
    refine bodyPost_ret (v := .tuple #[.agg #[.slice none 0 0, .slice none 0 0], .bool false]) (by simp [results, Try.results52, go_sem, r0, r1]; done) rfl (FenR.no ?_)
    exact (BW.out.setCell (p := ⟨w.heap.size, 0, none⟩) (Nat.le_refl _) _).setCell (p := ⟨w.heap.size, 1, none⟩) (Nat.le_refl _) _
set_option maxRecDepth 100000 in
set_option maxHeartbeats 6400000 in
theorem sswp_yes (N : Nat) (w : World) (h1 : 1 ≤ N) (h3 : N ≤ 3) : Calls Try.prog 52 #[.int .i64 N] w fun e w' => FenR w w' e ⟨[0], swpTs N⟩ true := by
  obtain ⟨i2, hi2, hx0, hx1, hx2⟩ := info_parts Try.infoThr
  replace hi2 := hide hi2
  obtain ⟨W, hW⟩ : ∃ x, x = w.alloc (Obj.cells #[.slice none 0 0, .slice none 0 0] 37) := ⟨_, rfl⟩
  have hbW : Below w.heap.size w W := by rw [hW]; exact below1 _ _
  have hsW : w.heap.size + 1 ≤ W.heap.size := by rw [hW]; simp
  have R := hide (show Blk W w.heap.size 37 #[.slice none 0 0, .slice none 0 0] from by rw [hW]; exact Blk.new _ _ _)
  have BW := hide hbW
  clear hbW
  go_enter Try.func52, Try.ntmps52
  go_upto_region 1 with fail
  rw [← hW]
  clear hW
  obtain ⟨r0, r1⟩ := (show W.cell? ⟨w.heap.size, 0, none⟩ = some (Value.slice none 0 0) ∧ W.cell? ⟨w.heap.size, 1, none⟩ = some (Value.slice none 0 0) from ⟨R.out.cell 0, R.out.cell 1⟩)
  obtain ⟨r2, r3⟩ := (show W.frozen? ⟨w.heap.size, 0, none⟩ = false ∧ W.frozen? ⟨w.heap.size, 1, none⟩ = false from ⟨R.out.frozen 0, R.out.frozen 1⟩)
  have lR := R.out.lt
  have C4 := CrAt.start0 (w0 := w) (zs := [0]) (cs := #[.int .i64 0]) BW.out hsW ⟨_, _, R.out⟩ (by decide) rfl
  obtain ⟨w3, hw3⟩ : ∃ x, x = W.alloc (Obj.cells #[.int .i64 0] 3) := ⟨_, rfl⟩
  obtain ⟨w4, hw4⟩ : ∃ x, x = w3.alloc (Obj.cells #[.slice (some ⟨W.heap.size, 0, none⟩) 1 1, .slice none 0 0] 37) := ⟨_, rfl⟩
  have hd1 : decide ((N : Int) < 1) = false := decide_eq_false (by omega)
  have hd3 : decide (3 < (N : Int)) = false := decide_eq_false (by omega)
  have hd1' : decide (1 ≤ (N : Int)) = true := decide_eq_true (by omega)
  have hd3' : decide ((N : Int) ≤ 3) = true := decide_eq_true (by omega)
  obtain ⟨T, hT⟩ : ∃ x, x = W.heap.size + 1 := ⟨_, rfl⟩
  replace C4 := hide (show CrAt w T [0] (.slice (some ⟨W.heap.size, 0, none⟩) 1 1) (swpTs 0) [] (.slice none 0 0) w4 from by rw [hT, hw4, hw3]; exact C4)
  obtain ⟨v, hv⟩ : ∃ x, x = Value.slice (some ⟨W.heap.size, 0, none⟩) 1 1 := ⟨_, rfl⟩
  rw [← hv] at C4
  go_upto_region 4 with fail
  rw [← hw3, ← hw4, ← hT]
  obtain ⟨A0, hA0⟩ : ∃ A, A = some (⟨W.heap.size, 0, none⟩ : Addr) := ⟨_, rfl⟩
  rw [← hA0] at hv
  clear hw3 hw4 hT hA0 hd1 hd3 hd1' hd3' r0 r1 r2 r3 lR
  replace hv := hide hv
  go_wp2_with fail
  go_loopw [5] (fun i wr => ∃ (k : Nat) (vs : List Value) (tv : Value), k ≤ N ∧ i = .int .i64 k ∧ Hid (CrAt w T [0] v (swpTs k) vs tv wr)) (fun i _ => N - (intOf i).toNat)
  case atStart => exact ⟨0, _, _, Nat.zero_le _, rfl, C4⟩
  case round =>
    clear C4
    obtain ⟨k, vs, tv, hk, rfl, C0⟩ := hrel
    by_cases hlt : k < N
    · have hlt' : decide ((k : Int) < (N : Int)) = true := decide_eq_true (by omega)
      have hwr : IntKind.i64.wrap ((k : Int) + 1) = (k : Int) + 1 := by rw [IntKind.wrap_i64]; omega
      have hstep := hide (swpTs_succ k)
      obtain ⟨A6, c6, htv, -⟩ := own_form C0.out.own.rows
      obtain ⟨m, hm⟩ : ∃ m, m = (swpTs k).length := ⟨_, rfl⟩
      have hm3 : m ≤ 3 := by rw [hm, swpTs_len]; omega
      rw [← hm] at htv
      subst htv
      have hmH := hide hm
      clear hm
      have hsz : w.heap.size + 1 ≤ wr.heap.size := by have := C0.out.blk.lt; have := C0.out.lo; omega
      have L8 := hide (LAt.start (l := swpT (k : Int)) C0.out (cs := #[.int .i64 1, .int .i64 1, .int .i64 0, .int .i64 0, .int .i64 0, .int .i64 ((k : Int) + 1), .int .i64 11, .int .i64 0, .int .i64 2, .int .i64 1, .int .i64 0, .int .i64 0]) (by show 2 ≤ 1000; omega) (by rfl))
      have L9 := hide (L8.out.alloc (Obj.cells #[.slice (some ⟨wr.heap.size, 0, none⟩) 2 2] 45))
      have hR := hide (show ((wr.alloc (Obj.cells #[.int .i64 1, .int .i64 1, .int .i64 0, .int .i64 0, .int .i64 0, .int .i64 ((k : Int) + 1), .int .i64 11, .int .i64 0, .int .i64 2, .int .i64 1, .int .i64 0, .int .i64 0] 89)).alloc (Obj.cells #[.slice (some ⟨wr.heap.size, 0, none⟩) 2 2] 45)).ownsRow (w.heap.size + 1) 45 1 (.slice A6 m c6) m vs from by rw [hmH.out]; rw [hmH.out] at L9; exact L9.out.cr.own.rows)
      have hnew : ((wr.alloc (Obj.cells #[.int .i64 1, .int .i64 1, .int .i64 0, .int .i64 0, .int .i64 0, .int .i64 ((k : Int) + 1), .int .i64 11, .int .i64 0, .int .i64 2, .int .i64 1, .int .i64 0, .int .i64 0] 89)).alloc (Obj.cells #[.slice (some ⟨wr.heap.size, 0, none⟩) 2 2] 45)).heap[wr.heap.size + 1]? = some (.cells #[.slice (some ⟨wr.heap.size, 0, none⟩) 2 2] 45 (0, 0)) := by
        have := heap_alloc_new (wr.alloc (Obj.cells #[.int .i64 1, .int .i64 1, .int .i64 0, .int .i64 0, .int .i64 0, .int .i64 ((k : Int) + 1), .int .i64 11, .int .i64 0, .int .i64 2, .int .i64 1, .int .i64 0, .int .i64 0] 89)) (Obj.cells #[.slice (some ⟨wr.heap.size, 0, none⟩) 2 2] 45)
        rwa [World.size_alloc] at this
      replace hnew := hide hnew
      obtain ⟨⟨t0, t1⟩, t2, t3⟩ := C0.out.cells
      have lT := C0.out.blk.lt
      clear C0
      go_wp2_with (at_builtin; refine wpList_append_lies _ rfl _ _ _ rfl (w.heap.size + 1) 45 i2 _ 1 24 Try.underlying35 hi2.out hx0 hx1 hx2 rfl (by omega) (.slice A6 m c6) m vs rfl hR.out ⟨wr.heap.size + 1, 0, none⟩ 1 1 [.slice (some ⟨wr.heap.size, 0, none⟩) 2 2] rfl rfl (World.news_of_block hnew.out) (by simp [Value.oneCell']) (by omega) (by have : maxLen = 9223372036854775807 := rfl; omega) (by omega) (by simp; omega) _ rfl ?_)
      intro g7 cap7 w9 hown7 hgr7 hat7 hlt7
      obtain ⟨⟨⟨s0, s1⟩, s2, s3⟩, hC7⟩ := L9.out.growRows rfl (by rw [← hmH.out]; exact hown7) (by exact hgr7)
      have C7 := hide hC7
      have lT7 : T < w9.heap.size := by have := C7.out.blk.lt; simpa using this
      clear hown7 hgr7 hat7 hC7 L8 L9 hR t0 t1 t2 t3 lT hsz hnew
      go_wp2_with fail
      go_roundw
      case rel => exact ⟨k + 1, _, _, by omega, by go_num, hide (by rw [hstep.out]; exact C7.out)⟩
      case measure => simp [intOf]; omega
    · obtain rfl : k = N := by omega
      have hlt' : decide ((k : Int) < (k : Int)) = false := decide_eq_false (by omega)
      have hvH := hv
      obtain ⟨A9, c9, rfl, -⟩ := own_form C0.out.own.rows
      obtain ⟨⟨t0, t1⟩, t2, t3⟩ := C0.out.cells
      have lT := C0.out.blk.lt
      obtain ⟨u, u', hR⟩ := C0.out.out
      obtain ⟨r0, r1⟩ := (show wr.cell? ⟨w.heap.size, 0, none⟩ = some u ∧ wr.cell? ⟨w.heap.size, 1, none⟩ = some u' from ⟨hR.cell 0, hR.cell 1⟩)
      obtain ⟨r2, r3⟩ := (show wr.frozen? ⟨w.heap.size, 0, none⟩ = false ∧ wr.frozen? ⟨w.heap.size, 1, none⟩ = false from ⟨hR.frozen 0, hR.frozen 1⟩)
      have lR := hR.lt
      have hTR := hide (show w.heap.size ≠ T from by have := C0.out.lo; omega)
      clear hR
      rw [hv.out] at t0
      go_wp2_with fail
      refine bodyPost_ret (v := .tuple #[.agg #[.slice A0 1 1, .slice A9 (swpTs k).length c9], .bool true]) (by simp [results, Try.results52, go_sem, r0, r1]; done) rfl ?_
      refine ⟨_, _, vs, rfl, ?_, (C0.out.below.setCell (p := ⟨w.heap.size, 0, none⟩) (Nat.le_refl _) _).setCell (p := ⟨w.heap.size, 1, none⟩) (Nat.le_refl _) _⟩
      have h1 := C0.out.own.keep (w1 := (wr.setCell ⟨w.heap.size, 0, none⟩ (.slice A0 1 1)).setCell ⟨w.heap.size, 1, none⟩ (.slice A9 (swpTs k).length c9)) (fun b hb _ => (Below.heap_setCell _ _ _ b (by show b ≠ w.heap.size; omega)).trans (Below.heap_setCell _ _ _ b (by show b ≠ w.heap.size; omega)))
      rw [hv.out] at h1
      exact ⟨own_base h1.ints (by omega), own_base h1.rows (by omega), fun j hj => own_base (h1.thr j hj) (by omega), h1.apart⟩
set_option maxRecDepth 100000 in
set_option maxHeartbeats 3200000 in
theorem pswp_no (z : Int) (w : World) (hno : nthB z = false) : Calls Try.prog 53 #[.int .i64 z] w fun e w' => FenR w w' e ⟨[], []⟩ false := by
  have hb : ¬ (1 ≤ z ∧ z ≤ 3) := of_decide_eq_false hno
  obtain ⟨W, hW⟩ : ∃ x, x = w.alloc (Obj.cells #[.slice none 0 0, .slice none 0 0] 37) := ⟨_, rfl⟩
  have hbW : Below w.heap.size w W := by rw [hW]; exact below1 _ _
  have hsW : w.heap.size + 1 ≤ W.heap.size := by rw [hW]; simp
  have R := hide (show Blk W w.heap.size 37 #[.slice none 0 0, .slice none 0 0] from by rw [hW]; exact Blk.new _ _ _)
  have BW := hide hbW
  clear hbW
  go_enter Try.func53, Try.ntmps53
  go_upto_region 1 with fail
  rw [← hW]
  clear hW
  obtain ⟨r0, r1⟩ := (show W.cell? ⟨w.heap.size, 0, none⟩ = some (Value.slice none 0 0) ∧ W.cell? ⟨w.heap.size, 1, none⟩ = some (Value.slice none 0 0) from ⟨R.out.cell 0, R.out.cell 1⟩)
  obtain ⟨r2, r3⟩ := (show W.frozen? ⟨w.heap.size, 0, none⟩ = false ∧ W.frozen? ⟨w.heap.size, 1, none⟩ = false from ⟨R.out.frozen 0, R.out.frozen 1⟩)
  have lR := R.out.lt
  have kO := hide (fun w => threadsOk_any z w)
  rw [hno] at kO
  go_wp2_with (go_at_call 67; refine (kO.out _).mono ?_; rintro e wx ⟨rfl, rfl⟩)
  refine bodyPost_ret (v := .tuple #[.agg #[.slice none 0 0, .slice none 0 0], .bool false]) (by simp [results, Try.results53, go_sem, r0, r1]; done) rfl (FenR.no ?_)
  exact (BW.out.setCell (p := ⟨w.heap.size, 0, none⟩) (Nat.le_refl _) _).setCell (p := ⟨w.heap.size, 1, none⟩) (Nat.le_refl _) _
set_option maxRecDepth 100000 in
set_option maxHeartbeats 6400000 in
theorem pswp_yes (N : Nat) (w : World) (h1 : 1 ≤ N) (h3 : N ≤ 3) : Calls Try.prog 53 #[.int .i64 N] w fun e w' => FenR w w' e ⟨[0], swpTs N⟩ true := by
  obtain ⟨i2, hi2, hx0, hx1, hx2⟩ := info_parts Try.infoThr
  replace hi2 := hide hi2
  have kO := fun w => threadsOk_any (N : Int) w
  rw [show nthB (N : Int) = true from decide_eq_true (by omega)] at kO
  replace kO := hide kO
  obtain ⟨W, hW⟩ : ∃ x, x = w.alloc (Obj.cells #[.slice none 0 0, .slice none 0 0] 37) := ⟨_, rfl⟩
  have hbW : Below w.heap.size w W := by rw [hW]; exact below1 _ _
  have hsW : w.heap.size + 1 ≤ W.heap.size := by rw [hW]; simp
  have R := hide (show Blk W w.heap.size 37 #[.slice none 0 0, .slice none 0 0] from by rw [hW]; exact Blk.new _ _ _)
  have BW := hide hbW
  clear hbW
  go_enter Try.func53, Try.ntmps53
  go_upto_region 1 with fail
  rw [← hW]
  clear hW
  obtain ⟨r0, r1⟩ := (show W.cell? ⟨w.heap.size, 0, none⟩ = some (Value.slice none 0 0) ∧ W.cell? ⟨w.heap.size, 1, none⟩ = some (Value.slice none 0 0) from ⟨R.out.cell 0, R.out.cell 1⟩)
  obtain ⟨r2, r3⟩ := (show W.frozen? ⟨w.heap.size, 0, none⟩ = false ∧ W.frozen? ⟨w.heap.size, 1, none⟩ = false from ⟨R.out.frozen 0, R.out.frozen 1⟩)
  have lR := R.out.lt
  have C4 := CrAt.start0 (w0 := w) (zs := [0]) (cs := #[.int .i64 0]) BW.out hsW ⟨_, _, R.out⟩ (by decide) rfl
  obtain ⟨w3, hw3⟩ : ∃ x, x = W.alloc (Obj.cells #[.int .i64 0] 3) := ⟨_, rfl⟩
  obtain ⟨w4, hw4⟩ : ∃ x, x = w3.alloc (Obj.cells #[.slice (some ⟨W.heap.size, 0, none⟩) 1 1, .slice none 0 0] 37) := ⟨_, rfl⟩
  have hd1 : decide ((N : Int) < 1) = false := decide_eq_false (by omega)
  have hd3 : decide (3 < (N : Int)) = false := decide_eq_false (by omega)
  have hd1' : decide (1 ≤ (N : Int)) = true := decide_eq_true (by omega)
  have hd3' : decide ((N : Int) ≤ 3) = true := decide_eq_true (by omega)
  obtain ⟨T, hT⟩ : ∃ x, x = W.heap.size + 1 := ⟨_, rfl⟩
  replace C4 := hide (show CrAt w T [0] (.slice (some ⟨W.heap.size, 0, none⟩) 1 1) (swpTs 0) [] (.slice none 0 0) w4 from by rw [hT, hw4, hw3]; exact C4)
  obtain ⟨v, hv⟩ : ∃ x, x = Value.slice (some ⟨W.heap.size, 0, none⟩) 1 1 := ⟨_, rfl⟩
  rw [← hv] at C4
  go_upto_region 4 with (go_at_call 67; refine (kO.out _).mono ?_; rintro e wx ⟨rfl, rfl⟩)
  rw [← hw3, ← hw4, ← hT]
  obtain ⟨A0, hA0⟩ : ∃ A, A = some (⟨W.heap.size, 0, none⟩ : Addr) := ⟨_, rfl⟩
  rw [← hA0] at hv
  clear hw3 hw4 hT hA0 hd1 hd3 hd1' hd3' r0 r1 r2 r3 lR
  replace hv := hide hv
  go_wp2_with fail
  go_loopw [13] (fun i wr => ∃ (k : Nat) (vs : List Value) (tv : Value), k ≤ N ∧ i = .int .i64 k ∧ Hid (CrAt w T [0] v (swpTs k) vs tv wr)) (fun i _ => N - (intOf i).toNat)
  case atStart => exact ⟨0, _, _, Nat.zero_le _, rfl, C4⟩
  case round =>
    clear C4
    obtain ⟨k, vs, tv, hk, rfl, C0⟩ := hrel
    by_cases hlt : k < N
    · have hlt' : decide ((k : Int) < (N : Int)) = true := decide_eq_true (by omega)
      have hwr : IntKind.i64.wrap ((k : Int) + 1) = (k : Int) + 1 := by rw [IntKind.wrap_i64]; omega
      have hstep := hide (swpTs_succ k)
      obtain ⟨A6, c6, htv, -⟩ := own_form C0.out.own.rows
      obtain ⟨m, hm⟩ : ∃ m, m = (swpTs k).length := ⟨_, rfl⟩
      have hm3 : m ≤ 3 := by rw [hm, swpTs_len]; omega
      rw [← hm] at htv
      subst htv
      have hmH := hide hm
      clear hm
      have hsz : w.heap.size + 1 ≤ wr.heap.size := by have := C0.out.blk.lt; have := C0.out.lo; omega
      have L8 := hide (LAt.start (l := swpT (k : Int)) C0.out (cs := #[.int .i64 1, .int .i64 1, .int .i64 0, .int .i64 0, .int .i64 0, .int .i64 ((k : Int) + 1), .int .i64 11, .int .i64 0, .int .i64 2, .int .i64 1, .int .i64 0, .int .i64 0]) (by show 2 ≤ 1000; omega) (by rfl))
      have L9 := hide (L8.out.alloc (Obj.cells #[.slice (some ⟨wr.heap.size, 0, none⟩) 2 2] 45))
      have hR := hide (show ((wr.alloc (Obj.cells #[.int .i64 1, .int .i64 1, .int .i64 0, .int .i64 0, .int .i64 0, .int .i64 ((k : Int) + 1), .int .i64 11, .int .i64 0, .int .i64 2, .int .i64 1, .int .i64 0, .int .i64 0] 89)).alloc (Obj.cells #[.slice (some ⟨wr.heap.size, 0, none⟩) 2 2] 45)).ownsRow (w.heap.size + 1) 45 1 (.slice A6 m c6) m vs from by rw [hmH.out]; rw [hmH.out] at L9; exact L9.out.cr.own.rows)
      have hnew : ((wr.alloc (Obj.cells #[.int .i64 1, .int .i64 1, .int .i64 0, .int .i64 0, .int .i64 0, .int .i64 ((k : Int) + 1), .int .i64 11, .int .i64 0, .int .i64 2, .int .i64 1, .int .i64 0, .int .i64 0] 89)).alloc (Obj.cells #[.slice (some ⟨wr.heap.size, 0, none⟩) 2 2] 45)).heap[wr.heap.size + 1]? = some (.cells #[.slice (some ⟨wr.heap.size, 0, none⟩) 2 2] 45 (0, 0)) := by
        have := heap_alloc_new (wr.alloc (Obj.cells #[.int .i64 1, .int .i64 1, .int .i64 0, .int .i64 0, .int .i64 0, .int .i64 ((k : Int) + 1), .int .i64 11, .int .i64 0, .int .i64 2, .int .i64 1, .int .i64 0, .int .i64 0] 89)) (Obj.cells #[.slice (some ⟨wr.heap.size, 0, none⟩) 2 2] 45)
        rwa [World.size_alloc] at this
      replace hnew := hide hnew
      obtain ⟨⟨t0, t1⟩, t2, t3⟩ := C0.out.cells
      have lT := C0.out.blk.lt
      clear C0
      go_wp2_with (at_builtin; refine wpList_append_lies _ rfl _ _ _ rfl (w.heap.size + 1) 45 i2 _ 1 24 Try.underlying35 hi2.out hx0 hx1 hx2 rfl (by omega) (.slice A6 m c6) m vs rfl hR.out ⟨wr.heap.size + 1, 0, none⟩ 1 1 [.slice (some ⟨wr.heap.size, 0, none⟩) 2 2] rfl rfl (World.news_of_block hnew.out) (by simp [Value.oneCell']) (by omega) (by have : maxLen = 9223372036854775807 := rfl; omega) (by omega) (by simp; omega) _ rfl ?_)
      intro g7 cap7 w9 hown7 hgr7 hat7 hlt7
      obtain ⟨⟨⟨s0, s1⟩, s2, s3⟩, hC7⟩ := L9.out.growRows rfl (by rw [← hmH.out]; exact hown7) (by exact hgr7)
      have C7 := hide hC7
      have lT7 : T < w9.heap.size := by have := C7.out.blk.lt; simpa using this
      clear hown7 hgr7 hat7 hC7 L8 L9 hR t0 t1 t2 t3 lT hsz hnew
      go_wp2_with fail
      go_roundw
      case rel => exact ⟨k + 1, _, _, by omega, by go_num, hide (by rw [hstep.out]; exact C7.out)⟩
      case measure => simp [intOf]; omega
    · obtain rfl : k = N := by omega
      have hlt' : decide ((k : Int) < (k : Int)) = false := decide_eq_false (by omega)
      have hvH := hv
      obtain ⟨A9, c9, rfl, -⟩ := own_form C0.out.own.rows
      obtain ⟨⟨t0, t1⟩, t2, t3⟩ := C0.out.cells
      have lT := C0.out.blk.lt
      obtain ⟨u, u', hR⟩ := C0.out.out
      obtain ⟨r0, r1⟩ := (show wr.cell? ⟨w.heap.size, 0, none⟩ = some u ∧ wr.cell? ⟨w.heap.size, 1, none⟩ = some u' from ⟨hR.cell 0, hR.cell 1⟩)
      obtain ⟨r2, r3⟩ := (show wr.frozen? ⟨w.heap.size, 0, none⟩ = false ∧ wr.frozen? ⟨w.heap.size, 1, none⟩ = false from ⟨hR.frozen 0, hR.frozen 1⟩)
      have lR := hR.lt
      have hTR := hide (show w.heap.size ≠ T from by have := C0.out.lo; omega)
      clear hR
      rw [hv.out] at t0
      go_wp2_with fail
      refine bodyPost_ret (v := .tuple #[.agg #[.slice A0 1 1, .slice A9 (swpTs k).length c9], .bool true]) (by simp [results, Try.results53, go_sem, r0, r1]; done) rfl ?_
      refine ⟨_, _, vs, rfl, ?_, (C0.out.below.setCell (p := ⟨w.heap.size, 0, none⟩) (Nat.le_refl _) _).setCell (p := ⟨w.heap.size, 1, none⟩) (Nat.le_refl _) _⟩
      have h1 := C0.out.own.keep (w1 := (wr.setCell ⟨w.heap.size, 0, none⟩ (.slice A0 1 1)).setCell ⟨w.heap.size, 1, none⟩ (.slice A9 (swpTs k).length c9)) (fun b hb _ => (Below.heap_setCell _ _ _ b (by show b ≠ w.heap.size; omega)).trans (Below.heap_setCell _ _ _ b (by show b ≠ w.heap.size; omega)))
      rw [hv.out] at h1
      exact ⟨own_base h1.ints (by omega), own_base h1.rows (by omega), fun j hj => own_base (h1.thr j hj) (by omega), h1.apart⟩
theorem sswp_any (z : Int) (w : World) : Calls Try.prog 52 #[.int .i64 z] w fun e w' => FenR w w' e (swpP z) (nthB z) := by
  cases h : nthB z
  · rw [show swpP z = ⟨[], []⟩ from by unfold swpP; rw [h]; rfl]
    exact sswp_no z w h
  · have h2 : 1 ≤ z ∧ z ≤ 3 := of_decide_eq_true h
    rw [show swpP z = ⟨[0], swpTs z.toNat⟩ from by unfold swpP; rw [h]; rfl]
    have h3 := sswp_yes z.toNat w (by omega) (by omega)
    rwa [show ((z.toNat : Nat) : Int) = z from by omega] at h3
theorem pswp_any (z : Int) (w : World) : Calls Try.prog 53 #[.int .i64 z] w fun e w' => FenR w w' e (swpP z) (nthB z) := by
  cases h : nthB z
  · rw [show swpP z = ⟨[], []⟩ from by unfold swpP; rw [h]; rfl]
    exact pswp_no z w h
  · have h2 : 1 ≤ z ∧ z ≤ 3 := of_decide_eq_true h
    rw [show swpP z = ⟨[0], swpTs z.toNat⟩ from by unfold swpP; rw [h]; rfl]
    have h3 := pswp_yes z.toNat w (by omega) (by omega)
    rwa [show ((z.toNat : Nat) : Int) = z from by omega] at h3
theorem swpTs_bound (k : Nat) : insTo (swpTs k) k ≤ k * 2 := by
  have h := insTo_bound (swpTs k) 2 (swpTs k).length (fun j hj => by
    rw [swpTs_len] at hj
    unfold swpTs gett
    rw [List.getD_eq_getElem?_getD, List.getElem?_map, List.getElem?_range hj]
    exact Nat.le_refl _) (Nat.le_refl _)
  rwa [swpTs_len] at h
theorem swpP_size (z : Int) : progSize (swpP z) ≤ 1048576 := by
  unfold swpP
  cases h : nthB z
  · show progSize ⟨[], []⟩ ≤ 1048576
    decide
  · have h2 : 1 ≤ z ∧ z ≤ 3 := of_decide_eq_true h
    rw [if_pos rfl]
    have h3 := swpTs_bound z.toNat
    have h4 := insTo_all (swpTs z.toNat)
    rw [swpTs_len] at h4
    show ([0] : List Int).length + tsSize (swpTs z.toNat) ≤ 1048576
    rw [show ([0] : List Int).length = 1 from rfl]
    omega
end Go.Proofs.Ytjendjbbhohjcaa

namespace Go.Proofs.Ytjendjbbhohjcaa
open Go.RowKit

def PrgR (w w' : World) (e : Ending) (q : ProgD) : Prop := ∃ v tv vs, e = .returned (.agg #[v, tv]) ∧ ProgOwn w' w.heap.size q.init v q.ts vs tv ∧ Below w.heap.size w w'
theorem PrgR.form {w w' : World} {e : Ending} {q : ProgD} (h : PrgR w w' e q) : ∃ A c A' c' vs, e = .returned (.agg #[.slice A q.init.length c, .slice A' q.ts.length c']) ∧ PrI w' w.heap.size w'.heap.size q (.slice A q.init.length c) (.slice A' q.ts.length c') vs ∧ Below w.heap.size w w' := by
  obtain ⟨v, tv, vs, rfl, h1, h2⟩ := h
  obtain ⟨A, c, rfl, -⟩ := own_form h1.ints
  obtain ⟨A', c', rfl, -⟩ := own_form h1.rows
  exact ⟨A, c, A', c', vs, rfl, .of h1, h2⟩
theorem dekC_small (k : Nat) (_h : k < 2) : SmallN (dekC (k : Int)) := by unfold SmallN dekC; simp
theorem dekL_small (k : Nat) (_h : k < 2) : SmallN (dekL (k : Int)) := by unfold SmallN dekL; simp
end Go.Proofs.Ytjendjbbhohjcaa
