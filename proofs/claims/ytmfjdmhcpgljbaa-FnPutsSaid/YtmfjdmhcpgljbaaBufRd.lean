/- BufRead: the program goes through what waits by an iterator, from its end; the model by a loop. -/
import Derived.Test.YtmfjdmhcpgljbaaBufFl
import Derived.RangeFuncNested
import Derived.RangeFuncBound
import Derived.RangeFuncCalls
import Derived.RangeFuncLeaves
import Derived.RangeFuncBox
import Derived.Shelf.Abstract
import Derived.Shelf.RegionOpen
import Derived.OwnWalkIn
import Derived.TacticsInMore
import Derived.LoopNIn
import Derived.LoopIn
namespace Go.Proofs.Ytmfjdmhcpgljbaa
open Go.RowKit Go.Shelf

/-- What one reads of x, k Waits being left to look at, from the end. -/
def readTo (zs ms : List Int) (x : Int) : Nat → Int
  | 0 => if cellB x ms.length then geti ms x.toNat else 0
  | k + 1 => if geti zs (k * 2) = x then geti zs (k * 2 + 1) else readTo zs ms x k

/-- The Wait that comes behind j others. -/
def wpair (zs : List Int) (n j : Nat) : Int × Int := (geti zs ((n - 1 - j) * 2), geti zs ((n - 1 - j) * 2 + 1))
/-- What has come behind k rounds. -/
def cameTo {α : Type} (f : Nat → α) (k : Nat) : List α := (List.range k).map f
theorem cameTo_succ {α : Type} (f : Nat → α) (k : Nat) : cameTo f (k + 1) = cameTo f k ++ [f k] := by simp [cameTo, List.range_succ]
theorem cameTo_length {α : Type} (f : Nat → α) (k : Nat) : (cameTo f k).length = k := by simp [cameTo]
theorem readTo_skip (zs ms : List Int) (x : Int) (n k : Nat) (hk : k ≤ n) (h : ∀ y ∈ cameTo (wpair zs n) k, y.1 ≠ x) : readTo zs ms x n = readTo zs ms x (n - k) := by
  induction k with
  | zero => rfl
  | succ k ih =>
    rw [ih (by omega) (fun y hy => h y (by rw [cameTo_succ]; simp [hy]))]
    have h1 := h (wpair zs n k) (by rw [cameTo_succ]; simp)
    obtain ⟨j, hj⟩ : ∃ j, n - k = j + 1 := ⟨n - k - 1, by omega⟩
    have e : n - 1 - k = j := by omega
    rw [hj, show n - (k + 1) = j by omega]
    unfold wpair at h1
    rw [e] at h1
    rw [readTo, if_neg h1]
theorem readTo_hit (zs ms : List Int) (x : Int) (n k : Nat) (hk : k + 1 ≤ n) (h : ∀ y ∈ cameTo (wpair zs n) k, y.1 ≠ x) (hx : (wpair zs n k).1 = x) : readTo zs ms x n = (wpair zs n k).2 := by
  rw [readTo_skip zs ms x n k (by omega) h]
  obtain ⟨j, hj⟩ : ∃ j, n - k = j + 1 := ⟨n - k - 1, by omega⟩
  have e : n - 1 - k = j := by omega
  rw [hj]
  unfold wpair at hx ⊢
  rw [e] at hx ⊢
  rw [readTo, if_pos hx]

set_option maxHeartbeats 800000 in
theorem lastFirst_any (A : Option Addr) (n c : Nat) (w : World) :
    Calls Try.prog 84 #[.agg #[.slice A n c]] w fun e w' => e = .returned (.func (.func 139) #[] #[.pointer (some ⟨w.heap.size, 0, none⟩)]) ∧ w' = w.alloc (.cells #[.slice A n c] 54) := by
  go_enter Try.func84, Try.ntmps84
  go_wp2_with fail
  go_ret
  exact ⟨rfl, rfl⟩

section
attribute [local go_sem] Oper.semAt_some

set_option maxRecDepth 100000 in
set_option maxHeartbeats 2000000 in
theorem lastFirst1_in (F : Fence) (m : Nat) (h6 : F.fn 139) (hro : F.round = none) (hm : 1 ≤ m) (l Bs n₀ : Nat) (A : Option Addr) (n c : Nat) (zs : List Int) (hn : zs.length = n * 2) (hn2 : n ≤ 1048576) (J Jx : List (Int × Int) → World → Prop)
    (hY : ∀ pre x W, J pre W → pre.length < n → YieldAt F (m - 1) Try.prog l #[.agg #[.int .i64 x.1, .int .i64 x.2]] W fun e W' =>
      (e = .returned (.bool true) ∧ J (pre ++ [x]) W' ∧ Below n₀ W W') ∨ (e = .returned (.bool false) ∧ Jx (pre ++ [x]) W'))
    (W : World) (hBs0 : Bs < n₀) (hBs : W.cell? ⟨Bs, 0, none⟩ = some (.slice A n c)) (hS : IntsAt W (Old n₀) A zs) (h0 : J [] W) :
    CallsIn F m Try.prog 139 #[.func (.yield l) #[] #[], .pointer (some ⟨Bs, 0, none⟩)] W fun e W' => (∃ v, e = .returned v) ∧
      ((∃ ys, ys = cameTo (wpair zs n) n ∧ J ys W') ∨ (∃ pre, (∃ k, k ≤ n ∧ pre = cameTo (wpair zs n) k) ∧ Jx pre W')) := by
  refine callsIn_of_wp Try.func139 rfl h6 ?_ hro
  simp only [Try.ntmps139, List.size_toArray, List.length_cons, List.length_nil, Nat.reduceAdd, Nat.reduceSub, Array.replicate_succ, Array.replicate_zero, List.push_toArray, List.append_toArray, List.nil_append, List.cons_append]
  gi_wp2
  gi_loopw [3] (fun i wr => ∃ r : Nat, r ≤ n ∧ i = .int .i64 ((r : Int) - 1) ∧ J (cameTo (wpair zs n) (n - r)) wr ∧ Below n₀ W wr) (fun i _ => (intOf i + 1).toNat)
  case atStart => exact ⟨n, Nat.le_refl _, rfl, by rw [Nat.sub_self]; exact h0, Below.refl _ _⟩
  case round =>
    obtain ⟨r, hr, rfl, hJs, hnx⟩ := hrel
    have hbs := (hnx.cell (p := ⟨Bs, 0, none⟩) hBs0).trans hBs
    rcases r with _ | r
    · gi_wp2
      go_end0
      exact ⟨⟨_, rfl⟩, .inl ⟨_, by simp, hJs⟩⟩
    · obtain ⟨b, off, rfl, hbB, c0, c1⟩ := (hS.below hnx (fun _ h => h)).two hn (show r < n by omega)
      obtain ⟨fn, tmps, assign, body, hy, hR⟩ := hY _ (wpair zs n (n - (r + 1))) wr hJs (by rw [cameTo_length]; omega)
      have e1 : ((r + 1 : Nat) : Int) - 1 = r := by omega
      have e2 : n - 1 - (n - (r + 1)) = r := by omega
      simp only [wpair, e2] at hy
      rw [e1]
      have hri : (r : Int) < (n : Int) := by omega
      replace e2 := hide e2
      clear e1
      gi_wp2
      refine hR.mono ?_
      rintro e W3 (⟨rfl, hJ3, hk3⟩ | ⟨rfl, hJx3⟩)
      · gi_wp2
        go_roundw
        case rel =>
          refine ⟨r, by omega, rfl, ?_, hnx.trans hk3⟩
          rw [show n - r = n - (r + 1) + 1 by omega, cameTo_succ]
          exact hJ3
        case measure => simp [intOf]
      · gi_wp2
        refine bodyPost_ret (results_none rfl _ _ _) rfl ?_
        exact ⟨⟨_, rfl⟩, .inr ⟨_, ⟨n - (r + 1) + 1, by omega, (cameTo_succ _ _).symm⟩, hJx3⟩⟩

theorem lastFirst_stops (F : Fence) (m : Nat) (h6 : F.fn 139) (hro : F.round = none) (hm : 1 ≤ m) (Bs n₀ : Nat) (A : Option Addr) (n c : Nat) (zs : List Int) (hn : zs.length = n * 2) (hn2 : n ≤ 1048576) (w : World) (hBs0 : Bs < n₀) (hn₀ : n₀ ≤ w.heap.size)
    (hBs : w.cell? ⟨Bs, 0, none⟩ = some (.slice A n c)) (hS : IntsAt w (Old n₀) A zs) :
    SeqStopsK F m Try.prog 139 #[.pointer (some ⟨Bs, 0, none⟩)] (fun x : Int × Int => #[Value.agg #[.int .i64 x.1, .int .i64 x.2]]) (Below n₀) (fun ys => ys = cameTo (wpair zs n) n)
      (fun pre => ∃ k, k ≤ n ∧ pre = cameTo (wpair zs n) k) n w := fun l J Jx W hW _ _ hY h0 =>
  lastFirst1_in F m h6 hro hm l Bs n₀ A n c zs hn hn2 J Jx hY W hBs0 ((hW.cell (p := ⟨Bs, 0, none⟩) (Nat.lt_of_lt_of_le hBs0 hn₀)).trans hBs) (hS.below (hW.mono hn₀) (fun _ h => h)) h0

theorem blk_own {A B : World} {g : Nat} {t : TypeId} {cs : Array Value} {row : Option Nat} (h : Blk A g t cs) (hg : A.grownBy B row) (hr : ∀ r, row = some r → ∃ o : Obj, A.heap[r]? = some o ∧ o.isCells = false) : Blk B g t cs :=
  (hg.block g h.lt (fun e => by
    obtain ⟨o, ho, hc⟩ := hr g e.symm
    have h2 : A.heap[g]? = some (.cells cs t (0, 0)) := h
    rw [h2] at ho
    cases ho
    cases hc)).trans h

/-- What the loop keeps: the boxes. -/
structure RdAt (w : World) (A : Option Addr) (n c : Nat) (x v : Int) (W : World) : Prop where
  P : Blk W w.heap.size 54 #[.slice A n c]
  X : Blk W (w.heap.size + 1) 3 #[.int .i64 x]
  R : Blk W (w.heap.size + 1 + 1) 3 #[.int .i64 v]
theorem RdAt.own {w A' B : World} {A : Option Addr} {n c : Nat} {x v : Int} {row : Option Nat} (h : RdAt w A n c x v A') (hg : A'.grownBy B row) (hr : ∀ r, row = some r → ∃ o : Obj, A'.heap[r]? = some o ∧ o.isCells = false) : RdAt w A n c x v B :=
  ⟨blk_own h.P hg hr, blk_own h.X hg hr, blk_own h.R hg hr⟩
theorem RdAt.alloc {w W : World} {A : Option Addr} {n c : Nat} {x v : Int} (h : RdAt w A n c x v W) (o : Obj) : RdAt w A n c x v (W.alloc o) := ⟨h.P.alloc o, h.X.alloc o, h.R.alloc o⟩

/-- None of these has x; the last of these has x, and its value is v. -/
def NoHit (x : Int) (pre : List (Int × Int)) : Prop := ∀ y ∈ pre, y.1 ≠ x
def HitAt (x : Int) (pre : List (Int × Int)) (v : Int) : Prop := ∃ pre' y, pre = pre' ++ [y] ∧ NoHit x pre' ∧ y.1 = x ∧ v = y.2
def RdStop (w : World) (A : Option Addr) (n c : Nat) (x : Int) (pre : List (Int × Int)) (W : World) : Prop := ∃ v, HitAt x pre v ∧ RdAt w A n c x v W
theorem NoHit.snoc {x y1 y2 : Int} {pre : List (Int × Int)} (h : NoHit x pre) (hy : ¬ y1 = x) : NoHit x (pre ++ [(y1, y2)]) := fun z hz => by
  rcases List.mem_append.1 hz with h1 | h1
  · exact h z h1
  · simp at h1
    subst h1
    exact hy
theorem HitAt.read {zs ms : List Int} {x v : Int} {n k : Nat} (h : HitAt x (cameTo (wpair zs n) k) v) (hk : k ≤ n) : readTo zs ms x n = v := by
  obtain ⟨pre', y, he, hne, hy, rfl⟩ := h
  rcases k with _ | k
  · simp [cameTo] at he
  · rw [cameTo_succ] at he
    obtain ⟨e1, e2⟩ := List.append_inj' he rfl
    simp at e2
    subst e1 e2
    exact readTo_hit zs ms x n k hk hne hy

set_option maxRecDepth 100000 in
set_option maxHeartbeats 4000000 in
theorem bufRead_in (f : Nat) (hf : 6 ≤ f) (A D : Option Addr) (zs ms : List Int) (n c m d : Nat) (x : Int) (w : World) (hn : zs.length = n * 2) (hn2 : n ≤ 1048576) (hm : ms.length = m) (hm2 : m ≤ 1048576) (hS : IntsAt w (Old w.heap.size) A zs) (hM : IntsAt w (Old w.heap.size) D ms) :
    CallsIn Fence.wide f Try.prog 24 #[.agg #[.slice A n c], .slice D m d, .int .i64 x] w fun e w' => e = .returned (.int .i64 (readTo zs ms x n)) ∧ Below w.heap.size w w' := by
  have h1 : 1 ≤ f := by omega
  have kl := fun w => (lastFirst_any A n c w)
  replace kl := hide kl
  refine callsIn_of_wp_marks Try.func24 rfl trivial ?_ rfl
  simp only [Try.ntmps24, List.size_toArray, List.length_cons, List.length_nil, Nat.reduceAdd, Nat.reduceSub, Array.replicate_succ, Array.replicate_zero, List.push_toArray, List.append_toArray, List.nil_append, List.cons_append]
  gi_wp2_with (refine ⟨trivial, ?_⟩; gi_at_call 84; refine (callsIn_wide.2 (kl.out _)).mono ?_; rintro e w' ⟨rfl, rfl⟩)
  have hb0 := ((below2 w (Obj.cells #[Value.slice A n c] 54) (Obj.cells #[Value.int .i64 x] 3)).alloc (by simp; omega) (Obj.cells #[Value.int .i64 0] 3)).alloc (by simp; omega) (Obj.cells #[Value.slice A n c] 54)
  have r1 := Blk.new (w.alloc (Obj.cells #[Value.slice A n c] 54)) 3 #[Value.int .i64 x]
  have r2 := Blk.new ((w.alloc (Obj.cells #[Value.slice A n c] 54)).alloc (Obj.cells #[Value.int .i64 x] 3)) 3 #[Value.int .i64 0]
  have r3 := Blk.new (((w.alloc (Obj.cells #[Value.slice A n c] 54)).alloc (Obj.cells #[Value.int .i64 x] 3)).alloc (Obj.cells #[Value.int .i64 0] 3)) 54 #[Value.slice A n c]
  simp only [World.size_alloc] at r1 r2 r3
  have hR0 : RdAt w A n c x 0 ((((w.alloc (Obj.cells #[Value.slice A n c] 54)).alloc (Obj.cells #[Value.int .i64 x] 3)).alloc (Obj.cells #[Value.int .i64 0] 3)).alloc (Obj.cells #[Value.slice A n c] 54)) :=
    ⟨(((Blk.new w _ _).alloc _).alloc _).alloc _, (r1.alloc _).alloc _, r2.alloc _⟩
  have hsz : w.heap.size + 4 ≤ ((((w.alloc (Obj.cells #[Value.slice A n c] 54)).alloc (Obj.cells #[Value.int .i64 x] 3)).alloc (Obj.cells #[Value.int .i64 0] 3)).alloc (Obj.cells #[Value.slice A n c] 54)).heap.size := by simp
  have hS0 := hS.below hb0 (fun _ h => h)
  obtain ⟨W0, hW0⟩ : ∃ W0, (((w.alloc (Obj.cells #[Value.slice A n c] 54)).alloc (Obj.cells #[Value.int .i64 x] 3)).alloc (Obj.cells #[Value.int .i64 0] 3)).alloc (Obj.cells #[Value.slice A n c] 54) = W0 := ⟨_, rfl⟩
  rw [hW0] at hR0 hb0 hsz r3 hS0 ⊢
  clear hW0 r1 r2
  have hown : ∀ v, OwnFrom W0.heap.size (fun (_ : Unit) W => RdAt w A n c x v W) := fun v _ X Y row hs hg hr => hs.own hg (fun r e => (hr r e).2)
  refine wpIn_rangeFunc_ownH rfl h1 (gf := 139) (lb := #[.pointer (some ⟨w.heap.size + 1 + 1 + 1, 0, none⟩)]) rfl trivial (enters_of Try.func139 (by kernel_rfl) rfl)
    (lastFirst_stops Fence.wide (f - 1) trivial rfl (by omega) (w.heap.size + 1 + 1 + 1) W0.heap.size A n c zs hn hn2 W0 (by omega) (Nat.le_refl _) (r3.cell 0) (hS0.more (fun b h => Nat.lt_of_lt_of_le h hb0.size))) belowK_t (belowK_b (Nat.le_refl _)) (Below.refl _ _) (fun _ => rfl)
    (fun pre W => (NoHit x pre ∧ RdAt w A n c x 0 W) ∧ Below W0.heap.size W0 W)
    (fun c' pre W => (c' = .ret ∧ RdStop w A n c x pre W) ∧ Below w.heap.size w W)
    (OwnFrom.and (fun s X Y row hs hg hr => ⟨hs.1, hown 0 () X Y row hs.2 hg hr⟩) (ownFrom_below (Nat.le_refl _) (Nat.le_refl _)))
    (fun c' => OwnFrom.and (fun s X Y row hs hg hr => by obtain ⟨hc, v, h2, h5⟩ := hs; exact ⟨hc, v, h2, hown v () X Y row h5 hg hr⟩) (ownFrom_below (Nat.le_refl _) (by omega)))
    ⟨⟨fun y hy => by simp at hy, hR0⟩, Below.refl _ _⟩
    (fun y a' W => ∃ Bx, w.heap.size + 1 + 1 < Bx ∧ Blk W Bx 62 #[.int .i64 y.1, .int .i64 y.2] ∧ a' = { tmps := #[.agg #[.slice A n c], .slice D m d, .int .i64 x, .pointer (some ⟨w.heap.size, 0, none⟩), undef, .pointer (some ⟨w.heap.size + 1, 0, none⟩), .pointer (some ⟨w.heap.size + 1 + 1, 0, none⟩), .pointer (some ⟨Bx, 0, none⟩), .agg #[.slice A n c], .func (.func 139) #[] #[.pointer (some ⟨w.heap.size + 1 + 1 + 1, 0, none⟩)], .agg #[.int .i64 y.1, .int .i64 y.2], undef, undef, undef, undef, undef, undef, undef, undef, undef, undef, undef, undef, undef, undef, undef], defers := [] })
    (fun y a' _ X Y row hs hg hr => by obtain ⟨Bx, h1, h2, h3⟩ := hs; exact ⟨Bx, h1, blk_own h2 hg (fun r e => (hr r e).2), h3⟩)
    ?assign ?body ?done ?stop
  case assign =>
    rintro l pre ⟨y1, y2⟩ W K ⟨⟨hp, hR1⟩, hB1⟩ hK
    gi_wp2
    exact hK _ _ ((KeepsOthers.alloc _ _).from _) ((Below.refl _ W).alloc hB1.size _) ⟨⟨hp, hR1.alloc _⟩, hB1.alloc hB1.size _⟩ ⟨W.heap.size, hR1.R.lt, Blk.new W _ _, rfl⟩
  case body =>
    rintro l pre ⟨y1, y2⟩ a' W hl ⟨r, hr⟩ ⟨⟨hp, hR1⟩, hB1⟩ ⟨Bx, hBx, hX, rfl⟩ hlt
    have x0 := hX.cell 0
    have x1 := hX.cell 1
    have x2 := hR1.X.cell 0
    have x3 := hR1.R.cell 0
    have z3 := hR1.R.frozen 0
    simp only [List.getElem?_toArray, List.getElem?_cons_zero, List.getElem?_cons_succ] at x0 x1 x2 x3
    have hX2 := hide hR1
    replace hp := hide hp
    replace hB1 := hide hB1
    by_cases he : y1 = x
    · subst he
      gi_wp2
      exact ⟨(KeepsOthers.setCell _ _ _).from _, ⟨rfl, y2, ⟨pre, (y1, y2), rfl, hp.out, rfl, rfl⟩, ⟨hX2.out.P.far (by show w.heap.size ≠ w.heap.size + 1 + 1; omega) _, hX2.out.X.far (by show w.heap.size + 1 ≠ w.heap.size + 1 + 1; omega) _, hX2.out.R.set_ 0 _⟩⟩, (hb0.trans (hB1.out.mono hb0.size)).setCell (p := ⟨w.heap.size + 1 + 1, 0, none⟩) (by simp; omega) _⟩
    · have he' : (y1 == x) = false := by rw [beq_eq_false_iff_ne]; exact he
      gi_wp2
      exact ⟨KeepsFrom.refl _ _, Below.refl _ _, ⟨hp.out.snoc he, hX2.out⟩, hB1.out⟩
  case done =>
    rintro Dd ys W hD rfl ⟨⟨hp, hR1⟩, hB1⟩ hK
    have hsk := readTo_skip zs ms x n n (Nat.le_refl _) hp
    rw [Nat.sub_self, readTo, hm] at hsk
    have x2 := hR1.X.cell 0
    have x3 := hR1.R.cell 0
    have z3 := hR1.R.frozen 0
    simp only [List.getElem?_toArray, List.getElem?_cons_zero] at x2 x3
    have hBw := hide (hb0.trans (hB1.mono hb0.size))
    have hMW := hide (hM.below hBw.out (fun _ h => h))
    have ki := fun w => isCell_any x m w
    replace hR1 := hide hR1
    replace hB1 := hide hB1
    replace hK := hide hK
    replace hsk := hide hsk
    replace hp := hide hp
    cases hc : cellB x m
    · rw [hc] at ki
      replace ki := hide ki
      have hsk2 := hsk.out
      rw [hc] at hsk2
      replace hsk := hide hsk2
      clear hc hsk2
      gi_wp2_with (refine ⟨trivial, ?_⟩; gi_at_call 85; refine (callsIn_wide.2 (ki.out _)).mono ?_; rintro e w' ⟨rfl, rfl⟩)
      have hK' := (KeepsOthers.setCell W ⟨w.heap.size + 1 + 1, 0, none⟩ (.int .i64 0)).same Dd _ hK.out rfl
      refine ⟨by simp, .inl ⟨_, _, rfl, run_takeDeferred hK', ?_⟩⟩
      have hc5 := cell_kept (World.cell?_setCell_same' W ⟨w.heap.size + 1 + 1, 0, none⟩ (.int .i64 0) (by rw [x3]; rfl)) (grownBy_putObj' _ Dd (.deferred none)) (fun r e => by cases e; exact ⟨_, hK', rfl⟩)
      refine ⟨.int .i64 0, ?_, by rw [hsk.out]; simp, (hBw.out.setCell (p := ⟨w.heap.size + 1 + 1, 0, none⟩) (by simp; omega) _).trans (belowK_b (w := w) (Nat.le_refl _) _ Dd _ _ (by have := hb0.size; omega) hK' rfl rfl)⟩
      simp [results, Try.f24, go_sem, hc5]
    · have hx : 0 ≤ x ∧ x < m := by simpa [cellB] using hc
      rw [hc] at ki
      replace ki := hide ki
      have hsk2 := hsk.out
      rw [hc] at hsk2
      have hx0 : 0 ≤ x := hx.1
      have hx1 : x < (m : Int) := hx.2
      have hxm : x.toNat < m := by omega
      obtain ⟨b, off, rfl, hbB, hcl⟩ := hMW.out.2 (by omega)
      have hcx := hcl x.toNat (by omega)
      replace hsk := hide hsk2
      clear hc hsk2 hx hcl
      gi_wp2_with (refine ⟨trivial, ?_⟩; gi_at_call 85; refine (callsIn_wide.2 (ki.out _)).mono ?_; rintro e w' ⟨rfl, rfl⟩)
      have hK' := (KeepsOthers.setCell W ⟨w.heap.size + 1 + 1, 0, none⟩ (.int .i64 (geti ms x.toNat))).same Dd _ hK.out rfl
      refine ⟨by simp, .inl ⟨_, _, rfl, run_takeDeferred hK', ?_⟩⟩
      have hc5 := cell_kept (World.cell?_setCell_same' W ⟨w.heap.size + 1 + 1, 0, none⟩ (.int .i64 (geti ms x.toNat)) (by rw [x3]; rfl)) (grownBy_putObj' _ Dd (.deferred none)) (fun r e => by cases e; exact ⟨_, hK', rfl⟩)
      refine ⟨.int .i64 (geti ms x.toNat), ?_, by rw [hsk.out]; simp, (hBw.out.setCell (p := ⟨w.heap.size + 1 + 1, 0, none⟩) (by simp; omega) _).trans (belowK_b (w := w) (Nat.le_refl _) _ Dd _ _ (by have := hb0.size; omega) hK' rfl rfl)⟩
      simp [results, Try.f24, go_sem, hc5]
  case stop =>
    rintro Dd c' pre W hD ⟨k, hk, rfl⟩ ⟨⟨rfl, v, hv, hR1⟩, hB1⟩ hK
    have hrd := hide (hv.read (ms := ms) hk)
    have x3 := hR1.R.cell 0
    simp only [List.getElem?_toArray, List.getElem?_cons_zero] at x3
    gi_wp2
    refine ⟨by simp, .inl ⟨_, _, rfl, run_takeDeferred hK, ?_⟩⟩
    have hc5 := cell_kept x3 (grownBy_putObj' _ Dd (.deferred none)) (fun r e => by cases e; exact ⟨_, hK, rfl⟩)
    refine ⟨.int .i64 v, ?_, by rw [hrd.out], hB1.trans (belowK_b (w := w) (Nat.le_refl _) W Dd _ _ (by have := hb0.size; omega) hK rfl rfl)⟩
    simp [results, Try.f24, go_sem, hc5]
end

theorem bufRead_any (A D : Option Addr) (zs ms : List Int) (n c m d : Nat) (x : Int) (w : World) (hn : zs.length = n * 2) (hn2 : n ≤ 1048576) (hm : ms.length = m) (hm2 : m ≤ 1048576) (hS : IntsAt w (Old w.heap.size) A zs) (hM : IntsAt w (Old w.heap.size) D ms) :
    Calls Try.prog 24 #[.agg #[.slice A n c], .slice D m d, .int .i64 x] w fun e w' => e = .returned (.int .i64 (readTo zs ms x n)) ∧ Below w.heap.size w w' :=
  callsIn_wide.1 (bufRead_in 6 (by omega) A D zs ms n c m d x w hn hn2 hm hm2 hS hM)

set_option maxRecDepth 100000 in
set_option maxHeartbeats 3200000 in
theorem sbufRead_any (A D : Option Addr) (zs ms : List Int) (n c m d : Nat) (x : Int) (w : World) (hn : zs.length = n * 2) (hn2 : n ≤ 1048576) (hm : ms.length = m) (hm2 : m ≤ 1048576) (hS : IntsAt w (Old w.heap.size) A zs) (hM : IntsAt w (Old w.heap.size) D ms) :
    Calls Try.prog 25 #[.agg #[.slice A n c], .slice D m d, .int .i64 x] w fun e w' => e = .returned (.int .i64 (readTo zs ms x n)) ∧ Below w.heap.size w w' := by
  have hb0 := below1 w (Obj.cells #[Value.slice A n c] 54)
  have hS0 := hide (hS.below hb0 (fun _ h => h))
  have hM0 := hide (hM.below hb0 (fun _ h => h))
  have hP := Blk.new w 54 #[Value.slice A n c]
  obtain ⟨w1, hw1⟩ : ∃ w1, w1 = w.alloc (Obj.cells #[Value.slice A n c] 54) := ⟨_, rfl⟩
  rw [← hw1] at hb0 hS0 hM0 hP
  have p0 := hP.cell 0
  simp only [List.getElem?_toArray, List.getElem?_cons_zero] at p0
  replace hw1 := hide hw1
  replace hn := hide hn
  replace hm := hide hm
  replace hb0 := hide hb0
  clear hS hM hP
  go_enter Try.func25, Try.ntmps25
  go_wp2_with fail
  rw [← hw1.out]
  clear hw1
  go_loop [7] (fun i => ∃ r : Nat, r ≤ n ∧ i = .int .i64 ((r : Int) - 1) ∧ Hid (readTo zs ms x n = readTo zs ms x r)) (fun i => (intOf i + 1).toNat)
  case atStart => exact ⟨n, Nat.le_refl _, rfl, hide rfl⟩
  case round =>
    obtain ⟨r, hr, rfl, he⟩ := hrel
    rcases r with _ | r
    · have ki := fun w => l3cell_any D m d x w
      have hrd := he.out
      rw [readTo, hm.out] at hrd
      cases hc : cellB x m
      · rw [hc] at ki hrd
        replace ki := hide ki
        replace hrd := hide hrd
        clear hc
        go_wp2_with fail
        refine (ki.out _).mono ?_
        rintro e w2 ⟨rfl, rfl⟩
        go_wp2_with fail
        go_ret
        exact ⟨by rw [hrd.out]; simp, hb0.out⟩
      · have hx : 0 ≤ x ∧ x < m := by simpa [cellB] using hc
        rw [hc] at ki hrd
        replace ki := hide ki
        have hx0 : 0 ≤ x := hx.1
        have hx1 : x < (m : Int) := hx.2
        have hxm : x.toNat < m := by omega
        obtain ⟨b, off, rfl, hbB, hcl⟩ := hM0.out.2 (by rw [hm.out]; omega)
        have hcx := hcl x.toNat (by rw [hm.out]; omega)
        replace hrd := hide hrd
        clear hc hx hcl
        go_wp2_with fail
        refine (ki.out _).mono ?_
        rintro e w2 ⟨rfl, rfl⟩
        go_wp2_with fail
        go_ret
        exact ⟨by rw [hrd.out]; simp, hb0.out⟩
    · obtain ⟨b, off, rfl, hbB, c0, c1⟩ := hS0.out.two hn.out (show r < n by omega)
      have e1 : ((r + 1 : Nat) : Int) - 1 = r := by omega
      rw [e1]
      have hri : (r : Int) < (n : Int) := by omega
      clear e1
      by_cases hx : geti zs (r * 2) = x
      · have hrd := he.out
        rw [readTo, if_pos hx] at hrd
        subst hx
        replace hrd := hide hrd
        go_wp2_with fail
        go_ret
        exact ⟨by rw [hrd.out]; rfl, hb0.out⟩
      · have hrd := he.out
        rw [readTo, if_neg hx] at hrd
        have hx' : (geti zs (r * 2) == x) = false := by rw [beq_eq_false_iff_ne]; exact hx
        replace hrd := hide hrd
        go_wp2_with fail
        go_round
        case rel => exact ⟨r, by omega, rfl, hrd⟩
        case measure => simp [intOf]
end Go.Proofs.Ytmfjdmhcpgljbaa
