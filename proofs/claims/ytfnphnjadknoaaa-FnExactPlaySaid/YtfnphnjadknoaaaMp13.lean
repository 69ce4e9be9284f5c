/- slices.Repeat of a row of one number. -/
import Derived.Test.YtfnphnjadknoaaaMp0
import Derived.Test.YtfnphnjadknoaaaMp1
import Derived.Test.YtfnphnjadknoaaaMp3
import Derived.Test.YtfnphnjadknoaaaMp12
import Derived.Laws.CopyOwn
import Derived.Deep.RegionLaw
import Derived.Deep.Cut
import Derived.Deep.RegionHeld3
namespace Go.Proofs.Ytfnphnjadknoaaa
open Go.RowKit

theorem sum_le (b : Nat) : ∀ (m : List Nat), (∀ x ∈ m, x ≤ b) → m.sum ≤ m.length * b := by
  intro m
  induction m with
  | nil => intro _; simp
  | cons a m ih =>
    intro hm
    have h1 := hm a (by simp)
    have h2 := ih (fun x hx => hm x (by simp [hx]))
    simp only [List.sum_cons, List.length_cons, Nat.succ_mul]
    omega
theorem tree_small {l : List JobD} (h : Tree l) : sizeJ l ≤ 1000 := by
  have hk : ∀ j, j < l.length → (getj l j).ks.length ≤ l.length := fun j hj => once_len _ _ (fun y hy => by have := h.mem hj hy; omega) (fun y => by
    by_cases hy : y ∈ (getj l j).ks
    · rw [h.once hj hy]; omega
    · rw [List.count_eq_zero.2 hy]; omega)
  have h30 := h.top
  have h4 := sum_le 30 (lensJ l) (fun x hx => by
    obtain ⟨j, hj, hjx⟩ := List.mem_iff_getElem.1 hx
    have hj2 : j < l.length := by simpa [lensJ] using hj
    have h5 := hk j hj2
    have h6 := lensJ_get l j
    rw [List.getD_eq_getElem?_getD, List.getElem?_eq_getElem hj, Option.getD_some, hjx] at h6
    omega)
  rw [lensJ_len] at h4
  unfold sizeJ
  omega
theorem PInv.small {p : PoolD} (h : PInv p (-1)) : poolSize p ≤ 2000 := by
  have h1 := tree_small h.tree
  have h2 := h.tree.top
  have h3 := sum_le 30 (lensQ p.dq) (fun x hx => by
    unfold lensQ at hx
    rw [List.mem_map] at hx
    obtain ⟨r, hr, rfl⟩ := hx
    obtain ⟨k, hk, rfl⟩ := List.getElem_of_mem hr
    have h5 := h.row_len hk
    have h6 : getq p.dq k = p.dq[k] := by simp [getq, List.getD_eq_getElem?_getD, List.getElem?_eq_getElem hk]
    rw [h6] at h5
    omega)
  have h4 : (lensQ p.dq).length = p.dq.length := by simp [lensQ]
  rw [h4] at h3
  have h5 := h.wk.2
  have h6 := h.lran
  have h7 := h.ldn
  have h8 := h.llf
  have h9 := h.lsm
  have h10 := h.lvl
  unfold poolSize sizeQ
  omega
theorem pool0_small : poolSize pool0 ≤ 2000 := by decide
theorem oneP_small {p : PoolD} (hz : poolSize p ≤ 1048576) (W V : Int) : poolSize (oneP p W V).1 ≤ 2000 := by
  have hk := fun k => sizeJ_kids (l := p.js) k
  have hk2 : ∀ k, (getj p.js k).ks.length ≤ 1048576 := fun k => by have := hk k; unfold poolSize at hz; omega
  cases h1 : poolB p
  · rw [oneP_no (.inl h1)]; exact pool0_small
  · cases h2 : mayP p W V
    · rw [oneP_no (.inr h2)]; exact pool0_small
    · rw [oneP_yes h1 h2]
      exact ((poolB_inv h1).pick W V hk2).1.small
theorem stealR_small {p : PoolD} (hz : poolSize p ≤ 1048576) (W V : Int) : poolSize (stealR p W V).1 ≤ 2000 := by
  unfold stealR
  split
  · exact pool0_small
  · exact oneP_small hz W V
theorem playR_small {p : PoolD} (hz : poolSize p ≤ 1048576) (zs : List Int) (n : Nat) : poolSize (playR p zs n).1 ≤ 2000 := by
  have hk := fun k => sizeJ_kids (l := p.js) k
  have hk2 : ∀ k, (getj p.js k).ks.length ≤ 1048576 := fun k => by have := hk k; unfold poolSize at hz; omega
  cases h1 : poolB p
  · rw [playR_no (.inl h1)]; exact pool0_small
  · by_cases h2 : n ≤ 2000
    · rw [playR_yes h1 h2]
      exact (playK_inv zs n (poolB_inv h1) hk2).1.small
    · rw [playR_no (.inr h2)]; exact pool0_small
end Go.Proofs.Ytfnphnjadknoaaa

namespace Go.Proofs.Ytfnphnjadknoaaa
open Go.RowKit

structure ArgP (n : Nat) (w0 : World) (a : PA) (p : PoolD) (w : World) : Prop where
  at_ : PoolAt w (Old n) a p
  box : Blk w n 67 (a.cells p)
  since : Below n w0 w
section
variable {n lo hi : Nat} {w0 w w' : World} {a : PA} {p : PoolD} {x : PV}
theorem ArgP.le (h : ArgP n w0 a p w) : n ≤ w.heap.size := Nat.le_of_lt h.box.lt
theorem ArgP.next (h : ArgP n w0 a p w) (hb : Below w.heap.size w w') : ArgP n w0 a p w' :=
  ⟨h.at_.below hb (fun _ hbn => Nat.lt_of_lt_of_le hbn h.le), h.box.below hb h.box.lt, h.since.trans (hb.mono h.le)⟩
theorem ArgP.inn (h : ArgP n w0 a p w) (hI : Inn lo hi w w') (hn : n < lo) : ArgP n w0 a p w' := by
  have hb : Below n w w' := ⟨hI.os, hI.tape, hI.output, hI.size, fun k hk => hI.block k (Nat.lt_of_lt_of_le hk h.le) (by omega)⟩
  exact ⟨h.at_.below hb (fun _ hbn => hbn), (hI.block n h.box.lt (by omega)).trans h.box, h.since.trans hb⟩
theorem ArgP.cells (h : ArgP n w0 a p w) : (w.cell? ⟨n, 0, none⟩ = some (.slice a.A0 p.js.length a.c0) ∧ w.cell? ⟨n, 1, none⟩ = some (.slice a.A1 p.dq.length a.c1) ∧ w.cell? ⟨n, 2, none⟩ = some (.slice a.A2 p.ran.length a.c2) ∧ w.cell? ⟨n, 3, none⟩ = some (.slice a.A3 p.dn.length a.c3) ∧ w.cell? ⟨n, 4, none⟩ = some (.slice a.A4 p.lf.length a.c4) ∧ w.cell? ⟨n, 5, none⟩ = some (.slice a.A5 p.sm.length a.c5) ∧ w.cell? ⟨n, 6, none⟩ = some (.slice a.A6 p.vl.length a.c6)) ∧ n < w.heap.size := box7 h.box
theorem ArgP.sub (h : ArgP n w0 a p w) : Old n = Old n ∧ ∀ b, Old n b → b < w.heap.size := ⟨rfl, fun _ hb => Nat.lt_of_lt_of_le hb h.le⟩
theorem toPool_i (hz : poolSize p ≤ 1048576) (h : ArgP n w0 a p w) :
    Calls Try.prog 45 #[.agg #[.slice a.A0 p.js.length a.c0, .slice a.A1 p.dq.length a.c1, .slice a.A2 p.ran.length a.c2, .slice a.A3 p.dn.length a.c3, .slice a.A4 p.lf.length a.c4, .slice a.A5 p.sm.length a.c5, .slice a.A6 p.vl.length a.c6]] w fun e w' => ∃ x, e = .returned (.agg #[x.L, x.D, x.R, x.N, x.F, x.M, x.V]) ∧ PoolI w' w.heap.size w'.heap.size x p ∧ Below w.heap.size w w' := by
  refine (toPool_any a p (Old n) w hz h.sub.2 h.at_).mono ?_
  rintro e w' ⟨x, f, rfl, hP, hb, -⟩
  exact ⟨x, rfl, .of hP, hb⟩
theorem markPool_z (hz : poolSize p ≤ 1048576) (hhi : hi ≤ w.heap.size) (h : PoolI w lo hi x p) :
    Calls Try.prog 42 #[.agg #[x.L, x.D, x.R, x.N, x.F, x.M, x.V], .int .i64 1] w fun e w' => e = .returned (.int .i64 ((1 + poolMarks p : Nat) : Int)) ∧ PoolI w' lo hi x (markP 1 p) ∧ Inn lo hi w w' := markPool_i 1 hz (by omega) hhi h
theorem heldPool_z (hz : poolSize p ≤ 1048576) (h : PoolI w lo hi x (markP 1 p)) :
    Calls Try.prog 43 #[.agg #[x.L, x.D, x.R, x.N, x.F, x.M, x.V], .int .i64 1] w fun e w' => e = .returned (.int .i64 ((1 + poolMarks p : Nat) : Int)) ∧ Below w.heap.size w w' := heldPool_i 1 hz (by omega) h
end
end Go.Proofs.Ytfnphnjadknoaaa

namespace Go.Proofs.Ytfnphnjadknoaaa
open Go.RowKit
set_option maxHeartbeats 3200000 in
theorem mul64_small (n : Nat) (w : World) (hn : n ≤ 30) : Calls Try.prog 131 #[.int .u64 1, .int .u64 n] w fun e w' => e = .returned (.tuple #[.int .u64 0, .int .u64 n]) ∧ w = w' := by
  go_enter Try.func131, Try.ntmps131
  go_wp2_with fail
  have hc : n = 0 ∨ n = 1 ∨ n = 2 ∨ n = 3 ∨ n = 4 ∨ n = 5 ∨ n = 6 ∨ n = 7 ∨ n = 8 ∨ n = 9 ∨ n = 10 ∨ n = 11 ∨ n = 12 ∨ n = 13 ∨ n = 14 ∨ n = 15 ∨ n = 16 ∨ n = 17 ∨ n = 18 ∨ n = 19 ∨ n = 20 ∨ n = 21 ∨ n = 22 ∨ n = 23 ∨ n = 24 ∨ n = 25 ∨ n = 26 ∨ n = 27 ∨ n = 28 ∨ n = 29 ∨ n = 30 := by omega
  rcases hc with rfl | rfl | rfl | rfl | rfl | rfl | rfl | rfl | rfl | rfl | rfl | rfl | rfl | rfl | rfl | rfl | rfl | rfl | rfl | rfl | rfl | rfl | rfl | rfl | rfl | rfl | rfl | rfl | rfl | rfl | rfl <;> exact bodyPost_ret (v := .tuple #[.int .u64 0, .int .u64 _]) (by simp [results, Try.results131, go_sem]; decide +kernel) rfl ⟨rfl, rfl⟩
set_option maxHeartbeats 3200000 in
theorem mul_small (n : Nat) (w : World) (hn : n ≤ 30) : Calls Try.prog 128 #[.int .u64 1, .int .u64 n] w fun e w' => e = .returned (.tuple #[.int .u64 0, .int .u64 n]) ∧ w = w' := by
  go_enter Try.func128, Try.ntmps128
  go_wp2_with (go_at_call 131; refine (mul64_small n _ hn).mono ?_; rintro e w' ⟨rfl, rfl⟩)
  exact bodyPost_ret (v := .tuple #[.int .u64 0, .int .u64 n]) (by simp [results, Try.results128, go_sem]; done) rfl ⟨rfl, rfl⟩
end Go.Proofs.Ytfnphnjadknoaaa

namespace Go.Proofs.Ytfnphnjadknoaaa
open Go.RowKit
theorem wp_copy_splice {P : Program} {o : Oper} {a : Act} {w : World} {K : Act → World → Prop} {Q : Exit → Act → World → Prop} (hgd : o.guard = none) (d s : Operand) (dT sT : TypeId)
    (ho : o.op = .call { callee := .builtin .copy, args := #[d, s], argTypes := #[dT, sT] }) (elem : TypeId) (hu : P.underlying dT = some (.slice elem)) (hsz : (P.info? elem).map (·.size) = some 1)
    (dp sp : Option Addr) (dLen dCap sLen sCap : Nat) (hd : a.eval d = .slice dp dLen dCap) (hs : a.eval s = .slice sp sLen sCap)
    (g off : Nat) (cur : List Value) (t : TypeId) (hg : w.heap[g]? = some (.cells cur.toArray t (0, 0))) (cs : List Value) (hn : cs.length = Nat.min sLen dLen)
    (hpos : 0 < cs.length → dp = some ⟨g, off, none⟩ ∧ ∃ ad, sp = some ad ∧ ∀ j v, cs[j]? = some v → w.cell? (ad.add j) = some v)
    (hfit : off + cs.length ≤ cur.length) (h1 : ∀ v ∈ cs, v.oneCell' = true) (B : Nat) (w0 : World) (hb : Below B w0 w) (hBg : B ≤ g)
    (h : ∀ w', Hid (w'.heap[g]? = some (.cells (splice cur off cs).toArray t (0, 0))) → Below B w0 w' → K (a.put o.dst (goInt cs.length)) w') : o.wp P a w K Q := by
  have := step_copy_splice (P := P) (ops := #[]) (a := a) (K := K) (Q := Q) (E := True) hgd d s dT sT ho elem hu hsz dp sp dLen dCap sLen sCap hd hs g off cur t hg cs hn hpos hfit h1 B w0 hb hBg h
  rwa [if_pos (by simp [Region.wanted, hgd])] at this

def repL (z : Int) (m n : Nat) : List Value := List.replicate m (.int .i64 z) ++ List.replicate (n - m) (.int .i64 0)
theorem repL_len {z : Int} {m n : Nat} (h : m ≤ n) : (repL z m n).length = n := by simp [repL]; omega
theorem repL_splice {z : Int} {m n k : Nat} (h : m + k ≤ n) : splice (repL z m n) m (List.replicate k (.int .i64 z)) = repL z (m + k) n := by
  unfold splice repL
  rw [List.take_left' (by simp), List.length_replicate, List.drop_append, List.drop_of_length_le (by simp), List.length_replicate, List.nil_append, List.drop_replicate, ← List.append_assoc, List.replicate_append_replicate]
  congr 2
  omega
theorem repL_zero (z : Int) (n : Nat) : (zrow #[.int .i64 0] n) = (repL z 0 n).toArray := by
  unfold repL zrow madeCells
  apply Array.ext
  · simp
  · intro i h1 h2
    simp [Nat.mod_one]
theorem repL_get {z : Int} {m n k : Nat} (h : k < m) : (repL z m n)[k]? = some (.int .i64 z) := by
  unfold repL
  rw [List.getElem?_append_left (by simpa using h), List.getElem?_replicate, if_pos h]

set_option maxRecDepth 100000 in
set_option maxHeartbeats 6400000 in
theorem repeat_any (b off c n : Nat) (z : Int) (w : World) (h1 : 1 ≤ n) (hn : n ≤ 30) (hb : b < w.heap.size) (hc : w.cell? ⟨b, off, none⟩ = some (.int .i64 z)) :
    Calls Try.prog 114 #[.slice (some ⟨b, off, none⟩) 1 c, .int .i64 n] w fun e w' => e = .returned (.slice (some ⟨w.heap.size, 0, none⟩) n n) ∧ FnAt w' w.heap.size n (fun _ => z) ∧ Below w.heap.size w w' := by
  have hmk := make_ints n (by omega)
  have hX0 := Blk.new w 3 (zrow #[.int .i64 0] n)
  have hB0 := below1 w (Obj.cells (zrow #[.int .i64 0] n) 3)
  have hmk2 : (Instr.makeSlice 26 (.int .i64 (n : Int)) (.int .i64 (n : Int))).run Try.prog w = .ok (.slice (some ⟨w.heap.size, 0, none⟩) n n) (w.alloc (.cells (zrow #[.int .i64 0] n) 3)) := hmk w
  clear hmk
  obtain ⟨w0, hw0⟩ : ∃ w0, w0 = w.alloc (.cells (zrow #[.int .i64 0] n) 3) := ⟨_, rfl⟩
  rw [← hw0] at hX0 hB0 hmk2
  rw [repL_zero z n] at hX0
  have hc0 : w0.cell? ⟨b, off, none⟩ = some (.int .i64 z) := (hB0.cell (p := ⟨b, off, none⟩) hb).trans hc
  have hsz : w.heap.size < w0.heap.size := by rw [hw0]; simp
  replace hX0 := hide hX0
  replace hB0 := hide hB0
  clear hw0
  have hlo : (n : Int) ≤ 9223372036854775807 := by omega
  go_enter Try.func114, Try.ntmps114
  have hx0 : ∀ j v, [Value.int .i64 z][j]? = some v → w0.cell? ((⟨b, off, none⟩ : Addr).add j) = some v := fun j v h => by
    match j, h with
    | 0, h =>
      have : v = .int .i64 z := by simpa using h.symm
      rw [this]
      exact hc0
  go_upto_region 7 with (go_at_call 128; refine (mul_small n _ hn).mono ?_; rintro e w' ⟨rfl, rfl⟩)
  go_upto_region 8 with (refine wpList_copy_splice rfl (.tmp 31) (.tmp 32) 26 26 rfl 3 Try.underlying26 (by kernel_rfl) (some ⟨w.heap.size, 0, none⟩) (some ⟨b, off, none⟩) n n 1 c rfl rfl w.heap.size 0 (repL z 0 n) 3 hX0.out [.int .i64 z] (by simp [Nat.min_def]; omega) (fun _ => ⟨rfl, _, rfl, hx0⟩) (by rw [repL_len (by omega)]; simp; omega) (by simp [Value.oneCell']) w.heap.size w hB0.out (Nat.le_refl _) ?_)
  intro w1 hX1 hB1
  clear hc0 hsz hX0 hB0 hx0 hmk2
  replace hX1 := hide (show Blk w1 w.heap.size 3 (repL z 1 n).toArray from by
    have := repL_splice (z := z) (m := 0) (n := n) (k := 1) (by omega)
    rw [Nat.zero_add] at this
    rw [← this]; exact hX1.out)
  replace hB1 := hide hB1
  go_wp2_with fail
  go_loopw [8] (fun i wr => ∃ m : Nat, 1 ≤ m ∧ m ≤ n ∧ i = .int .i64 m ∧ Hid (Blk wr w.heap.size 3 (repL z m n).toArray) ∧ Hid (Below w.heap.size w wr)) (fun i _ => n - (intOf i).toNat)
  case atStart => exact ⟨1, by omega, by omega, rfl, hX1, hB1⟩
  case round =>
    clear hX1 hB1
    obtain ⟨m, h1m, hm, rfl, X, B⟩ := hrel
    by_cases hlt : m < n
    · have hlt' : (m : Int) < n := by omega
      obtain ⟨k, hk⟩ : ∃ k, k = Nat.min m (n - m) := ⟨_, rfl⟩
      have hk1 : 1 ≤ k ∧ m + k ≤ n := by rw [hk]; simp only [Nat.min_def]; split <;> omega
      have hmn : (m : Int) ≤ n := by omega
      have h0m : (0 : Int) ≤ m := by omega
      have hsrc : ∀ j v, (List.replicate k (Value.int .i64 z))[j]? = some v → wr.drew.cell? ((⟨w.heap.size, 0, none⟩ : Addr).add j) = some v := fun j v h => by
        have hj : j < k := by
          have := (List.getElem?_eq_some_iff.1 h).1
          simpa using this
        have : v = .int .i64 z := by
          rw [List.getElem?_replicate, if_pos hj] at h
          simpa using h.symm
        rw [this]
        have hadd : (⟨w.heap.size, 0, none⟩ : Addr).add j = ⟨w.heap.size, j, none⟩ := by unfold Addr.add; split <;> simp_all
        rw [hadd]
        refine (X.out.cell j).trans ?_
        have hjm : j < m := by
          have : k ≤ m := by rw [hk]; exact Nat.min_le_left _ _
          omega
        simpa using repL_get (n := n) hjm
      have XD : Hid (wr.drew.heap[w.heap.size]? = some (.cells (repL z m n).toArray 3 (0, 0))) := X.out
      have BD := hide B.out.drew
      have hkl : (List.replicate k (Value.int .i64 z)).length = Nat.min m (n - m) := by rw [List.length_replicate]; exact hk
      have hkw : IntKind.i64.wrap ((m : Int) + (k : Int)) = ((m + k : Nat) : Int) := by rw [IntKind.wrap_i64]; omega
      replace hsrc := hide hsrc
      replace hkl := hide hkl
      replace hk := hide hk
      clear X B
      --BEGIN
      go_wp2_with fail
      refine wp_region_held_drew (S := (fun _ => True)) (by kernel_rfl) ?_ (fun hHeld => ?_)
      · exact trivial
      refine wpAnyH_take (i := 0) (oi := { dst := some 38, op := Op.move (.tmp 8), type := 3, pos := "slices.go:528", after := #[], guard := none }) (v := ?_) rfl (by kernel_rfl) (by kernel_rfl) (by kernel_rfl) (fun _ _ _ h => h) (Or.inl ⟨by rfl, ?_⟩) hHeld ?_
      rotate_left
      · (intro wq hSw; (try dsimp only at hSw); first | (go_simp; done) | (go_simp; with_reducible rfl))
      try simp only [Act.put, qa, qb, qc]
      refine wpAnyH_take (i := 1) (oi := { dst := some 39, op := Op.move (.tmp 7), type := 26, pos := "slices.go:528", after := #[], guard := none }) (v := ?_) rfl (by kernel_rfl) (by kernel_rfl) (by kernel_rfl) (fun _ _ _ h => h) (Or.inl ⟨by rfl, ?_⟩) hHeld ?_
      rotate_left
      · (intro wq hSw; (try dsimp only at hSw); first | (go_simp; done) | (go_simp; with_reducible rfl))
      try simp only [Act.put, qa, qb, qc]
      refine wpAnyH_take (i := 2) (oi := { dst := some 40, op := Op.move (.tmp 8), type := 3, pos := "slices.go:528", after := #[], guard := none }) (v := ?_) rfl (by kernel_rfl) (by kernel_rfl) (by kernel_rfl) (fun _ _ _ h => h) (Or.inl ⟨by rfl, ?_⟩) hHeld ?_
      rotate_left
      · (intro wq hSw; (try dsimp only at hSw); first | (go_simp; done) | (go_simp; with_reducible rfl))
      try simp only [Act.put, qa, qb, qc]
      refine wpAnyH_take (i := 3) (oi := { dst := some 41, op := Op.slice 26 (.tmp 39) (some (.tmp 40)) none none, type := 26, pos := "slices.go:528", after := #[⟨1, .data⟩, ⟨2, .data⟩], guard := none }) (v := ?_) rfl (by kernel_rfl) (by kernel_rfl) (by kernel_rfl) (fun _ _ _ h => h) (Or.inl ⟨by rfl, ?_⟩) hHeld ?_
      rotate_left
      · (intro wq hSw; (try dsimp only at hSw); first | (go_simp; done) | (go_simp; with_reducible rfl))
      try simp only [Act.put, qa, qb, qc]
      refine wpAnyH_take (i := 4) (oi := { dst := some 42, op := Op.move (.tmp 7), type := 26, pos := "slices.go:528", after := #[], guard := none }) (v := ?_) rfl (by kernel_rfl) (by kernel_rfl) (by kernel_rfl) (fun _ _ _ h => h) (Or.inl ⟨by rfl, ?_⟩) hHeld ?_
      rotate_left
      · (intro wq hSw; (try dsimp only at hSw); first | (go_simp; done) | (go_simp; with_reducible rfl))
      try simp only [Act.put, qa, qb, qc]
      refine wpAnyH_take (i := 5) (oi := { dst := some 43, op := Op.move (.tmp 8), type := 3, pos := "slices.go:528", after := #[], guard := none }) (v := ?_) rfl (by kernel_rfl) (by kernel_rfl) (by kernel_rfl) (fun _ _ _ h => h) (Or.inl ⟨by rfl, ?_⟩) hHeld ?_
      rotate_left
      · (intro wq hSw; (try dsimp only at hSw); first | (go_simp; done) | (go_simp; with_reducible rfl))
      try simp only [Act.put, qa, qb, qc]
      refine wpAnyH_take (i := 6) (oi := { dst := some 44, op := Op.slice 26 (.tmp 42) none (some (.tmp 43)) none, type := 26, pos := "slices.go:528", after := #[⟨4, .data⟩, ⟨5, .data⟩], guard := none }) (v := ?_) rfl (by kernel_rfl) (by kernel_rfl) (by kernel_rfl) (fun _ _ _ h => h) (Or.inl ⟨by rfl, ?_⟩) hHeld ?_
      rotate_left
      · (intro wq hSw; (try dsimp only at hSw); first | (go_simp; done) | (go_simp; with_reducible rfl))
      try simp only [Act.put, qa, qb, qc]
      refine wpAnyH_ready (rs := [7]) (by kernel_rfl) (by simp) ?_
      refine AllReadyH.cons (o := { dst := some 45, op := Op.call { callee := Callee.builtin Builtin.copy, args := #[.tmp 41, .tmp 44], argTypes := #[26, 26] }, type := 3, pos := "slices.go:528", after := #[⟨3, .data⟩, ⟨6, .data⟩], guard := none }) rfl (fun K hK => ?_) (AllReadyH.nil)
      · rw [if_pos (by rfl)]
        refine wp_copy_splice rfl (.tmp 41) (.tmp 44) 26 26 rfl 3 Try.underlying26 (by kernel_rfl) (if n = m then some ⟨w.heap.size, 0, none⟩ else some ⟨w.heap.size, m, none⟩) (some ⟨w.heap.size, 0, none⟩) (n - m) (n - m) m n rfl rfl w.heap.size m (repL z m n) 3 XD.out (List.replicate k (.int .i64 z)) hkl.out (fun _ => ⟨if_neg (by omega), _, rfl, hsrc.out⟩) (by rw [repL_len hm, List.length_replicate]; omega) (by intro v hv; rw [List.eq_of_mem_replicate hv]; rfl) w.heap.size w BD.out (Nat.le_refl _) ?_
        intro w1 hX1 hB1
        rw [List.length_replicate]
        refine hK.out _ _ ?_ (fun hHeldN => ?_)
        · exact trivial
        clear hK K hHeld
        have hHeld := hHeldN
        clear hHeldN
        try simp only [Act.put, qa, qb, qc]
        refine wpAnyH_take (i := 8) (oi := { dst := some 46, op := Op.binOp BinOp.add 3 (.tmp 38) (.tmp 45) 3, type := 3, pos := "slices.go:528", after := #[⟨0, .data⟩, ⟨7, .data⟩], guard := none }) (v := ?_) rfl (by kernel_rfl) (by kernel_rfl) (by kernel_rfl) (fun _ _ _ h => h) (Or.inl ⟨by rfl, ?_⟩) hHeld ?_
        rotate_left
        · (intro wq hSw; (try dsimp only at hSw); first | (go_simp; done) | (go_simp; with_reducible rfl))
        try simp only [Act.put, qa, qb, qc]
        refine wpAnyH_take (i := 9) (oi := { dst := some 8, op := Op.assign (.tmp 46), type := 3, pos := "slices.go:528", after := #[⟨8, .data⟩, ⟨7, .chain⟩, ⟨0, .phase⟩, ⟨1, .phase⟩, ⟨2, .phase⟩, ⟨3, .phase⟩, ⟨4, .phase⟩, ⟨5, .phase⟩, ⟨6, .phase⟩, ⟨7, .phase⟩, ⟨8, .phase⟩], guard := none }) (v := ?_) rfl (by kernel_rfl) (by kernel_rfl) (by kernel_rfl) (fun _ _ _ h => h) (Or.inl ⟨by rfl, ?_⟩) hHeld ?_
        rotate_left
        · (intro wq hSw; (try dsimp only at hSw); first | (go_simp; done) | (go_simp; with_reducible rfl))
        try simp only [Act.put, qa, qb, qc]
        refine wpAnyH_done (by kernel_rfl) ?_ _
        clear XD BD hsrc hkl hHeld
        replace hX1 := hide (show Blk w1 w.heap.size 3 (repL z (m + k) n).toArray from by
          have := repL_splice (z := z) (m := m) (n := n) (k := k) hk1.2
          rw [← this]; exact hX1.out)
        replace hB1 := hide hB1
        go_wp2_with fail
        go_roundw
        case rel => exact ⟨m + k, by omega, by omega, by go_num, hX1, hB1⟩
        case measure => simp [intOf]; omega
    · obtain rfl : m = n := by omega
      go_wp2_with fail
      go_ret
      exact ⟨rfl, ⟨_, X.out, by simp [repL_len (Nat.le_refl _)], fun k hk => by simpa using repL_get hk⟩, B.out⟩
end Go.Proofs.Ytfnphnjadknoaaa
