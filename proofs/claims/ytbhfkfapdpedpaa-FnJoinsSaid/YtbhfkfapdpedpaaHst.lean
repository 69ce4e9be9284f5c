/- The program's history: pointers to the posts, their places not yet looked up. -/
import Derived.Test.YtbhfkfapdpedpaaPlD
import Derived.Test.YtbhfkfapdpedpaaOnce
import Derived.Test.YtbhfkfapdpedpaaToP
import Derived.Maps.OwnSet
import Derived.Maps.OwnOps
import Derived.BigQuiet
import Derived.Deep.RegionLaw
import Derived.Deep.DeepCutAuto
import Derived.Deep.DrawnRows
namespace Go.Proofs.Ytbhfkfapdpedpaa
open Go.RowKit

/-- A history of the program in block q, its pointers in block p, over the posts at A in blocks below B; d: are the places looked up? s: is the lock held? m: where the places are. -/
structure Hst (w : World) (B q p : Nat) (A : Option Addr) (l : List PostD) (d s : Int) (m : Value) : Prop where
  box : Blk w q 202 #[.slice (some ⟨p, 0, none⟩) l.length l.length, .int .u32 d, .int .i32 s, .int .u32 0, m]
  ptrs : ∃ cs, Blk w p 187 cs ∧ l.length ≤ cs.size ∧ ∀ b off, A = some ⟨b, off, none⟩ → ∀ k, k < l.length → cs[k]? = some (.pointer (some ⟨b, off + k * 4, none⟩))
  posts : PostsAt w (Old B) A l
  lo : B ≤ p ∧ p < q
section
variable {w w' : World} {B q p g : Nat} {A : Option Addr} {l : List PostD} {d s d' s' : Int} {m m' : Value}
theorem Hst.keep (h : Hst w B q p A l d s m) (hk : ∀ b, b < B ∨ b = p → b < w.heap.size → w'.heap[b]? = w.heap[b]?) (hq : Blk w' q 202 #[.slice (some ⟨p, 0, none⟩) l.length l.length, .int .u32 d', .int .i32 s', .int .u32 0, m']) : Hst w' B q p A l d' s' m' := by
  obtain ⟨cs, h1, h2⟩ := h.ptrs
  have hlt := h1.lt
  exact ⟨hq, ⟨cs, (hk p (.inr rfl) hlt).trans h1, h2⟩, h.posts.keep (fun b o (hb : b < B) => World.cell?_of_block (hk b (.inl hb) (by have := h.lo; omega))) (fun _ h => h), h.lo⟩
theorem Hst.next (h : Hst w B q p A l d s m) (hb : Below w.heap.size w w') : Hst w' B q p A l d s m :=
  h.keep (fun b _ hl => hb.block b hl) (h.box.below hb h.box.lt)
theorem Hst.only (h : Hst w B q p A l d s m) (ho : Only g w w') (hg : q < g) : Hst w' B q p A l d s m :=
  h.keep (fun b hb hl => ho.block b hl (by have := h.lo; omega)) (h.box.only ho (by omega))
theorem Hst.drew (h : Hst w B q p A l d s m) : Hst w.drew B q p A l d s m := ⟨h.box, h.ptrs, h.posts, h.lo⟩
theorem Hst.cells (h : Hst w B q p A l d s m) : (w.cell? ⟨q, 0, none⟩ = some (.slice (some ⟨p, 0, none⟩) l.length l.length) ∧ w.cell? ⟨q, 1, none⟩ = some (.int .u32 d) ∧ w.cell? ⟨q, 2, none⟩ = some (.int .i32 s) ∧ w.cell? ⟨q, 4, none⟩ = some m) ∧ (w.frozen? ⟨q, 1, none⟩ = false ∧ w.frozen? ⟨q, 2, none⟩ = false ∧ w.frozen? ⟨q, 4, none⟩ = false) ∧ q < w.heap.size :=
  ⟨⟨h.box.cell 0, h.box.cell 1, h.box.cell 2, h.box.cell 4⟩, ⟨h.box.frozen 1, h.box.frozen 2, h.box.frozen 4⟩, h.box.lt⟩
theorem Hst.at_ (h : Hst w B q p A l d s m) {k : Nat} (hk : k < l.length) : ∃ b off, w.cell? ⟨p, k, none⟩ = some (.pointer (some ⟨b, off + k * 4, none⟩)) ∧ b < w.heap.size ∧ w.cell? ⟨b, off + k * 4, none⟩ = some (.int .i64 (getp l k).id) ∧ w.cell? ⟨b, off + k * 4 + 2, none⟩ = some (.bool (getp l k).glue) := by
  obtain ⟨b, off, e, hb, hc⟩ := h.posts.2 (by omega)
  obtain ⟨V, c, ⟨p0, -, p2, -⟩, -, -⟩ := hc k hk
  obtain ⟨cs, h1, -, h2⟩ := h.ptrs
  have := h1.lt
  exact ⟨b, off, (h1.cell k).trans (h2 b off e k hk), by have := h.lo; have hb' : b < B := hb; omega, p0, p2⟩
end

theorem Try.infoPtr : (Try.prog.info? 187).map (fun i => (i.zero, i.size, i.bytes)) = some (some (.pointer none), 1, 8) := by kernel_rfl
theorem make_ptrs (n : Nat) (hn : n ≤ 1048576) (W : World) : (Instr.makeSlice 186 (.int .i64 (n : Int)) (.int .i64 (n : Int))).run Try.prog W = .ok (.slice (some ⟨W.heap.size, 0, none⟩) n n) (W.alloc (.cells (zrow #[.pointer none] n) 187)) := by
  obtain ⟨i0, hi, hz0, hz1, hz2⟩ := info_parts Try.infoPtr
  have hr := run_make (P := Try.prog) W 186 187 i0 _ Try.underlying186 hi hz0 .i64 .i64 n n (by omega) (Int.le_refl _) (by rw [hz2]; omega) (by omega)
  simp only [Int.toNat_natCast, hz1, Nat.mul_one] at hr
  exact hr

/-- The first k pointers, in a block's cells. -/
structure PtrCells (cs : Array Value) (A : Option Addr) (k n : Nat) : Prop where
  size : n ≤ cs.size
  at_ : ∀ b off, A = some ⟨b, off, none⟩ → ∀ j, j < k → cs[j]? = some (.pointer (some ⟨b, off + j * 4, none⟩))

set_option maxRecDepth 100000 in
set_option maxHeartbeats 1600000 in
theorem historyOf_any (A : Option Addr) (l : List PostD) (c : Nat) (w : World) (hn2 : l.length ≤ 1048576) (hS : PostsAt w (Old w.heap.size) A l) :
    Calls Try.prog 104 #[.agg #[.slice A l.length c]] w fun e w' => ∃ q p, e = .returned (.pointer (some ⟨q, 0, none⟩)) ∧ Hst w' w.heap.size q p A l 0 0 (.map none) ∧ Below w.heap.size w w' ∧ q < w'.heap.size := by
  have hmk := make_ptrs l.length hn2
  have hB0 := below2 w (Obj.cells #[Value.slice A l.length c] 45) (Obj.cells (zrow #[.pointer none] l.length) 187)
  have hX := (Blk.new w 45 #[Value.slice A l.length c]).alloc (Obj.cells (zrow #[.pointer none] l.length) 187)
  have hY := Blk.new (w.alloc (Obj.cells #[Value.slice A l.length c] 45)) 187 (zrow #[.pointer none] l.length)
  simp only [World.size_alloc] at hY
  have hsz : (zrow #[.pointer none] l.length).size = l.length := zrow_size1 _ _
  replace hS := hide hS
  go_enter Try.func104, Try.ntmps104
  go_wp2_with fail
  obtain ⟨W, hW⟩ : ∃ W, W = (w.alloc (Obj.cells #[Value.slice A l.length c] 45)).alloc (Obj.cells (zrow #[.pointer none] l.length) 187) := ⟨_, rfl⟩
  rw [← hW] at hX hY hB0 ⊢
  have hzW : W.heap.size = w.heap.size + 1 + 1 := by rw [hW]; simp
  clear hW hmk
  replace hX := hide hX
  replace hB0 := hide hB0
  go_loopw [12] (fun i wr => ∃ (k : Nat) (cs : Array Value), k ≤ l.length ∧ i = .int .i64 k ∧ Blk wr (w.heap.size + 1) 187 cs ∧ PtrCells cs A k l.length ∧ Below (w.heap.size + 1) W wr) (fun i _ => l.length - (intOf i).toNat)
  case atStart => exact ⟨0, _, Nat.zero_le _, rfl, hY, ⟨by omega, fun _ _ _ j hj => absurd hj (Nat.not_lt_zero j)⟩, Below.refl _ _⟩
  case round =>
    obtain ⟨k, cs, hk, rfl, hP, hC, hb⟩ := hrel
    have hx := hX.out.below hb (by omega)
    have x0 := hx.cell 0
    simp only [List.getElem?_toArray, List.getElem?_cons_zero] at x0
    by_cases hlt : k < l.length
    · obtain ⟨b, off, rfl, hbB, -⟩ := hS.out.2 (by omega)
      obtain ⟨y, hy⟩ : ∃ y, cs[k]? = some y := ⟨cs[k]'(by have := hC.size; omega), Array.getElem?_eq_getElem _⟩
      have y0 := (hP.cell k).trans hy
      have z0 := hP.frozen k
      have hC2 := hide (show PtrCells (cs.setIfInBounds k (.pointer (some ⟨b, off + k * 4, none⟩))) (some ⟨b, off, none⟩) (k + 1) l.length from ⟨by simp; exact hC.size, fun b' off' e j hj => by
        cases e
        rw [Array.getElem?_setIfInBounds]
        by_cases hjk : k = j
        · rw [if_pos hjk, if_pos (by have := hC.size; omega), hjk]
        · rw [if_neg hjk]
          exact hC.at_ b off rfl j (by omega)⟩)
      have hP2 := hide (hP.set_ k (.pointer (some ⟨b, off + k * 4, none⟩)))
      have hb2 := hide (hb.setCell (p := ⟨w.heap.size + 1, k, none⟩) (Nat.le_refl _) (.pointer (some ⟨b, off + k * 4, none⟩)))
      clear hP hC hx hb hy
      go_wp2_with fail
      go_roundw
      case rel => exact ⟨k + 1, _, by omega, by go_num, hP2.out, hC2.out, hb2.out⟩
      case measure => simp [intOf]; omega
    · obtain rfl : k = l.length := by omega
      have hbw := hide (show Below w.heap.size w wr from hB0.out.trans (hb.mono (by omega)))
      have hR := hide (show ∃ q p, (Ending.returned (.pointer (some ⟨wr.heap.size, 0, none⟩))) = .returned (.pointer (some ⟨q, 0, none⟩)) ∧ Hst (wr.alloc (Obj.cells #[.slice (some ⟨w.heap.size + 1, 0, none⟩) l.length l.length, .int .u32 0, .int .i32 0, .int .u32 0, .map none] 202)) w.heap.size q p A l 0 0 (.map none) ∧ Below w.heap.size w (wr.alloc (Obj.cells #[.slice (some ⟨w.heap.size + 1, 0, none⟩) l.length l.length, .int .u32 0, .int .i32 0, .int .u32 0, .map none] 202)) ∧ q < (wr.alloc (Obj.cells #[.slice (some ⟨w.heap.size + 1, 0, none⟩) l.length l.length, .int .u32 0, .int .i32 0, .int .u32 0, .map none] 202)).heap.size from by
        have hba := hbw.out.alloc hbw.out.size (Obj.cells #[.slice (some ⟨w.heap.size + 1, 0, none⟩) l.length l.length, .int .u32 0, .int .i32 0, .int .u32 0, .map none] 202)
        exact ⟨wr.heap.size, w.heap.size + 1, rfl, ⟨Blk.new _ _ _, ⟨cs, hP.alloc _, hC.size, fun b off e j hj => hC.at_ b off e j hj⟩, hS.out.below hba (fun _ h => h), ⟨by omega, hP.lt⟩⟩, hba, by simp⟩)
      clear hP hC hx hb
      go_wp2_with fail
      go_ret
      exact hR.out
end Go.Proofs.Ytbhfkfapdpedpaa
