/- laws' copies of a row of files and of a row of buffers: each row of the copy in a block of its own. -/
import Derived.Test.YtikfbhehnpogoaaRowsF
namespace Go.Proofs.Ytikfbhehnpogoaa
open Go.RowKit

/-- Rows of rows at an address, in blocks of S; of an element its n and its numbers. -/
def RowsAt (w : World) (S : Nat → Prop) (A : Option Addr) (src : List RowD) : Prop :=
  src.length ≤ 1048576 ∧ (0 < src.length → ∃ b off, A = some ⟨b, off, none⟩ ∧ S b ∧ ∀ k, k < src.length → ∃ A' c', w.cell? ⟨b, off + k, none⟩ = some (.slice A' (getr src k).n c') ∧ IntsAt w S A' (getr src k).zs)
theorem RowsAt.below {w w' : World} {S : Nat → Prop} {B : Nat} {A : Option Addr} {src : List RowD} (h : RowsAt w S A src) (hb : Below B w w') (hS : ∀ b, S b → b < B) : RowsAt w' S A src :=
  ⟨h.1, fun hn => by
    obtain ⟨b, off, e, hSb, hc⟩ := h.2 hn
    refine ⟨b, off, e, hSb, fun k hk => ?_⟩
    obtain ⟨A', c', h1, h2⟩ := hc k hk
    exact ⟨A', c', (hb.cell (p := ⟨b, off + k, none⟩) (hS b hSb)).trans h1, h2.below hb hS⟩⟩
structure RowCells (et : TypeId) (w : World) (B : Nat) (cs : Array Value) (src : List RowD) (f : Nat → RowD) (k : Nat) : Prop where
  cells : ∀ j, j < k → cs[j]? = some (.slice (f j).A (f j).n (f j).c)
  rows : ∀ j, j < k → (f j).at_ et w
  same : ∀ j, j < k → (getr src j).n = (f j).n ∧ (getr src j).zs = (f j).zs
  up : ∀ i j, i < j → j < k → (f i).hi ≤ (f j).lo
  rng : ∀ j, j < k → B ≤ (f j).lo ∧ (f j).hi ≤ w.heap.size
theorem getr_map (f : Nat → RowD) (n k : Nat) (hk : k < n) : getr ((List.range n).map f) k = f k := by
  unfold getr
  rw [List.getD_eq_getElem?_getD, List.getElem?_map, List.getElem?_range hk]
  rfl
theorem RowCells.own {t et : TypeId} {w : World} {lo q : Nat} {cs : Array Value} {src : List RowD} {f : Nat → RowD} (h : RowCells et w (q + 1) cs src f src.length) (hb : Blk w q t cs) (hs : cs.size = src.length) (hl : lo ≤ q) :
    RowsOwn t et w lo w.heap.size q ((List.range src.length).map f) ∧ SameRows src ((List.range src.length).map f) := by
  have e : ((List.range src.length).map f).length = src.length := by simp
  refine ⟨⟨⟨cs, hb, by rw [e, hs]; exact Nat.le_refl _, fun k hk => ?_⟩, fun k hk => ?_, fun i j hij hj => ?_, ⟨⟨hl, hb.lt⟩, fun k hk => ?_⟩⟩, e.symm, fun k hk => ?_⟩
  · rw [e] at hk; rw [getr_map f _ k hk]; exact h.cells k hk
  · rw [e] at hk; rw [getr_map f _ k hk]; exact h.rows k hk
  · rw [e] at hj; rw [getr_map f _ i (by omega), getr_map f _ j hj]; exact h.up i j hij hj
  · rw [e] at hk; rw [getr_map f _ k hk]; have := h.rng k hk; exact ⟨by omega, this.2⟩
  · rw [getr_map f _ k hk]; exact h.same k hk

theorem toFileI {A : Option Addr} {zs : List Int} {n c : Nat} {S : Nat → Prop} {w : World} (hz : zs.length = n) (hn : n ≤ 1048576) (hS : ∀ b, S b → b < w.heap.size) (ha : IntsAt w S A zs) :
    Calls Try.prog 40 #[.agg #[.slice A n c]] w fun e w' => ∃ q, e = .returned (.agg #[.slice (some ⟨q, 0, none⟩) n n]) ∧ RvI 3 w' w.heap.size w'.heap.size (.slice (some ⟨q, 0, none⟩) n n) n zs ∧ Below w.heap.size w w' := by
  subst hz
  refine (toFile_any A zs c S w hn hS ha).mono ?_
  rintro e w' ⟨q, rfl, hq, hr, hb⟩
  exact ⟨q, rfl, RvI.of (.inr ⟨q, zs.length, rfl, hr, hq⟩), hb⟩

theorem Try.infoFileT : (Try.prog.info? 68).map (fun i => (i.zero, i.size, i.bytes)) = some (some (.agg #[.slice none 0 0]), 1, 24) := by kernel_rfl
theorem make_rowsFile (n : Nat) (hn : n ≤ 1048576) (W : World) : (Instr.makeSlice 29 (.int .i64 (n : Int)) (.int .i64 (n : Int))).run Try.prog W = .ok (.slice (some ⟨W.heap.size, 0, none⟩) n n) (W.alloc (.cells (zrow #[.slice none 0 0] n) 68)) := by
  obtain ⟨i0, hi, hz0, hz1, hz2⟩ := info_parts Try.infoFileT
  have hr := run_make (P := Try.prog) W 29 68 i0 _ Try.underlying29 hi hz0 .i64 .i64 n n (by omega) (Int.le_refl _) (by rw [hz2]; omega) (by omega)
  simp only [Int.toNat_natCast, hz1, Nat.mul_one] at hr
  exact hr

set_option maxRecDepth 100000 in
set_option maxHeartbeats 1600000 in
theorem toFileS_own (A : Option Addr) (src : List RowD) (c : Nat) (S : Nat → Prop) (w : World) (hz : ∀ k, k < src.length → (getr src k).zs.length = (getr src k).n  ∧ (getr src k).n ≤ 1048576) (hS : ∀ b, S b → b < w.heap.size) (ha : RowsAt w S A src) :
    Calls Try.prog 84 #[.slice A src.length c] w fun e w' => ∃ q rs, e = .returned (.slice (some ⟨q, 0, none⟩) src.length src.length) ∧ (RowsOwn 68 3 w' w.heap.size w'.heap.size q rs ∧ SameRows src rs) ∧ Below w.heap.size w w' := by
  have hn2 : src.length ≤ 1048576 := ha.1
  have hmk := make_rowsFile src.length hn2
  have HZ := hide hz
  clear hz
  go_enter Try.func84, Try.ntmps84
  go_wp2
  clear hmk
  go_loopw [4] (fun i wr => ∃ (k : Nat) (cs : Array Value) (f : Nat → RowD), k ≤ src.length ∧ i = .int .i64 k ∧ Blk wr w.heap.size 68 cs ∧ Hid (cs.size = src.length) ∧ RowCells 3 wr (w.heap.size + 1) cs src f k ∧ Below w.heap.size w wr) (fun i _ => src.length - (intOf i).toNat)
  case atStart => exact ⟨0, _, fun _ => row0, Nat.zero_le _, rfl, Blk.new _ _ _, hide (zrow_size _ _), ⟨fun j hj => by omega, fun j hj => by omega, fun j hj => by omega, fun i j _ hj => by omega, fun j hj => by omega⟩, below1 _ _⟩
  case round =>
    obtain ⟨k, cs, f, hk, rfl, hblk, hsz, hcs, hb⟩ := hrel
    by_cases hlt : k < src.length
    · obtain ⟨b, off, rfl, hbB, hc⟩ := (ha.below hb hS).2 (by omega)
      obtain ⟨A', c', hcell, hin⟩ := hc k hlt
      have hlt2 := hblk.lt
      obtain ⟨z1, z2⟩ := HZ.out k hlt
      have HB := hide hblk
      have Z1 := hide z1
      clear hblk hc z1
      go_wp2_with fail
      refine (toFileI (c := c') Z1.out z2 (fun b h => Nat.lt_of_lt_of_le (hS b h) hb.size) hin).mono ?_
      rintro e w1 ⟨qk, rfl, hl, hb1⟩
      have hblk1 := HB.out.below hb1 hlt2
      obtain ⟨v0, hv0⟩ : ∃ v, cs[k]? = some v := ⟨_, Array.getElem?_eq_getElem (by have := hsz.out; omega)⟩
      have g0 := (hblk1.cell _).trans hv0
      have z0 := hblk1.frozen k
      have HB1 := hide hblk1
      have HL := hide hl
      clear hv0 hblk1 hl
      go_wp2_with fail
      go_roundw
      case rel =>
        have hs1 := hb1.size
        have hsb := hb.size
        refine ⟨k + 1, cs.setIfInBounds k (.slice (some ⟨qk, 0, none⟩) (getr src k).n (getr src k).n), fun j => if j = k then ⟨wr.heap.size, w1.heap.size, some ⟨qk, 0, none⟩, (getr src k).n, (getr src k).n, (getr src k).zs⟩ else f j, by omega, by go_num, HB1.out.set_ _ _, hide (by rw [Array.size_setIfInBounds]; exact hsz.out), ⟨fun j hj => ?_, fun j hj => ?_, fun j hj => ?_, fun i j hij hj => ?_, fun j hj => ?_⟩, (below_then hb hb1).setCell (Nat.le_refl _) _⟩
        · by_cases e : j = k
          · subst e
            simp only [if_true]
            rw [Array.getElem?_setIfInBounds, if_pos rfl, if_pos (by have := hsz.out; omega)]
          · simp only [if_neg e]
            rw [Array.getElem?_setIfInBounds, if_neg (fun e2 => e e2.symm)]
            exact hcs.cells j (by omega)
        · by_cases e : j = k
          · subst e
            simp only [if_true]
            exact HL.out.keep (fun b h1 h2 _ => Below.heap_setCell _ _ _ _ (by show b ≠ w.heap.size; omega))
          · simp only [if_neg e]
            have hr := hcs.rng j (by omega)
            exact ((hcs.rows j (by omega)).keep (fun b h1 h2 hl => hb1.block b hl)).keep (fun b h1 h2 _ => Below.heap_setCell _ _ _ _ (by show b ≠ w.heap.size; omega))
        · by_cases e : j = k
          · subst e; simp
          · simp only [if_neg e]
            exact hcs.same j (by omega)
        · by_cases e : j = k
          · have hi : i ≠ k := by omega
            simp only [if_pos e, if_neg hi]
            exact (hcs.rng i (by omega)).2
          · have hi : i ≠ k := by omega
            simp only [if_neg e, if_neg hi]
            exact hcs.up i j hij (by omega)
        · by_cases e : j = k
          · simp only [if_pos e]
            exact ⟨by omega, by simp [World.setCell]⟩
          · simp only [if_neg e]
            have hr := hcs.rng j (by omega)
            exact ⟨hr.1, by simp [World.setCell]; omega⟩
      case measure => simp [intOf]; omega
    · obtain rfl : k = src.length := by omega
      go_wp2
      go_ret
      exact ⟨w.heap.size, (List.range src.length).map f, rfl, RowCells.own hcs hblk hsz.out (Nat.le_refl _), hb⟩

theorem Try.infoBufT : (Try.prog.info? 154).map (fun i => (i.zero, i.size, i.bytes)) = some (some (.agg #[.slice none 0 0]), 1, 24) := by kernel_rfl
theorem make_rowsBuf (n : Nat) (hn : n ≤ 1048576) (W : World) : (Instr.makeSlice 30 (.int .i64 (n : Int)) (.int .i64 (n : Int))).run Try.prog W = .ok (.slice (some ⟨W.heap.size, 0, none⟩) n n) (W.alloc (.cells (zrow #[.slice none 0 0] n) 154)) := by
  obtain ⟨i0, hi, hz0, hz1, hz2⟩ := info_parts Try.infoBufT
  have hr := run_make (P := Try.prog) W 30 154 i0 _ Try.underlying30 hi hz0 .i64 .i64 n n (by omega) (Int.le_refl _) (by rw [hz2]; omega) (by omega)
  simp only [Int.toNat_natCast, hz1, Nat.mul_one] at hr
  exact hr

set_option maxRecDepth 100000 in
set_option maxHeartbeats 1600000 in
theorem toBufS_own (A : Option Addr) (src : List RowD) (c : Nat) (S : Nat → Prop) (w : World) (hz : ∀ k, k < src.length → (getr src k).zs.length = (getr src k).n * 2 ∧ (getr src k).n ≤ 1048576) (hS : ∀ b, S b → b < w.heap.size) (ha : RowsAt w S A src) :
    Calls Try.prog 85 #[.slice A src.length c] w fun e w' => ∃ q rs, e = .returned (.slice (some ⟨q, 0, none⟩) src.length src.length) ∧ (RowsOwn 154 156 w' w.heap.size w'.heap.size q rs ∧ SameRows src rs) ∧ Below w.heap.size w w' := by
  have hn2 : src.length ≤ 1048576 := ha.1
  have hmk := make_rowsBuf src.length hn2
  have HZ := hide hz
  clear hz
  go_enter Try.func85, Try.ntmps85
  go_wp2
  clear hmk
  go_loopw [4] (fun i wr => ∃ (k : Nat) (cs : Array Value) (f : Nat → RowD), k ≤ src.length ∧ i = .int .i64 k ∧ Blk wr w.heap.size 154 cs ∧ Hid (cs.size = src.length) ∧ RowCells 156 wr (w.heap.size + 1) cs src f k ∧ Below w.heap.size w wr) (fun i _ => src.length - (intOf i).toNat)
  case atStart => exact ⟨0, _, fun _ => row0, Nat.zero_le _, rfl, Blk.new _ _ _, hide (zrow_size _ _), ⟨fun j hj => by omega, fun j hj => by omega, fun j hj => by omega, fun i j _ hj => by omega, fun j hj => by omega⟩, below1 _ _⟩
  case round =>
    obtain ⟨k, cs, f, hk, rfl, hblk, hsz, hcs, hb⟩ := hrel
    by_cases hlt : k < src.length
    · obtain ⟨b, off, rfl, hbB, hc⟩ := (ha.below hb hS).2 (by omega)
      obtain ⟨A', c', hcell, hin⟩ := hc k hlt
      have hlt2 := hblk.lt
      obtain ⟨z1, z2⟩ := HZ.out k hlt
      have HB := hide hblk
      have Z1 := hide z1
      clear hblk hc z1
      go_wp2_with fail
      refine (toBufI (c := c') Z1.out z2 (fun b h => Nat.lt_of_lt_of_le (hS b h) hb.size) hin).mono ?_
      rintro e w1 ⟨qk, rfl, hl, hb1⟩
      have hblk1 := HB.out.below hb1 hlt2
      obtain ⟨v0, hv0⟩ : ∃ v, cs[k]? = some v := ⟨_, Array.getElem?_eq_getElem (by have := hsz.out; omega)⟩
      have g0 := (hblk1.cell _).trans hv0
      have z0 := hblk1.frozen k
      have HB1 := hide hblk1
      have HL := hide hl
      clear hv0 hblk1 hl
      go_wp2_with fail
      go_roundw
      case rel =>
        have hs1 := hb1.size
        have hsb := hb.size
        refine ⟨k + 1, cs.setIfInBounds k (.slice (some ⟨qk, 0, none⟩) (getr src k).n (getr src k).n), fun j => if j = k then ⟨wr.heap.size, w1.heap.size, some ⟨qk, 0, none⟩, (getr src k).n, (getr src k).n, (getr src k).zs⟩ else f j, by omega, by go_num, HB1.out.set_ _ _, hide (by rw [Array.size_setIfInBounds]; exact hsz.out), ⟨fun j hj => ?_, fun j hj => ?_, fun j hj => ?_, fun i j hij hj => ?_, fun j hj => ?_⟩, (below_then hb hb1).setCell (Nat.le_refl _) _⟩
        · by_cases e : j = k
          · subst e
            simp only [if_true]
            rw [Array.getElem?_setIfInBounds, if_pos rfl, if_pos (by have := hsz.out; omega)]
          · simp only [if_neg e]
            rw [Array.getElem?_setIfInBounds, if_neg (fun e2 => e e2.symm)]
            exact hcs.cells j (by omega)
        · by_cases e : j = k
          · subst e
            simp only [if_true]
            exact HL.out.keep (fun b h1 h2 _ => Below.heap_setCell _ _ _ _ (by show b ≠ w.heap.size; omega))
          · simp only [if_neg e]
            have hr := hcs.rng j (by omega)
            exact ((hcs.rows j (by omega)).keep (fun b h1 h2 hl => hb1.block b hl)).keep (fun b h1 h2 _ => Below.heap_setCell _ _ _ _ (by show b ≠ w.heap.size; omega))
        · by_cases e : j = k
          · subst e; simp
          · simp only [if_neg e]
            exact hcs.same j (by omega)
        · by_cases e : j = k
          · have hi : i ≠ k := by omega
            simp only [if_pos e, if_neg hi]
            exact (hcs.rng i (by omega)).2
          · have hi : i ≠ k := by omega
            simp only [if_neg e, if_neg hi]
            exact hcs.up i j hij (by omega)
        · by_cases e : j = k
          · simp only [if_pos e]
            exact ⟨by omega, by simp [World.setCell]⟩
          · simp only [if_neg e]
            have hr := hcs.rng j (by omega)
            exact ⟨hr.1, by simp [World.setCell]; omega⟩
      case measure => simp [intOf]; omega
    · obtain rfl : k = src.length := by omega
      go_wp2
      go_ret
      exact ⟨w.heap.size, (List.range src.length).map f, rfl, RowCells.own hcs hblk hsz.out (Nat.le_refl _), hb⟩

end Go.Proofs.Ytikfbhehnpogoaa
