/- laws' helpers on a buffer: szBuf, toBuf, eqBuf, markBuf, heldBuf. A row of n Waits is read as its 2 n numbers. -/
import Derived.Test.YtikfbhehnpogoaaRvT
namespace Go.Proofs.Ytikfbhehnpogoaa
open Go.RowKit

set_option maxHeartbeats 800000 in
theorem szBuf_any (A : Option Addr) (n c : Nat) (w : World) (hn : n ≤ 9223372036854775807) :
    Calls Try.prog 135 #[.agg #[.slice A n c], .int .i64 1048576] w fun e w' => e = .returned (.int .i64 (szR 1048576 n)) ∧ Below w.heap.size w w' := by
  have ks : ∀ w, Calls Try.prog 158 #[.slice A n c, .int .i64 1048576] w fun e w' => e = .returned (.int .i64 (szR 1048576 n)) ∧ w = w' := fun w => by
    have hw : wrap64 ((1048576 : Int) - n) = 1048576 - n := by unfold wrap64; omega
    by_cases hlt : (1048576 : Int) - n < 0
    · go_enter Try.func158, Try.ntmps158
      go_wp2_with fail
      go_ret
      exact ⟨by unfold szR; rw [if_pos (by omega)]; rfl, rfl⟩
    · go_enter Try.func158, Try.ntmps158
      go_wp2_with fail
      go_ret
      exact ⟨by unfold szR; rw [if_neg (by omega)]; rfl, rfl⟩
  have hr : szR 1048576 n = -1 ∨ 0 ≤ szR 1048576 n := by unfold szR; split <;> omega
  generalize szR 1048576 n = s at *
  replace ks := hide ks
  rcases hr with rfl | hr
  all_goals
    go_enter Try.func135, Try.ntmps135
    go_wp2_with fail
    refine (ks.out _).mono ?_
    rintro e w1 ⟨rfl, rfl⟩
    go_wp2_with fail
    go_ret
    exact ⟨rfl, below1 _ _⟩

theorem Try.infoWait : (Try.prog.info? 156).map (fun i => (i.zero, i.size, i.bytes)) = some (some (.agg #[.int .i64 0, .int .i64 0]), 2, 16) := by kernel_rfl
theorem make_waits (n : Nat) (hn : n ≤ 1048576) (W : World) : (Instr.makeSlice 152 (.int .i64 (n : Int)) (.int .i64 (n : Int))).run Try.prog W = .ok (.slice (some ⟨W.heap.size, 0, none⟩) n n) (W.alloc (.cells (zrow #[.int .i64 0, .int .i64 0] (n * 2)) 156)) := by
  obtain ⟨i0, hi, hz0, hz1, hz2⟩ := info_parts Try.infoWait
  have hr := run_make (P := Try.prog) W 152 156 i0 _ Try.underlying152 hi hz0 .i64 .i64 n n (by omega) (Int.le_refl _) (by rw [hz2]; omega) (by omega)
  simp only [Int.toNat_natCast, hz1] at hr
  exact hr

set_option maxHeartbeats 800000 in
theorem toWait_any (x v : Int) (w : World) :
    Calls Try.prog 171 #[.agg #[.int .i64 x, .int .i64 v]] w fun e w' => e = .returned (.agg #[.int .i64 x, .int .i64 v]) ∧ Below w.heap.size w w' := by
  go_enter Try.func171, Try.ntmps171
  go_wp2
  refine bodyPost_ret (v := .agg #[.int .i64 x, .int .i64 v]) (by simp [results, Try.results171, go_sem]) rfl ⟨rfl, ?_⟩
  exact ((below1 _ _).alloc (by simp) _).alloc (by simp; omega) _

set_option maxHeartbeats 800000 in
theorem toWaitS_row (A : Option Addr) (zs : List Int) (n c : Nat) (S : Nat → Prop) (w : World) (hz : zs.length = n * 2) (hn : n ≤ 1048576) (hS : ∀ b, S b → b < w.heap.size) (ha : IntsAt w S A zs) :
    Calls Try.prog 161 #[.slice A n c] w fun e w' => e = .returned (.slice (some ⟨w.heap.size, 0, none⟩) n n) ∧ RowT 156 w' w.heap.size zs ∧ Below w.heap.size w w' := by
  have hmk := make_waits n hn
  go_enter Try.func161, Try.ntmps161
  go_wp2
  clear hmk
  go_loopw [4] (fun i wr => ∃ (k : Nat) (cs : Array Value), k ≤ n ∧ i = .int .i64 k ∧ Blk wr w.heap.size 156 cs ∧ Hid (cs.size = n * 2) ∧ Hid (∀ j, j < k * 2 → cs[j]? = some (.int .i64 (geti zs j))) ∧ Below w.heap.size w wr) (fun i _ => n - (intOf i).toNat)
  case atStart => exact ⟨0, _, Nat.zero_le _, rfl, Blk.new _ _ _, hide (zrow_size _ _), hide (fun j hj => by omega), below1 _ _⟩
  case round =>
    obtain ⟨k, cs, hk, rfl, hblk, hsz, hcs, hb⟩ := hrel
    by_cases hlt : k < n
    · obtain ⟨b, off, rfl, hbB, c0, c1⟩ := (ha.below hb hS).two hz hlt
      have hlt2 := hblk.lt
      have HB := hide hblk
      clear hblk
      go_wp2_with fail
      refine (toWait_any _ _ _).mono ?_; rintro e w1 ⟨rfl, hb1⟩
      have hblk1 := HB.out.below hb1 hlt2
      have hsz' := hsz.out
      obtain ⟨v0, hv0⟩ : ∃ v, cs[k * 2]? = some v := ⟨_, Array.getElem?_eq_getElem (by omega)⟩
      obtain ⟨v1, hv1⟩ : ∃ v, cs[k * 2 + 1]? = some v := ⟨_, Array.getElem?_eq_getElem (by omega)⟩
      have g0 := (hblk1.cell _).trans hv0
      have g1 := (hblk1.cell _).trans hv1
      have z0 := hblk1.frozen (k * 2)
      have z1 := hblk1.frozen (k * 2 + 1)
      have HB1 := hide hblk1
      clear hv0 hv1 hblk1 hsz'
      go_wp2_with fail
      go_roundw
      case rel =>
        have hs := hsz.out
        refine ⟨k + 1, (cs.setIfInBounds (k * 2) (.int .i64 (geti zs (k * 2)))).setIfInBounds (k * 2 + 1) (.int .i64 (geti zs (k * 2 + 1))), by omega, by go_num, (HB1.out.set_ _ _).set_ _ _, hide (by simpa using hs), hide (fun j hj => ?_), ((below_then hb hb1).setCell (Nat.le_refl _) _).setCell (Nat.le_refl _) _⟩
        rw [Array.getElem?_setIfInBounds]
        by_cases e : k * 2 + 1 = j
        · subst e; rw [if_pos rfl, if_pos (by simp; omega)]
        · rw [if_neg e, Array.getElem?_setIfInBounds]
          by_cases e : k * 2 = j
          · subst e; rw [if_pos rfl, if_pos (by omega)]
          · rw [if_neg e]; exact hcs.out j (by omega)
      case measure => simp [intOf]; omega
    · obtain rfl : k = n := by omega
      go_wp2
      go_ret
      exact ⟨rfl, ⟨cs, hblk, by rw [hsz.out, hz]; exact Nat.le_refl _, fun j hj => hcs.out j (by omega)⟩, hb⟩

/-- A buffer's copy. -/
def BufCopy (w w' : World) (e : Ending) (n : Nat) (zs : List Int) : Prop := ∃ q, e = .returned (.agg #[.slice (some ⟨q, 0, none⟩) n n]) ∧ w.heap.size ≤ q ∧ RowT 156 w' q zs ∧ Below w.heap.size w w'
set_option maxHeartbeats 800000 in
theorem toBuf_any (A : Option Addr) (zs : List Int) (n c : Nat) (S : Nat → Prop) (w : World) (hz : zs.length = n * 2) (hn : n ≤ 1048576) (hS : ∀ b, S b → b < w.heap.size) (ha : IntsAt w S A zs) :
    Calls Try.prog 138 #[.agg #[.slice A n c]] w fun e w' => BufCopy w w' e n zs := by
  have hb0 := (below2 w (Obj.cells #[Value.slice A n c] 177) (Obj.cells #[Value.slice none 0 0] 154)).alloc (by simp; omega) (Obj.cells #[Value.slice none 0 0] 154)
  have hR := ((Blk.new (w.alloc (Obj.cells #[Value.slice A n c] 177)) 154 #[Value.slice none 0 0]).alloc (Obj.cells #[Value.slice none 0 0] 154))
  have hX := Blk.new ((w.alloc (Obj.cells #[Value.slice A n c] 177)).alloc (Obj.cells #[Value.slice none 0 0] 154)) 154 #[Value.slice none 0 0]
  simp only [World.size_alloc] at hR hX
  replace hR := hide hR
  replace hX := hide hX
  go_enter Try.func138, Try.ntmps138
  go_wp2_with fail
  refine (toWaitS_row A zs n c S _ hz hn (fun b h => Nat.lt_of_lt_of_le (hS b h) hb0.size) (ha.below hb0 hS)).mono ?_
  rintro e w1 ⟨rfl, hrow, hb1⟩
  have hR1 := hR.out.below hb1 (by simp)
  have hX1 := hX.out.below hb1 (by simp)
  have r0 := hR1.cell 0
  have z0 := hR1.frozen 0
  have x0 := hX1.cell 0
  have z1 := hX1.frozen 0
  simp only [List.getElem?_toArray, List.getElem?_cons_zero] at r0 x0
  have hl := hX1.lt
  have hB := hide (hb0.trans (hb1.mono (by first | (simp; omega) | simp)))
  replace hrow := hide hrow
  clear hR1 hX1 hb1
  go_wp2_with fail
  refine bodyPost_ret (v := .agg #[.slice (some ⟨w.heap.size + 1 + 1 + 1, 0, none⟩) n n]) (by simp [results, Try.results138, go_sem, r0]; done) rfl ⟨w.heap.size + 1 + 1 + 1, rfl, by omega, ?_, ?_⟩
  · obtain ⟨cs, h1, h2⟩ := hrow.out
    simp only [World.size_alloc] at h1
    exact ⟨cs, (h1.far (by show w.heap.size + 1 + 1 + 1 ≠ w.heap.size + 1 + 1; omega) _).far (by show w.heap.size + 1 + 1 + 1 ≠ w.heap.size + 1; omega) _, h2⟩
  · exact (hB.out.setCell (by show w.heap.size ≤ w.heap.size + 1 + 1; omega) _).setCell (by show w.heap.size ≤ w.heap.size + 1; omega) _

set_option maxHeartbeats 800000 in
theorem eqWait_any (x v : Int) (w : World) :
    Calls Try.prog 167 #[.agg #[.int .i64 x, .int .i64 v], .agg #[.int .i64 x, .int .i64 v]] w fun e w' => e = .returned (.bool true) ∧ Below w.heap.size w w' := by
  go_enter Try.func167, Try.ntmps167
  go_wp2
  go_ret
  exact ⟨rfl, below2 _ _ _⟩

set_option maxRecDepth 100000 in
set_option maxHeartbeats 800000 in
theorem eqWaitS_any (A A' : Option Addr) (zs : List Int) (n c c' : Nat) (S : Nat → Prop) (w : World) (hz : zs.length = n * 2) (hS : ∀ b, S b → b < w.heap.size) (ha : IntsAt w S A zs) (ha' : IntsAt w S A' zs) :
    Calls Try.prog 155 #[.slice A n c, .slice A' n c'] w fun e w' => e = .returned (.bool true) ∧ Below w.heap.size w w' := by
  have hn := ha.1
  go_enter Try.func155, Try.ntmps155
  go_wp2
  go_loopw [5] (fun i wr => ∃ (k : Nat), k ≤ n ∧ i = .int .i64 k ∧ Below w.heap.size w wr) (fun i _ => n - (intOf i).toNat)
  case atStart => exact ⟨0, Nat.zero_le _, rfl, Below.refl _ _⟩
  case round =>
    obtain ⟨k, hk, rfl, hb⟩ := hrel
    by_cases hlt : k < n
    · obtain ⟨b, off, rfl, hbB, c0, c1⟩ := (ha.below hb hS).two hz hlt
      obtain ⟨b', off', rfl, hbB', g0, g1⟩ := (ha'.below hb hS).two hz hlt
      have hx : ((k : Int) < (n : Int)) := by omega
      go_wp2_with fail
      go_still_tail 8, (by kernel_rfl)
      have hbd := hb.drew
      change wpList _ _ _ _ _ wr.drew
      generalize wr.drew = w2 at *
      go_wp2_with (go_at_call 167; refine (eqWait_any (geti zs (k * 2)) (geti zs (k * 2 + 1)) _).mono ?_; rintro e w3 ⟨rfl, hb3⟩)
      go_roundw
      case rel => exact ⟨k + 1, by omega, by go_num, below_then hbd hb3⟩
      case measure => simp [intOf]; omega
    · obtain rfl : k = n := by omega
      go_wp2
      go_ret
      exact ⟨rfl, hb⟩

set_option maxHeartbeats 800000 in
theorem eqBuf_any (A A' : Option Addr) (zs : List Int) (n c c' : Nat) (S : Nat → Prop) (w : World) (hz : zs.length = n * 2) (hS : ∀ b, S b → b < w.heap.size) (ha : IntsAt w S A zs) (ha' : IntsAt w S A' zs) :
    Calls Try.prog 127 #[.agg #[.slice A n c], .agg #[.slice A' n c']] w fun e w' => e = .returned (.bool true) ∧ Below w.heap.size w w' := by
  have hb0 := below2 w (Obj.cells #[Value.slice A n c] 154) (Obj.cells #[Value.slice A' n c'] 154)
  go_enter Try.func127, Try.ntmps127
  go_wp2_with fail
  refine (eqWaitS_any A A' zs n c c' S _ hz (fun b h => Nat.lt_of_lt_of_le (hS b h) hb0.size) (ha.below hb0 hS) (ha'.below hb0 hS)).mono ?_
  rintro e w1 ⟨rfl, hb1⟩
  go_wp2_with fail
  go_ret
  exact ⟨rfl, below_then hb0 hb1⟩

set_option maxHeartbeats 1600000 in
theorem markWaitS_any (q : Nat) (zs : List Int) (n c k : Nat) (w : World) (hz : zs.length = n * 2) (hn : n ≤ 1048576) (hk : k ≤ 4194304) (h : RowT 156 w q zs) :
    Calls Try.prog 131 #[.slice (some ⟨q, 0, none⟩) n c, .int .i64 k] w fun e w' => e = .returned (.int .i64 ((k + n * 2 : Nat) : Int)) ∧ RowT 156 w' q (marks k (n * 2)) ∧ Only q w w' := by
  go_enter Try.func131, Try.ntmps131
  go_wp2_with fail
  go_loopw [1, 5] (fun l i wr => ∃ (j : Nat) (cs : Array Value), j ≤ n ∧ i = .int .i64 j ∧ l = .int .i64 ((k + j * 2 : Nat) : Int) ∧ Blk wr q 156 cs ∧ Hid (n * 2 ≤ cs.size) ∧ Hid (∀ m, m < j * 2 → cs[m]? = some (.int .i64 ((k + m : Nat) : Int))) ∧ Only q w wr) (fun _ i _ => n - (intOf i).toNat)
  case atStart =>
    obtain ⟨cs, h1, h2, _⟩ := h
    exact ⟨0, cs, Nat.zero_le _, rfl, rfl, h1, hide (by omega), hide (fun m hm => by omega), Only.refl _ _⟩
  case round =>
    obtain ⟨j, cs, hj, rfl, rfl, hblk, hsz, hcs, ho⟩ := hrel
    by_cases hlt : j < n
    · have hsz' := hsz.out
      obtain ⟨v0, hv0⟩ : ∃ v, cs[j * 2]? = some v := ⟨_, Array.getElem?_eq_getElem (by omega)⟩
      obtain ⟨v1, hv1⟩ : ∃ v, cs[j * 2 + 1]? = some v := ⟨_, Array.getElem?_eq_getElem (by omega)⟩
      have d0 := (hblk.cell _).trans hv0
      have d1 := (hblk.cell _).trans hv1
      have z0 := hblk.frozen (j * 2)
      have z1 := hblk.frozen (j * 2 + 1)
      have HB := hide hblk
      have hlt' : (j : Int) < (n : Int) := by omega
      obtain ⟨K, hK⟩ : ∃ K : Int, K = ((k + j * 2 : Nat) : Int) := ⟨_, rfl⟩
      have hw1 : wrap64 (K + 1) = K + 1 := by unfold wrap64; omega
      have hw2 : wrap64 (K + 1 + 1) = K + 1 + 1 := by unfold wrap64; omega
      rw [← hK]
      replace hK := hide hK
      clear hv0 hv1 hblk hsz'
      go_wp2_with fail
      go_roundw
      case rel =>
        refine ⟨j + 1, (cs.setIfInBounds (j * 2) (.int .i64 K)).setIfInBounds (j * 2 + 1) (.int .i64 (K + 1)), by omega, by go_num, by rw [hK.out]; congr 1; unfold wrap64; omega, (HB.out.set_ _ _).set_ _ _, hide (by have := hsz.out; simpa using this), hide (fun m hm => ?_), (ho.setCell (.inl rfl) _).setCell (.inl rfl) _⟩
        rw [Array.getElem?_setIfInBounds]
        by_cases e : j * 2 + 1 = m
        · subst e; rw [if_pos rfl, if_pos (by have := hsz.out; simp; omega), hK.out]; congr 2
        · rw [if_neg e, Array.getElem?_setIfInBounds]
          by_cases e : j * 2 = m
          · subst e; rw [if_pos rfl, if_pos (by have := hsz.out; omega), hK.out]
          · rw [if_neg e]; exact hcs.out m (by omega)
      case measure => simp [intOf]; omega
    · obtain rfl : j = n := by omega
      go_wp2_with fail
      go_ret
      exact ⟨rfl, ⟨cs, hblk, by rw [marks_len]; exact hsz.out, fun m hm => by rw [marks_len] at hm; rw [marks_get _ _ _ hm]; exact hcs.out m hm⟩, ho⟩

set_option maxHeartbeats 1600000 in
theorem heldWaitS_any (A : Option Addr) (n c k : Nat) (S : Nat → Prop) (w : World) (hn : n ≤ 1048576) (hk : k ≤ 4194304) (h : IntsAt w S A (marks k (n * 2))) :
    Calls Try.prog 133 #[.slice A n c, .int .i64 k] w fun e w' => e = .returned (.int .i64 ((k + n * 2 : Nat) : Int)) ∧ w = w' := by
  go_enter Try.func133, Try.ntmps133
  go_wp2_with fail
  go_loop [1, 5] (fun l i => ∃ (j : Nat), j ≤ n ∧ i = .int .i64 j ∧ l = .int .i64 ((k + j * 2 : Nat) : Int)) (fun _ i => n - (intOf i).toNat)
  case atStart => exact ⟨0, Nat.zero_le _, rfl, rfl⟩
  case round =>
    obtain ⟨j, hj, rfl, rfl⟩ := hrel
    by_cases hlt : j < n
    · obtain ⟨b, off, rfl, _, c0, c1⟩ := h.two (marks_len _ _) hlt
      rw [marks_get _ _ _ (by omega)] at c0 c1
      have hlt' : (j : Int) < (n : Int) := by omega
      rw [show ((k + (j * 2 + 1) : Nat) : Int) = ((k + j * 2 : Nat) : Int) + 1 by omega] at c1
      obtain ⟨K, hK⟩ : ∃ K : Int, K = ((k + j * 2 : Nat) : Int) := ⟨_, rfl⟩
      have hw1 : wrap64 (K + 1) = K + 1 := by unfold wrap64; omega
      have hw2 : wrap64 (K + 1 + 1) = K + 1 + 1 := by unfold wrap64; omega
      rw [← hK] at c0 c1 ⊢
      replace hK := hide hK
      go_wp2_with fail
      go_round
      case rel => exact ⟨j + 1, by omega, by go_num, by rw [hK.out]; congr 1; unfold wrap64; omega⟩
      case measure => simp [intOf]; omega
    · obtain rfl : j = n := by omega
      go_wp2_with fail
      go_ret
      exact ⟨rfl, rfl⟩
end Go.Proofs.Ytikfbhehnpogoaa
