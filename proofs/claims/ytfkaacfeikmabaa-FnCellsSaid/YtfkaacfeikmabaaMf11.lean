/- A state: its seven pieces, in blocks of their own, apart; the same state elsewhere; a bound on its size. -/
import Derived.Test.YtfkaacfeikmabaaMf0
import Derived.Test.YtfkaacfeikmabaaMf7
import Derived.Test.YtfkaacfeikmabaaMf8
import Derived.Test.YtfkaacfeikmabaaMf9
import Derived.Test.YtfkaacfeikmabaaMf10
namespace Go.Proofs.Ytfkaacfeikmabaa
open Go.RowKit

theorem markIntS_len {w : World} {q n c : Nat} {zs : List Int} {k : Int} (hz : zs.length = n) (hn : n ≤ 1048576) (h0 : 0 ≤ k) (h1 : k ≤ 4194304) (h : RowB w q zs) :
    Calls Try.prog 72 #[.slice (some ⟨q, 0, none⟩) n c, .int .i64 k] w fun e w' => e = .returned (.int .i64 (k + n)) ∧ RowB w' q (marks k.toNat n) ∧ Only q w w' := by
  obtain ⟨j, rfl⟩ : ∃ j : Nat, k = (j : Int) := ⟨k.toNat, by omega⟩
  subst hz
  refine (markIntS_any q zs c j w hn (by omega) h).mono ?_
  rintro e w' ⟨rfl, h1, h2⟩
  exact ⟨by simp, h1, h2⟩

structure MkAt (w : World) (q : Nat) (qs : Nat → Nat) (l : List PostD) : Prop where
  row : ∃ cs, Blk w q 86 cs ∧ l.length * 4 ≤ cs.size ∧ ∀ k, k < l.length → ∃ c, cs[k * 4 + 3]? = some (.slice (some ⟨qs k, 0, none⟩) (getp l k).view.length c)
  views : ∀ k, k < l.length → ∃ zs : List Int, zs.length = (getp l k).view.length ∧ RowB w (qs k) zs
theorem PostsOwn.marked {w : World} {lo hi q : Nat} {qs : Nat → Nat} {l : List PostD} (h : PostsOwn w lo hi q qs l) : MkAt w q qs l := by
  obtain ⟨cs, h1, h2, h3⟩ := h.row
  exact ⟨⟨cs, h1, h2, fun k hk => by obtain ⟨c, ⟨_, _, _, h4⟩, _⟩ := h3 k hk; exact ⟨c, h4⟩⟩, fun k hk => ⟨_, rfl, (h.views k hk).1⟩⟩
theorem rowB_ne {w : World} {q g : Nat} {zs : List Int} {cs : Array Value} (h : RowB w g zs) (hq : Blk w q 86 cs) : g ≠ q := fun e => by
  obtain ⟨ds, h1, _⟩ := h
  subst e
  have h2 : w.heap[g]? = some (.cells cs 86 (0, 0)) := hq
  have h3 : w.heap[g]? = some (.cells ds 3 (0, 0)) := h1
  rw [h2] at h3
  cases h3

set_option maxRecDepth 100000 in
set_option maxHeartbeats 3200000 in
theorem markPostS_own {w : World} {lo hi q c : Nat} {qs : Nat → Nat} {l : List PostD} {k : Int} (hn : postSize l ≤ 1048576) (h0 : 0 ≤ k) (h1 : k + 3 * postSize l ≤ 4194304) (h : PostsOwn w lo hi q qs l) :
    Calls Try.prog 153 #[.slice (some ⟨q, 0, none⟩) l.length c, .int .i64 k] w fun e w' => ∃ z : Int, e = .returned (.int .i64 z) ∧ (k ≤ z ∧ z ≤ k + 3 * postSize l) ∧ Inn lo hi w w' := by
  have Hup := hide h.up
  have Hrng := hide h.rng
  have Hm := h.marked
  have hn2 : l.length ≤ 1048576 := by unfold postSize at hn; omega
  have Hsucc := hide (fun k (hk : k < l.length) => by have h := sumTo_succ (viewLens l) k (by rw [viewLens_len]; exact hk); rw [viewLens_get] at h; exact h)
  have Hle := hide (fun k => sumTo_le (viewLens l) k)
  have Hp := hide (show postSize l = l.length + (viewLens l).sum from rfl)
  clear h
  go_enter Try.func153, Try.ntmps153
  go_wp2_with fail
  go_loopw [1, 5] (fun q1 i wr => ∃ (j : Nat) (z : Int), j ≤ l.length ∧ i = .int .i64 j ∧ q1 = .int .i64 z ∧ k ≤ z ∧ z ≤ k + 3 * j + sumTo (viewLens l) j ∧ MkAt wr q qs l ∧ Inn lo hi w wr) (fun _ i _ => l.length - (intOf i).toNat)
  case atStart => exact ⟨0, k, Nat.zero_le _, rfl, rfl, Int.le_refl _, by simp [sumTo_zero], Hm, Inn.refl _ _ _⟩
  case round =>
    obtain ⟨j, z, hj, rfl, rfl, hz0, hz1, hmk, hin⟩ := hrel
    by_cases hlt : j < l.length
    · obtain ⟨cs, hblk, hsz, hcs⟩ := hmk.row
      obtain ⟨cv, hv3⟩ := hcs j hlt
      obtain ⟨zs, hzl, hrow⟩ := hmk.views j hlt
      have hle := Hle.out (j + 1)
      have hsc := Hsucc.out j hlt
      have hpp := Hp.out
      have hb1 : z + 3 ≤ 4194304 := by omega
      have hb2 : (getp l j).view.length ≤ 1048576 := by omega
      have hlt' : (j : Int) < (l.length : Int) := by omega
      have hz00 : 0 ≤ z := by omega
      obtain ⟨v0, hv0⟩ : ∃ v, cs[j * 4]? = some v := ⟨_, Array.getElem?_eq_getElem (by omega)⟩
      obtain ⟨v1, hv1⟩ : ∃ v, cs[j * 4 + 1]? = some v := ⟨_, Array.getElem?_eq_getElem (by omega)⟩
      obtain ⟨v2, hv2⟩ : ∃ v, cs[j * 4 + 2]? = some v := ⟨_, Array.getElem?_eq_getElem (by omega)⟩
      have g0 := (hblk.cell _).trans hv0
      have g1 := (hblk.cell _).trans hv1
      have g2 := (hblk.cell _).trans hv2
      have g3 := (hblk.cell _).trans hv3
      have z0 := hblk.frozen (j * 4)
      have z1 := hblk.frozen (j * 4 + 1)
      have z2 := hblk.frozen (j * 4 + 2)
      have HN := hide (rowB_ne hrow hblk)
      have HB := hide hblk
      have HR := hide hrow
      have HZ := hide hzl
      have HMK := hide hmk
      have HI := hide hin
      have HCS := hide hcs
      have HSZ := hide hsz
      have hsc' := hide hsc
      have hpp' := hide hpp
      clear hv0 hv1 hv2 hv3 hblk hrow hzl hmk hin hcs hsz hsc hpp
      go_wp2_with fail
      have hrow2 : RowB (((wr.setCell ⟨q, j * 4, none⟩ (Value.int .i64 z)).setCell ⟨q, j * 4 + 1, none⟩ (Value.int .i64 (z + 1))).setCell ⟨q, j * 4 + 2, none⟩ (Value.bool ((z + 1 + 1) % 3 == 0))) (qs j) zs := by
        obtain ⟨ds, d1, d2⟩ := HR.out
        refine ⟨ds, ?_, d2⟩
        iterate 3 (refine Blk.far ?_ (by show qs j ≠ q; exact HN.out) _)
        exact d1
      refine (markIntS_len HZ.out hb2 (by omega) (by omega) hrow2).mono ?_
      rintro e w5 ⟨rfl, hr5, ho5⟩
      go_wp2_with fail
      go_roundw
      case rel =>
        have hrow3 : Blk (((wr.setCell ⟨q, j * 4, none⟩ (Value.int .i64 z)).setCell ⟨q, j * 4 + 1, none⟩ (Value.int .i64 (z + 1))).setCell ⟨q, j * 4 + 2, none⟩ (Value.bool ((z + 1 + 1) % 3 == 0))) q 86 _ := ((HB.out.set_ _ _).set_ _ _).set_ _ _
        refine ⟨j + 1, z + 1 + 1 + 1 + (getp l j).view.length, by omega, by go_num, rfl, by omega, by have := hsc'.out; omega, ⟨⟨_, hrow3.only ho5 (fun e => HN.out e.symm), by have := HSZ.out; simpa using this, fun m hm => ?_⟩, fun m hm => ?_⟩, ?_⟩
        · obtain ⟨c4, h4⟩ := HCS.out m hm
          refine ⟨c4, ?_⟩
          simp only [Array.getElem?_setIfInBounds]
          rw [if_neg (by omega), if_neg (by omega), if_neg (by omega)]
          exact h4
        · by_cases e : m = j
          · subst e
            exact ⟨_, marks_len _ _, hr5⟩
          · obtain ⟨ys, y1, y2⟩ := HMK.out.views m hm
            refine ⟨ys, y1, ?_⟩
            have hne : qs m ≠ q := rowB_ne y2 HB.out
            have hne2 : qs m ≠ qs j := fun e2 => by
              rcases Nat.lt_or_gt_of_ne e with h | h
              · have := Hup.out m j h hlt; omega
              · have := Hup.out j m h hm; omega
            obtain ⟨ds, d1, d2⟩ := y2
            refine RowB.only ⟨ds, ?_, d2⟩ ho5 hne2
            iterate 3 (refine Blk.far ?_ (by show qs m ≠ q; exact hne) _)
            exact d1
        · refine HI.out.trans (Inn.trans (Inn.of_only (g := q) ?_ Hrng.out.1) (Inn.of_only ho5 (Hrng.out.2 j hlt)))
          exact (((Only.refl q wr).setCell (p := ⟨q, j * 4, none⟩) (.inl rfl) _).setCell (p := ⟨q, j * 4 + 1, none⟩) (.inl rfl) _).setCell (p := ⟨q, j * 4 + 2, none⟩) (.inl rfl) _
      case measure => simp [intOf]; omega
    · obtain rfl : j = l.length := by omega
      go_wp2_with fail
      go_ret
      exact ⟨z, rfl, ⟨hz0, by have := Hle.out l.length; have := Hp.out; omega⟩, hin⟩
end Go.Proofs.Ytfkaacfeikmabaa

namespace Go.Proofs.Ytfkaacfeikmabaa
open Go.RowKit

set_option maxHeartbeats 800000 in
theorem szHistS_any (A : Option Addr) (hs : List (List PostD)) (c : Nat) (S : Nat → Prop) (left : Int) (w : World) (h0 : 0 ≤ left) (h1 : left ≤ 1048576) (hS : ∀ b, S b → b < w.heap.size) (ha : HistsAt w S A hs) :
    Calls Try.prog 95 #[.slice A hs.length c, .int .i64 left] w fun e w' => e = .returned (.int .i64 (szR left (histSize hs))) ∧ Below w.heap.size w w' := by
  have hn := ha.1
  have Hle := hide (fun k => sumTo_le (postLens hs) k)
  have Hsucc := hide (fun k (hk : k < hs.length) => by have h := sumTo_succ (postLens hs) k (by rw [postLens_len]; exact hk); rw [postLens_get] at h; exact h)
  have Hall := hide (by have h := sumTo_all (postLens hs); rw [postLens_len] at h; exact h)
  have Hz := hide (sumTo_zero (postLens hs))
  have Hp := hide (show histSize hs = hs.length + (postLens hs).sum from rfl)
  by_cases h : left < hs.length
  · have HF := hide (szR_neg (left := left) (n := histSize hs) (by have := Hp.out; omega))
    go_enter Try.func95, Try.ntmps95
    go_wp2
    go_ret
    exact ⟨ret_int HF.out.symm, Below.refl _ _⟩
  · go_enter Try.func95, Try.ntmps95
    go_wp2
    go_loopw [1, 5] (fun q i wr => ∃ k : Nat, k ≤ hs.length ∧ (sumTo (postLens hs) k : Int) ≤ left - hs.length ∧ i = .int .i64 k ∧ q = .int .i64 (left - hs.length - sumTo (postLens hs) k) ∧ Below w.heap.size w wr) (fun _ i _ => hs.length - (intOf i).toNat)
    case atStart => exact ⟨0, Nat.zero_le _, by rw [Hz.out]; omega, rfl, by rw [Hz.out]; simp, Below.refl _ _⟩
    case round =>
      obtain ⟨k, hk, hl, rfl, rfl, hb⟩ := hrel
      by_cases hlt : k < hs.length
      · obtain ⟨b, off, rfl, hbB, hc⟩ := (ha.below hb hS).2 (by omega)
        obtain ⟨A', c', hcell, hcap, hin⟩ := hc k hlt
        have hss := Hsucc.out k hlt
        by_cases hx : left - hs.length - sumTo (postLens hs) k < postSize (geth hs k)
        · have HF := hide (szR_neg (left := left) (n := histSize hs) (by have := Hle.out (k + 1); have := Hp.out; omega))
          have kc := szHist_any A' (geth hs k) c' S (left - hs.length - sumTo (postLens hs) k) wr (by omega) (by omega) (fun b h => Nat.lt_of_lt_of_le (hS b h) hb.size) hin
          simp only [szR_neg hx] at kc
          have KC := hide kc
          clear kc hx hss
          go_wp2_with (go_at_call 157; refine KC.out.mono ?_; rintro e w1 ⟨rfl, hb1⟩)
          go_ret
          exact ⟨ret_int HF.out.symm, below_then hb hb1⟩
        · have kc := szHist_any A' (geth hs k) c' S (left - hs.length - sumTo (postLens hs) k) wr (by omega) (by omega) (fun b h => Nat.lt_of_lt_of_le (hS b h) hb.size) hin
          simp only [szR_pos hx] at kc
          have KC := hide kc
          have HX : 0 ≤ left - hs.length - sumTo (postLens hs) k - postSize (geth hs k) := by omega
          have HS := hide hss
          clear kc hx hss
          go_wp2_with (go_at_call 157; refine KC.out.mono ?_; rintro e w1 ⟨rfl, hb1⟩)
          go_roundw
          case rel => exact ⟨k + 1, by omega, by rw [HS.out]; omega, by go_num, by rw [HS.out]; go_num, below_then hb hb1⟩
          case measure => simp [intOf]; omega
      · obtain rfl : k = hs.length := by omega
        have HF := hide (show szR left (histSize hs) = left - hs.length - sumTo (postLens hs) hs.length by rw [szR_pos (by have := Hall.out; have := Hp.out; omega)]; have := Hall.out; have := Hp.out; omega)
        go_wp2
        go_ret
        exact ⟨ret_int HF.out.symm, hb⟩

set_option maxRecDepth 100000 in
set_option maxHeartbeats 800000 in
theorem eqHistS_any (A A' : Option Addr) (hs : List (List PostD)) (c c' : Nat) (S : Nat → Prop) (w : World) (hS : ∀ b, S b → b < w.heap.size) (ha : HistsAt w S A hs) (ha' : HistsAt w S A' hs) :
    Calls Try.prog 86 #[.slice A hs.length c, .slice A' hs.length c'] w fun e w' => e = .returned (.bool true) ∧ Below w.heap.size w w' := by
  have hn := ha.1
  go_enter Try.func86, Try.ntmps86
  go_wp2
  go_loopw [5] (fun i wr => ∃ (k : Nat), k ≤ hs.length ∧ i = .int .i64 k ∧ Below w.heap.size w wr) (fun i _ => hs.length - (intOf i).toNat)
  case atStart => exact ⟨0, Nat.zero_le _, rfl, Below.refl _ _⟩
  case round =>
    obtain ⟨k, hk, rfl, hb⟩ := hrel
    by_cases hlt : k < hs.length
    · obtain ⟨b, off, rfl, hbB, hc⟩ := (ha.below hb hS).2 (by omega)
      obtain ⟨b', off', rfl, hbB', hc'⟩ := (ha'.below hb hS).2 (by omega)
      obtain ⟨A2, c2, h1, hcap, h2⟩ := hc k hlt
      obtain ⟨A3, c3, h3, hcap', h4⟩ := hc' k hlt
      have hx : ((k : Int) < (hs.length : Int)) := by omega
      clear hc hc'
      go_wp2_with fail
      go_still_tail 8, (by kernel_rfl)
      have hbd := hb.drew
      have h2d : PostsAt wr.drew S A2 (geth hs k) := h2
      have h4d : PostsAt wr.drew S A3 (geth hs k) := h4
      change wpList _ _ _ _ _ wr.drew
      clear h1 h2 h3 h4
      generalize wr.drew = w2 at *
      go_wp2_with (go_at_call 151; refine (eqHist_any A2 A3 (geth hs k) c2 c3 S _ (fun b h => Nat.lt_of_lt_of_le (hS b h) hbd.size) h2d h4d).mono ?_; rintro e w3 ⟨rfl, hb3⟩)
      go_roundw
      case rel => exact ⟨k + 1, by omega, by go_num, below_then hbd hb3⟩
      case measure => simp [intOf]; omega
    · obtain rfl : k = hs.length := by omega
      go_wp2
      go_ret
      exact ⟨rfl, hb⟩

structure HistsOwn (w : World) (lo hi q : Nat) (hs : List (List PostD)) (los his pq : Nat → Nat) (qs : Nat → Nat → Nat) : Prop where
  len : hs.length ≤ 9223372036854775807
  row : ∃ cs, Blk w q 84 cs ∧ hs.length ≤ cs.size ∧ ∀ k, k < hs.length → cs[k]? = some (.slice (some ⟨pq k, 0, none⟩) (geth hs k).length (geth hs k).length)
  posts : ∀ k, k < hs.length → PostsOwn w (los k) (his k) (pq k) (qs k) (geth hs k)
  up : ∀ i j, i < j → j < hs.length → his i ≤ los j
  rng : (lo ≤ q ∧ q < hi) ∧ ∀ k, k < hs.length → (q < los k ∨ his k ≤ q) ∧ lo ≤ los k ∧ his k ≤ hi
section
variable {w w' : World} {lo hi lo' hi' q : Nat} {hs : List (List PostD)} {los his pq : Nat → Nat} {qs : Nat → Nat → Nat}
theorem HistsOwn.at_ (h : HistsOwn w lo hi q hs los his pq qs) : HistsAt w (New lo hi) (some ⟨q, 0, none⟩) hs := by
  obtain ⟨cs, hb, -, hc⟩ := h.row
  refine ⟨h.len, fun _ => ⟨q, 0, rfl, h.rng.1, fun k hk => ⟨_, _, ?_, Nat.le_refl _, (h.posts k hk).at_.more (fun b hb => ?_)⟩⟩⟩
  · rw [Nat.zero_add, hb.cell]; exact hc k hk
  · have h1 := h.rng.1.1
    have h2 := h.rng.2 k hk
    exact ⟨by have := hb.1; omega, by have := hb.2; omega⟩
theorem HistsOwn.keep (h : HistsOwn w lo hi q hs los his pq qs) (hk : ∀ b, lo ≤ b → b < hi → b < w.heap.size → w'.heap[b]? = w.heap[b]?) : HistsOwn w' lo hi q hs los his pq qs := by
  obtain ⟨cs, hb, h2, h3⟩ := h.row
  refine ⟨h.len, ⟨cs, (hk q h.rng.1.1 h.rng.1.2 hb.lt).trans hb, h2, h3⟩, fun k hkl => (h.posts k hkl).keep (fun b h1 h2 hl => hk b ?_ ?_ hl), h.up, h.rng⟩
  · have := h.rng.1.1; have := h.rng.2 k hkl; omega
  · have := h.rng.2 k hkl; omega
theorem HistsOwn.next (h : HistsOwn w lo hi q hs los his pq qs) (hb : Below w.heap.size w w') : HistsOwn w' lo hi q hs los his pq qs := h.keep (fun b _ _ hl => hb.block b hl)
end

theorem Try.infoHist : (Try.prog.info? 84).map (fun i => (i.zero, i.size, i.bytes)) = some (some (.agg #[.slice none 0 0]), 1, 24) := by kernel_rfl
theorem make_hists (n : Nat) (hn : n ≤ 1048576) (W : World) : (Instr.makeSlice 46 (.int .i64 (n : Int)) (.int .i64 (n : Int))).run Try.prog W = .ok (.slice (some ⟨W.heap.size, 0, none⟩) n n) (W.alloc (.cells (zrow #[.slice none 0 0] n) 84)) := by
  obtain ⟨i0, hi, hz0, hz1, hz2⟩ := info_parts Try.infoHist
  have hr := run_make (P := Try.prog) W 46 84 i0 _ Try.underlying46 hi hz0 .i64 .i64 n n (by omega) (Int.le_refl _) (by rw [hz2]; omega) (by omega)
  simp only [Int.toNat_natCast, hz1, Nat.mul_one] at hr
  exact hr

structure HistCells (w : World) (lo : Nat) (cs : Array Value) (hs : List (List PostD)) (los his pq : Nat → Nat) (qs : Nat → Nat → Nat) (k : Nat) : Prop where
  cells : ∀ j, j < k → cs[j]? = some (.slice (some ⟨pq j, 0, none⟩) (geth hs j).length (geth hs j).length)
  posts : ∀ j, j < k → PostsOwn w (los j) (his j) (pq j) (qs j) (geth hs j)
  up : ∀ i j, i < j → j < k → his i ≤ los j
  rng : ∀ j, j < k → lo ≤ los j ∧ his j ≤ w.heap.size

set_option maxRecDepth 100000 in
set_option maxHeartbeats 1600000 in
theorem toHistS_own (A : Option Addr) (hs : List (List PostD)) (c : Nat) (S : Nat → Prop) (w : World) (hn : histSize hs ≤ 1048576) (hS : ∀ b, S b → b < w.heap.size) (ha : HistsAt w S A hs) :
    Calls Try.prog 100 #[.slice A hs.length c] w fun e w' => ∃ q los his pq qs, e = .returned (.slice (some ⟨q, 0, none⟩) hs.length hs.length) ∧ HistsOwn w' w.heap.size w'.heap.size q hs los his pq qs ∧ Below w.heap.size w w' := by
  have hn2 : hs.length ≤ 1048576 := by unfold histSize at hn; omega
  have hmk := make_hists hs.length hn2
  go_enter Try.func100, Try.ntmps100
  go_wp2
  clear hmk
  go_loopw [4] (fun i wr => ∃ (k : Nat) (cs : Array Value) (los his pq : Nat → Nat) (qs : Nat → Nat → Nat), k ≤ hs.length ∧ i = .int .i64 k ∧ Blk wr w.heap.size 84 cs ∧ Hid (cs.size = hs.length) ∧ HistCells wr (w.heap.size + 1) cs hs los his pq qs k ∧ Below w.heap.size w wr) (fun i _ => hs.length - (intOf i).toNat)
  case atStart => exact ⟨0, _, fun _ => 0, fun _ => 0, fun _ => 0, fun _ _ => 0, Nat.zero_le _, rfl, Blk.new _ _ _, hide (zrow_size _ _), ⟨fun j hj => by omega, fun j hj => by omega, fun i j _ hj => by omega, fun j hj => by omega⟩, below1 _ _⟩
  case round =>
    obtain ⟨k, cs, los, his, pq, qs, hk, rfl, hblk, hsz, hcs, hb⟩ := hrel
    by_cases hlt : k < hs.length
    · obtain ⟨b, off, rfl, hbB, hc⟩ := (ha.below hb hS).2 (by omega)
      obtain ⟨A', c', hcell, hcap, hin⟩ := hc k hlt
      have hlt2 := hblk.lt
      have hgl := posts_le hs k hlt
      have HB := hide hblk
      clear hblk hc
      go_wp2_with fail
      refine (toHist_any A' (geth hs k) c' S wr (by omega) (fun b h => Nat.lt_of_lt_of_le (hS b h) hb.size) hin).mono ?_
      rintro e w1 ⟨qk, qsk, rfl, hl, hb1⟩
      have hblk1 := HB.out.below hb1 hlt2
      obtain ⟨v0, hv0⟩ : ∃ v, cs[k]? = some v := ⟨_, Array.getElem?_eq_getElem (by have := hsz.out; omega)⟩
      have g0 := (hblk1.cell _).trans hv0
      have z0 := hblk1.frozen k
      have HB1 := hide hblk1
      clear hv0 hblk1
      go_wp2_with fail
      go_roundw
      case rel =>
        have hs1 := hb1.size
        have hsb := hb.size
        refine ⟨k + 1, cs.setIfInBounds k (.slice (some ⟨qk, 0, none⟩) (geth hs k).length (geth hs k).length), fun j => if j = k then wr.heap.size else los j, fun j => if j = k then w1.heap.size else his j, fun j => if j = k then qk else pq j, fun j => if j = k then qsk else qs j, by omega, by go_num, HB1.out.set_ _ _, hide (by rw [Array.size_setIfInBounds]; exact hsz.out), ⟨fun j hj => ?_, fun j hj => ?_, fun i j hij hj => ?_, fun j hj => ?_⟩, (below_then hb hb1).setCell (Nat.le_refl _) _⟩
        · by_cases e : j = k
          · subst e
            simp only [if_true]
            rw [Array.getElem?_setIfInBounds, if_pos rfl, if_pos (by have := hsz.out; omega)]
          · simp only [if_neg e]
            rw [Array.getElem?_setIfInBounds, if_neg (fun e2 => e e2.symm)]
            exact hcs.cells j (by omega)
        · by_cases e : j = k
          · subst e
            simp only [if_true]
            exact hl.keep (fun b h1 h2 _ => Below.heap_setCell _ _ _ _ (by show b ≠ w.heap.size; omega))
          · simp only [if_neg e]
            have hr := hcs.rng j (by omega)
            exact ((hcs.posts j (by omega)).keep (fun b h1 h2 hl => hb1.block b hl)).keep (fun b h1 h2 _ => Below.heap_setCell _ _ _ _ (by show b ≠ w.heap.size; omega))
        · by_cases e : j = k
          · have hi : i ≠ k := by omega
            simp only [if_pos e, if_neg hi]
            exact (hcs.rng i (by omega)).2
          · have hi : i ≠ k := by omega
            simp only [if_neg e, if_neg hi]
            exact hcs.up i j hij (by omega)
        · by_cases e : j = k
          · simp only [if_pos e]
            exact ⟨by omega, by simp [World.setCell]⟩
          · simp only [if_neg e]
            have hr := hcs.rng j (by omega)
            exact ⟨hr.1, by simp [World.setCell]; omega⟩
      case measure => simp [intOf]; omega
    · obtain rfl : k = hs.length := by omega
      go_wp2
      go_ret
      exact ⟨w.heap.size, los, his, pq, qs, rfl, ⟨ha.1, ⟨cs, hblk, by rw [hsz.out]; exact Nat.le_refl _, hcs.cells⟩, hcs.posts, hcs.up, ⟨⟨Nat.le_refl _, hblk.lt⟩, fun k hk => ⟨.inl (by have := (hcs.rng k hk).1; omega), by have := (hcs.rng k hk).1; omega, (hcs.rng k hk).2⟩⟩⟩, hb⟩

set_option maxRecDepth 100000 in
set_option maxHeartbeats 1600000 in
theorem markHistS_own {w : World} {lo hi q c : Nat} {hs : List (List PostD)} {los his pq : Nat → Nat} {qs : Nat → Nat → Nat} {k : Int} (hn : histSize hs ≤ 1048576) (h0 : 0 ≤ k) (h1 : k + 3 * histSize hs ≤ 4194304) (h : HistsOwn w lo hi q hs los his pq qs) :
    Calls Try.prog 89 #[.slice (some ⟨q, 0, none⟩) hs.length c, .int .i64 k] w fun e w' => ∃ z : Int, e = .returned (.int .i64 z) ∧ (k ≤ z ∧ z ≤ k + 3 * histSize hs) ∧ Inn lo hi w w' := by
  have H := hide h
  have hn2 : hs.length ≤ 1048576 := by unfold histSize at hn; omega
  have Hsucc := hide (fun k (hk : k < hs.length) => by have h := sumTo_succ (postLens hs) k (by rw [postLens_len]; exact hk); rw [postLens_get] at h; exact h)
  have Hle := hide (fun k => sumTo_le (postLens hs) k)
  have Hp := hide (show histSize hs = hs.length + (postLens hs).sum from rfl)
  clear h
  go_enter Try.func89, Try.ntmps89
  go_wp2_with fail
  go_loopw [1, 5] (fun q1 i wr => ∃ (j : Nat) (z : Int), j ≤ hs.length ∧ i = .int .i64 j ∧ q1 = .int .i64 z ∧ k ≤ z ∧ z ≤ k + 3 * sumTo (postLens hs) j ∧ (∃ cs, Blk wr q 84 cs ∧ ∀ m, m < hs.length → cs[m]? = some (.slice (some ⟨pq m, 0, none⟩) (geth hs m).length (geth hs m).length)) ∧ Hid (∀ m, j ≤ m → m < hs.length → PostsOwn wr (los m) (his m) (pq m) (qs m) (geth hs m)) ∧ Inn lo hi w wr) (fun _ i _ => hs.length - (intOf i).toNat)
  case atStart =>
    obtain ⟨cs, c1, _, c2⟩ := H.out.row
    exact ⟨0, k, Nat.zero_le _, rfl, rfl, Int.le_refl _, by simp [sumTo_zero], ⟨cs, c1, c2⟩, hide (fun m _ hm => H.out.posts m hm), Inn.refl _ _ _⟩
  case round =>
    obtain ⟨j, z, hj, rfl, rfl, hz0, hz1, ⟨cs, hblk, hcs⟩, hps, hin⟩ := hrel
    by_cases hlt : j < hs.length
    · have hle := Hle.out (j + 1)
      have hsc := Hsucc.out j hlt
      have hpp := Hp.out
      have hpl := posts_le hs j hlt
      have hb1 : z + 3 * postSize (geth hs j) ≤ 4194304 := by omega
      have hb2 : postSize (geth hs j) ≤ 1048576 := by omega
      have hlt' : (j : Int) < (hs.length : Int) := by omega
      have hz00 : 0 ≤ z := by omega
      have g0 := (hblk.cell _).trans (hcs j hlt)
      have HB := hide hblk
      have HCS := hide hcs
      have HI := hide hin
      have hsc' := hide hsc
      clear hblk hcs hin hsc hpp hle
      go_wp2_with fail
      refine (markPostS_own hb2 hz00 hb1 (hps.out j (Nat.le_refl _) hlt)).mono ?_
      rintro e w5 ⟨z5, rfl, hz5, hi5⟩
      have hr5 := H.out.rng.2 j hlt
      have hr6 := H.out.rng.1
      go_wp2_with fail
      go_roundw
      case rel =>
        refine ⟨j + 1, z5, by omega, by go_num, rfl, by omega, by have := hsc'.out; omega, ⟨cs, (hi5.block q HB.out.lt (by omega)).trans HB.out, HCS.out⟩, hide (fun m hm1 hm2 => ?_), HI.out.trans (hi5.wide (by omega) (by omega))⟩
        refine (hps.out m (by omega) hm2).keep (fun b hb1 hb2 hbl => hi5.block b hbl (fun hh => ?_))
        have := H.out.up j m (by omega) hm2
        omega
      case measure => simp [intOf]; omega
    · obtain rfl : j = hs.length := by omega
      go_wp2_with fail
      go_ret
      exact ⟨z, rfl, ⟨hz0, by have := Hle.out hs.length; have := Hp.out; omega⟩, hin⟩
end Go.Proofs.Ytfkaacfeikmabaa

namespace Go.Proofs.Ytfkaacfeikmabaa
open Go.RowKit

structure RowsP where
  lo : Nat
  hi : Nat
  A : Option Addr
  n : Nat
  c : Nat
  rs : List RowD
structure HistP where
  lo : Nat
  hi : Nat
  A : Option Addr
  n : Nat
  c : Nat
  hs : List (List PostD)
  los : Nat → Nat
  his : Nat → Nat
  pq : Nat → Nat
  qs : Nat → Nat → Nat
structure StD where
  kind : Int
  pc : RowD
  F : RowsP
  mem : RowD
  bufs : RowsP
  H : HistP
  view : RowsP
  sc : RowD
  next : Int
def StD.cells (s : StD) : Array Value := #[.int .i64 s.kind, .slice s.pc.A s.pc.n s.pc.c, .slice s.F.A s.F.n s.F.c, .slice s.mem.A s.mem.n s.mem.c, .slice s.bufs.A s.bufs.n s.bufs.c, .slice s.H.A s.H.n s.H.c, .slice s.view.A s.view.n s.view.c, .slice s.sc.A s.sc.n s.sc.c, .int .i64 s.next]
def StD.iv (s : StD) (i : Nat) : Nat × Nat := [(s.pc.lo, s.pc.hi), (s.F.lo, s.F.hi), (s.mem.lo, s.mem.hi), (s.bufs.lo, s.bufs.hi), (s.H.lo, s.H.hi), (s.view.lo, s.view.hi), (s.sc.lo, s.sc.hi)].getD i (0, 0)

def HistsI (w : World) (r : HistP) : Prop := r.hs = [] ∨ ∃ q, r.A = some ⟨q, 0, none⟩ ∧ HistsOwn w r.lo r.hi q r.hs r.los r.his r.pq r.qs
def RowD.ok (w : World) (r : RowD) : Prop := RvI 3 w r.lo r.hi (.slice r.A r.n r.c) r.n r.zs ∧ r.zs.length = r.n ∧ r.n ≤ 1048576
def RowsP.okF (w : World) (r : RowsP) : Prop := RowsI 69 3 w r.lo r.hi r.A r.rs ∧ r.rs.length = r.n ∧ r.n ≤ 1048576 ∧ ∀ k, k < r.rs.length → (getr r.rs k).zs.length = (getr r.rs k).n ∧ (getr r.rs k).n ≤ 1048576
def RowsP.okB (w : World) (r : RowsP) : Prop := RowsI 182 197 w r.lo r.hi r.A r.rs ∧ r.rs.length = r.n ∧ r.n ≤ 1048576 ∧ ∀ k, k < r.rs.length → (getr r.rs k).zs.length = (getr r.rs k).n * 2 ∧ (getr r.rs k).n ≤ 1048576
def HistP.ok (w : World) (r : HistP) : Prop := HistsI w r ∧ r.hs.length = r.n ∧ histSize r.hs ≤ 1048576

structure StIn (w : World) (s : StD) : Prop where
  pc : s.pc.ok w
  F : s.F.okF w
  mem : s.mem.ok w
  bufs : s.bufs.okB w
  H : s.H.ok w
  view : s.view.okF w
  sc : s.sc.ok w
  apart : ∀ i j, i < j → j < 7 → (s.iv i).2 ≤ (s.iv j).1 ∨ (s.iv j).2 ≤ (s.iv i).1
  bnd : ∀ i, i < 7 → (s.iv i).2 ≤ w.heap.size

section
variable {w w' : World} {lo hi g : Nat} {t : TypeId} {cs : Array Value}
theorem Blk.inn (h : Blk w g t cs) (hi' : Inn lo hi w w') (ha : g < lo ∨ hi ≤ g) : Blk w' g t cs := (hi'.block g h.lt (by omega)).trans h
theorem RowD.ok.inn {r : RowD} (h : r.ok w) (hi' : Inn lo hi w w') (ha : hi ≤ r.lo ∨ r.hi ≤ lo) : r.ok w' := ⟨h.1.keep (fun b b1 b2 b3 => hi'.block b b3 (by omega)), h.2⟩
theorem RowsP.okF.inn {r : RowsP} (h : r.okF w) (hi' : Inn lo hi w w') (ha : hi ≤ r.lo ∨ r.hi ≤ lo) : r.okF w' := ⟨h.1.keep (fun b b1 b2 b3 => hi'.block b b3 (by omega)), h.2⟩
theorem RowsP.okB.inn {r : RowsP} (h : r.okB w) (hi' : Inn lo hi w w') (ha : hi ≤ r.lo ∨ r.hi ≤ lo) : r.okB w' := ⟨h.1.keep (fun b b1 b2 b3 => hi'.block b b3 (by omega)), h.2⟩
theorem HistsI.keep {r : HistP} (h : HistsI w r) (hk : ∀ b, r.lo ≤ b → b < r.hi → b < w.heap.size → w'.heap[b]? = w.heap[b]?) : HistsI w' r := by
  rcases h with h | ⟨q, e, h⟩
  · exact .inl h
  · exact .inr ⟨q, e, h.keep hk⟩
theorem HistP.ok.inn {r : HistP} (h : r.ok w) (hi' : Inn lo hi w w') (ha : hi ≤ r.lo ∨ r.hi ≤ lo) : r.ok w' := ⟨h.1.keep (fun b b1 b2 b3 => hi'.block b b3 (by omega)), h.2⟩
end
section
variable {w w' : World} {s : StD}
theorem Apart.sym {a b c d : Nat} (h : a ≤ b ∨ c ≤ d) : c ≤ d ∨ a ≤ b := h.symm
theorem StIn.next (h : StIn w s) (hb : Below w.heap.size w w') : StIn w' s :=
  have hi : Inn 0 0 w w' := Inn.of_below hb
  ⟨h.pc.inn hi (.inl (Nat.zero_le _)), h.F.inn hi (.inl (Nat.zero_le _)), h.mem.inn hi (.inl (Nat.zero_le _)), h.bufs.inn hi (.inl (Nat.zero_le _)), h.H.inn hi (.inl (Nat.zero_le _)), h.view.inn hi (.inl (Nat.zero_le _)), h.sc.inn hi (.inl (Nat.zero_le _)), h.apart, fun i hi => Nat.le_trans (h.bnd i hi) hb.size⟩
theorem StIn.stPc (h : StIn w s) {zs : List Int} (hk : ({ s.pc with zs := zs } : RowD).ok w') (hi : Inn s.pc.lo s.pc.hi w w') : StIn w' { s with pc := { s.pc with zs := zs } } :=
  ⟨hk, h.F.inn hi (h.apart 0 1 (by omega) (by omega)), h.mem.inn hi (h.apart 0 2 (by omega) (by omega)), h.bufs.inn hi (h.apart 0 3 (by omega) (by omega)), h.H.inn hi (h.apart 0 4 (by omega) (by omega)), h.view.inn hi (h.apart 0 5 (by omega) (by omega)), h.sc.inn hi (h.apart 0 6 (by omega) (by omega)), h.apart, fun i hi' => Nat.le_trans (h.bnd i hi') hi.size⟩
theorem StIn.stF (h : StIn w s) {rs : List RowD} (hk : ({ s.F with rs := rs } : RowsP).okF w') (hi : Inn s.F.lo s.F.hi w w') : StIn w' { s with F := { s.F with rs := rs } } :=
  ⟨h.pc.inn hi (h.apart 0 1 (by omega) (by omega)).symm, hk, h.mem.inn hi (h.apart 1 2 (by omega) (by omega)), h.bufs.inn hi (h.apart 1 3 (by omega) (by omega)), h.H.inn hi (h.apart 1 4 (by omega) (by omega)), h.view.inn hi (h.apart 1 5 (by omega) (by omega)), h.sc.inn hi (h.apart 1 6 (by omega) (by omega)), h.apart, fun i hi' => Nat.le_trans (h.bnd i hi') hi.size⟩
theorem StIn.stMem (h : StIn w s) {zs : List Int} (hk : ({ s.mem with zs := zs } : RowD).ok w') (hi : Inn s.mem.lo s.mem.hi w w') : StIn w' { s with mem := { s.mem with zs := zs } } :=
  ⟨h.pc.inn hi (h.apart 0 2 (by omega) (by omega)).symm, h.F.inn hi (h.apart 1 2 (by omega) (by omega)).symm, hk, h.bufs.inn hi (h.apart 2 3 (by omega) (by omega)), h.H.inn hi (h.apart 2 4 (by omega) (by omega)), h.view.inn hi (h.apart 2 5 (by omega) (by omega)), h.sc.inn hi (h.apart 2 6 (by omega) (by omega)), h.apart, fun i hi' => Nat.le_trans (h.bnd i hi') hi.size⟩
theorem StIn.stBufs (h : StIn w s) {rs : List RowD} (hk : ({ s.bufs with rs := rs } : RowsP).okB w') (hi : Inn s.bufs.lo s.bufs.hi w w') : StIn w' { s with bufs := { s.bufs with rs := rs } } :=
  ⟨h.pc.inn hi (h.apart 0 3 (by omega) (by omega)).symm, h.F.inn hi (h.apart 1 3 (by omega) (by omega)).symm, h.mem.inn hi (h.apart 2 3 (by omega) (by omega)).symm, hk, h.H.inn hi (h.apart 3 4 (by omega) (by omega)), h.view.inn hi (h.apart 3 5 (by omega) (by omega)), h.sc.inn hi (h.apart 3 6 (by omega) (by omega)), h.apart, fun i hi' => Nat.le_trans (h.bnd i hi') hi.size⟩
theorem StIn.stH (h : StIn w s) {hs : List (List PostD)} (hk : ({ s.H with hs := hs } : HistP).ok w') (hi : Inn s.H.lo s.H.hi w w') : StIn w' { s with H := { s.H with hs := hs } } :=
  ⟨h.pc.inn hi (h.apart 0 4 (by omega) (by omega)).symm, h.F.inn hi (h.apart 1 4 (by omega) (by omega)).symm, h.mem.inn hi (h.apart 2 4 (by omega) (by omega)).symm, h.bufs.inn hi (h.apart 3 4 (by omega) (by omega)).symm, hk, h.view.inn hi (h.apart 4 5 (by omega) (by omega)), h.sc.inn hi (h.apart 4 6 (by omega) (by omega)), h.apart, fun i hi' => Nat.le_trans (h.bnd i hi') hi.size⟩
theorem StIn.stView (h : StIn w s) {rs : List RowD} (hk : ({ s.view with rs := rs } : RowsP).okF w') (hi : Inn s.view.lo s.view.hi w w') : StIn w' { s with view := { s.view with rs := rs } } :=
  ⟨h.pc.inn hi (h.apart 0 5 (by omega) (by omega)).symm, h.F.inn hi (h.apart 1 5 (by omega) (by omega)).symm, h.mem.inn hi (h.apart 2 5 (by omega) (by omega)).symm, h.bufs.inn hi (h.apart 3 5 (by omega) (by omega)).symm, h.H.inn hi (h.apart 4 5 (by omega) (by omega)).symm, hk, h.sc.inn hi (h.apart 5 6 (by omega) (by omega)), h.apart, fun i hi' => Nat.le_trans (h.bnd i hi') hi.size⟩
theorem StIn.stSc (h : StIn w s) {zs : List Int} (hk : ({ s.sc with zs := zs } : RowD).ok w') (hi : Inn s.sc.lo s.sc.hi w w') : StIn w' { s with sc := { s.sc with zs := zs } } :=
  ⟨h.pc.inn hi (h.apart 0 6 (by omega) (by omega)).symm, h.F.inn hi (h.apart 1 6 (by omega) (by omega)).symm, h.mem.inn hi (h.apart 2 6 (by omega) (by omega)).symm, h.bufs.inn hi (h.apart 3 6 (by omega) (by omega)).symm, h.H.inn hi (h.apart 4 6 (by omega) (by omega)).symm, h.view.inn hi (h.apart 5 6 (by omega) (by omega)).symm, hk, h.apart, fun i hi' => Nat.le_trans (h.bnd i hi') hi.size⟩
end

def stB (s : StD) : Nat := s.pc.n + (rlens s.F.rs).sum + s.mem.n + (rlens s.bufs.rs).sum + 3 * histSize s.H.hs + (rlens s.view.rs).sum + s.sc.n
section
variable {w : World}
theorem HistsI.at_ {r : HistP} (h : HistsI w r) (hb : r.hi ≤ w.heap.size) : HistsAt w (Old w.heap.size) r.A r.hs := by
  rcases h with h | ⟨q, e, h⟩
  · rw [h]; exact ⟨by simp, fun h => by simp at h⟩
  · rw [e]; exact h.at_.more (fun b h => by unfold New at h; unfold Old; omega)
end
structure SameSt (s s' : StD) : Prop where
  kind : s.kind = s'.kind
  pc : s.pc.n = s'.pc.n ∧ s.pc.zs = s'.pc.zs
  F : SameRows s.F.rs s'.F.rs
  mem : s.mem.n = s'.mem.n ∧ s.mem.zs = s'.mem.zs
  bufs : SameRows s.bufs.rs s'.bufs.rs
  H : s.H.hs = s'.H.hs
  view : SameRows s.view.rs s'.view.rs
  sc : s.sc.n = s'.sc.n ∧ s.sc.zs = s'.sc.zs
  next : s.next = s'.next

theorem Blk.nine {w : World} {g : Nat} {t : TypeId} {s : StD} (h : Blk w g t s.cells) :
    w.cell? ⟨g, 1, none⟩ = some (.slice s.pc.A s.pc.n s.pc.c) ∧ w.cell? ⟨g, 2, none⟩ = some (.slice s.F.A s.F.n s.F.c) ∧ w.cell? ⟨g, 3, none⟩ = some (.slice s.mem.A s.mem.n s.mem.c) ∧ w.cell? ⟨g, 4, none⟩ = some (.slice s.bufs.A s.bufs.n s.bufs.c) ∧ w.cell? ⟨g, 5, none⟩ = some (.slice s.H.A s.H.n s.H.c) ∧ w.cell? ⟨g, 6, none⟩ = some (.slice s.view.A s.view.n s.view.c) ∧ w.cell? ⟨g, 7, none⟩ = some (.slice s.sc.A s.sc.n s.sc.c) ∧ w.cell? ⟨g, 0, none⟩ = some (.int .i64 s.kind) ∧ w.cell? ⟨g, 8, none⟩ = some (.int .i64 s.next) :=
  ⟨h.cell 1, h.cell 2, h.cell 3, h.cell 4, h.cell 5, h.cell 6, h.cell 7, h.cell 0, h.cell 8⟩
end Go.Proofs.Ytfkaacfeikmabaa
