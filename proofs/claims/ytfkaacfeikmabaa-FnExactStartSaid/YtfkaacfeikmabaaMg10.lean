/- laws' helpers on a row of histories: szHistS, toHistS, eqHistS, markHistS. -/
import Derived.Test.YtfkaacfeikmabaaMg9
namespace Go.Proofs.Ytfkaacfeikmabaa
open Go.RowKit

set_option maxHeartbeats 800000 in
theorem szHistS_any (A : Option Addr) (hs : List (List PostD)) (c : Nat) (S : Nat → Prop) (left : Int) (w : World) (h0 : 0 ≤ left) (h1 : left ≤ 1048576) (hS : ∀ b, S b → b < w.heap.size) (ha : HistsAt w S A hs) :
    Calls Try.prog 95 #[.slice A hs.length c, .int .i64 left] w fun e w' => e = .returned (.int .i64 (szR left (histSize hs))) ∧ Below w.heap.size w w' := by
  have hn := ha.1
  have Hle := hide (fun k => sumTo_le (postLens hs) k)
  have Hsucc := hide (fun k (hk : k < hs.length) => by have h := sumTo_succ (postLens hs) k (by rw [postLens_len]; exact hk); rw [postLens_get] at h; exact h)
  have Hall := hide (by have h := sumTo_all (postLens hs); rw [postLens_len] at h; exact h)
  have Hz := hide (sumTo_zero (postLens hs))
  have Hp := hide (show histSize hs = hs.length + (postLens hs).sum from rfl)
  by_cases h : left < hs.length
  · have HF := hide (szR_neg (left := left) (n := histSize hs) (by have := Hp.out; omega))
    go_enter Try.func95, Try.ntmps95
    go_wp2
    go_ret
    exact ⟨ret_int HF.out.symm, Below.refl _ _⟩
  · go_enter Try.func95, Try.ntmps95
    go_wp2
    go_loopw [1, 5] (fun q i wr => ∃ k : Nat, k ≤ hs.length ∧ (sumTo (postLens hs) k : Int) ≤ left - hs.length ∧ i = .int .i64 k ∧ q = .int .i64 (left - hs.length - sumTo (postLens hs) k) ∧ Below w.heap.size w wr) (fun _ i _ => hs.length - (intOf i).toNat)
    case atStart => exact ⟨0, Nat.zero_le _, by rw [Hz.out]; omega, rfl, by rw [Hz.out]; simp, Below.refl _ _⟩
    case round =>
      obtain ⟨k, hk, hl, rfl, rfl, hb⟩ := hrel
      by_cases hlt : k < hs.length
      · obtain ⟨b, off, rfl, hbB, hc⟩ := (ha.below hb hS).2 (by omega)
        obtain ⟨A', c', hcell, hcap, hin⟩ := hc k hlt
        have hss := Hsucc.out k hlt
        by_cases hx : left - hs.length - sumTo (postLens hs) k < postSize (geth hs k)
        · have HF := hide (szR_neg (left := left) (n := histSize hs) (by have := Hle.out (k + 1); have := Hp.out; omega))
          have kc := szHist_any A' (geth hs k) c' S (left - hs.length - sumTo (postLens hs) k) wr (by omega) (by omega) (fun b h => Nat.lt_of_lt_of_le (hS b h) hb.size) hin
          simp only [szR_neg hx] at kc
          have KC := hide kc
          clear kc hx hss
          go_wp2_with (go_at_call 157; refine KC.out.mono ?_; rintro e w1 ⟨rfl, hb1⟩)
          go_ret
          exact ⟨ret_int HF.out.symm, below_then hb hb1⟩
        · have kc := szHist_any A' (geth hs k) c' S (left - hs.length - sumTo (postLens hs) k) wr (by omega) (by omega) (fun b h => Nat.lt_of_lt_of_le (hS b h) hb.size) hin
          simp only [szR_pos hx] at kc
          have KC := hide kc
          have HX : 0 ≤ left - hs.length - sumTo (postLens hs) k - postSize (geth hs k) := by omega
          have HS := hide hss
          clear kc hx hss
          go_wp2_with (go_at_call 157; refine KC.out.mono ?_; rintro e w1 ⟨rfl, hb1⟩)
          go_roundw
          case rel => exact ⟨k + 1, by omega, by rw [HS.out]; omega, by go_num, by rw [HS.out]; go_num, below_then hb hb1⟩
          case measure => simp [intOf]; omega
      · obtain rfl : k = hs.length := by omega
        have HF := hide (show szR left (histSize hs) = left - hs.length - sumTo (postLens hs) hs.length by rw [szR_pos (by have := Hall.out; have := Hp.out; omega)]; have := Hall.out; have := Hp.out; omega)
        go_wp2
        go_ret
        exact ⟨ret_int HF.out.symm, hb⟩

set_option maxRecDepth 100000 in
set_option maxHeartbeats 800000 in
theorem eqHistS_any (A A' : Option Addr) (hs : List (List PostD)) (c c' : Nat) (S : Nat → Prop) (w : World) (hS : ∀ b, S b → b < w.heap.size) (ha : HistsAt w S A hs) (ha' : HistsAt w S A' hs) :
    Calls Try.prog 86 #[.slice A hs.length c, .slice A' hs.length c'] w fun e w' => e = .returned (.bool true) ∧ Below w.heap.size w w' := by
  have hn := ha.1
  go_enter Try.func86, Try.ntmps86
  go_wp2
  go_loopw [5] (fun i wr => ∃ (k : Nat), k ≤ hs.length ∧ i = .int .i64 k ∧ Below w.heap.size w wr) (fun i _ => hs.length - (intOf i).toNat)
  case atStart => exact ⟨0, Nat.zero_le _, rfl, Below.refl _ _⟩
  case round =>
    obtain ⟨k, hk, rfl, hb⟩ := hrel
    by_cases hlt : k < hs.length
    · obtain ⟨b, off, rfl, hbB, hc⟩ := (ha.below hb hS).2 (by omega)
      obtain ⟨b', off', rfl, hbB', hc'⟩ := (ha'.below hb hS).2 (by omega)
      obtain ⟨A2, c2, h1, hcap, h2⟩ := hc k hlt
      obtain ⟨A3, c3, h3, hcap', h4⟩ := hc' k hlt
      have hx : ((k : Int) < (hs.length : Int)) := by omega
      clear hc hc'
      go_wp2_with fail
      go_still_tail 8, (by kernel_rfl)
      have hbd := hb.drew
      have h2d : PostsAt wr.drew S A2 (geth hs k) := h2
      have h4d : PostsAt wr.drew S A3 (geth hs k) := h4
      change wpList _ _ _ _ _ wr.drew
      clear h1 h2 h3 h4
      generalize wr.drew = w2 at *
      go_wp2_with (go_at_call 151; refine (eqHist_any A2 A3 (geth hs k) c2 c3 S _ (fun b h => Nat.lt_of_lt_of_le (hS b h) hbd.size) h2d h4d).mono ?_; rintro e w3 ⟨rfl, hb3⟩)
      go_roundw
      case rel => exact ⟨k + 1, by omega, by go_num, below_then hbd hb3⟩
      case measure => simp [intOf]; omega
    · obtain rfl : k = hs.length := by omega
      go_wp2
      go_ret
      exact ⟨rfl, hb⟩

/-- A row of histories of its own: at the head of block q; each history's blocks between los k and his k, one behind the other. -/
structure HistsOwn (w : World) (lo hi q : Nat) (hs : List (List PostD)) (los his pq : Nat → Nat) (qs : Nat → Nat → Nat) : Prop where
  len : hs.length ≤ 9223372036854775807
  row : ∃ cs, Blk w q 84 cs ∧ hs.length ≤ cs.size ∧ ∀ k, k < hs.length → cs[k]? = some (.slice (some ⟨pq k, 0, none⟩) (geth hs k).length (geth hs k).length)
  posts : ∀ k, k < hs.length → PostsOwn w (los k) (his k) (pq k) (qs k) (geth hs k)
  up : ∀ i j, i < j → j < hs.length → his i ≤ los j
  rng : (lo ≤ q ∧ q < hi) ∧ ∀ k, k < hs.length → (q < los k ∨ his k ≤ q) ∧ lo ≤ los k ∧ his k ≤ hi
section
variable {w w' : World} {lo hi lo' hi' q : Nat} {hs : List (List PostD)} {los his pq : Nat → Nat} {qs : Nat → Nat → Nat}
theorem HistsOwn.at_ (h : HistsOwn w lo hi q hs los his pq qs) : HistsAt w (New lo hi) (some ⟨q, 0, none⟩) hs := by
  obtain ⟨cs, hb, -, hc⟩ := h.row
  refine ⟨h.len, fun _ => ⟨q, 0, rfl, h.rng.1, fun k hk => ⟨_, _, ?_, Nat.le_refl _, (h.posts k hk).at_.more (fun b hb => ?_)⟩⟩⟩
  · rw [Nat.zero_add, hb.cell]; exact hc k hk
  · have h1 := h.rng.1.1
    have h2 := h.rng.2 k hk
    exact ⟨by have := hb.1; omega, by have := hb.2; omega⟩
theorem HistsOwn.keep (h : HistsOwn w lo hi q hs los his pq qs) (hk : ∀ b, lo ≤ b → b < hi → b < w.heap.size → w'.heap[b]? = w.heap[b]?) : HistsOwn w' lo hi q hs los his pq qs := by
  obtain ⟨cs, hb, h2, h3⟩ := h.row
  refine ⟨h.len, ⟨cs, (hk q h.rng.1.1 h.rng.1.2 hb.lt).trans hb, h2, h3⟩, fun k hkl => (h.posts k hkl).keep (fun b h1 h2 hl => hk b ?_ ?_ hl), h.up, h.rng⟩
  · have := h.rng.1.1; have := h.rng.2 k hkl; omega
  · have := h.rng.2 k hkl; omega
theorem HistsOwn.next (h : HistsOwn w lo hi q hs los his pq qs) (hb : Below w.heap.size w w') : HistsOwn w' lo hi q hs los his pq qs := h.keep (fun b _ _ hl => hb.block b hl)
end

theorem Try.infoHist : (Try.prog.info? 84).map (fun i => (i.zero, i.size, i.bytes)) = some (some (.agg #[.slice none 0 0]), 1, 24) := by kernel_rfl
theorem make_hists (n : Nat) (hn : n ≤ 1048576) (W : World) : (Instr.makeSlice 46 (.int .i64 (n : Int)) (.int .i64 (n : Int))).run Try.prog W = .ok (.slice (some ⟨W.heap.size, 0, none⟩) n n) (W.alloc (.cells (zrow #[.slice none 0 0] n) 84)) := by
  obtain ⟨i0, hi, hz0, hz1, hz2⟩ := info_parts Try.infoHist
  have hr := run_make (P := Try.prog) W 46 84 i0 _ Try.underlying46 hi hz0 .i64 .i64 n n (by omega) (Int.le_refl _) (by rw [hz2]; omega) (by omega)
  simp only [Int.toNat_natCast, hz1, Nat.mul_one] at hr
  exact hr

/-- The first k histories, in a block's cells. -/
structure HistCells (w : World) (lo : Nat) (cs : Array Value) (hs : List (List PostD)) (los his pq : Nat → Nat) (qs : Nat → Nat → Nat) (k : Nat) : Prop where
  cells : ∀ j, j < k → cs[j]? = some (.slice (some ⟨pq j, 0, none⟩) (geth hs j).length (geth hs j).length)
  posts : ∀ j, j < k → PostsOwn w (los j) (his j) (pq j) (qs j) (geth hs j)
  up : ∀ i j, i < j → j < k → his i ≤ los j
  rng : ∀ j, j < k → lo ≤ los j ∧ his j ≤ w.heap.size

set_option maxRecDepth 100000 in
set_option maxHeartbeats 1600000 in
theorem toHistS_own (A : Option Addr) (hs : List (List PostD)) (c : Nat) (S : Nat → Prop) (w : World) (hn : histSize hs ≤ 1048576) (hS : ∀ b, S b → b < w.heap.size) (ha : HistsAt w S A hs) :
    Calls Try.prog 100 #[.slice A hs.length c] w fun e w' => ∃ q los his pq qs, e = .returned (.slice (some ⟨q, 0, none⟩) hs.length hs.length) ∧ HistsOwn w' w.heap.size w'.heap.size q hs los his pq qs ∧ Below w.heap.size w w' := by
  have hn2 : hs.length ≤ 1048576 := by unfold histSize at hn; omega
  have hmk := make_hists hs.length hn2
  go_enter Try.func100, Try.ntmps100
  go_wp2
  clear hmk
  go_loopw [4] (fun i wr => ∃ (k : Nat) (cs : Array Value) (los his pq : Nat → Nat) (qs : Nat → Nat → Nat), k ≤ hs.length ∧ i = .int .i64 k ∧ Blk wr w.heap.size 84 cs ∧ Hid (cs.size = hs.length) ∧ HistCells wr (w.heap.size + 1) cs hs los his pq qs k ∧ Below w.heap.size w wr) (fun i _ => hs.length - (intOf i).toNat)
  case atStart => exact ⟨0, _, fun _ => 0, fun _ => 0, fun _ => 0, fun _ _ => 0, Nat.zero_le _, rfl, Blk.new _ _ _, hide (zrow_size _ _), ⟨fun j hj => by omega, fun j hj => by omega, fun i j _ hj => by omega, fun j hj => by omega⟩, below1 _ _⟩
  case round =>
    obtain ⟨k, cs, los, his, pq, qs, hk, rfl, hblk, hsz, hcs, hb⟩ := hrel
    by_cases hlt : k < hs.length
    · obtain ⟨b, off, rfl, hbB, hc⟩ := (ha.below hb hS).2 (by omega)
      obtain ⟨A', c', hcell, hcap, hin⟩ := hc k hlt
      have hlt2 := hblk.lt
      have hgl := posts_le hs k hlt
      have HB := hide hblk
      clear hblk hc
      go_wp2_with fail
      refine (toHist_any A' (geth hs k) c' S wr (by omega) (fun b h => Nat.lt_of_lt_of_le (hS b h) hb.size) hin).mono ?_
      rintro e w1 ⟨qk, qsk, rfl, hl, hb1⟩
      have hblk1 := HB.out.below hb1 hlt2
      obtain ⟨v0, hv0⟩ : ∃ v, cs[k]? = some v := ⟨_, Array.getElem?_eq_getElem (by have := hsz.out; omega)⟩
      have g0 := (hblk1.cell _).trans hv0
      have z0 := hblk1.frozen k
      have HB1 := hide hblk1
      clear hv0 hblk1
      go_wp2_with fail
      go_roundw
      case rel =>
        have hs1 := hb1.size
        have hsb := hb.size
        refine ⟨k + 1, cs.setIfInBounds k (.slice (some ⟨qk, 0, none⟩) (geth hs k).length (geth hs k).length), fun j => if j = k then wr.heap.size else los j, fun j => if j = k then w1.heap.size else his j, fun j => if j = k then qk else pq j, fun j => if j = k then qsk else qs j, by omega, by go_num, HB1.out.set_ _ _, hide (by rw [Array.size_setIfInBounds]; exact hsz.out), ⟨fun j hj => ?_, fun j hj => ?_, fun i j hij hj => ?_, fun j hj => ?_⟩, (below_then hb hb1).setCell (Nat.le_refl _) _⟩
        · by_cases e : j = k
          · subst e
            simp only [if_true]
            rw [Array.getElem?_setIfInBounds, if_pos rfl, if_pos (by have := hsz.out; omega)]
          · simp only [if_neg e]
            rw [Array.getElem?_setIfInBounds, if_neg (fun e2 => e e2.symm)]
            exact hcs.cells j (by omega)
        · by_cases e : j = k
          · subst e
            simp only [if_true]
            exact hl.keep (fun b h1 h2 _ => Below.heap_setCell _ _ _ _ (by show b ≠ w.heap.size; omega))
          · simp only [if_neg e]
            have hr := hcs.rng j (by omega)
            exact ((hcs.posts j (by omega)).keep (fun b h1 h2 hl => hb1.block b hl)).keep (fun b h1 h2 _ => Below.heap_setCell _ _ _ _ (by show b ≠ w.heap.size; omega))
        · by_cases e : j = k
          · have hi : i ≠ k := by omega
            simp only [if_pos e, if_neg hi]
            exact (hcs.rng i (by omega)).2
          · have hi : i ≠ k := by omega
            simp only [if_neg e, if_neg hi]
            exact hcs.up i j hij (by omega)
        · by_cases e : j = k
          · simp only [if_pos e]
            exact ⟨by omega, by simp [World.setCell]⟩
          · simp only [if_neg e]
            have hr := hcs.rng j (by omega)
            exact ⟨hr.1, by simp [World.setCell]; omega⟩
      case measure => simp [intOf]; omega
    · obtain rfl : k = hs.length := by omega
      go_wp2
      go_ret
      exact ⟨w.heap.size, los, his, pq, qs, rfl, ⟨ha.1, ⟨cs, hblk, by rw [hsz.out]; exact Nat.le_refl _, hcs.cells⟩, hcs.posts, hcs.up, ⟨⟨Nat.le_refl _, hblk.lt⟩, fun k hk => ⟨.inl (by have := (hcs.rng k hk).1; omega), by have := (hcs.rng k hk).1; omega, (hcs.rng k hk).2⟩⟩⟩, hb⟩

set_option maxRecDepth 100000 in
set_option maxHeartbeats 1600000 in
theorem markHistS_own {w : World} {lo hi q c : Nat} {hs : List (List PostD)} {los his pq : Nat → Nat} {qs : Nat → Nat → Nat} {k : Int} (hn : histSize hs ≤ 1048576) (h0 : 0 ≤ k) (h1 : k + 3 * histSize hs ≤ 4194304) (h : HistsOwn w lo hi q hs los his pq qs) :
    Calls Try.prog 89 #[.slice (some ⟨q, 0, none⟩) hs.length c, .int .i64 k] w fun e w' => ∃ z : Int, e = .returned (.int .i64 z) ∧ (k ≤ z ∧ z ≤ k + 3 * histSize hs) ∧ Inn lo hi w w' := by
  have H := hide h
  have hn2 : hs.length ≤ 1048576 := by unfold histSize at hn; omega
  have Hsucc := hide (fun k (hk : k < hs.length) => by have h := sumTo_succ (postLens hs) k (by rw [postLens_len]; exact hk); rw [postLens_get] at h; exact h)
  have Hle := hide (fun k => sumTo_le (postLens hs) k)
  have Hp := hide (show histSize hs = hs.length + (postLens hs).sum from rfl)
  clear h
  go_enter Try.func89, Try.ntmps89
  go_wp2_with fail
  go_loopw [1, 5] (fun q1 i wr => ∃ (j : Nat) (z : Int), j ≤ hs.length ∧ i = .int .i64 j ∧ q1 = .int .i64 z ∧ k ≤ z ∧ z ≤ k + 3 * sumTo (postLens hs) j ∧ (∃ cs, Blk wr q 84 cs ∧ ∀ m, m < hs.length → cs[m]? = some (.slice (some ⟨pq m, 0, none⟩) (geth hs m).length (geth hs m).length)) ∧ Hid (∀ m, j ≤ m → m < hs.length → PostsOwn wr (los m) (his m) (pq m) (qs m) (geth hs m)) ∧ Inn lo hi w wr) (fun _ i _ => hs.length - (intOf i).toNat)
  case atStart =>
    obtain ⟨cs, c1, _, c2⟩ := H.out.row
    exact ⟨0, k, Nat.zero_le _, rfl, rfl, Int.le_refl _, by simp [sumTo_zero], ⟨cs, c1, c2⟩, hide (fun m _ hm => H.out.posts m hm), Inn.refl _ _ _⟩
  case round =>
    obtain ⟨j, z, hj, rfl, rfl, hz0, hz1, ⟨cs, hblk, hcs⟩, hps, hin⟩ := hrel
    by_cases hlt : j < hs.length
    · have hle := Hle.out (j + 1)
      have hsc := Hsucc.out j hlt
      have hpp := Hp.out
      have hpl := posts_le hs j hlt
      have hb1 : z + 3 * postSize (geth hs j) ≤ 4194304 := by omega
      have hb2 : postSize (geth hs j) ≤ 1048576 := by omega
      have hlt' : (j : Int) < (hs.length : Int) := by omega
      have hz00 : 0 ≤ z := by omega
      have g0 := (hblk.cell _).trans (hcs j hlt)
      have HB := hide hblk
      have HCS := hide hcs
      have HI := hide hin
      have hsc' := hide hsc
      clear hblk hcs hin hsc hpp hle
      go_wp2_with fail
      refine (markPostS_own hb2 hz00 hb1 (hps.out j (Nat.le_refl _) hlt)).mono ?_
      rintro e w5 ⟨z5, rfl, hz5, hi5⟩
      have hr5 := H.out.rng.2 j hlt
      have hr6 := H.out.rng.1
      go_wp2_with fail
      go_roundw
      case rel =>
        refine ⟨j + 1, z5, by omega, by go_num, rfl, by omega, by have := hsc'.out; omega, ⟨cs, (hi5.block q HB.out.lt (by omega)).trans HB.out, HCS.out⟩, hide (fun m hm1 hm2 => ?_), HI.out.trans (hi5.wide (by omega) (by omega))⟩
        refine (hps.out m (by omega) hm2).keep (fun b hb1 hb2 hbl => hi5.block b hbl (fun hh => ?_))
        have := H.out.up j m (by omega) hm2
        omega
      case measure => simp [intOf]; omega
    · obtain rfl : j = hs.length := by omega
      go_wp2_with fail
      go_ret
      exact ⟨z, rfl, ⟨hz0, by have := Hle.out hs.length; have := Hp.out; omega⟩, hin⟩
end Go.Proofs.Ytfkaacfeikmabaa
