/- laws' helpers on a history: szPost, szPostS, szHist; toPost, toPostS, toHist; eqPost, eqPostS, eqHist. · laws' helpers on a history: toPost, toPostS, toHist: copies in new memory; markPostS, markHist: they write into those alone. -/
import Derived.Test.YtfkaacfeikmabaaMf0
import Derived.Test.YtfkaacfeikmabaaMf1
import Derived.Test.YtfkaacfeikmabaaMf4
import Derived.Test.YtfkaacfeikmabaaMf5
import Derived.Test.YtfkaacfeikmabaaMf7
import Derived.Test.YtfkaacfeikmabaaMf8
import Derived.Test.YtfkaacfeikmabaaMf9
import Derived.StillTailTactics
namespace Go.Proofs.Ytfkaacfeikmabaa
open Go.RowKit

structure RowsUp (t : TypeId) (w : World) (B : Nat) (v : Value) (rs : List RowD) : Prop where
  own : w.ownsRow B t 1 v rs.length (rs.map RowD.val)
  each : ∀ k, k < rs.length → (getr rs k).at_ 3 w
  up : ∀ i j, i < j → j < rs.length → (getr rs i).hi ≤ (getr rs j).lo
  rng : ∀ k, k < rs.length → B ≤ (getr rs k).lo ∧ (getr rs k).hi ≤ w.heap.size
theorem getr_snoc (rs : List RowD) (r : RowD) (k : Nat) (hk : k < (rs ++ [r]).length) : (k < rs.length ∧ getr (rs ++ [r]) k = getr rs k) ∨ (k = rs.length ∧ getr (rs ++ [r]) k = r) := by
  unfold getr
  rw [List.getD_eq_getElem?_getD, List.getD_eq_getElem?_getD]
  rcases Nat.lt_or_ge k rs.length with h | h
  · exact .inl ⟨h, by rw [List.getElem?_append_left h]⟩
  · have e : k = rs.length := by simp at hk; omega
    subst e
    exact .inr ⟨rfl, by simp⟩
section
variable {t : TypeId} {w w' w1 : World} {B m lo hi n : Nat} {v v' u : Value} {rs : List RowD} {xs : List Value} {zs : List Int}
theorem RowsUp.nil (t : TypeId) (w : World) (B : Nat) : RowsUp t w B (.slice none 0 0) [] := ⟨⟨rfl, .inl ⟨rfl, rfl⟩⟩, fun k hk => by simp at hk, fun i j _ hj => by simp at hj, fun k hk => by simp at hk⟩
theorem RowsUp.keep (h : RowsUp t w B v rs) (hs : w.heap.size ≤ w'.heap.size) (hk : ∀ k, B ≤ k → k < w.heap.size → w'.heap[k]? = w.heap[k]?) : RowsUp t w' B v rs :=
  ⟨kept h.own (fun k h1 e => hk k (own_lt h.own e).1 h1), fun k hk' => RvI.keep (h.each k hk') (fun b h1 _ h3 => hk b (Nat.le_trans (h.rng k hk').1 h1) h3), h.up, fun k hk' => ⟨(h.rng k hk').1, Nat.le_trans (h.rng k hk').2 hs⟩⟩
theorem RowsUp.next (h : RowsUp t w B v rs) (hb : Below w.heap.size w w') : RowsUp t w' B v rs := h.keep hb.size (fun k _ hk => hb.block k hk)
theorem RowsUp.alloc (h : RowsUp t w B v rs) (o : Obj) : RowsUp t (w.alloc o) B v rs := h.next (below1 w o)
theorem RowsUp.drew (h : RowsUp t w B v rs) : RowsUp t w.drew B v rs := h.next (Below.refl _ _).drew
theorem RowsUp.setCell (h : RowsUp t w B v rs) {p : Addr} (hp : p.block < B) (x : Value) : RowsUp t (w.setCell p x) B v rs :=
  h.keep (by simp [World.setCell]) (fun k hk _ => Below.heap_setCell w p x k (by omega))
theorem RvI.grownO {et : TypeId} (h : RvI et w lo hi u n zs) (hg : w.grownBy w1 v.ownBlock) (hv : w.ownsRow B t 1 v m xs) (hne : et ≠ t) : RvI et w1 lo hi u n zs :=
  ⟨h.1.keep (fun k hk e => hg.block k hk (fun e2 => by
    obtain ⟨_, _, cur, h2⟩ := own_lt hv e2.symm
    rcases h.1 with ⟨rfl, -, -⟩ | ⟨q, c, rfl, ⟨cs, hb, -⟩, -⟩
    · simp [Value.ownBlock] at e
    · have : q = k := by simpa [Value.ownBlock] using e
      subst this
      have h3 : w.heap[q]? = some (.cells cs et (0, 0)) := hb
      rw [h2] at h3
      cases h3
      exact hne rfl)), h.2⟩
theorem RowsUp.more (h : RowsUp t w B v rs) (hne : 3 ≠ t) {r : RowD} (hr : r.at_ 3 w) (h1 : B ≤ r.lo) (h2 : ∀ k, k < rs.length → (getr rs k).hi ≤ r.lo) (h3 : r.hi ≤ w.heap.size) (hxs : xs = rs.map RowD.val ++ [r.val]) (ho : w1.ownsRow B t 1 v' (rs.length + 1) xs) (hg : w.grownBy w1 v.ownBlock) :
    RowsUp t w1 B v' (rs ++ [r]) := by
  subst hxs
  have hl : (rs ++ [r]).length = rs.length + 1 := by simp
  refine ⟨by simpa using ho, fun k hk => ?_, fun i j hij hj => ?_, fun k hk => ?_⟩
  · rcases getr_snoc rs r k hk with ⟨hk', e⟩ | ⟨-, e⟩
    · rw [e]; exact RvI.grownO (h.each k hk') hg h.own hne
    · rw [e]; exact RvI.grownO hr hg h.own hne
  · rcases getr_snoc rs r j hj with ⟨hj', ej⟩ | ⟨ej0, ej⟩
    · rcases getr_snoc rs r i (by omega) with ⟨hi', ei⟩ | ⟨ei0, -⟩
      · rw [ei, ej]; exact h.up i j hij hj'
      · omega
    · rcases getr_snoc rs r i (by omega) with ⟨hi', ei⟩ | ⟨ei0, -⟩
      · rw [ei, ej]; exact h2 i hi'
      · omega
  · rcases getr_snoc rs r k hk with ⟨hk', e⟩ | ⟨-, e⟩
    · rw [e]; exact ⟨(h.rng k hk').1, Nat.le_trans (h.rng k hk').2 hg.size⟩
    · rw [e]; exact ⟨h1, Nat.le_trans h3 hg.size⟩
theorem RowsUp.toI (h : RowsUp t w B v rs) {hi' : Nat} (hh : w.heap.size ≤ hi') : ∃ A c, v = .slice A rs.length c ∧ RowsI t 3 w B hi' A rs := by
  rcases h.own.2 with ⟨rfl, h0⟩ | ⟨q, cap, cur, rfl, hb, hq, hcap, -, hsz, htk⟩
  · have e : rs = [] := List.length_eq_zero_iff.1 h0
    subst e
    exact ⟨none, 0, rfl, .inl rfl⟩
  · refine ⟨_, cap, rfl, .inr ⟨q, rfl, ⟨⟨cur, hq, by omega, fun k hk => ?_⟩, h.each, h.up, ⟨⟨hb, Nat.lt_of_lt_of_le (Blk.lt hq) hh⟩, fun k hk => ⟨(h.rng k hk).1, Nat.le_trans (h.rng k hk).2 hh⟩⟩⟩⟩⟩
    have h2 : cur.toList[k]? = (rs.map RowD.val)[k]? := by rw [← htk, List.getElem?_take, if_pos (by omega)]
    rw [← Array.getElem?_toList, h2, List.getElem?_map, List.getElem?_eq_getElem hk]
    simp only [Option.map_some, RowD.val]
    unfold getr
    rw [List.getD_eq_getElem?_getD, List.getElem?_eq_getElem hk]
    rfl
end
end Go.Proofs.Ytfkaacfeikmabaa

namespace Go.Proofs.Ytfkaacfeikmabaa
open Go.RowKit

theorem Try.infoBufT : (Try.prog.info? 182).map (fun i => (i.zero, i.size, i.bytes)) = some (some (.agg #[.slice none 0 0]), 1, 24) := by kernel_rfl
theorem make_rowsBuf (n : Nat) (hn : n ≤ 1048576) (W : World) : (Instr.makeSlice 45 (.int .i64 (n : Int)) (.int .i64 (n : Int))).run Try.prog W = .ok (.slice (some ⟨W.heap.size, 0, none⟩) n n) (W.alloc (.cells (zrow #[.slice none 0 0] n) 182)) := by
  obtain ⟨i0, hi, hz0, hz1, hz2⟩ := info_parts Try.infoBufT
  have hr := run_make (P := Try.prog) W 45 182 i0 _ Try.underlying45 hi hz0 .i64 .i64 n n (by omega) (Int.le_refl _) (by rw [hz2]; omega) (by omega)
  simp only [Int.toNat_natCast, hz1, Nat.mul_one] at hr
  exact hr
end Go.Proofs.Ytfkaacfeikmabaa

namespace Go.Proofs.Ytfkaacfeikmabaa
open Go.RowKit

set_option maxHeartbeats 400000 in
theorem szPost_any (i v : Int) (g : Bool) (V : Option Addr) (n c : Nat) (left : Int) (w : World) (h0 : 0 ≤ left) (h1 : left ≤ 1048576) (hn : n ≤ 9223372036854775807) :
    Calls Try.prog 204 #[.agg #[.int .i64 i, .int .i64 v, .bool g, .slice V n c], .int .i64 left] w fun e w' => e = .returned (.int .i64 (szR left n)) ∧ Below w.heap.size w w' := by
  have k1 := hide (fun w => szIntS_any V n c left w h0 h1 hn)
  have hs : szR left n < 0 ∨ 0 ≤ szR left n := by omega
  have hs2 : szR left n < 0 → szR left n = -1 := by unfold szR; split <;> omega
  have hs3 := hide hs2
  clear hs2 h0 h1 hn
  generalize szR left n = r at *
  rcases hs with hs | hs
  · go_enter Try.func204, Try.ntmps204
    go_wp2_with (go_at_call 57; refine (k1.out _).mono ?_; rintro e w1 ⟨rfl, rfl⟩)
    go_ret
    exact ⟨ret_int (hs3.out hs).symm, below1 _ _⟩
  · go_enter Try.func204, Try.ntmps204
    go_wp2_with (go_at_call 57; refine (k1.out _).mono ?_; rintro e w1 ⟨rfl, rfl⟩)
    go_ret
    exact ⟨rfl, below1 _ _⟩

set_option maxHeartbeats 800000 in
theorem szPostS_any (A : Option Addr) (l : List PostD) (c : Nat) (S : Nat → Prop) (left : Int) (w : World) (h0 : 0 ≤ left) (h1 : left ≤ 1048576) (hS : ∀ b, S b → b < w.heap.size) (ha : PostsAt w S A l) :
    Calls Try.prog 191 #[.slice A l.length c, .int .i64 left] w fun e w' => e = .returned (.int .i64 (szR left (postSize l))) ∧ Below w.heap.size w w' := by
  have hn := ha.1
  have Hle := hide (fun k => sumTo_le (viewLens l) k)
  have Hsucc := hide (fun k (hk : k < l.length) => by have h := sumTo_succ (viewLens l) k (by rw [viewLens_len]; exact hk); rw [viewLens_get] at h; exact h)
  have Hall := hide (by have h := sumTo_all (viewLens l); rw [viewLens_len] at h; exact h)
  have Hz := hide (sumTo_zero (viewLens l))
  have Hp := hide (show postSize l = l.length + (viewLens l).sum from rfl)
  by_cases h : left < l.length
  · have HF := hide (szR_neg (left := left) (n := postSize l) (by have := Hp.out; omega))
    go_enter Try.func191, Try.ntmps191
    go_wp2
    go_ret
    exact ⟨ret_int HF.out.symm, Below.refl _ _⟩
  · go_enter Try.func191, Try.ntmps191
    go_wp2
    go_loopw [1, 5] (fun q i wr => ∃ k : Nat, k ≤ l.length ∧ (sumTo (viewLens l) k : Int) ≤ left - l.length ∧ i = .int .i64 k ∧ q = .int .i64 (left - l.length - sumTo (viewLens l) k) ∧ Below w.heap.size w wr) (fun _ i _ => l.length - (intOf i).toNat)
    case atStart => exact ⟨0, Nat.zero_le _, by rw [Hz.out]; omega, rfl, by rw [Hz.out]; simp, Below.refl _ _⟩
    case round =>
      obtain ⟨k, hk, hl, rfl, rfl, hb⟩ := hrel
      by_cases hlt : k < l.length
      · obtain ⟨b, off, rfl, hbB, hc⟩ := (ha.below hb hS).2 (by omega)
        obtain ⟨V, c', ⟨p0, p1, p2, p3⟩, hcap, hin⟩ := hc k hlt
        have hn' := hin.1
        have hs := Hsucc.out k hlt
        by_cases hx : left - l.length - sumTo (viewLens l) k < (getp l k).view.length
        · have HF := hide (szR_neg (left := left) (n := postSize l) (by have := Hle.out (k + 1); have := Hp.out; omega))
          have kc := fun w => szPost_any (getp l k).id (getp l k).val (getp l k).glue V (getp l k).view.length c' (left - l.length - sumTo (viewLens l) k) w (by omega) (by omega) hn'
          simp only [szR_neg hx] at kc
          have KC := hide kc
          clear kc hx hs
          go_wp2_with (go_at_call 204; refine (KC.out _).mono ?_; rintro e w1 ⟨rfl, hb1⟩)
          go_ret
          exact ⟨ret_int HF.out.symm, below_then hb hb1⟩
        · have kc := fun w => szPost_any (getp l k).id (getp l k).val (getp l k).glue V (getp l k).view.length c' (left - l.length - sumTo (viewLens l) k) w (by omega) (by omega) hn'
          simp only [szR_pos hx] at kc
          have KC := hide kc
          have HX : 0 ≤ left - l.length - sumTo (viewLens l) k - (getp l k).view.length := by omega
          have HS := hide hs
          clear kc hx hs
          go_wp2_with (go_at_call 204; refine (KC.out _).mono ?_; rintro e w1 ⟨rfl, hb1⟩)
          go_roundw
          case rel => exact ⟨k + 1, by omega, by rw [HS.out]; omega, by go_num, by rw [HS.out]; go_num, below_then hb hb1⟩
          case measure => simp [intOf]; omega
      · obtain rfl : k = l.length := by omega
        have HF := hide (show szR left (postSize l) = left - l.length - sumTo (viewLens l) l.length by rw [szR_pos (by have := Hall.out; have := Hp.out; omega)]; have := Hall.out; have := Hp.out; omega)
        go_wp2
        go_ret
        exact ⟨ret_int HF.out.symm, hb⟩

set_option maxHeartbeats 400000 in
theorem szHist_any (A : Option Addr) (l : List PostD) (c : Nat) (S : Nat → Prop) (left : Int) (w : World) (h0 : 0 ≤ left) (h1 : left ≤ 1048576) (hS : ∀ b, S b → b < w.heap.size) (ha : PostsAt w S A l) :
    Calls Try.prog 157 #[.agg #[.slice A l.length c], .int .i64 left] w fun e w' => e = .returned (.int .i64 (szR left (postSize l))) ∧ Below w.heap.size w w' := by
  have hb0 := below1 w (Obj.cells #[Value.slice A l.length c] 193)
  have k1 := hide (szPostS_any A l c S left _ h0 h1 (fun b h => Nat.lt_of_lt_of_le (hS b h) hb0.size) (ha.below hb0 hS))
  have hs : szR left (postSize l) < 0 ∨ 0 ≤ szR left (postSize l) := by omega
  have hs2 : szR left (postSize l) < 0 → szR left (postSize l) = -1 := by unfold szR; split <;> omega
  have hs3 := hide hs2
  replace hb0 := hide hb0
  clear hs2 h0 h1
  generalize szR left (postSize l) = r at *
  rcases hs with hs | hs
  all_goals
    go_enter Try.func157, Try.ntmps157
    go_wp2_with fail
    refine k1.out.mono ?_
    rintro e w1 ⟨rfl, hb1⟩
    go_wp2_with fail
    go_ret
    first
      | exact ⟨rfl, below_then hb0.out hb1⟩
      | exact ⟨ret_int (hs3.out hs).symm, below_then hb0.out hb1⟩

set_option maxHeartbeats 800000 in
theorem eqPost_any (d : PostD) (V V' : Option Addr) (c c' : Nat) (S : Nat → Prop) (w : World) (hS : ∀ b, S b → b < w.heap.size) (ha : IntsAt w S V d.view) (ha' : IntsAt w S V' d.view) :
    Calls Try.prog 203 #[.agg #[.int .i64 d.id, .int .i64 d.val, .bool d.glue, .slice V d.view.length c], .agg #[.int .i64 d.id, .int .i64 d.val, .bool d.glue, .slice V' d.view.length c']] w fun e w' => e = .returned (.bool true) ∧ Below w.heap.size w w' := by
  have hb2 := below2 w (Obj.cells #[Value.int .i64 d.id, Value.int .i64 d.val, Value.bool d.glue, Value.slice V d.view.length c] 86) (Obj.cells #[Value.int .i64 d.id, Value.int .i64 d.val, Value.bool d.glue, Value.slice V' d.view.length c'] 86)
  go_enter Try.func203, Try.ntmps203
  go_wp2_with fail
  refine (eqIntS_any V V' d.view c c' S _ (fun b h => Nat.lt_of_lt_of_le (hS b h) hb2.size) (ha.below hb2 hS) (ha'.below hb2 hS)).mono ?_
  rintro e w3 ⟨rfl, hb3⟩
  go_wp2_with fail
  go_ret
  exact ⟨rfl, below_then hb2 hb3⟩

set_option maxRecDepth 100000 in
set_option maxHeartbeats 800000 in
theorem eqPostS_any (A A' : Option Addr) (l : List PostD) (c c' : Nat) (S : Nat → Prop) (w : World) (hS : ∀ b, S b → b < w.heap.size) (ha : PostsAt w S A l) (ha' : PostsAt w S A' l) :
    Calls Try.prog 189 #[.slice A l.length c, .slice A' l.length c'] w fun e w' => e = .returned (.bool true) ∧ Below w.heap.size w w' := by
  have hn := ha.1
  go_enter Try.func189, Try.ntmps189
  go_wp2
  go_loopw [5] (fun i wr => ∃ (k : Nat), k ≤ l.length ∧ i = .int .i64 k ∧ Below w.heap.size w wr) (fun i _ => l.length - (intOf i).toNat)
  case atStart => exact ⟨0, Nat.zero_le _, rfl, Below.refl _ _⟩
  case round =>
    obtain ⟨k, hk, rfl, hb⟩ := hrel
    by_cases hlt : k < l.length
    · obtain ⟨b, off, rfl, hbB, hc⟩ := (ha.below hb hS).2 (by omega)
      obtain ⟨b', off', rfl, hbB', hc'⟩ := (ha'.below hb hS).2 (by omega)
      obtain ⟨V2, c2, ⟨p0, p1, p2, p3⟩, hcap, h2⟩ := hc k hlt
      obtain ⟨V3, c3, ⟨q0, q1, q2, q3⟩, hcap', h4⟩ := hc' k hlt
      have hx : ((k : Int) < (l.length : Int)) := by omega
      clear hc hc'
      go_wp2_with fail
      go_still_tail 8, (by kernel_rfl)
      have hbd := hb.drew
      have h2d : IntsAt wr.drew S V2 (getp l k).view := h2
      have h4d : IntsAt wr.drew S V3 (getp l k).view := h4
      change wpList _ _ _ _ _ wr.drew
      clear p0 p1 p2 p3 q0 q1 q2 q3 h2 h4
      generalize wr.drew = w2 at *
      go_wp2_with (go_at_call 203; refine (eqPost_any (getp l k) V2 V3 c2 c3 S _ (fun b h => Nat.lt_of_lt_of_le (hS b h) hbd.size) h2d h4d).mono ?_; rintro e w3 ⟨rfl, hb3⟩)
      go_roundw
      case rel => exact ⟨k + 1, by omega, by go_num, below_then hbd hb3⟩
      case measure => simp [intOf]; omega
    · obtain rfl : k = l.length := by omega
      go_wp2
      go_ret
      exact ⟨rfl, hb⟩

set_option maxHeartbeats 800000 in
theorem eqHist_any (A A' : Option Addr) (l : List PostD) (c c' : Nat) (S : Nat → Prop) (w : World) (hS : ∀ b, S b → b < w.heap.size) (ha : PostsAt w S A l) (ha' : PostsAt w S A' l) :
    Calls Try.prog 151 #[.agg #[.slice A l.length c], .agg #[.slice A' l.length c']] w fun e w' => e = .returned (.bool true) ∧ Below w.heap.size w w' := by
  have hb2 := below2 w (Obj.cells #[Value.slice A l.length c] 84) (Obj.cells #[Value.slice A' l.length c'] 84)
  go_enter Try.func151, Try.ntmps151
  go_wp2_with fail
  refine (eqPostS_any A A' l c c' S _ (fun b h => Nat.lt_of_lt_of_le (hS b h) hb2.size) (ha.below hb2 hS) (ha'.below hb2 hS)).mono ?_
  rintro e w3 ⟨rfl, hb3⟩
  go_wp2_with fail
  go_ret
  exact ⟨rfl, below_then hb2 hb3⟩
end Go.Proofs.Ytfkaacfeikmabaa

namespace Go.Proofs.Ytfkaacfeikmabaa
open Go.RowKit

set_option maxRecDepth 100000 in
set_option maxHeartbeats 1600000 in
theorem toPost_any (d : PostD) (V : Option Addr) (c : Nat) (S : Nat → Prop) (w : World) (hn : d.view.length ≤ 1048576) (hS : ∀ b, S b → b < w.heap.size) (ha : IntsAt w S V d.view) :
    Calls Try.prog 206 #[.agg #[.int .i64 d.id, .int .i64 d.val, .bool d.glue, .slice V d.view.length c]] w fun e w' => ∃ qv, e = .returned (.agg #[.int .i64 d.id, .int .i64 d.val, .bool d.glue, .slice (some ⟨qv, 0, none⟩) d.view.length d.view.length]) ∧ w.heap.size ≤ qv ∧ RowB w' qv d.view ∧ Below w.heap.size w w' := by
  have hb3 := (below2 w (Obj.cells #[Value.int .i64 d.id, Value.int .i64 d.val, Value.bool d.glue, Value.slice V d.view.length c] 240) (Obj.cells #[Value.int .i64 0, Value.int .i64 0, Value.bool false, Value.slice none 0 0] 86)).alloc (by simp; omega) (Obj.cells #[Value.int .i64 d.id, Value.int .i64 d.val, Value.bool d.glue, Value.slice none 0 0] 86)
  have hR := (Blk.new (w.alloc (Obj.cells #[Value.int .i64 d.id, Value.int .i64 d.val, Value.bool d.glue, Value.slice V d.view.length c] 240)) 86 #[Value.int .i64 0, Value.int .i64 0, Value.bool false, Value.slice none 0 0]).alloc (Obj.cells #[Value.int .i64 d.id, Value.int .i64 d.val, Value.bool d.glue, Value.slice none 0 0] 86)
  have hX := Blk.new ((w.alloc (Obj.cells #[Value.int .i64 d.id, Value.int .i64 d.val, Value.bool d.glue, Value.slice V d.view.length c] 240)).alloc (Obj.cells #[Value.int .i64 0, Value.int .i64 0, Value.bool false, Value.slice none 0 0] 86)) 86 #[Value.int .i64 d.id, Value.int .i64 d.val, Value.bool d.glue, Value.slice none 0 0]
  simp only [World.size_alloc] at hR hX
  replace hR := hide hR
  replace hX := hide hX
  go_enter Try.func206, Try.ntmps206
  go_wp2_with fail
  refine (toIntS_row V d.view c S _ hn (fun b h => Nat.lt_of_lt_of_le (hS b h) hb3.size) (ha.below hb3 hS)).mono ?_
  rintro e w1 ⟨rfl, hl, hb1⟩
  have hR1 := hR.out.below hb1 (by simp)
  have hX1 := hX.out.below hb1 (by simp)
  have hlt := hX1.lt
  have r0 := hR1.cell 0
  have r1 := hR1.cell 1
  have r2 := hR1.cell 2
  have r3 := hR1.cell 3
  have x0 := hX1.cell 0
  have x1 := hX1.cell 1
  have x2 := hX1.cell 2
  have x3 := hX1.cell 3
  have y0 := hR1.frozen 0
  have y1 := hR1.frozen 1
  have y2 := hR1.frozen 2
  have y3 := hR1.frozen 3
  have z3 := hX1.frozen 3
  simp only [List.getElem?_toArray, List.getElem?_cons_zero, List.getElem?_cons_succ] at r0 r1 r2 r3 x0 x1 x2 x3
  have hB := hide (below_then hb3 hb1)
  replace hl := hide hl
  clear hR1 hX1 hb1 hb3
  go_wp2_with fail
  refine bodyPost_ret (v := .agg #[.int .i64 d.id, .int .i64 d.val, .bool d.glue, .slice (some ⟨w.heap.size + 1 + 1 + 1, 0, none⟩) d.view.length d.view.length]) (by simp [results, Try.results206, go_sem, r0, r1, r2, r3]; done) rfl ⟨w.heap.size + 1 + 1 + 1, rfl, by omega, ?_, ?_⟩
  · obtain ⟨ds, h1, h2⟩ := hl.out
    simp only [World.size_alloc] at h1
    refine ⟨ds, ?_, h2⟩
    iterate 5 (refine Blk.far ?_ (by first | (show w.heap.size + 1 + 1 + 1 ≠ w.heap.size + 1 + 1; omega) | (show w.heap.size + 1 + 1 + 1 ≠ w.heap.size + 1; omega)) _)
    exact h1
  · iterate 5 (refine Below.setCell ?_ (by first | (show w.heap.size ≤ w.heap.size + 1 + 1; omega) | (show w.heap.size ≤ w.heap.size + 1; omega)) _)
    exact hB.out

structure PostCells (w : World) (lo : Nat) (cs : Array Value) (qs : Nat → Nat) (l : List PostD) (k : Nat) : Prop where
  cells : ∀ j, j < k → cs[j * 4]? = some (.int .i64 (getp l j).id) ∧ cs[j * 4 + 1]? = some (.int .i64 (getp l j).val) ∧ cs[j * 4 + 2]? = some (.bool (getp l j).glue) ∧ cs[j * 4 + 3]? = some (.slice (some ⟨qs j, 0, none⟩) (getp l j).view.length (getp l j).view.length)
  views : ∀ j, j < k → RowB w (qs j) (getp l j).view
  up : ∀ i j, i < j → j < k → qs i < qs j
  lo : ∀ j, j < k → lo ≤ qs j

theorem Try.infoPost : (Try.prog.info? 86).map (fun i => (i.zero, i.size, i.bytes)) = some (some (.agg #[.int .i64 0, .int .i64 0, .bool false, .slice none 0 0]), 4, 48) := by kernel_rfl
theorem make_posts (n : Nat) (hn : n ≤ 1048576) (W : World) : (Instr.makeSlice 82 (.int .i64 (n : Int)) (.int .i64 (n : Int))).run Try.prog W = .ok (.slice (some ⟨W.heap.size, 0, none⟩) n n) (W.alloc (.cells (zrow #[.int .i64 0, .int .i64 0, .bool false, .slice none 0 0] (n * 4)) 86)) := by
  obtain ⟨i0, hi, hz0, hz1, hz2⟩ := info_parts Try.infoPost
  have hr := run_make (P := Try.prog) W 82 86 i0 _ Try.underlying82 hi hz0 .i64 .i64 n n (by omega) (Int.le_refl _) (by rw [hz2]; omega) (by omega)
  simp only [Int.toNat_natCast, hz1] at hr
  exact hr
def set4 (cs : Array Value) (off : Nat) (a b c d : Value) : Array Value := (((cs.setIfInBounds off a).setIfInBounds (off + 1) b).setIfInBounds (off + 2) c).setIfInBounds (off + 3) d
theorem set4_size (cs : Array Value) (off : Nat) (a b c d : Value) : (set4 cs off a b c d).size = cs.size := by simp [set4]
theorem set4_far (cs : Array Value) (off : Nat) (a b c d : Value) (j : Nat) (h : j < off ∨ off + 3 < j) : (set4 cs off a b c d)[j]? = cs[j]? := by
  unfold set4
  simp only [Array.getElem?_setIfInBounds]
  rw [if_neg (by omega), if_neg (by omega), if_neg (by omega), if_neg (by omega)]
theorem set4_at (cs : Array Value) (off : Nat) (a b c d : Value) (h : off + 3 < cs.size) : (set4 cs off a b c d)[off]? = some a ∧ (set4 cs off a b c d)[off + 1]? = some b ∧ (set4 cs off a b c d)[off + 2]? = some c ∧ (set4 cs off a b c d)[off + 3]? = some d := by
  unfold set4
  simp only [Array.getElem?_setIfInBounds, Array.size_setIfInBounds]
  refine ⟨?_, ?_, ?_, ?_⟩
  · rw [if_neg (by omega), if_neg (by omega), if_neg (by omega), if_pos trivial, if_pos (by omega)]
  · rw [if_neg (by omega), if_neg (by omega), if_pos trivial, if_pos (by omega)]
  · rw [if_neg (by omega), if_pos trivial, if_pos (by omega)]
  · rw [if_pos trivial, if_pos (by omega)]
theorem Blk.set4 {w : World} {g : Nat} {t : TypeId} {cs : Array Value} (h : Blk w g t cs) (off : Nat) (a b c d : Value) : Blk ((((w.setCell ⟨g, off, none⟩ a).setCell ⟨g, off + 1, none⟩ b).setCell ⟨g, off + 2, none⟩ c).setCell ⟨g, off + 3, none⟩ d) g t (set4 cs off a b c d) := (((h.set_ _ _).set_ _ _).set_ _ _).set_ _ _

set_option maxRecDepth 100000 in
set_option maxHeartbeats 1600000 in
theorem toPostS_any (A : Option Addr) (l : List PostD) (c : Nat) (S : Nat → Prop) (w : World) (hn : postSize l ≤ 1048576) (hS : ∀ b, S b → b < w.heap.size) (ha : PostsAt w S A l) :
    Calls Try.prog 194 #[.slice A l.length c] w fun e w' => ∃ q qs, e = .returned (.slice (some ⟨q, 0, none⟩) l.length l.length) ∧ PostsOwn w' w.heap.size w'.heap.size q qs l ∧ Below w.heap.size w w' := by
  have hn2 : l.length ≤ 1048576 := by unfold postSize at hn; omega
  have hmk := make_posts l.length hn2
  go_enter Try.func194, Try.ntmps194
  go_wp2
  clear hmk
  go_loopw [4] (fun i wr => ∃ (k : Nat) (cs : Array Value) (qs : Nat → Nat), k ≤ l.length ∧ i = .int .i64 k ∧ Blk wr w.heap.size 86 cs ∧ Hid (cs.size = l.length * 4) ∧ PostCells wr (w.heap.size + 1) cs qs l k ∧ Below w.heap.size w wr) (fun i _ => l.length - (intOf i).toNat)
  case atStart => exact ⟨0, _, fun _ => 0, Nat.zero_le _, rfl, Blk.new _ _ _, hide (zrow_size _ _), ⟨fun j hj => by omega, fun j hj => by omega, fun i j _ hj => by omega, fun j hj => by omega⟩, below1 _ _⟩
  case round =>
    obtain ⟨k, cs, qs, hk, rfl, hblk, hsz, hcs, hb⟩ := hrel
    by_cases hlt : k < l.length
    · obtain ⟨b, off, rfl, hbB, hc⟩ := (ha.below hb hS).2 (by omega)
      obtain ⟨V, c', ⟨p0, p1, p2, p3⟩, hcap, hin⟩ := hc k hlt
      have hlt2 := hblk.lt
      have hgl := view_le l k hlt
      have HB := hide hblk
      clear hblk hc
      go_wp2_with fail
      refine (toPost_any (getp l k) V c' S wr (by omega) (fun b h => Nat.lt_of_lt_of_le (hS b h) hb.size) hin).mono ?_
      rintro e w1 ⟨qv, rfl, hqv, hl, hb1⟩
      have hblk1 := HB.out.below hb1 hlt2
      have hs4 : k * 4 + 3 < cs.size := by have := hsz.out; omega
      obtain ⟨v0, hv0⟩ : ∃ v, cs[k * 4]? = some v := ⟨_, Array.getElem?_eq_getElem (by omega)⟩
      obtain ⟨v1, hv1⟩ : ∃ v, cs[k * 4 + 1]? = some v := ⟨_, Array.getElem?_eq_getElem (by omega)⟩
      obtain ⟨v2, hv2⟩ : ∃ v, cs[k * 4 + 2]? = some v := ⟨_, Array.getElem?_eq_getElem (by omega)⟩
      obtain ⟨v3, hv3⟩ : ∃ v, cs[k * 4 + 3]? = some v := ⟨_, Array.getElem?_eq_getElem (by omega)⟩
      have g0 := (hblk1.cell _).trans hv0
      have g1 := (hblk1.cell _).trans hv1
      have g2 := (hblk1.cell _).trans hv2
      have g3 := (hblk1.cell _).trans hv3
      have z0 := hblk1.frozen (k * 4)
      have z1 := hblk1.frozen (k * 4 + 1)
      have z2 := hblk1.frozen (k * 4 + 2)
      have z3 := hblk1.frozen (k * 4 + 3)
      have HB1 := hide hblk1
      have HS4 := hide hs4
      clear hv0 hv1 hv2 hv3 hblk1 hs4 p0 p1 p2 p3
      go_wp2_with fail
      go_roundw
      case rel =>
        have hs1 := hb1.size
        have hz := hb.size
        have hql := hl.lt
        refine ⟨k + 1, set4 cs (k * 4) (.int .i64 (getp l k).id) (.int .i64 (getp l k).val) (.bool (getp l k).glue) (.slice (some ⟨qv, 0, none⟩) (getp l k).view.length (getp l k).view.length), fun j => if j = k then qv else qs j, by omega, by go_num, HB1.out.set4 _ _ _ _ _, hide (by rw [set4_size]; exact hsz.out), ⟨fun j hj => ?_, fun j hj => ?_, fun i j hij hj => ?_, fun j hj => ?_⟩, ?_⟩
        · by_cases e : j = k
          · subst e
            simp only [if_true]
            exact set4_at _ _ _ _ _ _ HS4.out
          · obtain ⟨h1, h2, h3, h4⟩ := hcs.cells j (by omega)
            simp only [if_neg e]
            exact ⟨by rw [set4_far _ _ _ _ _ _ _ (by omega)]; exact h1, by rw [set4_far _ _ _ _ _ _ _ (by omega)]; exact h2, by rw [set4_far _ _ _ _ _ _ _ (by omega)]; exact h3, by rw [set4_far _ _ _ _ _ _ _ (by omega)]; exact h4⟩
        · have hbase : ∀ g, w.heap.size < g → ∀ zs, RowB w1 g zs → RowB ((((w1.setCell ⟨w.heap.size, k * 4, none⟩ (.int .i64 (getp l k).id)).setCell ⟨w.heap.size, k * 4 + 1, none⟩ (.int .i64 (getp l k).val)).setCell ⟨w.heap.size, k * 4 + 2, none⟩ (.bool (getp l k).glue)).setCell ⟨w.heap.size, k * 4 + 3, none⟩ (.slice (some ⟨qv, 0, none⟩) (getp l k).view.length (getp l k).view.length)) g zs := fun g hg zs ⟨ds, d1, d2⟩ => by
            refine ⟨ds, ?_, d2⟩
            iterate 4 (refine Blk.far ?_ (by show g ≠ w.heap.size; omega) _)
            exact d1
          by_cases e : j = k
          · subst e
            simp only [if_true]
            exact hbase qv (by have := HB.out.lt; omega) _ hl
          · simp only [if_neg e]
            exact hbase (qs j) (by have := hcs.lo j (by omega); omega) _ ((hcs.views j (by omega)).below hb1)
        · by_cases e : j = k
          · have hi : i ≠ k := by omega
            simp only [if_pos e, if_neg hi]
            have := (hcs.views i (by omega)).lt
            omega
          · have hi : i ≠ k := by omega
            simp only [if_neg e, if_neg hi]
            exact hcs.up i j hij (by omega)
        · by_cases e : j = k
          · simp only [if_pos e]
            have := HB.out.lt
            omega
          · simp only [if_neg e]
            exact hcs.lo j (by omega)
        · iterate 4 (refine Below.setCell ?_ (by show w.heap.size ≤ w.heap.size; omega) _)
          exact below_then hb hb1
      case measure => simp [intOf]; omega
    · obtain rfl : k = l.length := by omega
      go_wp2
      go_ret
      exact ⟨w.heap.size, qs, rfl, ⟨ha.1, ⟨cs, hblk, by rw [hsz.out]; exact Nat.le_refl _, fun k hk => ⟨_, hcs.cells k hk, Nat.le_refl _⟩⟩, fun k hk => ⟨hcs.views k hk, by have := view_le l k hk; omega⟩, hcs.up, ⟨⟨Nat.le_refl _, hblk.lt⟩, fun k hk => ⟨by have := hcs.lo k hk; omega, (hcs.views k hk).lt⟩⟩⟩, hb⟩

set_option maxHeartbeats 800000 in
theorem toHist_any (A : Option Addr) (l : List PostD) (c : Nat) (S : Nat → Prop) (w : World) (hn : postSize l ≤ 1048576) (hS : ∀ b, S b → b < w.heap.size) (ha : PostsAt w S A l) :
    Calls Try.prog 160 #[.agg #[.slice A l.length c]] w fun e w' => ∃ q qs, e = .returned (.agg #[.slice (some ⟨q, 0, none⟩) l.length l.length]) ∧ PostsOwn w' w.heap.size w'.heap.size q qs l ∧ Below w.heap.size w w' := by
  go_enter Try.func160, Try.ntmps160
  go_wp2_with fail
  have hb3 := ((below1 w (Obj.cells #[Value.slice A l.length c] 193)).alloc (by simp) (Obj.cells #[Value.slice none 0 0] 84)).alloc (by simp; omega) (Obj.cells #[Value.slice none 0 0] 84)
  refine (toPostS_any A l c S _ hn (fun b h => Nat.lt_of_lt_of_le (hS b h) hb3.size) (ha.below hb3 hS)).mono ?_
  rintro e w1 ⟨q, qs, rfl, hl, hb1⟩
  obtain ⟨hcl1, hfz1⟩ := bcell hb1
  have hz1 := hb1.size
  simp at hz1
  simp only [World.size_alloc] at hl
  go_wp2_with fail
  refine bodyPost_ret (v := .agg #[.slice (some ⟨q, 0, none⟩) l.length l.length]) (by simp [results, Try.results160, go_sem, hcl1]; done) rfl ⟨q, qs, rfl, ?_, ?_⟩
  · refine (hl.keep (fun b h1 h2 _ => ?_)).wide (by omega) (by simp [World.setCell])
    rw [Below.heap_setCell _ _ _ _ (by show b ≠ w.heap.size + 1; omega), Below.heap_setCell _ _ _ _ (by show b ≠ w.heap.size + 1 + 1; omega)]
  · exact ((below_then hb3 hb1).setCell (by simp; omega) _).setCell (by simp) _
end Go.Proofs.Ytfkaacfeikmabaa
