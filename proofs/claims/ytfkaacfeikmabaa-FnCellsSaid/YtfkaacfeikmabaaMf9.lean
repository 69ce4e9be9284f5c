/- A row whose elements are rows of numbers, each in a block of its own: []File, []Buf. -/
import Derived.Test.YtfkaacfeikmabaaMf0
import Derived.Test.YtfkaacfeikmabaaMf1
import Derived.Test.YtfkaacfeikmabaaMf4
import Derived.Test.YtfkaacfeikmabaaMf7
import Derived.Test.YtfkaacfeikmabaaMf8
namespace Go.Proofs.Ytfkaacfeikmabaa
open Go.RowKit

structure PostD where
  id : Int
  val : Int
  glue : Bool
  view : List Int
def post0 : PostD := ⟨0, 0, false, []⟩
def getp (l : List PostD) (k : Nat) : PostD := l.getD k post0
def geth (l : List (List PostD)) (k : Nat) : List PostD := l.getD k []

def PostIn (w : World) (b off : Nat) (d : PostD) (V : Option Addr) (c : Nat) : Prop :=
  w.cell? ⟨b, off, none⟩ = some (.int .i64 d.id) ∧ w.cell? ⟨b, off + 1, none⟩ = some (.int .i64 d.val) ∧ w.cell? ⟨b, off + 2, none⟩ = some (.bool d.glue) ∧ w.cell? ⟨b, off + 3, none⟩ = some (.slice V d.view.length c)
def PostsAt (w : World) (S : Nat → Prop) (A : Option Addr) (l : List PostD) : Prop :=
  l.length ≤ 9223372036854775807 ∧ (0 < l.length → ∃ b off, A = some ⟨b, off, none⟩ ∧ S b ∧ ∀ k, k < l.length → ∃ V c, PostIn w b (off + k * 4) (getp l k) V c ∧ (getp l k).view.length ≤ c ∧ IntsAt w S V (getp l k).view)
def HistsAt (w : World) (S : Nat → Prop) (A : Option Addr) (hs : List (List PostD)) : Prop :=
  hs.length ≤ 9223372036854775807 ∧ (0 < hs.length → ∃ b off, A = some ⟨b, off, none⟩ ∧ S b ∧ ∀ k, k < hs.length → ∃ A' c', w.cell? ⟨b, off + k, none⟩ = some (.slice A' (geth hs k).length c') ∧ (geth hs k).length ≤ c' ∧ PostsAt w S A' (geth hs k))

section
variable {w w' : World} {S S' : Nat → Prop} {B : Nat} {A : Option Addr} {l : List PostD} {hs : List (List PostD)}
theorem PostsAt.keep (h : PostsAt w S A l) (hk : ∀ b o, S b → w'.cell? ⟨b, o, none⟩ = w.cell? ⟨b, o, none⟩) (hS : ∀ b, S b → S' b) : PostsAt w' S' A l :=
  ⟨h.1, fun hn => by
    obtain ⟨b, off, e, hb, hc⟩ := h.2 hn
    refine ⟨b, off, e, hS b hb, fun k hk' => ?_⟩
    obtain ⟨V, c, h1, h2, h3⟩ := hc k hk'
    exact ⟨V, c, ⟨(hk _ _ hb).trans h1.1, (hk _ _ hb).trans h1.2.1, (hk _ _ hb).trans h1.2.2.1, (hk _ _ hb).trans h1.2.2.2⟩, h2, h3.keep hk hS⟩⟩
theorem PostsAt.below (h : PostsAt w S A l) (hb : Below B w w') (hS : ∀ b, S b → b < B) : PostsAt w' S A l := h.keep (below_keep hb hS) (fun _ h => h)
theorem PostsAt.more (h : PostsAt w S A l) (hS : ∀ b, S b → S' b) : PostsAt w S' A l := h.keep (fun _ _ _ => rfl) hS
theorem PostsAt.set (h : PostsAt w S A l) {p : Addr} (u : Value) (hS : ¬ S p.block) : PostsAt (w.setCell p u) S A l := h.keep (set_keep u hS) (fun _ h => h)
theorem HistsAt.keep (h : HistsAt w S A hs) (hk : ∀ b o, S b → w'.cell? ⟨b, o, none⟩ = w.cell? ⟨b, o, none⟩) (hS : ∀ b, S b → S' b) : HistsAt w' S' A hs :=
  ⟨h.1, fun hn => by
    obtain ⟨b, off, e, hb, hc⟩ := h.2 hn
    refine ⟨b, off, e, hS b hb, fun k hk' => ?_⟩
    obtain ⟨A', c', h1, h3, h2⟩ := hc k hk'
    exact ⟨A', c', (hk b _ hb).trans h1, h3, h2.keep hk hS⟩⟩
theorem HistsAt.below (h : HistsAt w S A hs) (hb : Below B w w') (hS : ∀ b, S b → b < B) : HistsAt w' S A hs := h.keep (below_keep hb hS) (fun _ h => h)
theorem HistsAt.more (h : HistsAt w S A hs) (hS : ∀ b, S b → S' b) : HistsAt w S' A hs := h.keep (fun _ _ _ => rfl) hS
theorem HistsAt.set (h : HistsAt w S A hs) {p : Addr} (u : Value) (hS : ¬ S p.block) : HistsAt (w.setCell p u) S A hs := h.keep (set_keep u hS) (fun _ h => h)
end

def viewLens (l : List PostD) : List Nat := l.map (fun d => d.view.length)
def postSize (l : List PostD) : Nat := l.length + (viewLens l).sum
def postLens (hs : List (List PostD)) : List Nat := hs.map postSize
def histSize (hs : List (List PostD)) : Nat := hs.length + (postLens hs).sum
theorem viewLens_len (l : List PostD) : (viewLens l).length = l.length := by simp [viewLens]
theorem viewLens_get (l : List PostD) (k : Nat) : (viewLens l).getD k 0 = (getp l k).view.length := by
  unfold viewLens getp
  rw [List.getD_eq_getElem?_getD, List.getD_eq_getElem?_getD, List.getElem?_map]
  cases l[k]? <;> rfl
theorem postLens_len (hs : List (List PostD)) : (postLens hs).length = hs.length := by simp [postLens]
theorem postLens_get (hs : List (List PostD)) (k : Nat) : (postLens hs).getD k 0 = postSize (geth hs k) := by
  unfold postLens geth
  rw [List.getD_eq_getElem?_getD, List.getD_eq_getElem?_getD, List.getElem?_map]
  cases hs[k]? <;> rfl
theorem view_le (l : List PostD) (k : Nat) (h : k < l.length) : (getp l k).view.length ≤ postSize l := by
  have h1 := sumTo_succ (viewLens l) k (by rw [viewLens_len]; exact h)
  have h2 := sumTo_le (viewLens l) (k + 1)
  rw [viewLens_get] at h1
  unfold postSize
  omega
theorem posts_le (hs : List (List PostD)) (k : Nat) (h : k < hs.length) : postSize (geth hs k) ≤ histSize hs := by
  have h1 := sumTo_succ (postLens hs) k (by rw [postLens_len]; exact h)
  have h2 := sumTo_le (postLens hs) (k + 1)
  rw [postLens_get] at h1
  unfold histSize
  omega

structure PostsOwn (w : World) (lo hi q : Nat) (qs : Nat → Nat) (l : List PostD) : Prop where
  len : l.length ≤ 9223372036854775807
  row : ∃ cs, Blk w q 86 cs ∧ l.length * 4 ≤ cs.size ∧ ∀ k, k < l.length → ∃ c, (cs[k * 4]? = some (.int .i64 (getp l k).id) ∧ cs[k * 4 + 1]? = some (.int .i64 (getp l k).val) ∧ cs[k * 4 + 2]? = some (.bool (getp l k).glue) ∧ cs[k * 4 + 3]? = some (.slice (some ⟨qs k, 0, none⟩) (getp l k).view.length c)) ∧ (getp l k).view.length ≤ c
  views : ∀ k, k < l.length → RowB w (qs k) (getp l k).view ∧ (getp l k).view.length ≤ 9223372036854775807
  up : ∀ i j, i < j → j < l.length → qs i < qs j
  rng : (lo ≤ q ∧ q < hi) ∧ ∀ k, k < l.length → lo ≤ qs k ∧ qs k < hi
section
variable {w w' : World} {lo hi lo' hi' q : Nat} {qs : Nat → Nat} {l : List PostD}
theorem PostsOwn.at_ (h : PostsOwn w lo hi q qs l) : PostsAt w (New lo hi) (some ⟨q, 0, none⟩) l := by
  obtain ⟨cs, hb, -, hc⟩ := h.row
  refine ⟨h.len, fun _ => ⟨q, 0, rfl, h.rng.1, fun k hk => ?_⟩⟩
  obtain ⟨c, ⟨h1, h2, h3, h4⟩, h5⟩ := hc k hk
  refine ⟨some ⟨qs k, 0, none⟩, c, ⟨?_, ?_, ?_, ?_⟩, h5, ((h.views k hk).1.ints (h.views k hk).2).more (fun b e => by subst e; exact h.rng.2 k hk)⟩
  · rw [Nat.zero_add, hb.cell]; exact h1
  · rw [Nat.zero_add, hb.cell]; exact h2
  · rw [Nat.zero_add, hb.cell]; exact h3
  · rw [Nat.zero_add, hb.cell]; exact h4
theorem PostsOwn.keep (h : PostsOwn w lo hi q qs l) (hk : ∀ b, lo ≤ b → b < hi → b < w.heap.size → w'.heap[b]? = w.heap[b]?) : PostsOwn w' lo hi q qs l := by
  obtain ⟨cs, hb, h2, h3⟩ := h.row
  refine ⟨h.len, ⟨cs, (hk q h.rng.1.1 h.rng.1.2 hb.lt).trans hb, h2, h3⟩, fun k hkl => ⟨?_, (h.views k hkl).2⟩, h.up, h.rng⟩
  obtain ⟨ds, d1, d2⟩ := (h.views k hkl).1
  exact ⟨ds, (hk _ (h.rng.2 k hkl).1 (h.rng.2 k hkl).2 d1.lt).trans d1, d2⟩
theorem PostsOwn.next (h : PostsOwn w lo hi q qs l) (hb : Below w.heap.size w w') : PostsOwn w' lo hi q qs l := h.keep (fun b _ _ hl => hb.block b hl)
theorem PostsOwn.wide (h : PostsOwn w lo hi q qs l) (h1 : lo' ≤ lo) (h2 : hi ≤ hi') : PostsOwn w lo' hi' q qs l :=
  ⟨h.len, h.row, h.views, h.up, ⟨Nat.le_trans h1 h.rng.1.1, Nat.lt_of_lt_of_le h.rng.1.2 h2⟩, fun k hk => ⟨Nat.le_trans h1 (h.rng.2 k hk).1, Nat.lt_of_lt_of_le (h.rng.2 k hk).2 h2⟩⟩
end
end Go.Proofs.Ytfkaacfeikmabaa

namespace Go.Proofs.Ytfkaacfeikmabaa
open Go.RowKit

set_option maxHeartbeats 800000 in
theorem szBuf_any (A : Option Addr) (n c : Nat) (w : World) (hn : n ≤ 9223372036854775807) :
    Calls Try.prog 156 #[.agg #[.slice A n c], .int .i64 1048576] w fun e w' => e = .returned (.int .i64 (szR 1048576 n)) ∧ Below w.heap.size w w' := by
  have ks : ∀ w, Calls Try.prog 190 #[.slice A n c, .int .i64 1048576] w fun e w' => e = .returned (.int .i64 (szR 1048576 n)) ∧ w = w' := fun w => by
    have hw : wrap64 ((1048576 : Int) - n) = 1048576 - n := by unfold wrap64; omega
    by_cases hlt : (1048576 : Int) - n < 0
    · go_enter Try.func190, Try.ntmps190
      go_wp2_with fail
      go_ret
      exact ⟨by unfold szR; rw [if_pos (by omega)]; rfl, rfl⟩
    · go_enter Try.func190, Try.ntmps190
      go_wp2_with fail
      go_ret
      exact ⟨by unfold szR; rw [if_neg (by omega)]; rfl, rfl⟩
  have hr : szR 1048576 n = -1 ∨ 0 ≤ szR 1048576 n := by unfold szR; split <;> omega
  generalize szR 1048576 n = s at *
  replace ks := hide ks
  rcases hr with rfl | hr
  all_goals
    go_enter Try.func156, Try.ntmps156
    go_wp2_with fail
    refine (ks.out _).mono ?_
    rintro e w1 ⟨rfl, rfl⟩
    go_wp2_with fail
    go_ret
    exact ⟨rfl, below1 _ _⟩

theorem Try.infoWait : (Try.prog.info? 197).map (fun i => (i.zero, i.size, i.bytes)) = some (some (.agg #[.int .i64 0, .int .i64 0]), 2, 16) := by kernel_rfl
theorem make_waits (n : Nat) (hn : n ≤ 1048576) (W : World) : (Instr.makeSlice 180 (.int .i64 (n : Int)) (.int .i64 (n : Int))).run Try.prog W = .ok (.slice (some ⟨W.heap.size, 0, none⟩) n n) (W.alloc (.cells (zrow #[.int .i64 0, .int .i64 0] (n * 2)) 197)) := by
  obtain ⟨i0, hi, hz0, hz1, hz2⟩ := info_parts Try.infoWait
  have hr := run_make (P := Try.prog) W 180 197 i0 _ Try.underlying180 hi hz0 .i64 .i64 n n (by omega) (Int.le_refl _) (by rw [hz2]; omega) (by omega)
  simp only [Int.toNat_natCast, hz1] at hr
  exact hr

set_option maxHeartbeats 800000 in
theorem toWait_any (x v : Int) (w : World) :
    Calls Try.prog 205 #[.agg #[.int .i64 x, .int .i64 v]] w fun e w' => e = .returned (.agg #[.int .i64 x, .int .i64 v]) ∧ Below w.heap.size w w' := by
  go_enter Try.func205, Try.ntmps205
  go_wp2
  refine bodyPost_ret (v := .agg #[.int .i64 x, .int .i64 v]) (by simp [results, Try.results205, go_sem]) rfl ⟨rfl, ?_⟩
  exact ((below1 _ _).alloc (by simp) _).alloc (by simp; omega) _

set_option maxHeartbeats 800000 in
theorem toWaitS_row (A : Option Addr) (zs : List Int) (n c : Nat) (S : Nat → Prop) (w : World) (hz : zs.length = n * 2) (hn : n ≤ 1048576) (hS : ∀ b, S b → b < w.heap.size) (ha : IntsAt w S A zs) :
    Calls Try.prog 193 #[.slice A n c] w fun e w' => e = .returned (.slice (some ⟨w.heap.size, 0, none⟩) n n) ∧ RowT 197 w' w.heap.size zs ∧ Below w.heap.size w w' := by
  have hmk := make_waits n hn
  go_enter Try.func193, Try.ntmps193
  go_wp2
  clear hmk
  go_loopw [4] (fun i wr => ∃ (k : Nat) (cs : Array Value), k ≤ n ∧ i = .int .i64 k ∧ Blk wr w.heap.size 197 cs ∧ Hid (cs.size = n * 2) ∧ Hid (∀ j, j < k * 2 → cs[j]? = some (.int .i64 (geti zs j))) ∧ Below w.heap.size w wr) (fun i _ => n - (intOf i).toNat)
  case atStart => exact ⟨0, _, Nat.zero_le _, rfl, Blk.new _ _ _, hide (zrow_size _ _), hide (fun j hj => by omega), below1 _ _⟩
  case round =>
    obtain ⟨k, cs, hk, rfl, hblk, hsz, hcs, hb⟩ := hrel
    by_cases hlt : k < n
    · obtain ⟨b, off, rfl, hbB, c0, c1⟩ := (ha.below hb hS).two hz hlt
      have hlt2 := hblk.lt
      have HB := hide hblk
      clear hblk
      go_wp2_with fail
      refine (toWait_any _ _ _).mono ?_; rintro e w1 ⟨rfl, hb1⟩
      have hblk1 := HB.out.below hb1 hlt2
      have hsz' := hsz.out
      obtain ⟨v0, hv0⟩ : ∃ v, cs[k * 2]? = some v := ⟨_, Array.getElem?_eq_getElem (by omega)⟩
      obtain ⟨v1, hv1⟩ : ∃ v, cs[k * 2 + 1]? = some v := ⟨_, Array.getElem?_eq_getElem (by omega)⟩
      have g0 := (hblk1.cell _).trans hv0
      have g1 := (hblk1.cell _).trans hv1
      have z0 := hblk1.frozen (k * 2)
      have z1 := hblk1.frozen (k * 2 + 1)
      have HB1 := hide hblk1
      clear hv0 hv1 hblk1 hsz'
      go_wp2_with fail
      go_roundw
      case rel =>
        have hs := hsz.out
        refine ⟨k + 1, (cs.setIfInBounds (k * 2) (.int .i64 (geti zs (k * 2)))).setIfInBounds (k * 2 + 1) (.int .i64 (geti zs (k * 2 + 1))), by omega, by go_num, (HB1.out.set_ _ _).set_ _ _, hide (by simpa using hs), hide (fun j hj => ?_), ((below_then hb hb1).setCell (Nat.le_refl _) _).setCell (Nat.le_refl _) _⟩
        rw [Array.getElem?_setIfInBounds]
        by_cases e : k * 2 + 1 = j
        · subst e; rw [if_pos rfl, if_pos (by simp; omega)]
        · rw [if_neg e, Array.getElem?_setIfInBounds]
          by_cases e : k * 2 = j
          · subst e; rw [if_pos rfl, if_pos (by omega)]
          · rw [if_neg e]; exact hcs.out j (by omega)
      case measure => simp [intOf]; omega
    · obtain rfl : k = n := by omega
      go_wp2
      go_ret
      exact ⟨rfl, ⟨cs, hblk, by rw [hsz.out, hz]; exact Nat.le_refl _, fun j hj => hcs.out j (by omega)⟩, hb⟩

def BufCopy (w w' : World) (e : Ending) (n : Nat) (zs : List Int) : Prop := ∃ q, e = .returned (.agg #[.slice (some ⟨q, 0, none⟩) n n]) ∧ w.heap.size ≤ q ∧ RowT 197 w' q zs ∧ Below w.heap.size w w'
set_option maxHeartbeats 800000 in
theorem toBuf_any (A : Option Addr) (zs : List Int) (n c : Nat) (S : Nat → Prop) (w : World) (hz : zs.length = n * 2) (hn : n ≤ 1048576) (hS : ∀ b, S b → b < w.heap.size) (ha : IntsAt w S A zs) :
    Calls Try.prog 159 #[.agg #[.slice A n c]] w fun e w' => BufCopy w w' e n zs := by
  have hb0 := (below2 w (Obj.cells #[Value.slice A n c] 189) (Obj.cells #[Value.slice none 0 0] 182)).alloc (by simp; omega) (Obj.cells #[Value.slice none 0 0] 182)
  have hR := ((Blk.new (w.alloc (Obj.cells #[Value.slice A n c] 189)) 182 #[Value.slice none 0 0]).alloc (Obj.cells #[Value.slice none 0 0] 182))
  have hX := Blk.new ((w.alloc (Obj.cells #[Value.slice A n c] 189)).alloc (Obj.cells #[Value.slice none 0 0] 182)) 182 #[Value.slice none 0 0]
  simp only [World.size_alloc] at hR hX
  replace hR := hide hR
  replace hX := hide hX
  go_enter Try.func159, Try.ntmps159
  go_wp2_with fail
  refine (toWaitS_row A zs n c S _ hz hn (fun b h => Nat.lt_of_lt_of_le (hS b h) hb0.size) (ha.below hb0 hS)).mono ?_
  rintro e w1 ⟨rfl, hrow, hb1⟩
  have hR1 := hR.out.below hb1 (by simp)
  have hX1 := hX.out.below hb1 (by simp)
  have r0 := hR1.cell 0
  have z0 := hR1.frozen 0
  have x0 := hX1.cell 0
  have z1 := hX1.frozen 0
  simp only [List.getElem?_toArray, List.getElem?_cons_zero] at r0 x0
  have hl := hX1.lt
  have hB := hide (hb0.trans (hb1.mono (by first | (simp; omega) | simp)))
  replace hrow := hide hrow
  clear hR1 hX1 hb1
  go_wp2_with fail
  refine bodyPost_ret (v := .agg #[.slice (some ⟨w.heap.size + 1 + 1 + 1, 0, none⟩) n n]) (by simp [results, Try.results159, go_sem, r0]; done) rfl ⟨w.heap.size + 1 + 1 + 1, rfl, by omega, ?_, ?_⟩
  · obtain ⟨cs, h1, h2⟩ := hrow.out
    simp only [World.size_alloc] at h1
    exact ⟨cs, (h1.far (by show w.heap.size + 1 + 1 + 1 ≠ w.heap.size + 1 + 1; omega) _).far (by show w.heap.size + 1 + 1 + 1 ≠ w.heap.size + 1; omega) _, h2⟩
  · exact (hB.out.setCell (by show w.heap.size ≤ w.heap.size + 1 + 1; omega) _).setCell (by show w.heap.size ≤ w.heap.size + 1; omega) _

set_option maxHeartbeats 800000 in
theorem eqWait_any (x v : Int) (w : World) :
    Calls Try.prog 202 #[.agg #[.int .i64 x, .int .i64 v], .agg #[.int .i64 x, .int .i64 v]] w fun e w' => e = .returned (.bool true) ∧ Below w.heap.size w w' := by
  go_enter Try.func202, Try.ntmps202
  go_wp2
  go_ret
  exact ⟨rfl, below2 _ _ _⟩

set_option maxRecDepth 100000 in
set_option maxHeartbeats 800000 in
theorem eqWaitS_any (A A' : Option Addr) (zs : List Int) (n c c' : Nat) (S : Nat → Prop) (w : World) (hz : zs.length = n * 2) (hS : ∀ b, S b → b < w.heap.size) (ha : IntsAt w S A zs) (ha' : IntsAt w S A' zs) :
    Calls Try.prog 188 #[.slice A n c, .slice A' n c'] w fun e w' => e = .returned (.bool true) ∧ Below w.heap.size w w' := by
  have hn := ha.1
  go_enter Try.func188, Try.ntmps188
  go_wp2
  go_loopw [5] (fun i wr => ∃ (k : Nat), k ≤ n ∧ i = .int .i64 k ∧ Below w.heap.size w wr) (fun i _ => n - (intOf i).toNat)
  case atStart => exact ⟨0, Nat.zero_le _, rfl, Below.refl _ _⟩
  case round =>
    obtain ⟨k, hk, rfl, hb⟩ := hrel
    by_cases hlt : k < n
    · obtain ⟨b, off, rfl, hbB, c0, c1⟩ := (ha.below hb hS).two hz hlt
      obtain ⟨b', off', rfl, hbB', g0, g1⟩ := (ha'.below hb hS).two hz hlt
      have hx : ((k : Int) < (n : Int)) := by omega
      go_wp2_with fail
      go_still_tail 8, (by kernel_rfl)
      have hbd := hb.drew
      change wpList _ _ _ _ _ wr.drew
      generalize wr.drew = w2 at *
      go_wp2_with (go_at_call 202; refine (eqWait_any (geti zs (k * 2)) (geti zs (k * 2 + 1)) _).mono ?_; rintro e w3 ⟨rfl, hb3⟩)
      go_roundw
      case rel => exact ⟨k + 1, by omega, by go_num, below_then hbd hb3⟩
      case measure => simp [intOf]; omega
    · obtain rfl : k = n := by omega
      go_wp2
      go_ret
      exact ⟨rfl, hb⟩

set_option maxHeartbeats 800000 in
theorem eqBuf_any (A A' : Option Addr) (zs : List Int) (n c c' : Nat) (S : Nat → Prop) (w : World) (hz : zs.length = n * 2) (hS : ∀ b, S b → b < w.heap.size) (ha : IntsAt w S A zs) (ha' : IntsAt w S A' zs) :
    Calls Try.prog 150 #[.agg #[.slice A n c], .agg #[.slice A' n c']] w fun e w' => e = .returned (.bool true) ∧ Below w.heap.size w w' := by
  have hb0 := below2 w (Obj.cells #[Value.slice A n c] 182) (Obj.cells #[Value.slice A' n c'] 182)
  go_enter Try.func150, Try.ntmps150
  go_wp2_with fail
  refine (eqWaitS_any A A' zs n c c' S _ hz (fun b h => Nat.lt_of_lt_of_le (hS b h) hb0.size) (ha.below hb0 hS) (ha'.below hb0 hS)).mono ?_
  rintro e w1 ⟨rfl, hb1⟩
  go_wp2_with fail
  go_ret
  exact ⟨rfl, below_then hb0 hb1⟩

set_option maxHeartbeats 1600000 in
theorem markWaitS_any (q : Nat) (zs : List Int) (n c k : Nat) (w : World) (hz : zs.length = n * 2) (hn : n ≤ 1048576) (hk : k ≤ 4194304) (h : RowT 197 w q zs) :
    Calls Try.prog 152 #[.slice (some ⟨q, 0, none⟩) n c, .int .i64 k] w fun e w' => e = .returned (.int .i64 ((k + n * 2 : Nat) : Int)) ∧ RowT 197 w' q (marks k (n * 2)) ∧ Only q w w' := by
  go_enter Try.func152, Try.ntmps152
  go_wp2_with fail
  go_loopw [1, 5] (fun l i wr => ∃ (j : Nat) (cs : Array Value), j ≤ n ∧ i = .int .i64 j ∧ l = .int .i64 ((k + j * 2 : Nat) : Int) ∧ Blk wr q 197 cs ∧ Hid (n * 2 ≤ cs.size) ∧ Hid (∀ m, m < j * 2 → cs[m]? = some (.int .i64 ((k + m : Nat) : Int))) ∧ Only q w wr) (fun _ i _ => n - (intOf i).toNat)
  case atStart =>
    obtain ⟨cs, h1, h2, _⟩ := h
    exact ⟨0, cs, Nat.zero_le _, rfl, rfl, h1, hide (by omega), hide (fun m hm => by omega), Only.refl _ _⟩
  case round =>
    obtain ⟨j, cs, hj, rfl, rfl, hblk, hsz, hcs, ho⟩ := hrel
    by_cases hlt : j < n
    · have hsz' := hsz.out
      obtain ⟨v0, hv0⟩ : ∃ v, cs[j * 2]? = some v := ⟨_, Array.getElem?_eq_getElem (by omega)⟩
      obtain ⟨v1, hv1⟩ : ∃ v, cs[j * 2 + 1]? = some v := ⟨_, Array.getElem?_eq_getElem (by omega)⟩
      have d0 := (hblk.cell _).trans hv0
      have d1 := (hblk.cell _).trans hv1
      have z0 := hblk.frozen (j * 2)
      have z1 := hblk.frozen (j * 2 + 1)
      have HB := hide hblk
      have hlt' : (j : Int) < (n : Int) := by omega
      obtain ⟨K, hK⟩ : ∃ K : Int, K = ((k + j * 2 : Nat) : Int) := ⟨_, rfl⟩
      have hw1 : wrap64 (K + 1) = K + 1 := by unfold wrap64; omega
      have hw2 : wrap64 (K + 1 + 1) = K + 1 + 1 := by unfold wrap64; omega
      rw [← hK]
      replace hK := hide hK
      clear hv0 hv1 hblk hsz'
      go_wp2_with fail
      go_roundw
      case rel =>
        refine ⟨j + 1, (cs.setIfInBounds (j * 2) (.int .i64 K)).setIfInBounds (j * 2 + 1) (.int .i64 (K + 1)), by omega, by go_num, by rw [hK.out]; congr 1; unfold wrap64; omega, (HB.out.set_ _ _).set_ _ _, hide (by have := hsz.out; simpa using this), hide (fun m hm => ?_), (ho.setCell (.inl rfl) _).setCell (.inl rfl) _⟩
        rw [Array.getElem?_setIfInBounds]
        by_cases e : j * 2 + 1 = m
        · subst e; rw [if_pos rfl, if_pos (by have := hsz.out; simp; omega), hK.out]; congr 2
        · rw [if_neg e, Array.getElem?_setIfInBounds]
          by_cases e : j * 2 = m
          · subst e; rw [if_pos rfl, if_pos (by have := hsz.out; omega), hK.out]
          · rw [if_neg e]; exact hcs.out m (by omega)
      case measure => simp [intOf]; omega
    · obtain rfl : j = n := by omega
      go_wp2_with fail
      go_ret
      exact ⟨rfl, ⟨cs, hblk, by rw [marks_len]; exact hsz.out, fun m hm => by rw [marks_len] at hm; rw [marks_get _ _ _ hm]; exact hcs.out m hm⟩, ho⟩

set_option maxHeartbeats 1600000 in
theorem heldWaitS_any (A : Option Addr) (n c k : Nat) (S : Nat → Prop) (w : World) (hn : n ≤ 1048576) (hk : k ≤ 4194304) (h : IntsAt w S A (marks k (n * 2))) :
    Calls Try.prog 154 #[.slice A n c, .int .i64 k] w fun e w' => e = .returned (.int .i64 ((k + n * 2 : Nat) : Int)) ∧ w = w' := by
  go_enter Try.func154, Try.ntmps154
  go_wp2_with fail
  go_loop [1, 5] (fun l i => ∃ (j : Nat), j ≤ n ∧ i = .int .i64 j ∧ l = .int .i64 ((k + j * 2 : Nat) : Int)) (fun _ i => n - (intOf i).toNat)
  case atStart => exact ⟨0, Nat.zero_le _, rfl, rfl⟩
  case round =>
    obtain ⟨j, hj, rfl, rfl⟩ := hrel
    by_cases hlt : j < n
    · obtain ⟨b, off, rfl, _, c0, c1⟩ := h.two (marks_len _ _) hlt
      rw [marks_get _ _ _ (by omega)] at c0 c1
      have hlt' : (j : Int) < (n : Int) := by omega
      rw [show ((k + (j * 2 + 1) : Nat) : Int) = ((k + j * 2 : Nat) : Int) + 1 by omega] at c1
      obtain ⟨K, hK⟩ : ∃ K : Int, K = ((k + j * 2 : Nat) : Int) := ⟨_, rfl⟩
      have hw1 : wrap64 (K + 1) = K + 1 := by unfold wrap64; omega
      have hw2 : wrap64 (K + 1 + 1) = K + 1 + 1 := by unfold wrap64; omega
      rw [← hK] at c0 c1 ⊢
      replace hK := hide hK
      go_wp2_with fail
      go_round
      case rel => exact ⟨j + 1, by omega, by go_num, by rw [hK.out]; congr 1; unfold wrap64; omega⟩
      case measure => simp [intOf]; omega
    · obtain rfl : j = n := by omega
      go_wp2_with fail
      go_ret
      exact ⟨rfl, rfl⟩
end Go.Proofs.Ytfkaacfeikmabaa

namespace Go.Proofs.Ytfkaacfeikmabaa
open Go.RowKit

set_option maxHeartbeats 800000 in
theorem markIntS_none (c : Nat) (k : Int) (w : World) : Calls Try.prog 72 #[.slice none 0 c, .int .i64 k] w fun e w' => e = .returned (.int .i64 k) ∧ w = w' := by
  go_enter Try.func72, Try.ntmps72
  go_wp2_with fail
  go_loop [1, 5] (fun l i => i = .int .i64 0 ∧ l = .int .i64 k) (fun _ _ => 0)
  case atStart => exact ⟨rfl, rfl⟩
  case round =>
    obtain ⟨rfl, rfl⟩ := hrel
    go_wp2_with fail
    go_ret
    exact ⟨rfl, rfl⟩
theorem markIntSI {w : World} {lo hi n c : Nat} {A : Option Addr} {zs : List Int} {k : Int} (hz : zs.length = n) (hn : n ≤ 1048576) (h0 : 0 ≤ k) (h1 : k ≤ 4194304) (h : RvI 3 w lo hi (.slice A n c) n zs) :
    Calls Try.prog 72 #[.slice A n c, .int .i64 k] w fun e w' => e = .returned (.int .i64 (markZ k n)) ∧ RvI 3 w' lo hi (.slice A n c) n (marks k.toNat n) ∧ w.grownBy w' (Value.slice A n c).ownBlock := by
  obtain ⟨j, rfl⟩ : ∃ j : Nat, k = (j : Int) := ⟨k.toNat, by omega⟩
  rcases h with ⟨hr, hh⟩
  rcases hr with ⟨e, rfl, rfl⟩ | ⟨q, c', e, hr, hq⟩
  · cases e
    refine (markIntS_none 0 j w).mono ?_
    rintro e w' ⟨rfl, rfl⟩
    exact ⟨by simp [markZ], ⟨.inl ⟨rfl, rfl, by simp [marks]⟩, hh⟩, World.grownBy.refl w _⟩
  · cases e
    subst hz
    refine (markIntS_any q zs c j w hn (by omega) hr).mono ?_
    rintro e w' ⟨rfl, hr', ho⟩
    exact ⟨by simp [markZ], ⟨.inr ⟨q, c, rfl, hr', hq⟩, hh⟩, grown_only ho⟩

theorem heldIntSI {w : World} {lo hi n c : Nat} {A : Option Addr} {k : Int} (hn : n ≤ 1048576) (h0 : 0 ≤ k) (h1 : k ≤ 4194304) (h : RvI 3 w lo hi (.slice A n c) n (marks k.toNat n)) :
    Calls Try.prog 74 #[.slice A n c, .int .i64 k] w fun e w' => e = .returned (.int .i64 (markZ k n)) ∧ Below w.heap.size w w' := by
  obtain ⟨j, rfl⟩ : ∃ j : Nat, k = (j : Int) := ⟨k.toNat, by omega⟩
  refine (heldIntS_any A n c j _ w hn (by omega) (fun _ h => h) (h.src (by rw [marks_len]; omega) rfl)).mono ?_
  rintro e w' ⟨rfl, rfl⟩
  exact ⟨by simp [markZ], Below.refl _ _⟩

end Go.Proofs.Ytfkaacfeikmabaa

namespace Go.Proofs.Ytfkaacfeikmabaa
open Go.RowKit

theorem eqBufI {w : World} {lo hi lo' hi' n c c' : Nat} {A A' : Option Addr} {zs : List Int} (hz : zs.length = n * 2) (hn : n ≤ 1048577) (h : RvI 197 w lo hi (.slice A n c) n zs) (k : RvI 197 w lo' hi' (.slice A' n c') n zs) :
    Calls Try.prog 150 #[.agg #[.slice A n c], .agg #[.slice A' n c']] w fun e w' => e = .returned (.bool true) ∧ Below w.heap.size w w' :=
  eqBuf_any A A' zs n c c' _ w hz (fun _ h => h) (h.src (by omega) rfl) (k.src (by omega) rfl)

set_option maxHeartbeats 800000 in
theorem markWaitS_none (c : Nat) (k : Int) (w : World) : Calls Try.prog 152 #[.slice none 0 c, .int .i64 k] w fun e w' => e = .returned (.int .i64 k) ∧ w = w' := by
  go_enter Try.func152, Try.ntmps152
  go_wp2_with fail
  go_loop [1, 5] (fun l i => i = .int .i64 0 ∧ l = .int .i64 k) (fun _ _ => 0)
  case atStart => exact ⟨rfl, rfl⟩
  case round =>
    obtain ⟨rfl, rfl⟩ := hrel
    go_wp2_with fail
    go_ret
    exact ⟨rfl, rfl⟩

theorem toBufI {A : Option Addr} {zs : List Int} {n c : Nat} {S : Nat → Prop} {w : World} (hz : zs.length = n * 2) (hn : n ≤ 1048576) (hS : ∀ b, S b → b < w.heap.size) (ha : IntsAt w S A zs) :
    Calls Try.prog 159 #[.agg #[.slice A n c]] w fun e w' => ∃ q, e = .returned (.agg #[.slice (some ⟨q, 0, none⟩) n n]) ∧ RvI 197 w' w.heap.size w'.heap.size (.slice (some ⟨q, 0, none⟩) n n) n zs ∧ Below w.heap.size w w' := by
  refine (toBuf_any A zs n c S w hz hn hS ha).mono ?_
  rintro e w' ⟨q, rfl, hq, hr, hb⟩
  exact ⟨q, rfl, RvI.of (.inr ⟨q, n, rfl, hr, hq⟩), hb⟩
theorem szBuf_big {A : Option Addr} {n c : Nat} (hn : n ≤ 9223372036854775807) (hbig : 1048576 < n) : ∀ w, Calls Try.prog 156 #[.agg #[.slice A n c], .int .i64 1048576] w fun e w' => e = .returned (.int .i64 (-1)) ∧ Below w.heap.size w w' := fun w => by
  have h := szBuf_any A n c w hn
  rw [szR_neg (by omega)] at h
  exact h
theorem szBuf_small {A : Option Addr} {n c : Nat} (hs : n ≤ 1048576) : ∃ s : Int, ¬ s < 0 ∧ ∀ w, Calls Try.prog 156 #[.agg #[.slice A n c], .int .i64 1048576] w fun e w' => e = .returned (.int .i64 s) ∧ Below w.heap.size w w' := by
  refine ⟨(1048576 : Int) - n, by omega, fun w => ?_⟩
  have h := szBuf_any A n c w (by omega)
  rw [szR_pos (by omega)] at h
  exact h
end Go.Proofs.Ytfkaacfeikmabaa

namespace Go.Proofs.Ytfkaacfeikmabaa
open Go.RowKit

structure RowD where
  lo : Nat
  hi : Nat
  A : Option Addr
  n : Nat
  c : Nat
  zs : List Int
def row0 : RowD := ⟨0, 0, none, 0, 0, []⟩
def getr (l : List RowD) (k : Nat) : RowD := l.getD k row0
def RowD.val (r : RowD) : Value := .slice r.A r.n r.c
def RowD.at_ (et : TypeId) (w : World) (r : RowD) : Prop := RvI et w r.lo r.hi (.slice r.A r.n r.c) r.n r.zs

structure RowsOwn (t et : TypeId) (w : World) (lo hi q : Nat) (rs : List RowD) : Prop where
  row : ∃ cs, Blk w q t cs ∧ rs.length ≤ cs.size ∧ ∀ k, k < rs.length → cs[k]? = some (.slice (getr rs k).A (getr rs k).n (getr rs k).c)
  each : ∀ k, k < rs.length → (getr rs k).at_ et w
  up : ∀ i j, i < j → j < rs.length → (getr rs i).hi ≤ (getr rs j).lo
  rng : (lo ≤ q ∧ q < hi) ∧ ∀ k, k < rs.length → lo ≤ (getr rs k).lo ∧ (getr rs k).hi ≤ hi
def RowsI (t et : TypeId) (w : World) (lo hi : Nat) (A : Option Addr) (rs : List RowD) : Prop := rs = [] ∨ ∃ q, A = some ⟨q, 0, none⟩ ∧ RowsOwn t et w lo hi q rs
section
variable {t et : TypeId} {w w' : World} {lo hi lo' hi' q : Nat} {A : Option Addr} {rs : List RowD}
theorem RvI.keep {lo hi n : Nat} {v : Value} {zs : List Int} (h : RvI t w lo hi v n zs) (hk : ∀ b, lo ≤ b → b < hi → b < w.heap.size → w'.heap[b]? = w.heap[b]?) : RvI t w' lo hi v n zs :=
  ⟨h.1.keep (fun k hk' e => hk k (h.1.own_lt e).1 (h.2 k e) hk'), h.2⟩
theorem RowsOwn.keep (h : RowsOwn t et w lo hi q rs) (hk : ∀ b, lo ≤ b → b < hi → b < w.heap.size → w'.heap[b]? = w.heap[b]?) : RowsOwn t et w' lo hi q rs := by
  obtain ⟨cs, h1, h2⟩ := h.row
  refine ⟨⟨cs, (hk q h.rng.1.1 h.rng.1.2 h1.lt).trans h1, h2⟩, fun k hkl => (h.each k hkl).keep (fun b b1 b2 b3 => hk b ?_ ?_ b3), h.up, h.rng⟩
  · have := h.rng.2 k hkl; omega
  · have := h.rng.2 k hkl; omega
theorem RowsI.keep (h : RowsI t et w lo hi A rs) (hk : ∀ b, lo ≤ b → b < hi → b < w.heap.size → w'.heap[b]? = w.heap[b]?) : RowsI t et w' lo hi A rs := by
  rcases h with h | ⟨q, e, h⟩
  · exact .inl h
  · exact .inr ⟨q, e, h.keep hk⟩
theorem RowsI.next (h : RowsI t et w lo hi A rs) (hb : Below w.heap.size w w') : RowsI t et w' lo hi A rs := h.keep (fun b _ _ hl => hb.block b hl)
theorem RowsOwn.wide (h : RowsOwn t et w lo hi q rs) (h1 : lo' ≤ lo) (h2 : hi ≤ hi') : RowsOwn t et w lo' hi' q rs :=
  ⟨h.row, h.each, h.up, ⟨⟨Nat.le_trans h1 h.rng.1.1, Nat.lt_of_lt_of_le h.rng.1.2 h2⟩, fun k hk => ⟨Nat.le_trans h1 (h.rng.2 k hk).1, Nat.le_trans (h.rng.2 k hk).2 h2⟩⟩⟩
theorem RowsI.wide (h : RowsI t et w lo hi A rs) (h1 : lo' ≤ lo) (h2 : hi ≤ hi') : RowsI t et w lo' hi' A rs := by
  rcases h with h | ⟨q, e, h⟩
  · exact .inl h
  · exact .inr ⟨q, e, h.wide h1 h2⟩
theorem RowsI.at_ (h : RowsI t et w lo hi A rs) {k : Nat} (hk : k < rs.length) : ∃ q, A = some ⟨q, 0, none⟩ ∧ RowsOwn t et w lo hi q rs := by
  rcases h with h | h
  · subst h; simp at hk
  · exact h
end
def rlens (rs : List RowD) : List Nat := rs.map (fun r => r.zs.length)
theorem rlens_len (rs : List RowD) : (rlens rs).length = rs.length := by simp [rlens]
theorem rlens_get (rs : List RowD) (k : Nat) : (rlens rs).getD k 0 = (getr rs k).zs.length := by
  unfold rlens getr
  rw [List.getD_eq_getElem?_getD, List.getD_eq_getElem?_getD, List.getElem?_map]
  cases rs[k]? <;> rfl
def mkRow (k : Int) (rs : List RowD) (j : Nat) : RowD := { getr rs j with zs := marks (k + sumTo (rlens rs) j).toNat (getr rs j).zs.length }
def mkRows (k : Int) (rs : List RowD) : List RowD := (List.range rs.length).map (mkRow k rs)
theorem mkRows_len (k : Int) (rs : List RowD) : (mkRows k rs).length = rs.length := by simp [mkRows]
theorem mkRows_get (k : Int) (rs : List RowD) (j : Nat) (hj : j < rs.length) : getr (mkRows k rs) j = mkRow k rs j := by
  unfold mkRows getr
  rw [List.getD_eq_getElem?_getD, List.getElem?_map, List.getElem?_range hj]
  rfl
def midRows (k : Int) (rs : List RowD) (J : Nat) : List RowD := (List.range rs.length).map (fun m => if m < J then mkRow k rs m else getr rs m)
theorem midRows_len (k : Int) (rs : List RowD) (J : Nat) : (midRows k rs J).length = rs.length := by simp [midRows]
theorem midRows_get (k : Int) (rs : List RowD) (J m : Nat) (hm : m < rs.length) : getr (midRows k rs J) m = if m < J then mkRow k rs m else getr rs m := by
  unfold midRows
  conv => lhs; unfold getr
  rw [List.getD_eq_getElem?_getD, List.getElem?_map, List.getElem?_range hm]
  rfl
theorem midRows_zero (k : Int) (rs : List RowD) : midRows k rs 0 = rs := by
  unfold midRows
  apply List.ext_getElem
  · simp
  · intro i h1 h2
    simp [getr, List.getD_eq_getElem?_getD, List.getElem?_eq_getElem h2]
theorem midRows_all (k : Int) (rs : List RowD) : midRows k rs rs.length = mkRows k rs := by
  unfold mkRows midRows
  exact List.map_congr_left (fun m hm => by rw [if_pos (by simpa using hm)])
def SameRows (rs rs' : List RowD) : Prop := rs.length = rs'.length ∧ ∀ k, k < rs.length → (getr rs k).n = (getr rs' k).n ∧ (getr rs k).zs = (getr rs' k).zs
end Go.Proofs.Ytfkaacfeikmabaa
