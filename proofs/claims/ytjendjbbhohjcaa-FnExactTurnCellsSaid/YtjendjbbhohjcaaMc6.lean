/- What answers a program of its own, and whether. -/
import Derived.Test.YtjendjbbhohjcaaMc0
import Derived.Test.YtjendjbbhohjcaaMc3
import Derived.Test.YtjendjbbhohjcaaMc4
import Derived.Test.YtjendjbbhohjcaaMc5
import Derived.Test.YtjendjbbhohjcaaRows
import Derived.Deep.QuietTactic
import Derived.BigQuiet
import Derived.Laws.BitsAllLaws
import Derived.Laws.BitsLemmas
namespace Go.Proofs.Ytjendjbbhohjcaa
open Go.RowKit

def BytesAt (w : World) (S : Nat → Prop) (A : Option Addr) (n : Nat) : Prop :=
  n ≤ 9223372036854775807 ∧ (0 < n → ∃ b off, A = some ⟨b, off, none⟩ ∧ S b ∧ ∀ k, k < n → ∃ u : Int, 0 ≤ u ∧ u ≤ 255 ∧ w.cell? ⟨b, off + k, none⟩ = some (.int .u8 u))

def Cur (w : World) (g : Nat) : Prop :=
  ∃ (A : Option Addr) (n c i : Nat) (h : Int), Blk w g 117 #[.slice A n c, .int .i64 i, .int .i64 h] ∧ i ≤ n ∧ BytesAt w (Old g) A n

theorem BytesAt.keep {w w' : World} {S : Nat → Prop} {A : Option Addr} {n : Nat} (h : BytesAt w S A n) (hk : ∀ b o, S b → w'.cell? ⟨b, o, none⟩ = w.cell? ⟨b, o, none⟩) : BytesAt w' S A n :=
  ⟨h.1, fun hn => by
    obtain ⟨b, off, e, hb, hc⟩ := h.2 hn
    refine ⟨b, off, e, hb, fun k hk' => ?_⟩
    obtain ⟨u, h0, h1, h2⟩ := hc k hk'
    exact ⟨u, h0, h1, (hk b _ hb).trans h2⟩⟩
theorem Cur.lt {w : World} {g : Nat} (h : Cur w g) : g < w.heap.size := by
  obtain ⟨_, _, _, _, _, hb, _, _⟩ := h
  exact hb.lt
theorem Cur.below {w w' : World} {g : Nat} (h : Cur w g) (hb : Below (g + 1) w w') : Cur w' g := by
  obtain ⟨A, n, c, i, x, h1, h2, h3⟩ := h
  exact ⟨A, n, c, i, x, h1.below hb (by omega), h2, h3.keep (fun b o hS => hb.cell (p := ⟨b, o, none⟩) (by have : b < g := hS; show b < g + 1; omega))⟩
theorem Cur.drewN {w : World} {g : Nat} (h : Cur w g) (n : Nat) : Cur (w.drewN n) g := h
theorem Cur.drew {w : World} {g : Nat} (h : Cur w g) : Cur w.drew g := h
theorem Cur.alloc {w : World} {g : Nat} (h : Cur w g) (o : Obj) : Cur (w.alloc o) g := h.below ((Below.refl (g + 1) w).alloc h.lt o)
theorem Cur.setCell {w : World} {g : Nat} (h : Cur w g) {p : Addr} (hp : g < p.block) (u : Value) : Cur (w.setCell p u) g := h.below ((Below.refl (g + 1) w).setCell hp u)

theorem and255 (a : Int) : 0 ≤ bits .and .i64 a 255 ∧ bits .and .i64 a 255 ≤ 255 := by
  have e : bits .and .i64 a 255 = IntKind.i64.wrap ((BitVec.ofInt 64 a &&& BitVec.ofInt 64 255).toNat : Int) := rfl
  have h : (BitVec.ofInt 64 a &&& BitVec.ofInt 64 255).toNat ≤ 255 := by
    rw [BitVec.toNat_and]
    exact Nat.le_trans Nat.and_le_right (by decide)
  rw [e, IntKind.wrap_i64]
  omega

set_option maxRecDepth 100000 in
set_option maxHeartbeats 1600000 in
theorem l1Byte_any (g : Nat) (w : World) (hc : Cur w g) :
    Calls Try.prog 96 #[.pointer (some ⟨g, 0, none⟩)] w fun e w' => ∃ x : Int, e = .returned (.int .i64 x) ∧ 0 ≤ x ∧ x ≤ 255 ∧ Cur w' g ∧ Only g w w' := by
  obtain ⟨A, n, c, i, h, hb, hin, hby⟩ := hc
  have hn := hby.1
  have e0 := hb.cell 0
  have e1 := hb.cell 1
  have e2 := hb.cell 2
  simp only [List.getElem?_toArray, List.getElem?_cons_zero, List.getElem?_cons_succ] at e0 e1 e2
  have z1 := hb.frozen 1
  have z2 := hb.frozen 2
  have HB := hide hb
  clear hb
  by_cases hlt : i < n
  · obtain ⟨b, off, rfl, hS, hbc⟩ := hby.2 (by omega)
    obtain ⟨u, hu0, hu1, hcell⟩ := hbc i hlt
    have hlt' : (i : Int) < (n : Int) := by omega
    have hge : (0 : Int) ≤ (i : Int) := by omega
    have hbg : b < g := hS
    clear hbc
    go_enter Try.func96, Try.ntmps96
    go_wp2
    go_quiet (fail)
    go_wp2
    go_quiet (fail)
    go_wp2
    go_quiet (fail)
    go_wp2
    go_ret
    have ho := fun k => (((Only.refl g w).setCell (p := ⟨g, 2, none⟩) (.inl rfl) (.int .i64 (wrap64 (wrap64 (h * 6364136223846793005) + 1442695040888963407)))).drewN k).setCell (p := ⟨g, 1, none⟩) (.inl rfl) (.int .i64 ((i : Int) + 1))
    refine ⟨_, rfl, (and255 _).1, (and255 _).2, ⟨some ⟨b, off, none⟩, n, c, i + 1, (wrap64 (wrap64 (h * 6364136223846793005) + 1442695040888963407)), ?_, by omega, ?_⟩, ho _⟩
    · exact Blk.set_ (w := (w.setCell ⟨g, 2, none⟩ (.int .i64 (wrap64 (wrap64 (h * 6364136223846793005) + 1442695040888963407)))).drewN _) (HB.out.set_ 2 _) 1 _
    · exact hby.keep (fun b' o hS => (ho _).cell (Nat.lt_trans hS HB.out.lt) (Nat.ne_of_lt hS))
  · have hlt' : ¬ ((i : Int) < (n : Int)) := by omega
    go_enter Try.func96, Try.ntmps96
    go_wp2
    go_quiet (fail)
    go_wp2
    go_quiet (fail)
    go_wp2
    go_ret
    have ho := fun k m => (((Only.refl g w).setCell (p := ⟨g, 2, none⟩) (.inl rfl) (.int .i64 (wrap64 (wrap64 (h * 6364136223846793005) + 1442695040888963407)))).drewN k).drewN m
    refine ⟨_, rfl, (and255 _).1, (and255 _).2, ⟨A, n, c, i, (wrap64 (wrap64 (h * 6364136223846793005) + 1442695040888963407)), ?_, hin, ?_⟩, ho _ _⟩
    · exact HB.out.set_ 2 _
    · exact hby.keep (fun b' o hS => (ho 0 0).cell (Nat.lt_trans hS HB.out.lt) (Nat.ne_of_lt hS))

def BelowR (n k : Int) : Prop := (n ≤ 0 → k = 0) ∧ (0 < n → 0 ≤ k ∧ k < n)

set_option maxHeartbeats 1600000 in
theorem l1Below_any (g : Nat) (n : Int) (w : World) (hn : -9223372036854775808 ≤ n) (hn2 : n ≤ 9223372036854775807) (hc : Cur w g) :
    Calls Try.prog 56 #[.pointer (some ⟨g, 0, none⟩), .int .i64 n] w fun e w' => ∃ x : Int, e = .returned (.int .i64 x) ∧ BelowR n x ∧ Cur w' g ∧ Only g w w' := by
  by_cases h0 : n ≤ 0
  · go_enter Try.func56, Try.ntmps56
    go_wp2
    go_ret
    exact ⟨0, rfl, ⟨fun _ => rfl, fun h => by omega⟩, hc, Only.refl _ _⟩
  by_cases h1 : n ≤ 256
  · go_enter Try.func56, Try.ntmps56
    go_wp2_with fail
    refine (l1Byte_any g w hc).mono ?_
    rintro e w1 ⟨x, rfl, hx0, hx1, hc1, ho1⟩
    go_wp2_with fail
    go_ret
    exact ⟨_, rfl, ⟨fun h => by omega, fun h => ⟨Int.emod_nonneg _ (by omega), Int.emod_lt_of_pos _ h⟩⟩, hc1, ho1⟩
  · go_enter Try.func56, Try.ntmps56
    go_wp2_with fail
    refine (l1Byte_any g w hc).mono ?_
    rintro e w1 ⟨x, rfl, hx0, hx1, hc1, ho1⟩
    go_wp2_with fail
    refine (l1Byte_any g w1 hc1).mono ?_
    rintro e w2 ⟨y, rfl, hy0, hy1, hc2, ho2⟩
    go_wp2_with fail
    refine (l1Byte_any g w2 hc2).mono ?_
    rintro e w3 ⟨z, rfl, hz0, hz1, hc3, ho3⟩
    go_wp2_with fail
    refine (l1Byte_any g w3 hc3).mono ?_
    rintro e w4 ⟨q, rfl, hq0, hq1, hc4, ho4⟩
    go_wp2_with fail
    go_ret
    exact ⟨_, rfl, ⟨fun h => by omega, fun h => ⟨Int.emod_nonneg _ (by omega), Int.emod_lt_of_pos _ h⟩⟩, hc4, ((ho1.trans ho2).trans ho3).trans ho4⟩

set_option maxHeartbeats 800000 in
theorem l1Once_any (g : Nat) (n : Int) (w : World) (hn : -9223372036854775808 ≤ n) (hn2 : n ≤ 9223372036854775807) (hc : Cur w g) :
    Calls Try.prog 57 #[.pointer (some ⟨g, 0, none⟩), .int .i64 n] w fun e w' => ∃ x : Bool, e = .returned (.bool x) ∧ Cur w' g ∧ Only g w w' := by
  have k := hide (fun w hc => l1Below_any g n w hn hn2 hc)
  clear hn hn2
  go_enter Try.func57, Try.ntmps57
  go_wp2_with fail
  refine (k.out w hc).mono ?_
  rintro e w1 ⟨x, rfl, hx, hc1, ho1⟩
  go_wp2_with fail
  go_ret
  exact ⟨_, rfl, hc1, ho1⟩

set_option maxHeartbeats 800000 in
theorem l1PickInt_any (g : Nat) (A : Option Addr) (zs : List Int) (c : Nat) (w : World) (hz : 0 < zs.length) (hl : zs.length ≤ 256) (ha : IntsAt w (fun b => b < w.heap.size ∧ b ≠ g) A zs) (hc : Cur w g) :
    Calls Try.prog 101 #[.pointer (some ⟨g, 0, none⟩), .slice A zs.length c] w fun e w' => ∃ k : Nat, k < zs.length ∧ e = .returned (.int .i64 (geti zs k)) ∧ Cur w' g ∧ Only g w w' := by
  have k := hide (fun w hc => l1Below_any g zs.length w (by omega) (by omega) hc)
  go_enter Try.func101, Try.ntmps101
  go_wp2_with fail
  refine (k.out w hc).mono ?_
  rintro e w1 ⟨x, rfl, hx, hc1, ho1⟩
  obtain ⟨hx0, hx1⟩ := hx.2 (by omega)
  obtain ⟨m, rfl⟩ : ∃ m : Nat, x = m := ⟨x.toNat, by omega⟩
  obtain ⟨b, off, rfl, hS, hcl⟩ := ha.2 hz
  have hcell := (ho1.cell hS.1 hS.2).trans (hcl m (by omega))
  clear hcl
  go_wp2_with fail
  go_ret
  exact ⟨m, by omega, rfl, hc1, ho1⟩
end Go.Proofs.Ytjendjbbhohjcaa

namespace Go.Proofs.Ytjendjbbhohjcaa
open Go.RowKit

set_option maxHeartbeats 1600000 in
theorem markIntS_any (q : Nat) (zs : List Int) (c k : Nat) (w : World) (hn : zs.length ≤ 1048576) (hk : k ≤ 16777216) (h : RowB w q zs) :
    Calls Try.prog 35 #[.slice (some ⟨q, 0, none⟩) zs.length c, .int .i64 k] w fun e w' => e = .returned (.int .i64 ((k + zs.length : Nat) : Int)) ∧ RowB w' q (marks k zs.length) ∧ Only q w w' := by
  go_enter Try.func35, Try.ntmps35
  go_wp2_with fail
  go_loopw [1, 5] (fun l i wr => ∃ (j : Nat) (cs : Array Value), j ≤ zs.length ∧ i = .int .i64 j ∧ l = .int .i64 ((k + j : Nat) : Int) ∧ Blk wr q 3 cs ∧ Hid (zs.length ≤ cs.size) ∧ Hid (∀ m, m < j → cs[m]? = some (.int .i64 ((k + m : Nat) : Int))) ∧ Only q w wr) (fun _ i _ => zs.length - (intOf i).toNat)
  case atStart =>
    obtain ⟨cs, h1, h2, _⟩ := h
    exact ⟨0, cs, Nat.zero_le _, rfl, rfl, h1, hide h2, hide (fun m hm => by omega), Only.refl _ _⟩
  case round =>
    obtain ⟨j, cs, hj, rfl, rfl, hblk, hsz, hcs, ho⟩ := hrel
    by_cases hlt : j < zs.length
    · obtain ⟨v0, hv0⟩ : ∃ v0, cs[j]? = some v0 := ⟨cs[j]'(by have := hsz.out; omega), Array.getElem?_eq_getElem _⟩
      have hdst := (hblk.cell j).trans hv0
      have hfz := hblk.frozen j
      have HB := hide hblk
      have hlt' : (j : Int) < (zs.length : Int) := by omega
      clear hv0 hblk
      go_wp2_with fail
      go_roundw
      case rel =>
        refine ⟨j + 1, cs.setIfInBounds j (.int .i64 ((k + j : Nat) : Int)), by omega, by go_num, by go_num, HB.out.set_ j _, hide (by rw [Array.size_setIfInBounds]; exact hsz.out), hide (fun m hm => ?_), ho.setCell (.inl rfl) _⟩
        rw [Array.getElem?_setIfInBounds]
        by_cases e : j = m
        · subst e; rw [if_pos rfl, if_pos (by have := hsz.out; omega)]
        · rw [if_neg e]; exact hcs.out m (by omega)
      case measure => simp [intOf]; omega
    · obtain rfl : j = zs.length := by omega
      go_wp2_with fail
      go_ret
      exact ⟨rfl, ⟨cs, hblk, by rw [marks_len]; exact hsz.out, fun m hm => by rw [marks_len] at hm; rw [marks_get _ _ _ hm]; exact hcs.out m hm⟩, ho⟩

set_option maxHeartbeats 1600000 in
theorem heldIntS_any (A : Option Addr) (n c k : Nat) (S : Nat → Prop) (w : World) (hn : n ≤ 1048576) (hk : k ≤ 16777216) (_hS : ∀ b, S b → b < w.heap.size) (h : IntsAt w S A (marks k n)) :
    Calls Try.prog 36 #[.slice A n c, .int .i64 k] w fun e w' => e = .returned (.int .i64 ((k + n : Nat) : Int)) ∧ w = w' := by
  go_enter Try.func36, Try.ntmps36
  go_wp2_with fail
  go_loop [1, 5] (fun l i => ∃ (j : Nat), j ≤ n ∧ i = .int .i64 j ∧ l = .int .i64 ((k + j : Nat) : Int)) (fun _ i => n - (intOf i).toNat)
  case atStart => exact ⟨0, Nat.zero_le _, rfl, rfl⟩
  case round =>
    obtain ⟨j, hj, rfl, rfl⟩ := hrel
    by_cases hlt : j < n
    · obtain ⟨b, off, rfl, _, hc⟩ := h.2 (by rw [marks_len]; omega)
      have hcell := hc j (by rw [marks_len]; exact hlt)
      rw [marks_get _ _ _ hlt] at hcell
      have hlt' : (j : Int) < (n : Int) := by omega
      clear hc
      go_wp2_with fail
      go_round
      case rel => exact ⟨j + 1, by omega, by go_num, by go_num⟩
      case measure => simp [intOf]; omega
    · obtain rfl : j = n := by omega
      go_wp2_with fail
      go_ret
      exact ⟨rfl, rfl⟩

set_option maxHeartbeats 800000 in
theorem markIntS_none (c : Nat) (k : Int) (w : World) : Calls Try.prog 35 #[.slice none 0 c, .int .i64 k] w fun e w' => e = .returned (.int .i64 k) ∧ w = w' := by
  go_enter Try.func35, Try.ntmps35
  go_wp2_with fail
  go_loop [1, 5] (fun l i => i = .int .i64 0 ∧ l = .int .i64 k) (fun _ _ => 0)
  case atStart => exact ⟨rfl, rfl⟩
  case round =>
    obtain ⟨rfl, rfl⟩ := hrel
    go_wp2_with fail
    go_ret
    exact ⟨rfl, rfl⟩
theorem markIntSI {w : World} {lo hi n c : Nat} {A : Option Addr} {zs : List Int} {k : Int} (hz : zs.length = n) (hn : n ≤ 1048576) (h0 : 0 ≤ k) (h1 : k ≤ 16777216) (h : RvI 3 w lo hi (.slice A n c) n zs) :
    Calls Try.prog 35 #[.slice A n c, .int .i64 k] w fun e w' => e = .returned (.int .i64 (markZ k n)) ∧ RvI 3 w' lo hi (.slice A n c) n (marks k.toNat n) ∧ w.grownBy w' (Value.slice A n c).ownBlock := by
  obtain ⟨j, rfl⟩ : ∃ j : Nat, k = (j : Int) := ⟨k.toNat, by omega⟩
  rcases h with ⟨hr, hh⟩
  rcases hr with ⟨e, rfl, rfl⟩ | ⟨q, c', e, hr, hq⟩
  · cases e
    refine (markIntS_none 0 j w).mono ?_
    rintro e w' ⟨rfl, rfl⟩
    exact ⟨by simp [markZ], ⟨.inl ⟨rfl, rfl, by simp [marks]⟩, hh⟩, World.grownBy.refl w _⟩
  · cases e
    subst hz
    refine (markIntS_any q zs c j w hn (by omega) hr).mono ?_
    rintro e w' ⟨rfl, hr', ho⟩
    exact ⟨by simp [markZ], ⟨.inr ⟨q, c, rfl, hr', hq⟩, hh⟩, grown_only ho⟩

theorem heldIntSI {w : World} {lo hi n c : Nat} {A : Option Addr} {k : Int} (hn : n ≤ 1048576) (h0 : 0 ≤ k) (h1 : k ≤ 16777216) (h : RvI 3 w lo hi (.slice A n c) n (marks k.toNat n)) :
    Calls Try.prog 36 #[.slice A n c, .int .i64 k] w fun e w' => e = .returned (.int .i64 (markZ k n)) ∧ Below w.heap.size w w' := by
  obtain ⟨j, rfl⟩ : ∃ j : Nat, k = (j : Int) := ⟨k.toNat, by omega⟩
  refine (heldIntS_any A n c j _ w hn (by omega) (fun _ h => h) (h.src (by rw [marks_len]; omega) rfl)).mono ?_
  rintro e w' ⟨rfl, rfl⟩
  exact ⟨by simp [markZ], Below.refl _ _⟩
end Go.Proofs.Ytjendjbbhohjcaa

namespace Go.Proofs.Ytjendjbbhohjcaa
end Go.Proofs.Ytjendjbbhohjcaa

namespace Go.Proofs.Ytjendjbbhohjcaa
open Go.RowKit

def sumTo (l : List Nat) (k : Nat) : Nat := (l.take k).sum
theorem sumTo_zero (l : List Nat) : sumTo l 0 = 0 := by simp [sumTo]
theorem sumTo_succ (l : List Nat) (k : Nat) (h : k < l.length) : sumTo l (k + 1) = sumTo l k + l.getD k 0 := by
  unfold sumTo
  rw [sum_take _ k h]
  simp [List.getD, List.getElem?_eq_getElem h]
theorem sumTo_le (l : List Nat) (k : Nat) : sumTo l k ≤ l.sum := sum_take_le l k
theorem sumTo_all (l : List Nat) : sumTo l l.length = l.sum := by unfold sumTo; rw [List.take_of_length_le (Nat.le_refl _)]

structure Inn (lo hi : Nat) (w w' : World) : Prop where
  os : w'.os = w.os
  tape : w'.tape = w.tape
  output : w'.output = w.output
  size : w.heap.size ≤ w'.heap.size
  block : ∀ k, k < w.heap.size → ¬ (lo ≤ k ∧ k < hi) → w'.heap[k]? = w.heap[k]?
section
variable {w w' w'' : World} {lo hi lo' hi' g : Nat}
theorem Inn.refl (lo hi : Nat) (w : World) : Inn lo hi w w := ⟨rfl, rfl, rfl, Nat.le_refl _, fun _ _ _ => rfl⟩
theorem Inn.trans (h : Inn lo hi w w') (k : Inn lo hi w' w'') : Inn lo hi w w'' :=
  ⟨k.os.trans h.os, k.tape.trans h.tape, k.output.trans h.output, Nat.le_trans h.size k.size, fun i hi' hn => (k.block i (Nat.lt_of_lt_of_le hi' h.size) hn).trans (h.block i hi' hn)⟩
theorem Inn.of_only (h : Only g w w') (hg : lo ≤ g ∧ g < hi) : Inn lo hi w w' := ⟨h.os, h.tape, h.output, h.size, fun k hk hn => h.block k hk (fun e => hn (by rw [e]; exact hg))⟩
theorem Inn.of_below (h : Below w.heap.size w w') : Inn lo hi w w' := ⟨h.os, h.tape, h.output, h.size, fun k hk _ => h.block k hk⟩
theorem Inn.wide (h : Inn lo hi w w') (h1 : lo' ≤ lo) (h2 : hi ≤ hi') : Inn lo' hi' w w' := ⟨h.os, h.tape, h.output, h.size, fun k hk hn => h.block k hk (fun e => hn ⟨by omega, by omega⟩)⟩
theorem Inn.below (h : Inn lo hi w w') (hl : lo ≤ w.heap.size) : Below lo w w' := ⟨h.os, h.tape, h.output, h.size, fun k hk => h.block k (by omega) (fun e => by omega)⟩
end
end Go.Proofs.Ytjendjbbhohjcaa

namespace Go.Proofs.Ytjendjbbhohjcaa
open Go.RowKit

set_option maxRecDepth 100000 in
set_option maxHeartbeats 6400000 in
theorem markInsS_any (q : Nat) (cs0 : Array Value) (n c k : Nat) (w : World) (hn : n ≤ 1048576) (hk : k ≤ 16777216) (h : Blk w q 89 cs0) (hs : n * 6 ≤ cs0.size) :
    Calls Try.prog 109 #[.slice (some ⟨q, 0, none⟩) n c, .int .i64 k] w fun e w' => e = .returned (.int .i64 ((k + n * 6 : Nat) : Int)) ∧ (∃ cs', Blk w' q 89 cs' ∧ cs'.size = cs0.size) ∧ Only q w w' := by
  go_enter Try.func109, Try.ntmps109
  go_wp2_with fail
  go_loopw [1, 5] (fun l i wr => ∃ (j : Nat) (cs : Array Value), j ≤ n ∧ i = .int .i64 j ∧ l = .int .i64 ((k + j * 6 : Nat) : Int) ∧ Blk wr q 89 cs ∧ Hid (n * 6 ≤ cs.size ∧ cs.size = cs0.size) ∧ Only q w wr) (fun _ i _ => n - (intOf i).toNat)
  case atStart => exact ⟨0, cs0, Nat.zero_le _, rfl, rfl, h, hide ⟨hs, rfl⟩, Only.refl _ _⟩
  case round =>
    obtain ⟨j, cs, hj, rfl, rfl, hblk, hsz, ho⟩ := hrel
    by_cases hlt : j < n
    · have hsz' := hsz.out
      obtain ⟨v0, hv0⟩ : ∃ v, cs[j * 6]? = some v := ⟨_, Array.getElem?_eq_getElem (by omega)⟩
      obtain ⟨v1, hv1⟩ : ∃ v, cs[j * 6 + 1]? = some v := ⟨_, Array.getElem?_eq_getElem (by omega)⟩
      obtain ⟨v2, hv2⟩ : ∃ v, cs[j * 6 + 2]? = some v := ⟨_, Array.getElem?_eq_getElem (by omega)⟩
      obtain ⟨v3, hv3⟩ : ∃ v, cs[j * 6 + 3]? = some v := ⟨_, Array.getElem?_eq_getElem (by omega)⟩
      obtain ⟨v4, hv4⟩ : ∃ v, cs[j * 6 + 4]? = some v := ⟨_, Array.getElem?_eq_getElem (by omega)⟩
      obtain ⟨v5, hv5⟩ : ∃ v, cs[j * 6 + 5]? = some v := ⟨_, Array.getElem?_eq_getElem (by omega)⟩
      have d0 := (hblk.cell _).trans hv0
      have z0 := hblk.frozen (j * 6)
      have d1 := (hblk.cell _).trans hv1
      have z1 := hblk.frozen (j * 6 + 1)
      have d2 := (hblk.cell _).trans hv2
      have z2 := hblk.frozen (j * 6 + 2)
      have d3 := (hblk.cell _).trans hv3
      have z3 := hblk.frozen (j * 6 + 3)
      have d4 := (hblk.cell _).trans hv4
      have z4 := hblk.frozen (j * 6 + 4)
      have d5 := (hblk.cell _).trans hv5
      have z5 := hblk.frozen (j * 6 + 5)
      have HB := hide hblk
      have hlt' : (j : Int) < (n : Int) := by omega
      obtain ⟨K, hK⟩ : ∃ K : Int, K = ((k + j * 6 : Nat) : Int) := ⟨_, rfl⟩
      have hw0 : wrap64 (K + 1) = K + 1 := by unfold wrap64; omega
      have hw1 : wrap64 (K + 1 + 1) = K + 1 + 1 := by unfold wrap64; omega
      have hw2 : wrap64 (K + 1 + 1 + 1) = K + 1 + 1 + 1 := by unfold wrap64; omega
      have hw3 : wrap64 (K + 1 + 1 + 1 + 1) = K + 1 + 1 + 1 + 1 := by unfold wrap64; omega
      have hw4 : wrap64 (K + 1 + 1 + 1 + 1 + 1) = K + 1 + 1 + 1 + 1 + 1 := by unfold wrap64; omega
      have hw5 : wrap64 (K + 1 + 1 + 1 + 1 + 1 + 1) = K + 1 + 1 + 1 + 1 + 1 + 1 := by unfold wrap64; omega
      rw [← hK]
      replace hK := hide hK
      clear hv0 hv1 hv2 hv3 hv4 hv5 hblk hsz'
      go_wp2_with fail
      go_roundw
      case rel =>
        refine ⟨j + 1, _, by omega, by go_num, by rw [hK.out]; congr 1; unfold wrap64; omega, (((((HB.out.set_ _ _).set_ _ _).set_ _ _).set_ _ _).set_ _ _).set_ _ _, hide (by have := hsz.out; simpa using this), (((((ho.setCell (.inl rfl) _).setCell (.inl rfl) _).setCell (.inl rfl) _).setCell (.inl rfl) _).setCell (.inl rfl) _).setCell (.inl rfl) _⟩
      case measure => simp [intOf]; omega
    · obtain rfl : j = n := by omega
      go_wp2_with fail
      go_ret
      exact ⟨rfl, ⟨cs, hblk, hsz.out.2⟩, ho⟩

def ThreadsIn (w : World) (q lo hi : Nat) (ts : List (List InsD)) : Prop := ∃ cs, Blk w q 45 cs ∧ ts.length ≤ cs.size ∧ ∀ j, j < ts.length → ∃ q', cs[j]? = some (.slice (some ⟨q', 0, none⟩) (gett ts j).length (gett ts j).length) ∧ lo ≤ q' ∧ q' < hi ∧ ∃ ds, Blk w q' 89 ds ∧ (gett ts j).length * 6 ≤ ds.size
theorem ThreadsOwn.in_ {w : World} {q lo : Nat} {ts : List (List InsD)} (h : ThreadsOwn w q lo ts) : ThreadsIn w q lo w.heap.size ts := by
  obtain ⟨cs, h1, h2, h3⟩ := h
  refine ⟨cs, h1, h2, fun j hj => ?_⟩
  obtain ⟨q', k1, k2, ds, k3, k4, k5⟩ := h3 j hj
  exact ⟨q', k1, k2, k3.lt, ds, k3, k4⟩
theorem ThreadsIn.next {w w' : World} {q lo hi : Nat} {ts : List (List InsD)} (h : ThreadsIn w q lo hi ts) (hb : Below w.heap.size w w') : ThreadsIn w' q lo hi ts := by
  obtain ⟨cs, h1, h2, h3⟩ := h
  refine ⟨cs, h1.below hb h1.lt, h2, fun j hj => ?_⟩
  obtain ⟨q', k1, k2, k3, ds, k4, k5⟩ := h3 j hj
  exact ⟨q', k1, k2, k3, ds, k4.below hb k4.lt, k5⟩
theorem ThreadsIn.only {w w' : World} {g q lo hi n : Nat} {ts : List (List InsD)} (h : ThreadsIn w q lo hi ts) (ho : Only g w w') (hq : q ≠ g) (hg : ∃ cs, Blk w g 89 cs ∧ cs.size = n) (hg' : ∃ cs, Blk w' g 89 cs ∧ cs.size = n) : ThreadsIn w' q lo hi ts := by
  obtain ⟨cs, h1, h2, h3⟩ := h
  refine ⟨cs, h1.only ho hq, h2, fun j hj => ?_⟩
  obtain ⟨q', k1, k2, k3, ds, k4, k5⟩ := h3 j hj
  by_cases e : q' = g
  · subst e
    obtain ⟨es, e1, e2⟩ := hg
    obtain ⟨fs, f1, f2⟩ := hg'
    have e3 : w.heap[q']? = some (.cells es 89 (0, 0)) := e1
    have e4 : w.heap[q']? = some (.cells ds 89 (0, 0)) := k4
    rw [e3] at e4
    cases e4
    exact ⟨q', k1, k2, k3, fs, f1, by omega⟩
  · exact ⟨q', k1, k2, k3, ds, k4.only ho e, k5⟩

set_option maxRecDepth 100000 in
set_option maxHeartbeats 3200000 in
theorem markThreadS_any (q lo hi : Nat) (ts : List (List InsD)) (c k : Nat) (w : World) (hn : tsSize ts ≤ 1048576) (hk : k ≤ 2097152) (hq : q < lo) (h : ThreadsIn w q lo hi ts) :
    Calls Try.prog 88 #[.slice (some ⟨q, 0, none⟩) ts.length c, .int .i64 k] w fun e w' => (∃ m : Nat, e = .returned (.int .i64 (m : Int)) ∧ m ≤ 16777216) ∧ Inn lo hi w w' := by
  have hl := insTo_le ts 0
  go_enter Try.func88, Try.ntmps88
  go_wp2_with fail
  go_loopw [1, 5] (fun l i wr => ∃ (j m : Nat), j ≤ ts.length ∧ i = .int .i64 j ∧ l = .int .i64 (m : Int) ∧ m ≤ k + insTo ts j * 6 ∧ ThreadsIn wr q lo hi ts ∧ Inn lo hi w wr) (fun _ i _ => ts.length - (intOf i).toNat)
  case atStart => exact ⟨0, k, Nat.zero_le _, rfl, rfl, by omega, h, Inn.refl _ _ _⟩
  case round =>
    obtain ⟨j, m, hj, rfl, rfl, hm, hth, hin⟩ := hrel
    by_cases hlt : j < ts.length
    · have hlt' : (j : Int) < (ts.length : Int) := by omega
      have hs1 := insTo_succ ts j hlt
      have hs2 := insTo_le ts (j + 1)
      obtain ⟨cs, h1, h2, h3⟩ := hth
      obtain ⟨q', k1, k2, k3, ds, k4, k5⟩ := h3 j hlt
      have c0 : wr.cell? ⟨q, j, none⟩ = some (.slice (some ⟨q', 0, none⟩) (gett ts j).length (gett ts j).length) := (h1.cell j).trans k1
      have hql := h1.lt
      have HT := hide (show ThreadsIn wr q lo hi ts from ⟨cs, h1, h2, h3⟩)
      have HM := hide (markInsS_any q' ds (gett ts j).length (gett ts j).length m wr (by omega) (by omega) k4 k5)
      have K4 := hide k4
      have HI := hide hin
      clear h1 h2 h3 k1 k4 k5 hin
      go_wp2_with fail
      refine HM.out.mono ?_
      rintro e w1 ⟨rfl, ⟨es, e1, e2⟩, ho⟩
      have HT1 := hide (HT.out.only ho (by omega) ⟨ds, K4.out, rfl⟩ ⟨es, e1, e2⟩)
      have HI1 := hide (HI.out.trans (Inn.of_only ho ⟨k2, k3⟩))
      clear HT HI HM ho e1
      go_wp2_with fail
      go_roundw
      case rel => exact ⟨j + 1, _, by omega, by go_num, rfl, by rw [hs1, Nat.add_mul, ← Nat.add_assoc]; exact Nat.add_le_add_right hm _, HT1.out, HI1.out⟩
      case measure => simp [intOf]; omega
    · obtain rfl : j = ts.length := by omega
      have hs2 := insTo_le ts ts.length
      go_wp2_with fail
      go_ret
      exact ⟨⟨m, rfl, by omega⟩, hin⟩

set_option maxRecDepth 100000 in
set_option maxHeartbeats 3200000 in
theorem markProg_any (q0 q lo hi : Nat) (p : ProgD) (w : World) (hn : progSize p ≤ 1048576) (hq0 : lo ≤ q0 ∧ q0 < q) (hq : q < hi) (hhi : hi ≤ w.heap.size) (h0 : RowB w q0 p.init) (h : ThreadsIn w q (q + 1) hi p.ts) :
    Calls Try.prog 45 #[.agg #[.slice (some ⟨q0, 0, none⟩) p.init.length p.init.length, .slice (some ⟨q, 0, none⟩) p.ts.length p.ts.length], .int .i64 1] w fun e w' => (∃ m : Nat, e = .returned (.int .i64 (m : Int)) ∧ m ≤ 16777216) ∧ Inn lo hi w w' := by
  have hn1 : p.init.length ≤ 1048576 := by unfold progSize at hn; omega
  have hn2 : tsSize p.ts ≤ 1048576 := by unfold progSize at hn; omega
  obtain ⟨w0, hw0⟩ : ∃ x, x = w.alloc (Obj.cells #[.slice (some ⟨q0, 0, none⟩) p.init.length p.init.length, .slice (some ⟨q, 0, none⟩) p.ts.length p.ts.length] 37) := ⟨_, rfl⟩
  have hb0 : Below w.heap.size w w0 := by rw [hw0]; exact below1 _ _
  have X0 := hide (show Blk w0 w.heap.size 37 #[.slice (some ⟨q0, 0, none⟩) p.init.length p.init.length, .slice (some ⟨q, 0, none⟩) p.ts.length p.ts.length] from by rw [hw0]; exact Blk.new _ _ _)
  have x0 : w0.cell? ⟨w.heap.size, 0, none⟩ = some (.slice (some ⟨q0, 0, none⟩) p.init.length p.init.length) := X0.out.cell 0
  have lx := X0.out.lt
  have R0 := hide (h0.below hb0)
  have T0 := hide (h.next hb0)
  have I0 := hide (show Inn lo hi w w0 from Inn.of_below hb0)
  clear hb0 h0 h
  go_enter Try.func45, Try.ntmps45
  go_wp2_with fail
  rw [← hw0]
  clear hw0
  refine (markIntS_any q0 p.init p.init.length 1 w0 hn1 (by omega) R0.out).mono ?_
  rintro e w1 ⟨rfl, hr1, ho⟩
  have X1 := hide (X0.out.only ho (by omega))
  have x1 : w1.cell? ⟨w.heap.size, 1, none⟩ = some (.slice (some ⟨q, 0, none⟩) p.ts.length p.ts.length) := X1.out.cell 1
  have lx1 := X1.out.lt
  have I1 := hide (I0.out.trans (Inn.of_only ho ⟨hq0.1, by omega⟩))
  have T1 := hide (show ThreadsIn w1 q (q + 1) hi p.ts from by
    obtain ⟨cs, h1, h2, h3⟩ := T0.out
    refine ⟨cs, h1.only ho (by omega), h2, fun j hj => ?_⟩
    obtain ⟨q', k1, k2, k3, ds, k4, k5⟩ := h3 j hj
    exact ⟨q', k1, k2, k3, ds, k4.only ho (by omega), k5⟩)
  clear x0 lx X0 R0 T0 I0 ho hr1
  go_wp2_with fail
  refine (markThreadS_any q (q + 1) hi p.ts p.ts.length (1 + p.init.length) w1 hn2 (by omega) (by omega) T1.out).mono ?_
  rintro e w2 ⟨⟨m, rfl, hm⟩, hI⟩
  have I2 := hide (I1.out.trans (hI.wide (by omega) (Nat.le_refl _)))
  go_wp2_with fail
  go_ret
  exact ⟨⟨m, rfl, hm⟩, I2.out⟩
end Go.Proofs.Ytjendjbbhohjcaa

namespace Go.Proofs.Ytjendjbbhohjcaa
open Go.RowKit

structure PArg (w : World) (A1 A2 : Option Addr) (c1 c2 : Nat) (p : ProgD) : Prop where
  cc : p.init.length ≤ c1 ∧ p.ts.length ≤ c2
  ini : IntsAt w (Old w.heap.size) A1 p.init
  ts : ThreadsAt w (Old w.heap.size) A2 p.ts

end Go.Proofs.Ytjendjbbhohjcaa

namespace Go.Proofs.Ytjendjbbhohjcaa
open Go.RowKit

structure EpR (n : Nat) (A1 A2 : Option Addr) (c1 c2 : Nat) (p : ProgD) (w : World) : Prop where
  bp : Blk w n 58 #[.slice A1 p.init.length c1, .slice A2 p.ts.length c2]
  pr : ProgAt w (Old n) (.agg #[.slice A1 p.init.length c1, .slice A2 p.ts.length c2]) p
section
variable {w w' : World} {n : Nat} {A1 A2 : Option Addr} {c1 c2 : Nat} {p : ProgD}
theorem EpR.lts (h : EpR n A1 A2 c1 c2 p w) : ∀ b, Old n b → b < w.heap.size := fun _ k => Nat.lt_trans k h.bp.lt
theorem EpR.next (h : EpR n A1 A2 c1 c2 p w) (hb : Below w.heap.size w w') : EpR n A1 A2 c1 c2 p w' :=
  ⟨h.bp.below hb h.bp.lt, h.pr.below hb h.lts⟩
theorem EpR.cells (h : EpR n A1 A2 c1 c2 p w) : w.cell? ⟨n, 0, none⟩ = some (.slice A1 p.init.length c1) ∧ w.cell? ⟨n, 1, none⟩ = some (.slice A2 p.ts.length c2) :=
  ⟨h.bp.cell 0, h.bp.cell 1⟩
theorem EpR.toProg (h : EpR n A1 A2 c1 c2 p w) (hz : progSize p ≤ 1048576) :
    Calls Try.prog 41 #[.agg #[.slice A1 p.init.length c1, .slice A2 p.ts.length c2]] w fun e w' => ∃ q0 qt, e = .returned (.agg #[.slice (some ⟨q0, 0, none⟩) p.init.length p.init.length, .slice (some ⟨qt, 0, none⟩) p.ts.length p.ts.length]) ∧ RowB w' q0 p.init ∧ w.heap.size ≤ q0 ∧ q0 < qt ∧ ThreadsOwn w' qt (qt + 1) p.ts ∧ Below w.heap.size w w' := by
  obtain ⟨B1, d1, B2, d2, hv, hcc, hi, ht⟩ := h.pr
  simp only [Value.agg.injEq, Array.mk.injEq, List.cons.injEq, Value.slice.injEq, and_true] at hv
  obtain ⟨⟨rfl, -, rfl⟩, rfl, -, rfl⟩ := hv
  exact toProg_own _ _ p _ _ (Old n) w hz h.lts hi ht
structure CpR (lo q0 qt : Nat) (p : ProgD) (w : World) : Prop where
  r : RowB w q0 p.init
  t : ThreadsOwn w qt (qt + 1) p.ts
  ge : lo ≤ q0
  lt : q0 < qt
theorem CpR.lts {lo q0 qt : Nat} (h : CpR lo q0 qt p w) : q0 < w.heap.size ∧ qt < w.heap.size := by
  obtain ⟨cs, k, _⟩ := h.t
  exact ⟨h.r.lt, k.lt⟩
theorem InsRow.at_ {q : Nat} {l : List InsD} (h : InsRow w q l) (hn : l.length ≤ 1048576) : InssAt w (Old w.heap.size) (some ⟨q, 0, none⟩) l := by
  obtain ⟨cs, h1, h2, h3⟩ := h
  refine ⟨by omega, fun _ => ⟨q, 0, rfl, h1.lt, fun k hk => ?_⟩⟩
  have := h1.insIn (h3 k hk)
  rw [Nat.zero_add]
  exact this
theorem ThreadsOwn.at_ {q lo : Nat} {ts : List (List InsD)} (h : ThreadsOwn w q lo ts) (hn : tsSize ts ≤ 1048576) : ThreadsAt w (Old w.heap.size) (some ⟨q, 0, none⟩) ts := by
  obtain ⟨cs, h1, h2, h3⟩ := h
  refine ⟨by unfold tsSize at hn; omega, fun _ => ⟨q, 0, rfl, h1.lt, fun k hk => ?_⟩⟩
  obtain ⟨q', k1, k2, k3⟩ := h3 k hk
  refine ⟨_, _, ?_, Nat.le_refl _, k3.at_ (Nat.le_trans (gett_le ts k hk) hn)⟩
  rw [Nat.zero_add, h1.cell k]
  exact k1
theorem CpR.arg {lo q0 qt : Nat} (h : CpR lo q0 qt p w) (hz : progSize p ≤ 1048576) : PArg w (some ⟨q0, 0, none⟩) (some ⟨qt, 0, none⟩) p.init.length p.ts.length p := by
  have hn1 : p.init.length ≤ 1048576 := by unfold progSize at hz; omega
  have hn2 : tsSize p.ts ≤ 1048576 := by unfold progSize at hz; omega
  have hi := h.r.ints (by omega)
  exact ⟨⟨Nat.le_refl _, Nat.le_refl _⟩, ⟨hi.1, fun k => by obtain ⟨b, off, e1, e2, e3⟩ := hi.2 k; exact ⟨b, off, e1, (by rw [e2]; exact h.r.lt), e3⟩⟩, h.t.at_ hn2⟩
theorem CpR.prog {lo q0 qt : Nat} (h : CpR lo q0 qt p w) (hz : progSize p ≤ 1048576) : ProgAt w (Old w.heap.size) (.agg #[.slice (some ⟨q0, 0, none⟩) p.init.length p.init.length, .slice (some ⟨qt, 0, none⟩) p.ts.length p.ts.length]) p :=
  ⟨_, _, _, _, rfl, (h.arg hz).cc, (h.arg hz).ini, (h.arg hz).ts⟩
theorem CpR.same {lo q0 qt lo' q0' qt' : Nat} (h : CpR lo q0 qt p w) (k : CpR lo' q0' qt' p w) (hz : progSize p ≤ 1048576) :
    Calls Try.prog 44 #[.agg #[.slice (some ⟨q0, 0, none⟩) p.init.length p.init.length, .slice (some ⟨qt, 0, none⟩) p.ts.length p.ts.length], .agg #[.slice (some ⟨q0', 0, none⟩) p.init.length p.init.length, .slice (some ⟨qt', 0, none⟩) p.ts.length p.ts.length]] w fun e w' => e = .returned (.bool true) ∧ Below w.heap.size w w' :=
  eqProg_any _ _ p (Old w.heap.size) w (fun _ h => h) (h.prog hz) (k.prog hz)
theorem ThreadsOwn.below {q lo : Nat} {ts : List (List InsD)} (h : ThreadsOwn w q lo ts) (hb : Below w.heap.size w w') : ThreadsOwn w' q lo ts := by
  obtain ⟨cs, h1, h2, h3⟩ := h
  refine ⟨cs, h1.below hb h1.lt, h2, fun j hj => ?_⟩
  obtain ⟨q', k1, k2, k3⟩ := h3 j hj
  exact ⟨q', k1, k2, k3.below hb⟩
theorem CpR.next {lo q0 qt : Nat} (h : CpR lo q0 qt p w) (hb : Below w.heap.size w w') : CpR lo q0 qt p w' :=
  ⟨h.r.below hb, h.t.below hb, h.ge, h.lt⟩
structure CpI (lo hi q0 qt : Nat) (p : ProgD) (w : World) : Prop where
  r : RowB w q0 p.init
  t : ThreadsIn w qt (qt + 1) hi p.ts
  ge : lo ≤ q0
  lt : q0 < qt
  top : qt < hi
  sz : hi ≤ w.heap.size
theorem CpR.in_ {lo q0 qt : Nat} (h : CpR lo q0 qt p w) : CpI lo w.heap.size q0 qt p w :=
  ⟨h.r, h.t.in_, h.ge, h.lt, h.lts.2, Nat.le_refl _⟩
theorem CpI.next {lo hi q0 qt : Nat} (h : CpI lo hi q0 qt p w) (hb : Below w.heap.size w w') : CpI lo hi q0 qt p w' :=
  ⟨h.r.below hb, h.t.next hb, h.ge, h.lt, h.top, Nat.le_trans h.sz hb.size⟩
theorem CpI.mark {lo hi q0 qt : Nat} (h : CpI lo hi q0 qt p w) (hz : progSize p ≤ 1048576) :
    Calls Try.prog 45 #[.agg #[.slice (some ⟨q0, 0, none⟩) p.init.length p.init.length, .slice (some ⟨qt, 0, none⟩) p.ts.length p.ts.length], .int .i64 1] w fun e w' => (∃ m : Nat, e = .returned (.int .i64 (m : Int)) ∧ m ≤ 16777216) ∧ Inn lo hi w w' :=
  markProg_any q0 qt lo hi p w hz ⟨h.ge, h.lt⟩ h.top h.sz h.r h.t
theorem EpR.copy (h : EpR n A1 A2 c1 c2 p w) (hz : progSize p ≤ 1048576) :
    Calls Try.prog 41 #[.agg #[.slice A1 p.init.length c1, .slice A2 p.ts.length c2]] w fun e w' => ∃ q0 qt, e = .returned (.agg #[.slice (some ⟨q0, 0, none⟩) p.init.length p.init.length, .slice (some ⟨qt, 0, none⟩) p.ts.length p.ts.length]) ∧ CpR w.heap.size q0 qt p w' ∧ Below w.heap.size w w' := by
  refine (h.toProg hz).mono ?_
  rintro e w' ⟨q0, qt, rfl, h1, h2, h3, h4, h5⟩
  exact ⟨q0, qt, rfl, ⟨h1, h4, h2, h3⟩, h5⟩
theorem EpR.inn {lo hi : Nat} (h : EpR n A1 A2 c1 c2 p w) (hi' : Inn lo hi w w') (ha : n < lo) (hl : lo ≤ w.heap.size) : EpR n A1 A2 c1 c2 p w' :=
  ⟨h.bp.below (hi'.below hl) ha, h.pr.below (hi'.below hl) (fun _ k => Nat.lt_trans k ha)⟩
end
end Go.Proofs.Ytjendjbbhohjcaa

namespace Go.Proofs.Ytjendjbbhohjcaa
open Go.RowKit

theorem CrAt.next {w0 w w' : World} {T : Nat} {zs : List Int} {v tv : Value} {ts : List (List InsD)} {vs : List Value} (h : CrAt w0 T zs v ts vs tv w) (hb : Below w.heap.size w w') : CrAt w0 T zs v ts vs tv w' :=
  ⟨h.below.trans (hb.mono h.below.size), h.blk.below hb h.blk.lt, h.own.keep (fun b _ hlt => hb.block b hlt), h.lo, h.out.imp fun _ => Exists.imp fun _ k => k.below hb k.lt⟩
def FenR (w w' : World) (e : Ending) (q : ProgD) (ok : Bool) : Prop := ∃ v tv vs, e = .returned (.tuple #[.agg #[v, tv], .bool ok]) ∧ ProgOwn w' w.heap.size q.init v q.ts vs tv ∧ Below w.heap.size w w'
theorem FenR.no {w w' : World} (hb : Below w.heap.size w w') : FenR w w' (.returned (.tuple #[.agg #[.slice none 0 0, .slice none 0 0], .bool false])) ⟨[], []⟩ false :=
  ⟨_, _, [], rfl, ⟨⟨rfl, .inl ⟨rfl, rfl⟩⟩, ⟨rfl, .inl ⟨rfl, rfl⟩⟩, fun k hk => by simp at hk, fun j k _ hk => by simp at hk⟩, hb⟩
end Go.Proofs.Ytjendjbbhohjcaa
