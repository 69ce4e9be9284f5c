/- The cursor over the bytes of a draw; what a call that moves it leaves alone. -/
import Derived.Test.YthgpifeljeldjaaOnly
import Derived.Test.YthgpifeljeldjaaCore
import Derived.Test.YthgpifeljeldjaaRows
import Derived.Deep.QuietTactic
import Derived.BigQuiet
import Derived.Laws.BitsAllLaws
import Derived.Laws.BitsLemmas
namespace Go.Proofs.Ythgpifeljeldjaa
open Go.RowKit

/-- A row of bytes in a block of S. -/
def BytesAt (w : World) (S : Nat → Prop) (A : Option Addr) (n : Nat) : Prop :=
  n ≤ 9223372036854775807 ∧ (0 < n → ∃ b off, A = some ⟨b, off, none⟩ ∧ S b ∧ ∀ k, k < n → ∃ u : Int, 0 ≤ u ∧ u ≤ 255 ∧ w.cell? ⟨b, off + k, none⟩ = some (.int .u8 u))

/-- The cursor in block g: over bytes in blocks below g, at a place that is not behind their end. -/
def Cur (w : World) (g : Nat) : Prop :=
  ∃ (A : Option Addr) (n c i : Nat) (h : Int), Blk w g 79 #[.slice A n c, .int .i64 i, .int .i64 h] ∧ i ≤ n ∧ BytesAt w (Old g) A n

theorem BytesAt.keep {w w' : World} {S : Nat → Prop} {A : Option Addr} {n : Nat} (h : BytesAt w S A n) (hk : ∀ b o, S b → w'.cell? ⟨b, o, none⟩ = w.cell? ⟨b, o, none⟩) : BytesAt w' S A n :=
  ⟨h.1, fun hn => by
    obtain ⟨b, off, e, hb, hc⟩ := h.2 hn
    refine ⟨b, off, e, hb, fun k hk' => ?_⟩
    obtain ⟨u, h0, h1, h2⟩ := hc k hk'
    exact ⟨u, h0, h1, (hk b _ hb).trans h2⟩⟩
theorem Cur.lt {w : World} {g : Nat} (h : Cur w g) : g < w.heap.size := by
  obtain ⟨_, _, _, _, _, hb, _, _⟩ := h
  exact hb.lt
theorem Cur.below {w w' : World} {g : Nat} (h : Cur w g) (hb : Below (g + 1) w w') : Cur w' g := by
  obtain ⟨A, n, c, i, x, h1, h2, h3⟩ := h
  exact ⟨A, n, c, i, x, h1.below hb (by omega), h2, h3.keep (fun b o hS => hb.cell (p := ⟨b, o, none⟩) (by have : b < g := hS; show b < g + 1; omega))⟩
theorem Cur.drewN {w : World} {g : Nat} (h : Cur w g) (n : Nat) : Cur (w.drewN n) g := h
theorem Cur.drew {w : World} {g : Nat} (h : Cur w g) : Cur w.drew g := h
theorem Cur.alloc {w : World} {g : Nat} (h : Cur w g) (o : Obj) : Cur (w.alloc o) g := h.below ((Below.refl (g + 1) w).alloc h.lt o)
theorem Cur.setCell {w : World} {g : Nat} (h : Cur w g) {p : Addr} (hp : g < p.block) (u : Value) : Cur (w.setCell p u) g := h.below ((Below.refl (g + 1) w).setCell hp u)

theorem and255 (a : Int) : 0 ≤ bits .and .i64 a 255 ∧ bits .and .i64 a 255 ≤ 255 := by
  have e : bits .and .i64 a 255 = IntKind.i64.wrap ((BitVec.ofInt 64 a &&& BitVec.ofInt 64 255).toNat : Int) := rfl
  have h : (BitVec.ofInt 64 a &&& BitVec.ofInt 64 255).toNat ≤ 255 := by
    rw [BitVec.toNat_and]
    exact Nat.le_trans Nat.and_le_right (by decide)
  rw [e, IntKind.wrap_i64]
  omega

set_option maxRecDepth 100000 in
set_option maxHeartbeats 1600000 in
theorem l1Byte_any (g : Nat) (w : World) (hc : Cur w g) :
    Calls Try.prog 62 #[.pointer (some ⟨g, 0, none⟩)] w fun e w' => ∃ x : Int, e = .returned (.int .i64 x) ∧ 0 ≤ x ∧ x ≤ 255 ∧ Cur w' g ∧ Only g w w' := by
  obtain ⟨A, n, c, i, h, hb, hin, hby⟩ := hc
  have hn := hby.1
  have e0 := hb.cell 0
  have e1 := hb.cell 1
  have e2 := hb.cell 2
  simp only [List.getElem?_toArray, List.getElem?_cons_zero, List.getElem?_cons_succ] at e0 e1 e2
  have z1 := hb.frozen 1
  have z2 := hb.frozen 2
  have HB := hide hb
  clear hb
  by_cases hlt : i < n
  · obtain ⟨b, off, rfl, hS, hbc⟩ := hby.2 (by omega)
    obtain ⟨u, hu0, hu1, hcell⟩ := hbc i hlt
    have hlt' : (i : Int) < (n : Int) := by omega
    have hge : (0 : Int) ≤ (i : Int) := by omega
    have hbg : b < g := hS
    clear hbc
    go_enter Try.func62, Try.ntmps62
    go_wp2
    go_quiet (fail)
    go_wp2
    go_quiet (fail)
    go_wp2
    go_quiet (fail)
    go_wp2
    go_ret
    have ho := fun k => (((Only.refl g w).setCell (p := ⟨g, 2, none⟩) (.inl rfl) (.int .i64 (wrap64 (wrap64 (h * 6364136223846793005) + 1442695040888963407)))).drewN k).setCell (p := ⟨g, 1, none⟩) (.inl rfl) (.int .i64 ((i : Int) + 1))
    refine ⟨_, rfl, (and255 _).1, (and255 _).2, ⟨some ⟨b, off, none⟩, n, c, i + 1, (wrap64 (wrap64 (h * 6364136223846793005) + 1442695040888963407)), ?_, by omega, ?_⟩, ho _⟩
    · exact Blk.set_ (w := (w.setCell ⟨g, 2, none⟩ (.int .i64 (wrap64 (wrap64 (h * 6364136223846793005) + 1442695040888963407)))).drewN _) (HB.out.set_ 2 _) 1 _
    · exact hby.keep (fun b' o hS => (ho _).cell (Nat.lt_trans hS HB.out.lt) (Nat.ne_of_lt hS))
  · have hlt' : ¬ ((i : Int) < (n : Int)) := by omega
    go_enter Try.func62, Try.ntmps62
    go_wp2
    go_quiet (fail)
    go_wp2
    go_quiet (fail)
    go_wp2
    go_ret
    have ho := fun k m => (((Only.refl g w).setCell (p := ⟨g, 2, none⟩) (.inl rfl) (.int .i64 (wrap64 (wrap64 (h * 6364136223846793005) + 1442695040888963407)))).drewN k).drewN m
    refine ⟨_, rfl, (and255 _).1, (and255 _).2, ⟨A, n, c, i, (wrap64 (wrap64 (h * 6364136223846793005) + 1442695040888963407)), ?_, hin, ?_⟩, ho _ _⟩
    · exact HB.out.set_ 2 _
    · exact hby.keep (fun b' o hS => (ho 0 0).cell (Nat.lt_trans hS HB.out.lt) (Nat.ne_of_lt hS))

/-- What l1Below may answer. -/
def BelowR (n k : Int) : Prop := (n ≤ 0 → k = 0) ∧ (0 < n → 0 ≤ k ∧ k < n)

set_option maxHeartbeats 1600000 in
theorem l1Below_any (g : Nat) (n : Int) (w : World) (hn : -9223372036854775808 ≤ n) (hn2 : n ≤ 9223372036854775807) (hc : Cur w g) :
    Calls Try.prog 39 #[.pointer (some ⟨g, 0, none⟩), .int .i64 n] w fun e w' => ∃ x : Int, e = .returned (.int .i64 x) ∧ BelowR n x ∧ Cur w' g ∧ Only g w w' := by
  by_cases h0 : n ≤ 0
  · go_enter Try.func39, Try.ntmps39
    go_wp2
    go_ret
    exact ⟨0, rfl, ⟨fun _ => rfl, fun h => by omega⟩, hc, Only.refl _ _⟩
  by_cases h1 : n ≤ 256
  · go_enter Try.func39, Try.ntmps39
    go_wp2_with fail
    refine (l1Byte_any g w hc).mono ?_
    rintro e w1 ⟨x, rfl, hx0, hx1, hc1, ho1⟩
    go_wp2_with fail
    go_ret
    exact ⟨_, rfl, ⟨fun h => by omega, fun h => ⟨Int.emod_nonneg _ (by omega), Int.emod_lt_of_pos _ h⟩⟩, hc1, ho1⟩
  · go_enter Try.func39, Try.ntmps39
    go_wp2_with fail
    refine (l1Byte_any g w hc).mono ?_
    rintro e w1 ⟨x, rfl, hx0, hx1, hc1, ho1⟩
    go_wp2_with fail
    refine (l1Byte_any g w1 hc1).mono ?_
    rintro e w2 ⟨y, rfl, hy0, hy1, hc2, ho2⟩
    go_wp2_with fail
    refine (l1Byte_any g w2 hc2).mono ?_
    rintro e w3 ⟨z, rfl, hz0, hz1, hc3, ho3⟩
    go_wp2_with fail
    refine (l1Byte_any g w3 hc3).mono ?_
    rintro e w4 ⟨q, rfl, hq0, hq1, hc4, ho4⟩
    go_wp2_with fail
    go_ret
    exact ⟨_, rfl, ⟨fun h => by omega, fun h => ⟨Int.emod_nonneg _ (by omega), Int.emod_lt_of_pos _ h⟩⟩, hc4, ((ho1.trans ho2).trans ho3).trans ho4⟩

set_option maxHeartbeats 800000 in
theorem l1Once_any (g : Nat) (n : Int) (w : World) (hn : -9223372036854775808 ≤ n) (hn2 : n ≤ 9223372036854775807) (hc : Cur w g) :
    Calls Try.prog 40 #[.pointer (some ⟨g, 0, none⟩), .int .i64 n] w fun e w' => ∃ x : Bool, e = .returned (.bool x) ∧ Cur w' g ∧ Only g w w' := by
  have k := hide (fun w hc => l1Below_any g n w hn hn2 hc)
  clear hn hn2
  go_enter Try.func40, Try.ntmps40
  go_wp2_with fail
  refine (k.out w hc).mono ?_
  rintro e w1 ⟨x, rfl, hx, hc1, ho1⟩
  go_wp2_with fail
  go_ret
  exact ⟨_, rfl, hc1, ho1⟩

set_option maxHeartbeats 800000 in
theorem l1PickInt_any (g : Nat) (A : Option Addr) (zs : List Int) (c : Nat) (w : World) (hz : 0 < zs.length) (hl : zs.length ≤ 256) (ha : IntsAt w (fun b => b < w.heap.size ∧ b ≠ g) A zs) (hc : Cur w g) :
    Calls Try.prog 41 #[.pointer (some ⟨g, 0, none⟩), .slice A zs.length c] w fun e w' => ∃ k : Nat, k < zs.length ∧ e = .returned (.int .i64 (geti zs k)) ∧ Cur w' g ∧ Only g w w' := by
  have k := hide (fun w hc => l1Below_any g zs.length w (by omega) (by omega) hc)
  go_enter Try.func41, Try.ntmps41
  go_wp2_with fail
  refine (k.out w hc).mono ?_
  rintro e w1 ⟨x, rfl, hx, hc1, ho1⟩
  obtain ⟨hx0, hx1⟩ := hx.2 (by omega)
  obtain ⟨m, rfl⟩ : ∃ m : Nat, x = m := ⟨x.toNat, by omega⟩
  obtain ⟨b, off, rfl, hS, hcl⟩ := ha.2 hz
  have hcell := (ho1.cell hS.1 hS.2).trans (hcl m (by omega))
  clear hcl
  go_wp2_with fail
  go_ret
  exact ⟨m, by omega, rfl, hc1, ho1⟩
end Go.Proofs.Ythgpifeljeldjaa
