/- (The part of Ex that speaks of numbers alone.) What an exact law's walk carries from world to world: rows between two numbers of blocks, boxes, the arguments; the laws' helpers on rows. -/
import Derived.Test.YtbeaijmilpefmaaRvT
import Derived.Test.YtbeaijmilpefmaaSzEq
import Derived.Test.YtbeaijmilpefmaaToP
namespace Go.Proofs.Ytbeaijmilpefmaa
open Go.RowKit

/-- A row of its own, whose block lies from lo on and below hi. -/
def RvI (t : TypeId) (w : World) (lo hi : Nat) (v : Value) (n : Nat) (zs : List Int) : Prop := RvT t w lo v n zs ∧ ∀ b, v.ownBlock = some b → b < hi
section
variable {t t' : TypeId} {w w' w0 : World} {lo hi lo' hi' n n' k : Nat} {v v' : Value} {zs zs' : List Int} {cs : Array Value}
theorem RvI.of (h : RvT t w lo v n zs) : RvI t w lo w.heap.size v n zs := ⟨h, fun _ hb => (h.own_lt hb).2⟩
theorem RvI.next (h : RvI t w lo hi v n zs) (hb : Below w.heap.size w w') : RvI t w' lo hi v n zs := ⟨h.1.next hb, h.2⟩
theorem RvI.base (h : RvI t w lo hi v n zs) (hB : lo' ≤ lo) : RvI t w lo' hi v n zs := ⟨h.1.base hB, h.2⟩
theorem RvI.grown (h : RvI t w lo hi v n zs) (hg : w.grownBy w' v'.ownBlock) (hv : RvI t' w lo' hi' v' n' zs') (ha : hi ≤ lo' ∨ hi' ≤ lo) : RvI t w' lo hi v n zs :=
  ⟨h.1.keep (fun k hk e => hg.block k hk (fun e' => by
    have h1 := h.2 k e
    have h2 := (h.1.own_lt e).1
    have h3 := hv.2 k e'.symm
    have h4 := (hv.1.own_lt e'.symm).1
    omega)), h.2⟩
theorem RvI.setCell (h : RvI t w lo hi v n zs) {p : Addr} (hp : p.block < lo ∨ hi ≤ p.block) (u : Value) : RvI t (w.setCell p u) lo hi v n zs :=
  ⟨h.1.keep (fun k _ hk => Below.heap_setCell w p u k (fun e => by
    have h1 := h.2 k hk
    have h2 := (h.1.own_lt hk).1
    omega)), h.2⟩
theorem Blk.grownI (h : Blk w k t cs) (hg : w.grownBy w' v.ownBlock) (hv : RvI t' w lo hi v n zs) (hne : t ≠ t') : Blk w' k t cs := by
  refine (hg.block k h.lt (fun e => ?_)).trans h
  rcases hv.1 with ⟨rfl, _⟩ | ⟨q, c, rfl, ⟨ds, h1, _⟩, _⟩
  · cases e
  · have e2 : q = k := by simpa [Value.ownBlock] using e.symm
    subst e2
    have h2 : w.heap[q]? = some (.cells cs t (0, 0)) := h
    have h3 : w.heap[q]? = some (.cells ds t' (0, 0)) := h1
    rw [h2] at h3
    cases h3
    exact hne rfl
theorem RvI.grownT (h : RvI t w lo hi v n zs) (hg : w.grownBy w' v'.ownBlock) (hv : RvI t' w lo' hi' v' n' zs') (hne : t ≠ t') : RvI t w' lo hi v n zs := by
  refine ⟨?_, h.2⟩
  rcases h.1 with h1 | ⟨q, c, rfl, ⟨ds, h1, h2, h3⟩, hq⟩
  · exact .inl h1
  · exact .inr ⟨q, c, rfl, ⟨ds, h1.grownI hg hv hne, h2, h3⟩, hq⟩
theorem below_next {B : Nat} (h : Below B w0 w) (hb : Below w.heap.size w w') (hB : B ≤ w.heap.size) : Below B w0 w' := h.trans (hb.mono hB)
theorem below_grownI {B : Nat} (h : Below B w0 w) (hg : w.grownBy w' v.ownBlock) (hv : RvI t w lo hi v n zs) (hlo : B ≤ lo) (hB : B ≤ w.heap.size) : Below B w0 w' :=
  h.trans (below_own hg (fun k hk e => by have := (hv.1.own_lt e.symm).1; omega) hB)
theorem IntsAt.nextI {B : Nat} {A : Option Addr} (h : IntsAt w (Old B) A zs) (hb : Below w.heap.size w w') (hB : B ≤ w.heap.size) : IntsAt w' (Old B) A zs := h.below hb (fun _ h => Nat.lt_of_lt_of_le h hB)
theorem IntsAt.grownI {B : Nat} {A : Option Addr} {ys : List Int} (h : IntsAt w (Old B) A ys) (hg : w.grownBy w' v.ownBlock) (hv : RvI t w lo hi v n zs) (hlo : B ≤ lo) (hB : B ≤ w.heap.size) : IntsAt w' (Old B) A ys :=
  h.below (below_own hg (fun k hk e => by have := (hv.1.own_lt e.symm).1; omega) hB) (fun _ h => h)
theorem RvI.src (h : RvI t w lo hi v n zs) (hn : zs.length ≤ 9223372036854775807) {A : Option Addr} {m c : Nat} (hv : v = .slice A m c) : IntsAt w (Old w.heap.size) A zs := h.1.ints hn hv
theorem RvI.srcN (h : RvI t w lo hi v n zs) (hn : zs.length ≤ 9223372036854775807) {A : Option Addr} {m c : Nat} (hv : v = .slice A m c) : IntsAt w (New lo hi) A zs := by
  rcases h with ⟨hr, hh⟩
  rcases hr with ⟨rfl, _, rfl⟩ | ⟨q, c', rfl, hr, hq⟩
  · cases hv
    exact ⟨by simp, fun h => by simp at h⟩
  · cases hv
    exact (hr.ints hn).more (fun b e => by subst e; exact ⟨hq, hh _ rfl⟩)
theorem grown_below {r : Option Nat} (hb : Below w.heap.size w w') : w.grownBy w' r := ⟨hb.os, hb.tape, hb.output, hb.size, fun k hk _ => hb.block k hk⟩
theorem grown_only {q : Nat} (ho : Only q w w') : w.grownBy w' (some q) := ⟨ho.os, ho.tape, ho.output, ho.size, fun k hk hne => ho.block k hk (fun e => hne (by rw [e]))⟩
end

/-- Where the marks go on behind m numbers. -/
def markZ (k : Int) (m : Nat) : Int := k + m
theorem markZ_nonneg {k : Int} {m : Nat} (h : 0 ≤ k) : ¬ markZ k m < 0 := by unfold markZ; omega
theorem markZ_ge {k : Int} {m : Nat} (h : 0 ≤ k) : 0 ≤ markZ k m := by unfold markZ; omega
theorem markZ_le {k : Int} {m : Nat} {B C : Nat} (h : k ≤ B) (hm : m ≤ C) : markZ k m ≤ ((B + C : Nat) : Int) := by unfold markZ; omega

theorem eqIntSI {w : World} {lo hi lo' hi' n c c' : Nat} {A A' : Option Addr} {zs : List Int} (hz : zs.length = n) (hn : n ≤ 9223372036854775807) (h : RvI 3 w lo hi (.slice A n c) n zs) (k : RvI 3 w lo' hi' (.slice A' n c') n zs) :
    Calls Try.prog 59 #[.slice A n c, .slice A' n c'] w fun e w' => e = .returned (.bool true) ∧ Below w.heap.size w w' := by
  subst hz
  exact eqIntS_any A A' zs c c' _ w (fun _ h => h) (h.src hn rfl) (k.src hn rfl)
set_option maxHeartbeats 800000 in
theorem markIntS_none (c : Nat) (k : Int) (w : World) : Calls Try.prog 71 #[.slice none 0 c, .int .i64 k] w fun e w' => e = .returned (.int .i64 k) ∧ w = w' := by
  go_enter Try.func71, Try.ntmps71
  go_wp2_with fail
  go_loop [1, 5] (fun l i => i = .int .i64 0 ∧ l = .int .i64 k) (fun _ _ => 0)
  case atStart => exact ⟨rfl, rfl⟩
  case round =>
    obtain ⟨rfl, rfl⟩ := hrel
    go_wp2_with fail
    go_ret
    exact ⟨rfl, rfl⟩
theorem markIntSI {w : World} {lo hi n c : Nat} {A : Option Addr} {zs : List Int} {k : Int} (hz : zs.length = n) (hn : n ≤ 1048576) (h0 : 0 ≤ k) (h1 : k ≤ 4194304) (h : RvI 3 w lo hi (.slice A n c) n zs) :
    Calls Try.prog 71 #[.slice A n c, .int .i64 k] w fun e w' => e = .returned (.int .i64 (markZ k n)) ∧ RvI 3 w' lo hi (.slice A n c) n (marks k.toNat n) ∧ w.grownBy w' (Value.slice A n c).ownBlock := by
  obtain ⟨j, rfl⟩ : ∃ j : Nat, k = (j : Int) := ⟨k.toNat, by omega⟩
  rcases h with ⟨hr, hh⟩
  rcases hr with ⟨e, rfl, rfl⟩ | ⟨q, c', e, hr, hq⟩
  · cases e
    refine (markIntS_none 0 j w).mono ?_
    rintro e w' ⟨rfl, rfl⟩
    exact ⟨by simp [markZ], ⟨.inl ⟨rfl, rfl, by simp [marks]⟩, hh⟩, World.grownBy.refl w _⟩
  · cases e
    subst hz
    refine (markIntS_any q zs c j w hn (by omega) hr).mono ?_
    rintro e w' ⟨rfl, hr', ho⟩
    exact ⟨by simp [markZ], ⟨.inr ⟨q, c, rfl, hr', hq⟩, hh⟩, grown_only ho⟩

theorem heldIntSI {w : World} {lo hi n c : Nat} {A : Option Addr} {k : Int} (hn : n ≤ 1048576) (h0 : 0 ≤ k) (h1 : k ≤ 4194304) (h : RvI 3 w lo hi (.slice A n c) n (marks k.toNat n)) :
    Calls Try.prog 76 #[.slice A n c, .int .i64 k] w fun e w' => e = .returned (.int .i64 (markZ k n)) ∧ Below w.heap.size w w' := by
  obtain ⟨j, rfl⟩ : ∃ j : Nat, k = (j : Int) := ⟨k.toNat, by omega⟩
  refine (heldIntS_any A n c j _ w hn (by omega) (fun _ h => h) (h.src (by rw [marks_len]; omega) rfl)).mono ?_
  rintro e w' ⟨rfl, rfl⟩
  exact ⟨by simp [markZ], Below.refl _ _⟩

theorem toIntSI {A : Option Addr} {zs : List Int} {m c : Nat} {S : Nat → Prop} {w : World} (hz : zs.length = m) (hm : m ≤ 1048576) (hS : ∀ b, S b → b < w.heap.size) (ha : IntsAt w S A zs) :
    Calls Try.prog 56 #[.slice A m c] w fun e w' => ∃ q, e = .returned (.slice (some ⟨q, 0, none⟩) m m) ∧ RvI 3 w' w.heap.size w'.heap.size (.slice (some ⟨q, 0, none⟩) m m) m zs ∧ Below w.heap.size w w' := by
  subst hz
  refine (toIntS_row A zs c S w hm hS ha).mono ?_
  rintro e w' ⟨rfl, hr, hb⟩
  exact ⟨_, rfl, RvI.of (.inr ⟨_, _, rfl, hr, Nat.le_refl _⟩), hb⟩
theorem old_lts {B : Nat} {w : World} (hB : B ≤ w.heap.size) : ∀ b, Old B b → b < w.heap.size := fun _ h => Nat.lt_of_lt_of_le h hB
theorem box1 {w : World} {g : Nat} {t : TypeId} {a : Value} (h : Blk w g t #[a]) : (w.cell? ⟨g, 0, none⟩ = some a ∧ w.frozen? ⟨g, 0, none⟩ = false) ∧ g < w.heap.size := ⟨⟨h.cell 0, h.frozen 0⟩, h.lt⟩
end Go.Proofs.Ytbeaijmilpefmaa
