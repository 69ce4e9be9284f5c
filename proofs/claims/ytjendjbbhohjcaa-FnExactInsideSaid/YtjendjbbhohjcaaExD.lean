/- Rows between two numbers of blocks, boxes, what keeps them: of no function of the program. -/
import Derived.Test.YtjendjbbhohjcaaRvT
namespace Go.Proofs.Ytjendjbbhohjcaa
open Go.RowKit
/-- A row of its own, whose block lies from lo on and below hi. -/
def RvI (t : TypeId) (w : World) (lo hi : Nat) (v : Value) (n : Nat) (zs : List Int) : Prop := RvT t w lo v n zs ∧ ∀ b, v.ownBlock = some b → b < hi
section
variable {t t' : TypeId} {w w' w0 : World} {lo hi lo' hi' n n' k : Nat} {v v' : Value} {zs zs' : List Int} {cs : Array Value}
theorem RvI.of (h : RvT t w lo v n zs) : RvI t w lo w.heap.size v n zs := ⟨h, fun _ hb => (h.own_lt hb).2⟩
theorem RvI.next (h : RvI t w lo hi v n zs) (hb : Below w.heap.size w w') : RvI t w' lo hi v n zs := ⟨h.1.next hb, h.2⟩
theorem RvI.base (h : RvI t w lo hi v n zs) (hB : lo' ≤ lo) : RvI t w lo' hi v n zs := ⟨h.1.base hB, h.2⟩
theorem RvI.grown (h : RvI t w lo hi v n zs) (hg : w.grownBy w' v'.ownBlock) (hv : RvI t' w lo' hi' v' n' zs') (ha : hi ≤ lo' ∨ hi' ≤ lo) : RvI t w' lo hi v n zs :=
  ⟨h.1.keep (fun k hk e => hg.block k hk (fun e' => by
    have h1 := h.2 k e
    have h2 := (h.1.own_lt e).1
    have h3 := hv.2 k e'.symm
    have h4 := (hv.1.own_lt e'.symm).1
    omega)), h.2⟩
theorem RvI.setCell (h : RvI t w lo hi v n zs) {p : Addr} (hp : p.block < lo ∨ hi ≤ p.block) (u : Value) : RvI t (w.setCell p u) lo hi v n zs :=
  ⟨h.1.keep (fun k _ hk => Below.heap_setCell w p u k (fun e => by
    have h1 := h.2 k hk
    have h2 := (h.1.own_lt hk).1
    omega)), h.2⟩
theorem Blk.grownI (h : Blk w k t cs) (hg : w.grownBy w' v.ownBlock) (hv : RvI t' w lo hi v n zs) (hne : t ≠ t') : Blk w' k t cs := by
  refine (hg.block k h.lt (fun e => ?_)).trans h
  rcases hv.1 with ⟨rfl, _⟩ | ⟨q, c, rfl, ⟨ds, h1, _⟩, _⟩
  · cases e
  · have e2 : q = k := by simpa [Value.ownBlock] using e.symm
    subst e2
    have h2 : w.heap[q]? = some (.cells cs t (0, 0)) := h
    have h3 : w.heap[q]? = some (.cells ds t' (0, 0)) := h1
    rw [h2] at h3
    cases h3
    exact hne rfl
theorem RvI.grownT (h : RvI t w lo hi v n zs) (hg : w.grownBy w' v'.ownBlock) (hv : RvI t' w lo' hi' v' n' zs') (hne : t ≠ t') : RvI t w' lo hi v n zs := by
  refine ⟨?_, h.2⟩
  rcases h.1 with h1 | ⟨q, c, rfl, ⟨ds, h1, h2, h3⟩, hq⟩
  · exact .inl h1
  · exact .inr ⟨q, c, rfl, ⟨ds, h1.grownI hg hv hne, h2, h3⟩, hq⟩
theorem below_next {B : Nat} (h : Below B w0 w) (hb : Below w.heap.size w w') (hB : B ≤ w.heap.size) : Below B w0 w' := h.trans (hb.mono hB)
theorem below_grownI {B : Nat} (h : Below B w0 w) (hg : w.grownBy w' v.ownBlock) (hv : RvI t w lo hi v n zs) (hlo : B ≤ lo) (hB : B ≤ w.heap.size) : Below B w0 w' :=
  h.trans (below_own hg (fun k hk e => by have := (hv.1.own_lt e.symm).1; omega) hB)
theorem IntsAt.nextI {B : Nat} {A : Option Addr} (h : IntsAt w (Old B) A zs) (hb : Below w.heap.size w w') (hB : B ≤ w.heap.size) : IntsAt w' (Old B) A zs := h.below hb (fun _ h => Nat.lt_of_lt_of_le h hB)
theorem IntsAt.grownI {B : Nat} {A : Option Addr} {ys : List Int} (h : IntsAt w (Old B) A ys) (hg : w.grownBy w' v.ownBlock) (hv : RvI t w lo hi v n zs) (hlo : B ≤ lo) (hB : B ≤ w.heap.size) : IntsAt w' (Old B) A ys :=
  h.below (below_own hg (fun k hk e => by have := (hv.1.own_lt e.symm).1; omega) hB) (fun _ h => h)
theorem RvI.src (h : RvI t w lo hi v n zs) (hn : zs.length ≤ 9223372036854775807) {A : Option Addr} {m c : Nat} (hv : v = .slice A m c) : IntsAt w (Old w.heap.size) A zs := h.1.ints hn hv
theorem RvI.srcN (h : RvI t w lo hi v n zs) (hn : zs.length ≤ 9223372036854775807) {A : Option Addr} {m c : Nat} (hv : v = .slice A m c) : IntsAt w (New lo hi) A zs := by
  rcases h with ⟨hr, hh⟩
  rcases hr with ⟨rfl, _, rfl⟩ | ⟨q, c', rfl, hr, hq⟩
  · cases hv
    exact ⟨by simp, fun h => by simp at h⟩
  · cases hv
    exact (hr.ints hn).more (fun b e => by subst e; exact ⟨hq, hh _ rfl⟩)
theorem grown_below {r : Option Nat} (hb : Below w.heap.size w w') : w.grownBy w' r := ⟨hb.os, hb.tape, hb.output, hb.size, fun k hk _ => hb.block k hk⟩
theorem grown_only {q : Nat} (ho : Only q w w') : w.grownBy w' (some q) := ⟨ho.os, ho.tape, ho.output, ho.size, fun k hk hne => ho.block k hk (fun e => hne (by rw [e]))⟩
end

/-- Where the marks go on behind m numbers. -/
def markZ (k : Int) (m : Nat) : Int := k + m
theorem markZ_nonneg {k : Int} {m : Nat} (h : 0 ≤ k) : ¬ markZ k m < 0 := by unfold markZ; omega
theorem markZ_ge {k : Int} {m : Nat} (h : 0 ≤ k) : 0 ≤ markZ k m := by unfold markZ; omega
theorem markZ_le {k : Int} {m : Nat} {B C : Nat} (h : k ≤ B) (hm : m ≤ C) : markZ k m ≤ ((B + C : Nat) : Int) := by unfold markZ; omega

theorem old_lts {B : Nat} {w : World} (hB : B ≤ w.heap.size) : ∀ b, Old B b → b < w.heap.size := fun _ h => Nat.lt_of_lt_of_le h hB
theorem box1 {w : World} {g : Nat} {t : TypeId} {a : Value} (h : Blk w g t #[a]) : (w.cell? ⟨g, 0, none⟩ = some a ∧ w.frozen? ⟨g, 0, none⟩ = false) ∧ g < w.heap.size := ⟨⟨h.cell 0, h.frozen 0⟩, h.lt⟩
end Go.Proofs.Ytjendjbbhohjcaa
