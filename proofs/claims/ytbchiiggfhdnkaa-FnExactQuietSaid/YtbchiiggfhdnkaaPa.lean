/- A drawn program held in memory beside a cursor. -/
import Derived.Test.YtbchiiggfhdnkaaBe
namespace Go.Proofs.Ytbchiiggfhdnkaa
open Go.RowKit

theorem Only.toBelow {B g : Nat} {a b : World} (h : Only g a b) (hg : B ≤ g) (ha : B ≤ a.heap.size) : Below B a b :=
  ⟨h.os, h.tape, h.output, h.size, fun k hk => h.block k (by omega) (by omega)⟩
theorem BytesAt.old {w w' : World} {B n : Nat} {A : Option Addr} (h : BytesAt w (Old B) A n) (hb : Below B w w') (hB : B ≤ w'.heap.size) : BytesAt w' (Old w'.heap.size) A n :=
  ⟨h.1, fun hn => by
    obtain ⟨b, off, e, hS, hc⟩ := h.2 hn
    refine ⟨b, off, e, Nat.lt_of_lt_of_le hS hB, fun k hk' => ?_⟩
    obtain ⟨u, h0, h1, h2⟩ := hc k hk'
    exact ⟨u, h0, h1, (hb.cell (p := ⟨b, off + k, none⟩) hS).trans h2⟩⟩

theorem Blk.drew {w : World} {g : Nat} {t : TypeId} {cs : Array Value} (h : Blk w g t cs) : Blk w.drew g t cs := h
theorem ProgAt.drew {w : World} {S : Nat → Prop} {v : Value} {p : ProgD} (h : ProgAt w S v p) : ProgAt w.drew S v p := h

/-- A program in block T, its rows in blocks from w0 on. -/
structure PAt (g : Nat) (w0 : World) (T : Nat) (zs : List Int) (v : Value) (ts : List (List InsD)) (vs : List Value) (tv : Value) (w : World) : Prop where
  cur : Cur w g
  only : Only g w0 w
  blk : Blk w T 36 #[v, tv]
  own : ProgOwn w w0.heap.size zs v ts vs tv
  lo : w0.heap.size ≤ T

section
variable {g T : Nat} {w0 w w' : World} {zs : List Int} {v tv : Value} {ts : List (List InsD)} {vs : List Value}
theorem PAt.cells (h : PAt g w0 T zs v ts vs tv w) : PrC w T v tv := ⟨⟨h.blk.cell 0, h.blk.cell 1⟩, h.blk.frozen 0, h.blk.frozen 1⟩
theorem PAt.call (h : PAt g w0 T zs v ts vs tv w) (hg : g < w0.heap.size) (hc : Cur w' g) (ho : Only g w w') : PAt g w0 T zs v ts vs tv w' :=
  ⟨hc, h.only.trans ho, h.blk.only ho (by have := h.lo; omega), h.own.keep (fun b hb hlt => ho.block b hlt (by omega)), h.lo⟩
theorem PAt.drew (h : PAt g w0 T zs v ts vs tv w) : PAt g w0 T zs v ts vs tv w.drew := ⟨h.cur, h.only.drew, h.blk, ⟨h.own.ints, h.own.rows, h.own.thr, h.own.apart⟩, h.lo⟩
theorem PAt.start (hc : Cur w g) (ho : Only g w0 w) (hown : ProgOwn w w0.heap.size zs v ts vs tv) : PAt g w0 w.heap.size zs v ts vs tv (w.alloc (.cells #[v, tv] 36)) :=
  ⟨hc.alloc _, ho.alloc _, Blk.new _ _ _, hown.keep (fun b _ hlt => Below.heap_alloc w _ b hlt), ho.size⟩
theorem l1Below_p (n : Int) (hn : 1 ≤ n) (hn2 : n ≤ 100) (hg : g < w0.heap.size) (h : PAt g w0 T zs v ts vs tv w) :
    Calls Try.prog 60 #[.pointer (some ⟨g, 0, none⟩), .int .i64 n] w fun e w' => ∃ x : Int, e = .returned (.int .i64 x) ∧ (0 ≤ x ∧ x < n) ∧ PAt g w0 T zs v ts vs tv w' ∧ w.heap.size ≤ w'.heap.size := by
  refine (l1Below_any g n w (by omega) (by omega) h.cur).mono ?_
  rintro e w' ⟨x, rfl, hx, hc, ho⟩
  exact ⟨x, rfl, belowP hx (by omega), h.call hg hc ho, ho.size⟩
end
end Go.Proofs.Ytbchiiggfhdnkaa
