/- Rows in the making: of numbers, of spots. -/
import Derived.Test.YtjendjbbhohjcaaRvT
namespace Go.Proofs.Ytjendjbbhohjcaa
open Go.RowKit

/-- A row in the making since the world W: its numbers, and that nothing else has changed. -/
structure Grow (W : World) (A : Option Addr) (c : Nat) (zs : List Int) (w : World) : Prop where
  own : w.ownsRow W.heap.size 3 1 (.slice A zs.length c) zs.length (zs.map (Value.int .i64))
  low : Below W.heap.size W w
theorem Grow.nil (W : World) : Grow W none 0 [] W := ⟨⟨rfl, .inl ⟨rfl, rfl⟩⟩, Below.refl _ _⟩
/-- One number more, behind the box that it lies in. -/
theorem Grow.more {W w w' : World} {A A' : Option Addr} {c c' : Nat} {zs : List Int} {x : Int} {o : Obj} (h : Grow W A c zs w) (hown : w'.ownsRow W.heap.size 3 1 (.slice A' (zs.length + 1) c') (zs.length + 1) (zs.map (Value.int .i64) ++ [Value.int .i64 x])) (hg : (w.alloc o).grownBy w' (Value.slice A zs.length c).ownBlock) : Grow W A' c' (zs ++ [x]) w' := by
  refine ⟨by simpa using hown, (h.low.alloc h.low.size o).trans (below_own hg (fun k hk e => ?_) (by have := h.low.size; simp; omega))⟩
  have := (own_at h.own e.symm).1
  omega
theorem Grow.row {W w w0 : World} {A : Option Addr} {c : Nat} {zs : List Int} (h : Grow W A c zs w) (hb : Below w0.heap.size w0 W) : RowR 3 w0 w (.returned (.slice A zs.length c)) zs.length zs :=
  ⟨A, c, rfl, (RvT.of_own h.own).base hb.size, below_then hb h.low⟩
theorem Grow.src {W w : World} {A : Option Addr} {c : Nat} {zs : List Int} (h : Grow W A c zs w) (x : Int) : IntsAt (w.alloc (Obj.cells #[Value.int .i64 x] 3)) (Old (w.heap.size + 1)) (some ⟨w.heap.size, 0, none⟩) [x] := by
  have _ := h
  exact ⟨by simp, fun _ => ⟨_, 0, rfl, by simp [Old], fun k hk => by
    rw [(Blk.new w 3 #[Value.int .i64 x]).cell]
    match k, hk with
    | 0, _ => rfl⟩⟩
theorem Grow.alloc_own {W w : World} {A : Option Addr} {c : Nat} {zs : List Int} (h : Grow W A c zs w) (o : Obj) : (w.alloc o).ownsRow W.heap.size 3 1 (.slice A zs.length c) zs.length (zs.map (Value.int .i64)) :=
  kept h.own (fun k hk _ => Below.heap_alloc w o k hk)

theorem Grow.next {W w w' : World} {A : Option Addr} {c : Nat} {zs : List Int} (h : Grow W A c zs w) (hb : Below w.heap.size w w') : Grow W A c zs w' :=
  ⟨kept h.own (fun k hk _ => hb.block k hk), h.low.trans (hb.mono h.low.size)⟩
theorem Grow.drew {W w : World} {A : Option Addr} {c : Nat} {zs : List Int} (h : Grow W A c zs w) : Grow W A c zs w.drew := ⟨h.own, ⟨h.low.os, h.low.tape, h.low.output, h.low.size, h.low.block⟩⟩
end Go.Proofs.Ytjendjbbhohjcaa
