/- A row of spots in the making. -/
import Derived.Test.YtfkaacfeikmabaaGrow
import Derived.Test.YtfkaacfeikmabaaSpH
namespace Go.Proofs.Ytfkaacfeikmabaa
open Go.RowKit

/-- A row of n spots in the making since the world W: its numbers, and that nothing else has changed. -/
structure GrowS (W : World) (A : Option Addr) (c n : Nat) (zs : List Int) (w : World) : Prop where
  own : w.ownsRow W.heap.size 105 2 (.slice A n c) n (zs.map (Value.int .i64))
  low : Below W.heap.size W w
theorem GrowS.nil (W : World) : GrowS W none 0 0 [] W := ⟨⟨rfl, .inl ⟨rfl, rfl⟩⟩, Below.refl _ _⟩
section
variable {W w w' w0 : World} {A A' : Option Addr} {c c' n : Nat} {zs : List Int}
theorem GrowS.more {x y : Int} {o : Obj} (h : GrowS W A c n zs w) (hown : w'.ownsRow W.heap.size 105 2 (.slice A' (n + 1) c') (n + 1) (zs.map (Value.int .i64) ++ [Value.int .i64 x, Value.int .i64 y])) (hg : (w.alloc o).grownBy w' (Value.slice A n c).ownBlock) : GrowS W A' c' (n + 1) (zs ++ [x, y]) w' := by
  refine ⟨by simpa using hown, (h.low.alloc h.low.size o).trans (below_own hg (fun k hk e => ?_) (by have := h.low.size; simp; omega))⟩
  have := (own_at h.own e.symm).1
  omega
theorem GrowS.src (h : GrowS W A c n zs w) (x y : Int) : IntsAt (w.alloc (Obj.cells #[Value.int .i64 x, Value.int .i64 y] 105)) (Old (w.heap.size + 1)) (some ⟨w.heap.size, 0, none⟩) [x, y] := by
  have _ := h
  exact ⟨by simp, fun _ => ⟨_, 0, rfl, by simp [Old], fun k hk => by
    rw [(Blk.new w 105 #[Value.int .i64 x, Value.int .i64 y]).cell]
    match k, hk with
    | 0, _ => rfl
    | 1, _ => rfl⟩⟩
theorem GrowS.alloc_own (h : GrowS W A c n zs w) (o : Obj) : (w.alloc o).ownsRow W.heap.size 105 2 (.slice A n c) n (zs.map (Value.int .i64)) :=
  kept h.own (fun k hk _ => Below.heap_alloc w o k hk)
theorem GrowS.next (h : GrowS W A c n zs w) (hb : Below w.heap.size w w') : GrowS W A c n zs w' :=
  ⟨kept h.own (fun k hk _ => hb.block k hk), h.low.trans (hb.mono h.low.size)⟩
theorem GrowS.drew (h : GrowS W A c n zs w) : GrowS W A c n zs w.drew := ⟨h.own, ⟨h.low.os, h.low.tape, h.low.output, h.low.size, h.low.block⟩⟩
theorem GrowS.len (h : GrowS W A c n zs w) : zs.length = n * 2 := by
  have := h.own.1
  simpa using this
end
/-- What answers a row of spots. -/
def SpotR (w w' : World) (e : Ending) (n : Nat) (zs : List Int) : Prop := ∃ A c, e = .returned (.slice A n c) ∧ RvT 105 w' w.heap.size (.slice A n c) n zs ∧ Below w.heap.size w w'
theorem GrowS.row {W w w0 : World} {A : Option Addr} {c n : Nat} {zs : List Int} (h : GrowS W A c n zs w) (hb : Below w0.heap.size w0 W) : SpotR w0 w (.returned (.slice A n c)) n zs :=
  ⟨A, c, rfl, (RvT.of_own h.own).base hb.size, below_then hb h.low⟩
end Go.Proofs.Ytfkaacfeikmabaa
