/- What a change between two block numbers keeps: of no function of the program. -/
import Derived.Test.YtjendjbbhohjcaaExD
import Derived.Test.YtjendjbbhohjcaaSum
namespace Go.Proofs.Ytjendjbbhohjcaa
open Go.RowKit

theorem inn_grown {a b : Nat} {r : Option Nat} {w w' : World} (h : w.grownBy w' r) (hr : ∀ x, r = some x → a ≤ x ∧ x < b) : Inn a b w w' :=
  ⟨h.os, h.tape, h.output, h.size, fun k hk hn => h.block k hk (fun e => hn (hr k e.symm))⟩
theorem RvI.inn {t : TypeId} {w w' : World} {lo hi a b n : Nat} {v : Value} {zs : List Int} (h : RvI t w a b v n zs) (hi' : Inn lo hi w w') (ha : b ≤ lo ∨ hi ≤ a) : RvI t w' a b v n zs :=
  ⟨h.1.keep (fun k hk e => hi'.block k hk (fun e' => by
    have h1 := h.2 k e
    have h2 := (h.1.own_lt e).1
    omega)), h.2⟩
theorem blk_inn {lo hi q : Nat} {t : TypeId} {cs : Array Value} {w w' : World} (h : Blk w q t cs) (hi' : Inn lo hi w w') (hq : q < lo ∨ hi ≤ q) : Blk w' q t cs :=
  (hi'.block q h.lt (fun e => by omega)).trans h
end Go.Proofs.Ytjendjbbhohjcaa
