/- What answers a program of its own, and whether. -/
import Derived.Test.YtjendjbbhohjcaaPrD
namespace Go.Proofs.Ytjendjbbhohjcaa
open Go.RowKit

theorem CrAt.next {w0 w w' : World} {T : Nat} {zs : List Int} {v tv : Value} {ts : List (List InsD)} {vs : List Value} (h : CrAt w0 T zs v ts vs tv w) (hb : Below w.heap.size w w') : CrAt w0 T zs v ts vs tv w' :=
  ⟨h.below.trans (hb.mono h.below.size), h.blk.below hb h.blk.lt, h.own.keep (fun b _ hlt => hb.block b hlt), h.lo, h.out.imp fun _ => Exists.imp fun _ k => k.below hb k.lt⟩
/-- What answers a program of its own, and whether. -/
def FenR (w w' : World) (e : Ending) (q : ProgD) (ok : Bool) : Prop := ∃ v tv vs, e = .returned (.tuple #[.agg #[v, tv], .bool ok]) ∧ ProgOwn w' w.heap.size q.init v q.ts vs tv ∧ Below w.heap.size w w'
theorem FenR.no {w w' : World} (hb : Below w.heap.size w w') : FenR w w' (.returned (.tuple #[.agg #[.slice none 0 0, .slice none 0 0], .bool false])) ⟨[], []⟩ false :=
  ⟨_, _, [], rfl, ⟨⟨rfl, .inl ⟨rfl, rfl⟩⟩, ⟨rfl, .inl ⟨rfl, rfl⟩⟩, fun k hk => by simp at hk, fun j k _ hk => by simp at hk⟩, hb⟩
end Go.Proofs.Ytjendjbbhohjcaa
