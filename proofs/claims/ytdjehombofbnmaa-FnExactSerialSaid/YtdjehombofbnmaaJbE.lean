/- laws' copy of jobs, as it is read. -/
import Derived.Test.YtdjehombofbnmaaJbO
namespace Go.Proofs.Ytdjehombofbnmaa
open Go.RowKit
theorem toJobSA (A : Option Addr) (l : List JobD) (c : Nat) (S : Nat → Prop) (w : World) (hn2 : l.length ≤ 1048576) (hsz : ∀ k, (getj l k).ks.length ≤ 1048576) (hS : ∀ b, S b → b < w.heap.size) (ha : JobsAt w S A l) :
    Calls Try.prog 36 #[.slice A l.length c] w fun e w' => ∃ A' c', e = .returned (.slice A' l.length c') ∧ JobsAt w' (Old w'.heap.size) A' l ∧ Below w.heap.size w w' := by
  refine (toJobS_any (fun _ => 0) A l c S w hn2 hsz hS ha).mono ?_
  rintro e w' ⟨v, f, kv, rfl, hO, hb, -⟩
  obtain ⟨A', c', rfl⟩ := hO.form
  exact ⟨A', c', rfl, hO.atO rfl, hb⟩
end Go.Proofs.Ytdjehombofbnmaa
