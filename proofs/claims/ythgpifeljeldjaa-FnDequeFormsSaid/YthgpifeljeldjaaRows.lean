/-
  No cell of these rows narrows 'for every input' (looked for: loops, veiled, ifaces, maps, wideKeys, modest, calm, conditions, laid).
  DERIVED. THE GIVEN ROWS OF THIS SEAT. 6 by the template 'for every input the law returns true; each argument reads behind the call as it read before'; 0 by the template 'total and deterministic' (their statements: YthgpifeljeldjaaTotals.lean).
  GIVEN WITH THE SEED: the statements are not yours to turn. If you find one false, say at which input.
  Laid BY PROGRAM, IN A SANDBOX (cutbox-rows.mjs): the forced cells as the released guide's own fill.sh prints them over the translation 8fb073e6f0a9eebc… (all of the seat's roots in one cut). By AI agents, Wed Nov 11 2026. No macro, syntax, notation, axiom, sorry.
-/
import Derived.Test.YthgpifeljeldjaaChecked
import GoSem.Claim
import GoSem.ClaimJoined
import GoSem.ClaimMapViews
import Derived.JoinedTies
import Derived.KernelRfl
namespace Go.Proofs.Ythgpifeljeldjaa
/- THE CELL 'sum', in the pinned program and in every row, IS THE sha256 OF THE DUMP (.gsa) THAT YthgpifeljeldjaaProg.lean LOADS. Nothing in Lean hashes anything: it is a label: what it is worth is what the hold of that sum in a sandbox is worth. -/
noncomputable def Try.pinned : Pinned := { name := "ythgpifeljeldjaa", sum := "8fb073e6f0a9eebcb6b0b7eed5b1a4f2e4e677f42dbc6ec51a466fe6f24f492e", checked := Try.checked }
namespace Rows
def none {H : Type} : Left H := { results := [], args := [] }

/-- 'laws.FnDequeForms': WHATEVER THE INPUT: true; the input reads as it did. -/
def fnDequeFormsSpec : ChangeSpec := { name := "fnDequeForms", fn := fun _ => fun
  | [d] => { results := [.lit (.bool true)], args := [d] }
  | _ => none }
def fnDequeFormsRow : OpenClaim := { program := "ythgpifeljeldjaa", sum := "8fb073e6f0a9eebcb6b0b7eed5b1a4f2e4e677f42dbc6ec51a466fe6f24f492e", func := "loop.example/g00713/laws.FnDequeForms", spec := "fnDequeForms", recurses := true, apart := false }
def FnDequeFormsSaid : Prop := fnDequeFormsRow.holds Try.pinned (OpenSpec.ofChange fnDequeFormsSpec)

/-- ITS FALSE NEIGHBOUR: 'it returns false'. Refute it at one input. -/
def fnDequeFormsWrong : ChangeSpec := { name := "fnDequeForms", fn := fun _ => fun
  | [d] => { results := [.lit (.bool false)], args := [d] }
  | _ => none }
def FnDequeFormsWrongFalsely : Prop := fnDequeFormsRow.holds Try.pinned (OpenSpec.ofChange fnDequeFormsWrong)

/-- 'laws.FnExactDequeTake': WHATEVER THE INPUT: true; the input reads as it did. -/
def fnExactDequeTakeSpec : ChangeSpec := { name := "fnExactDequeTake", fn := fun _ => fun
  | [d1, d2] => { results := [.lit (.bool true)], args := [d1, d2] }
  | _ => none }
def fnExactDequeTakeRow : OpenClaim := { program := "ythgpifeljeldjaa", sum := "8fb073e6f0a9eebcb6b0b7eed5b1a4f2e4e677f42dbc6ec51a466fe6f24f492e", func := "loop.example/g00713/laws.FnExactDequeTake", spec := "fnExactDequeTake", apart := false }
def FnExactDequeTakeSaid : Prop := fnExactDequeTakeRow.holds Try.pinned (OpenSpec.ofChange fnExactDequeTakeSpec)

/-- ITS FALSE NEIGHBOUR: 'it returns false'. Refute it at one input. -/
def fnExactDequeTakeWrong : ChangeSpec := { name := "fnExactDequeTake", fn := fun _ => fun
  | [d1, d2] => { results := [.lit (.bool false)], args := [d1, d2] }
  | _ => none }
def FnExactDequeTakeWrongFalsely : Prop := fnExactDequeTakeRow.holds Try.pinned (OpenSpec.ofChange fnExactDequeTakeWrong)

/-- 'laws.FnExactDequeSteal': WHATEVER THE INPUT: true; the input reads as it did. -/
def fnExactDequeStealSpec : ChangeSpec := { name := "fnExactDequeSteal", fn := fun _ => fun
  | [d1, d2] => { results := [.lit (.bool true)], args := [d1, d2] }
  | _ => none }
def fnExactDequeStealRow : OpenClaim := { program := "ythgpifeljeldjaa", sum := "8fb073e6f0a9eebcb6b0b7eed5b1a4f2e4e677f42dbc6ec51a466fe6f24f492e", func := "loop.example/g00713/laws.FnExactDequeSteal", spec := "fnExactDequeSteal", apart := false }
def FnExactDequeStealSaid : Prop := fnExactDequeStealRow.holds Try.pinned (OpenSpec.ofChange fnExactDequeStealSpec)

/-- ITS FALSE NEIGHBOUR: 'it returns false'. Refute it at one input. -/
def fnExactDequeStealWrong : ChangeSpec := { name := "fnExactDequeSteal", fn := fun _ => fun
  | [d1, d2] => { results := [.lit (.bool false)], args := [d1, d2] }
  | _ => none }
def FnExactDequeStealWrongFalsely : Prop := fnExactDequeStealRow.holds Try.pinned (OpenSpec.ofChange fnExactDequeStealWrong)

/-- 'laws.FnExactDequeProg': WHATEVER THE INPUT: true; the input reads as it did. -/
def fnExactDequeProgSpec : ChangeSpec := { name := "fnExactDequeProg", fn := fun _ => fun
  | [d1, d2, d3] => { results := [.lit (.bool true)], args := [d1, d2, d3] }
  | _ => none }
def fnExactDequeProgRow : OpenClaim := { program := "ythgpifeljeldjaa", sum := "8fb073e6f0a9eebcb6b0b7eed5b1a4f2e4e677f42dbc6ec51a466fe6f24f492e", func := "loop.example/g00713/laws.FnExactDequeProg", spec := "fnExactDequeProg", apart := false }
def FnExactDequeProgSaid : Prop := fnExactDequeProgRow.holds Try.pinned (OpenSpec.ofChange fnExactDequeProgSpec)

/-- ITS FALSE NEIGHBOUR: 'it returns false'. Refute it at one input. -/
def fnExactDequeProgWrong : ChangeSpec := { name := "fnExactDequeProg", fn := fun _ => fun
  | [d1, d2, d3] => { results := [.lit (.bool false)], args := [d1, d2, d3] }
  | _ => none }
def FnExactDequeProgWrongFalsely : Prop := fnExactDequeProgRow.holds Try.pinned (OpenSpec.ofChange fnExactDequeProgWrong)

/-- 'laws.FnExactTaken': WHATEVER THE INPUT: true; the input reads as it did. -/
def fnExactTakenSpec : ChangeSpec := { name := "fnExactTaken", fn := fun _ => fun
  | [d] => { results := [.lit (.bool true)], args := [d] }
  | _ => none }
def fnExactTakenRow : OpenClaim := { program := "ythgpifeljeldjaa", sum := "8fb073e6f0a9eebcb6b0b7eed5b1a4f2e4e677f42dbc6ec51a466fe6f24f492e", func := "loop.example/g00713/laws.FnExactTaken", spec := "fnExactTaken", recurses := true, apart := false }
def FnExactTakenSaid : Prop := fnExactTakenRow.holds Try.pinned (OpenSpec.ofChange fnExactTakenSpec)

/-- ITS FALSE NEIGHBOUR: 'it returns false'. Refute it at one input. -/
def fnExactTakenWrong : ChangeSpec := { name := "fnExactTaken", fn := fun _ => fun
  | [d] => { results := [.lit (.bool false)], args := [d] }
  | _ => none }
def FnExactTakenWrongFalsely : Prop := fnExactTakenRow.holds Try.pinned (OpenSpec.ofChange fnExactTakenWrong)

/-- 'laws.FnExactTakenOften': WHATEVER THE INPUT: true; the input reads as it did. -/
def fnExactTakenOftenSpec : ChangeSpec := { name := "fnExactTakenOften", fn := fun _ => fun
  | [d] => { results := [.lit (.bool true)], args := [d] }
  | _ => none }
def fnExactTakenOftenRow : OpenClaim := { program := "ythgpifeljeldjaa", sum := "8fb073e6f0a9eebcb6b0b7eed5b1a4f2e4e677f42dbc6ec51a466fe6f24f492e", func := "loop.example/g00713/laws.FnExactTakenOften", spec := "fnExactTakenOften", recurses := true, apart := false }
def FnExactTakenOftenSaid : Prop := fnExactTakenOftenRow.holds Try.pinned (OpenSpec.ofChange fnExactTakenOftenSpec)

/-- ITS FALSE NEIGHBOUR: 'it returns false'. Refute it at one input. -/
def fnExactTakenOftenWrong : ChangeSpec := { name := "fnExactTakenOften", fn := fun _ => fun
  | [d] => { results := [.lit (.bool false)], args := [d] }
  | _ => none }
def FnExactTakenOftenWrongFalsely : Prop := fnExactTakenOftenRow.holds Try.pinned (OpenSpec.ofChange fnExactTakenOftenWrong)

/- THE SECOND FORM. 'bulk': how many values and letters a reading holds, each counted each time it is reached (what is shared counts as often as it is met; a slice's spare places count too). A statement '..UptoSaid' is the law's where the arguments, and the package variables that the reading takes, are together of bulk at most 1048576: NARROWER than '..Said'. Prove '..Said' where nothing that the law and all that it calls make is longer than what came in: it says more and counts as full. Else prove '..UptoSaid'. A law counts once. -/
mutual
def uptoBulk {H : Type} : DataW H → Nat
  | .lit (.string bytes) => bytes.length + 1
  | .lit _ => 1
  | .nil => 1
  | .ptr d => uptoBulk d + 1
  | .slice elems spare => uptoBulkAll elems + uptoBulkAll spare + 1
  | .agg parts => uptoBulkAll parts + 1
  | .iface _ d => uptoBulk d + 1
  | .map entries => uptoBulkEntries entries + 1
  | .held _ => 1
def uptoBulkAll {H : Type} : List (DataW H) → Nat
  | [] => 0
  | d :: r => uptoBulk d + uptoBulkAll r
def uptoBulkEntries {H : Type} : List (Lit × DataW H) → Nat
  | [] => 0
  | x :: r => uptoBulkEntry x + uptoBulkEntries r
def uptoBulkEntry {H : Type} : Lit × DataW H → Nat
  | (.string bytes, d) => bytes.length + uptoBulk d + 1
  | (_, d) => uptoBulk d + 1
 end
def uptoSmall : (H : Type) → List (DataW H) → Bool := fun _ ds => decide (uptoBulkAll ds ≤ 1048576)
def OpenSpec.upto (s : _root_.Go.ChangeSpec) : _root_.Go.OpenSpec := { _root_.Go.OpenSpec.ofChange s with cond := some uptoSmall }

/-- 'laws.FnDequeForms', WHERE WHAT IT READS IS OF BULK AT MOST 1048576: true; the input reads as it did. -/
def fnDequeFormsUptoRow : OpenClaim := { program := "ythgpifeljeldjaa", sum := "8fb073e6f0a9eebcb6b0b7eed5b1a4f2e4e677f42dbc6ec51a466fe6f24f492e", func := "loop.example/g00713/laws.FnDequeForms", spec := "fnDequeForms", recurses := true, apart := false, narrowed := true }
def FnDequeFormsUptoSaid : Prop := fnDequeFormsUptoRow.holds Try.pinned (OpenSpec.upto fnDequeFormsSpec)

/-- 'laws.FnExactDequeTake', WHERE WHAT IT READS IS OF BULK AT MOST 1048576: true; the input reads as it did. -/
def fnExactDequeTakeUptoRow : OpenClaim := { program := "ythgpifeljeldjaa", sum := "8fb073e6f0a9eebcb6b0b7eed5b1a4f2e4e677f42dbc6ec51a466fe6f24f492e", func := "loop.example/g00713/laws.FnExactDequeTake", spec := "fnExactDequeTake", apart := false, narrowed := true }
def FnExactDequeTakeUptoSaid : Prop := fnExactDequeTakeUptoRow.holds Try.pinned (OpenSpec.upto fnExactDequeTakeSpec)

/-- 'laws.FnExactDequeSteal', WHERE WHAT IT READS IS OF BULK AT MOST 1048576: true; the input reads as it did. -/
def fnExactDequeStealUptoRow : OpenClaim := { program := "ythgpifeljeldjaa", sum := "8fb073e6f0a9eebcb6b0b7eed5b1a4f2e4e677f42dbc6ec51a466fe6f24f492e", func := "loop.example/g00713/laws.FnExactDequeSteal", spec := "fnExactDequeSteal", apart := false, narrowed := true }
def FnExactDequeStealUptoSaid : Prop := fnExactDequeStealUptoRow.holds Try.pinned (OpenSpec.upto fnExactDequeStealSpec)

/-- 'laws.FnExactDequeProg', WHERE WHAT IT READS IS OF BULK AT MOST 1048576: true; the input reads as it did. -/
def fnExactDequeProgUptoRow : OpenClaim := { program := "ythgpifeljeldjaa", sum := "8fb073e6f0a9eebcb6b0b7eed5b1a4f2e4e677f42dbc6ec51a466fe6f24f492e", func := "loop.example/g00713/laws.FnExactDequeProg", spec := "fnExactDequeProg", apart := false, narrowed := true }
def FnExactDequeProgUptoSaid : Prop := fnExactDequeProgUptoRow.holds Try.pinned (OpenSpec.upto fnExactDequeProgSpec)

/-- 'laws.FnExactTaken', WHERE WHAT IT READS IS OF BULK AT MOST 1048576: true; the input reads as it did. -/
def fnExactTakenUptoRow : OpenClaim := { program := "ythgpifeljeldjaa", sum := "8fb073e6f0a9eebcb6b0b7eed5b1a4f2e4e677f42dbc6ec51a466fe6f24f492e", func := "loop.example/g00713/laws.FnExactTaken", spec := "fnExactTaken", recurses := true, apart := false, narrowed := true }
def FnExactTakenUptoSaid : Prop := fnExactTakenUptoRow.holds Try.pinned (OpenSpec.upto fnExactTakenSpec)

/-- 'laws.FnExactTakenOften', WHERE WHAT IT READS IS OF BULK AT MOST 1048576: true; the input reads as it did. -/
def fnExactTakenOftenUptoRow : OpenClaim := { program := "ythgpifeljeldjaa", sum := "8fb073e6f0a9eebcb6b0b7eed5b1a4f2e4e677f42dbc6ec51a466fe6f24f492e", func := "loop.example/g00713/laws.FnExactTakenOften", spec := "fnExactTakenOften", recurses := true, apart := false, narrowed := true }
def FnExactTakenOftenUptoSaid : Prop := fnExactTakenOftenUptoRow.holds Try.pinned (OpenSpec.upto fnExactTakenOftenSpec)

end Rows
end Go.Proofs.Ythgpifeljeldjaa
