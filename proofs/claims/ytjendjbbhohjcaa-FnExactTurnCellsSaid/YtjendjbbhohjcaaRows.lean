/-
  No cell of these rows narrows 'for every input' (looked for: loops, veiled, ifaces, maps, wideKeys, modest, calm, conditions, laid).
  DERIVED. THE GIVEN ROWS OF THIS SEAT. 12 by the template 'for every input the law returns true; each argument reads behind the call as it read before'; 0 by the template 'total and deterministic' (their statements: YtjendjbbhohjcaaTotals.lean).
  GIVEN WITH THE SEED: the statements are not yours to turn. If you find one false, say at which input.
  Laid BY PROGRAM, IN A SANDBOX (cutbox-rows.mjs): the forced cells as the released guide's own fill.sh prints them over the translation 995ee10572b243b0… (all of the seat's roots in one cut). By AI agents, Wed Nov 11 2026. No macro, syntax, notation, axiom, sorry.
-/
import Derived.Test.YtjendjbbhohjcaaChecked
import GoSem.Claim
import GoSem.ClaimJoined
import GoSem.ClaimMapViews
import Derived.JoinedTies
import Derived.KernelRfl
namespace Go.Proofs.Ytjendjbbhohjcaa
/- THE CELL 'sum', in the pinned program and in every row, IS THE sha256 OF THE DUMP (.gsa) THAT YtjendjbbhohjcaaProg.lean LOADS. Nothing in Lean hashes anything: it is a label: what it is worth is what the hold of that sum in a sandbox is worth. -/
noncomputable def Try.pinned : Pinned := { name := "ytjendjbbhohjcaa", sum := "995ee10572b243b03dd78c7d7eca3a07df33892d6cd0a10cbb75cb8451cb9c10", checked := Try.checked }
namespace Rows
def none {H : Type} : Left H := { results := [], args := [] }

/-- 'laws.FnTurnBack': WHATEVER THE INPUT: true; the input reads as it did. -/
def fnTurnBackSpec : ChangeSpec := { name := "fnTurnBack", fn := fun _ => fun
  | [d] => { results := [.lit (.bool true)], args := [d] }
  | _ => none }
def fnTurnBackRow : OpenClaim := { program := "ytjendjbbhohjcaa", sum := "995ee10572b243b03dd78c7d7eca3a07df33892d6cd0a10cbb75cb8451cb9c10", func := "loop.example/g00713/laws.FnTurnBack", spec := "fnTurnBack", unfollowed := true, recurses := true, apart := false }
def FnTurnBackSaid : Prop := fnTurnBackRow.holds Try.pinned (OpenSpec.ofChange fnTurnBackSpec)

/-- ITS FALSE NEIGHBOUR: 'it returns false'. Refute it at one input. -/
def fnTurnBackWrong : ChangeSpec := { name := "fnTurnBack", fn := fun _ => fun
  | [d] => { results := [.lit (.bool false)], args := [d] }
  | _ => none }
def FnTurnBackWrongFalsely : Prop := fnTurnBackRow.holds Try.pinned (OpenSpec.ofChange fnTurnBackWrong)

/-- 'laws.FnTicketForms': WHATEVER THE INPUT: true; the input reads as it did. -/
def fnTicketFormsSpec : ChangeSpec := { name := "fnTicketForms", fn := fun _ => fun
  | [d] => { results := [.lit (.bool true)], args := [d] }
  | _ => none }
def fnTicketFormsRow : OpenClaim := { program := "ytjendjbbhohjcaa", sum := "995ee10572b243b03dd78c7d7eca3a07df33892d6cd0a10cbb75cb8451cb9c10", func := "loop.example/g00713/laws.FnTicketForms", spec := "fnTicketForms", unfollowed := true, recurses := true, apart := false }
def FnTicketFormsSaid : Prop := fnTicketFormsRow.holds Try.pinned (OpenSpec.ofChange fnTicketFormsSpec)

/-- ITS FALSE NEIGHBOUR: 'it returns false'. Refute it at one input. -/
def fnTicketFormsWrong : ChangeSpec := { name := "fnTicketForms", fn := fun _ => fun
  | [d] => { results := [.lit (.bool false)], args := [d] }
  | _ => none }
def FnTicketFormsWrongFalsely : Prop := fnTicketFormsRow.holds Try.pinned (OpenSpec.ofChange fnTicketFormsWrong)

/-- 'laws.FnExactTaken': WHATEVER THE INPUT: true; the input reads as it did. -/
def fnExactTakenSpec : ChangeSpec := { name := "fnExactTaken", fn := fun _ => fun
  | [d] => { results := [.lit (.bool true)], args := [d] }
  | _ => none }
def fnExactTakenRow : OpenClaim := { program := "ytjendjbbhohjcaa", sum := "995ee10572b243b03dd78c7d7eca3a07df33892d6cd0a10cbb75cb8451cb9c10", func := "loop.example/g00713/laws.FnExactTaken", spec := "fnExactTaken", unfollowed := true, recurses := true, apart := false }
def FnExactTakenSaid : Prop := fnExactTakenRow.holds Try.pinned (OpenSpec.ofChange fnExactTakenSpec)

/-- ITS FALSE NEIGHBOUR: 'it returns false'. Refute it at one input. -/
def fnExactTakenWrong : ChangeSpec := { name := "fnExactTaken", fn := fun _ => fun
  | [d] => { results := [.lit (.bool false)], args := [d] }
  | _ => none }
def FnExactTakenWrongFalsely : Prop := fnExactTakenRow.holds Try.pinned (OpenSpec.ofChange fnExactTakenWrong)

/-- 'laws.FnExactTakenOften': WHATEVER THE INPUT: true; the input reads as it did. -/
def fnExactTakenOftenSpec : ChangeSpec := { name := "fnExactTakenOften", fn := fun _ => fun
  | [d] => { results := [.lit (.bool true)], args := [d] }
  | _ => none }
def fnExactTakenOftenRow : OpenClaim := { program := "ytjendjbbhohjcaa", sum := "995ee10572b243b03dd78c7d7eca3a07df33892d6cd0a10cbb75cb8451cb9c10", func := "loop.example/g00713/laws.FnExactTakenOften", spec := "fnExactTakenOften", unfollowed := true, recurses := true, apart := false }
def FnExactTakenOftenSaid : Prop := fnExactTakenOftenRow.holds Try.pinned (OpenSpec.ofChange fnExactTakenOftenSpec)

/-- ITS FALSE NEIGHBOUR: 'it returns false'. Refute it at one input. -/
def fnExactTakenOftenWrong : ChangeSpec := { name := "fnExactTakenOften", fn := fun _ => fun
  | [d] => { results := [.lit (.bool false)], args := [d] }
  | _ => none }
def FnExactTakenOftenWrongFalsely : Prop := fnExactTakenOftenRow.holds Try.pinned (OpenSpec.ofChange fnExactTakenOftenWrong)

/-- 'laws.FnExactTurnThreads': WHATEVER THE INPUT: true; the input reads as it did. -/
def fnExactTurnThreadsSpec : ChangeSpec := { name := "fnExactTurnThreads", fn := fun _ => fun
  | [d1, d2] => { results := [.lit (.bool true)], args := [d1, d2] }
  | _ => none }
def fnExactTurnThreadsRow : OpenClaim := { program := "ytjendjbbhohjcaa", sum := "995ee10572b243b03dd78c7d7eca3a07df33892d6cd0a10cbb75cb8451cb9c10", func := "loop.example/g00713/laws.FnExactTurnThreads", spec := "fnExactTurnThreads", unfollowed := true, recurses := true, apart := false }
def FnExactTurnThreadsSaid : Prop := fnExactTurnThreadsRow.holds Try.pinned (OpenSpec.ofChange fnExactTurnThreadsSpec)

/-- ITS FALSE NEIGHBOUR: 'it returns false'. Refute it at one input. -/
def fnExactTurnThreadsWrong : ChangeSpec := { name := "fnExactTurnThreads", fn := fun _ => fun
  | [d1, d2] => { results := [.lit (.bool false)], args := [d1, d2] }
  | _ => none }
def FnExactTurnThreadsWrongFalsely : Prop := fnExactTurnThreadsRow.holds Try.pinned (OpenSpec.ofChange fnExactTurnThreadsWrong)

/-- 'laws.FnExactTurnCells': WHATEVER THE INPUT: true; the input reads as it did. -/
def fnExactTurnCellsSpec : ChangeSpec := { name := "fnExactTurnCells", fn := fun _ => fun
  | [d1, d2] => { results := [.lit (.bool true)], args := [d1, d2] }
  | _ => none }
def fnExactTurnCellsRow : OpenClaim := { program := "ytjendjbbhohjcaa", sum := "995ee10572b243b03dd78c7d7eca3a07df33892d6cd0a10cbb75cb8451cb9c10", func := "loop.example/g00713/laws.FnExactTurnCells", spec := "fnExactTurnCells", unfollowed := true, recurses := true, apart := false }
def FnExactTurnCellsSaid : Prop := fnExactTurnCellsRow.holds Try.pinned (OpenSpec.ofChange fnExactTurnCellsSpec)

/-- ITS FALSE NEIGHBOUR: 'it returns false'. Refute it at one input. -/
def fnExactTurnCellsWrong : ChangeSpec := { name := "fnExactTurnCells", fn := fun _ => fun
  | [d1, d2] => { results := [.lit (.bool false)], args := [d1, d2] }
  | _ => none }
def FnExactTurnCellsWrongFalsely : Prop := fnExactTurnCellsRow.holds Try.pinned (OpenSpec.ofChange fnExactTurnCellsWrong)

/-- 'laws.FnExactTurnOutcome': WHATEVER THE INPUT: true; the input reads as it did. -/
def fnExactTurnOutcomeSpec : ChangeSpec := { name := "fnExactTurnOutcome", fn := fun _ => fun
  | [d1, d2] => { results := [.lit (.bool true)], args := [d1, d2] }
  | _ => none }
def fnExactTurnOutcomeRow : OpenClaim := { program := "ytjendjbbhohjcaa", sum := "995ee10572b243b03dd78c7d7eca3a07df33892d6cd0a10cbb75cb8451cb9c10", func := "loop.example/g00713/laws.FnExactTurnOutcome", spec := "fnExactTurnOutcome", unfollowed := true, recurses := true, apart := false }
def FnExactTurnOutcomeSaid : Prop := fnExactTurnOutcomeRow.holds Try.pinned (OpenSpec.ofChange fnExactTurnOutcomeSpec)

/-- ITS FALSE NEIGHBOUR: 'it returns false'. Refute it at one input. -/
def fnExactTurnOutcomeWrong : ChangeSpec := { name := "fnExactTurnOutcome", fn := fun _ => fun
  | [d1, d2] => { results := [.lit (.bool false)], args := [d1, d2] }
  | _ => none }
def FnExactTurnOutcomeWrongFalsely : Prop := fnExactTurnOutcomeRow.holds Try.pinned (OpenSpec.ofChange fnExactTurnOutcomeWrong)

/-- 'laws.FnExactDekker': WHATEVER THE INPUT: true; the input reads as it did. -/
def fnExactDekkerSpec : ChangeSpec := { name := "fnExactDekker", fn := fun _ => fun
  | [d] => { results := [.lit (.bool true)], args := [d] }
  | _ => none }
def fnExactDekkerRow : OpenClaim := { program := "ytjendjbbhohjcaa", sum := "995ee10572b243b03dd78c7d7eca3a07df33892d6cd0a10cbb75cb8451cb9c10", func := "loop.example/g00713/laws.FnExactDekker", spec := "fnExactDekker", apart := false }
def FnExactDekkerSaid : Prop := fnExactDekkerRow.holds Try.pinned (OpenSpec.ofChange fnExactDekkerSpec)

/-- ITS FALSE NEIGHBOUR: 'it returns false'. Refute it at one input. -/
def fnExactDekkerWrong : ChangeSpec := { name := "fnExactDekker", fn := fun _ => fun
  | [d] => { results := [.lit (.bool false)], args := [d] }
  | _ => none }
def FnExactDekkerWrongFalsely : Prop := fnExactDekkerRow.holds Try.pinned (OpenSpec.ofChange fnExactDekkerWrong)

/-- 'laws.FnExactSwapLock': WHATEVER THE INPUT: true; the input reads as it did. -/
def fnExactSwapLockSpec : ChangeSpec := { name := "fnExactSwapLock", fn := fun _ => fun
  | [d] => { results := [.lit (.bool true)], args := [d] }
  | _ => none }
def fnExactSwapLockRow : OpenClaim := { program := "ytjendjbbhohjcaa", sum := "995ee10572b243b03dd78c7d7eca3a07df33892d6cd0a10cbb75cb8451cb9c10", func := "loop.example/g00713/laws.FnExactSwapLock", spec := "fnExactSwapLock", apart := false }
def FnExactSwapLockSaid : Prop := fnExactSwapLockRow.holds Try.pinned (OpenSpec.ofChange fnExactSwapLockSpec)

/-- ITS FALSE NEIGHBOUR: 'it returns false'. Refute it at one input. -/
def fnExactSwapLockWrong : ChangeSpec := { name := "fnExactSwapLock", fn := fun _ => fun
  | [d] => { results := [.lit (.bool false)], args := [d] }
  | _ => none }
def FnExactSwapLockWrongFalsely : Prop := fnExactSwapLockRow.holds Try.pinned (OpenSpec.ofChange fnExactSwapLockWrong)

/-- 'laws.FnExactTickets': WHATEVER THE INPUT: true; the input reads as it did. -/
def fnExactTicketsSpec : ChangeSpec := { name := "fnExactTickets", fn := fun _ => fun
  | [d1, d2] => { results := [.lit (.bool true)], args := [d1, d2] }
  | _ => none }
def fnExactTicketsRow : OpenClaim := { program := "ytjendjbbhohjcaa", sum := "995ee10572b243b03dd78c7d7eca3a07df33892d6cd0a10cbb75cb8451cb9c10", func := "loop.example/g00713/laws.FnExactTickets", spec := "fnExactTickets", apart := false }
def FnExactTicketsSaid : Prop := fnExactTicketsRow.holds Try.pinned (OpenSpec.ofChange fnExactTicketsSpec)

/-- ITS FALSE NEIGHBOUR: 'it returns false'. Refute it at one input. -/
def fnExactTicketsWrong : ChangeSpec := { name := "fnExactTickets", fn := fun _ => fun
  | [d1, d2] => { results := [.lit (.bool false)], args := [d1, d2] }
  | _ => none }
def FnExactTicketsWrongFalsely : Prop := fnExactTicketsRow.holds Try.pinned (OpenSpec.ofChange fnExactTicketsWrong)

/-- 'laws.FnExactInside': WHATEVER THE INPUT: true; the input reads as it did. -/
def fnExactInsideSpec : ChangeSpec := { name := "fnExactInside", fn := fun _ => fun
  | [d] => { results := [.lit (.bool true)], args := [d] }
  | _ => none }
def fnExactInsideRow : OpenClaim := { program := "ytjendjbbhohjcaa", sum := "995ee10572b243b03dd78c7d7eca3a07df33892d6cd0a10cbb75cb8451cb9c10", func := "loop.example/g00713/laws.FnExactInside", spec := "fnExactInside", unfollowed := true, recurses := true, apart := false }
def FnExactInsideSaid : Prop := fnExactInsideRow.holds Try.pinned (OpenSpec.ofChange fnExactInsideSpec)

/-- ITS FALSE NEIGHBOUR: 'it returns false'. Refute it at one input. -/
def fnExactInsideWrong : ChangeSpec := { name := "fnExactInside", fn := fun _ => fun
  | [d] => { results := [.lit (.bool false)], args := [d] }
  | _ => none }
def FnExactInsideWrongFalsely : Prop := fnExactInsideRow.holds Try.pinned (OpenSpec.ofChange fnExactInsideWrong)

/-- 'laws.FnExactAlike': WHATEVER THE INPUT: true; the input reads as it did. -/
def fnExactAlikeSpec : ChangeSpec := { name := "fnExactAlike", fn := fun _ => fun
  | [d1, d2] => { results := [.lit (.bool true)], args := [d1, d2] }
  | _ => none }
def fnExactAlikeRow : OpenClaim := { program := "ytjendjbbhohjcaa", sum := "995ee10572b243b03dd78c7d7eca3a07df33892d6cd0a10cbb75cb8451cb9c10", func := "loop.example/g00713/laws.FnExactAlike", spec := "fnExactAlike", unfollowed := true, recurses := true, apart := false }
def FnExactAlikeSaid : Prop := fnExactAlikeRow.holds Try.pinned (OpenSpec.ofChange fnExactAlikeSpec)

/-- ITS FALSE NEIGHBOUR: 'it returns false'. Refute it at one input. -/
def fnExactAlikeWrong : ChangeSpec := { name := "fnExactAlike", fn := fun _ => fun
  | [d1, d2] => { results := [.lit (.bool false)], args := [d1, d2] }
  | _ => none }
def FnExactAlikeWrongFalsely : Prop := fnExactAlikeRow.holds Try.pinned (OpenSpec.ofChange fnExactAlikeWrong)

/- THE SECOND FORM. 'bulk': how many values and letters a reading holds, each counted each time it is reached (what is shared counts as often as it is met; a slice's spare places count too). A statement '..UptoSaid' is the law's where the arguments, and the package variables that the reading takes, are together of bulk at most 1048576: NARROWER than '..Said'. Prove '..Said' where nothing that the law and all that it calls make is longer than what came in: it says more and counts as full. Else prove '..UptoSaid'. A law counts once. -/
mutual
def uptoBulk {H : Type} : DataW H → Nat
  | .lit (.string bytes) => bytes.length + 1
  | .lit _ => 1
  | .nil => 1
  | .ptr d => uptoBulk d + 1
  | .slice elems spare => uptoBulkAll elems + uptoBulkAll spare + 1
  | .agg parts => uptoBulkAll parts + 1
  | .iface _ d => uptoBulk d + 1
  | .map entries => uptoBulkEntries entries + 1
  | .held _ => 1
def uptoBulkAll {H : Type} : List (DataW H) → Nat
  | [] => 0
  | d :: r => uptoBulk d + uptoBulkAll r
def uptoBulkEntries {H : Type} : List (Lit × DataW H) → Nat
  | [] => 0
  | x :: r => uptoBulkEntry x + uptoBulkEntries r
def uptoBulkEntry {H : Type} : Lit × DataW H → Nat
  | (.string bytes, d) => bytes.length + uptoBulk d + 1
  | (_, d) => uptoBulk d + 1
 end
def uptoSmall : (H : Type) → List (DataW H) → Bool := fun _ ds => decide (uptoBulkAll ds ≤ 1048576)
def OpenSpec.upto (s : _root_.Go.ChangeSpec) : _root_.Go.OpenSpec := { _root_.Go.OpenSpec.ofChange s with cond := some uptoSmall }

/-- 'laws.FnTurnBack', WHERE WHAT IT READS IS OF BULK AT MOST 1048576: true; the input reads as it did. -/
def fnTurnBackUptoRow : OpenClaim := { program := "ytjendjbbhohjcaa", sum := "995ee10572b243b03dd78c7d7eca3a07df33892d6cd0a10cbb75cb8451cb9c10", func := "loop.example/g00713/laws.FnTurnBack", spec := "fnTurnBack", unfollowed := true, recurses := true, apart := false, narrowed := true }
def FnTurnBackUptoSaid : Prop := fnTurnBackUptoRow.holds Try.pinned (OpenSpec.upto fnTurnBackSpec)

/-- 'laws.FnTicketForms', WHERE WHAT IT READS IS OF BULK AT MOST 1048576: true; the input reads as it did. -/
def fnTicketFormsUptoRow : OpenClaim := { program := "ytjendjbbhohjcaa", sum := "995ee10572b243b03dd78c7d7eca3a07df33892d6cd0a10cbb75cb8451cb9c10", func := "loop.example/g00713/laws.FnTicketForms", spec := "fnTicketForms", unfollowed := true, recurses := true, apart := false, narrowed := true }
def FnTicketFormsUptoSaid : Prop := fnTicketFormsUptoRow.holds Try.pinned (OpenSpec.upto fnTicketFormsSpec)

/-- 'laws.FnExactTaken', WHERE WHAT IT READS IS OF BULK AT MOST 1048576: true; the input reads as it did. -/
def fnExactTakenUptoRow : OpenClaim := { program := "ytjendjbbhohjcaa", sum := "995ee10572b243b03dd78c7d7eca3a07df33892d6cd0a10cbb75cb8451cb9c10", func := "loop.example/g00713/laws.FnExactTaken", spec := "fnExactTaken", unfollowed := true, recurses := true, apart := false, narrowed := true }
def FnExactTakenUptoSaid : Prop := fnExactTakenUptoRow.holds Try.pinned (OpenSpec.upto fnExactTakenSpec)

/-- 'laws.FnExactTakenOften', WHERE WHAT IT READS IS OF BULK AT MOST 1048576: true; the input reads as it did. -/
def fnExactTakenOftenUptoRow : OpenClaim := { program := "ytjendjbbhohjcaa", sum := "995ee10572b243b03dd78c7d7eca3a07df33892d6cd0a10cbb75cb8451cb9c10", func := "loop.example/g00713/laws.FnExactTakenOften", spec := "fnExactTakenOften", unfollowed := true, recurses := true, apart := false, narrowed := true }
def FnExactTakenOftenUptoSaid : Prop := fnExactTakenOftenUptoRow.holds Try.pinned (OpenSpec.upto fnExactTakenOftenSpec)

/-- 'laws.FnExactTurnThreads', WHERE WHAT IT READS IS OF BULK AT MOST 1048576: true; the input reads as it did. -/
def fnExactTurnThreadsUptoRow : OpenClaim := { program := "ytjendjbbhohjcaa", sum := "995ee10572b243b03dd78c7d7eca3a07df33892d6cd0a10cbb75cb8451cb9c10", func := "loop.example/g00713/laws.FnExactTurnThreads", spec := "fnExactTurnThreads", unfollowed := true, recurses := true, apart := false, narrowed := true }
def FnExactTurnThreadsUptoSaid : Prop := fnExactTurnThreadsUptoRow.holds Try.pinned (OpenSpec.upto fnExactTurnThreadsSpec)

/-- 'laws.FnExactTurnCells', WHERE WHAT IT READS IS OF BULK AT MOST 1048576: true; the input reads as it did. -/
def fnExactTurnCellsUptoRow : OpenClaim := { program := "ytjendjbbhohjcaa", sum := "995ee10572b243b03dd78c7d7eca3a07df33892d6cd0a10cbb75cb8451cb9c10", func := "loop.example/g00713/laws.FnExactTurnCells", spec := "fnExactTurnCells", unfollowed := true, recurses := true, apart := false, narrowed := true }
def FnExactTurnCellsUptoSaid : Prop := fnExactTurnCellsUptoRow.holds Try.pinned (OpenSpec.upto fnExactTurnCellsSpec)

/-- 'laws.FnExactTurnOutcome', WHERE WHAT IT READS IS OF BULK AT MOST 1048576: true; the input reads as it did. -/
def fnExactTurnOutcomeUptoRow : OpenClaim := { program := "ytjendjbbhohjcaa", sum := "995ee10572b243b03dd78c7d7eca3a07df33892d6cd0a10cbb75cb8451cb9c10", func := "loop.example/g00713/laws.FnExactTurnOutcome", spec := "fnExactTurnOutcome", unfollowed := true, recurses := true, apart := false, narrowed := true }
def FnExactTurnOutcomeUptoSaid : Prop := fnExactTurnOutcomeUptoRow.holds Try.pinned (OpenSpec.upto fnExactTurnOutcomeSpec)

/-- 'laws.FnExactDekker', WHERE WHAT IT READS IS OF BULK AT MOST 1048576: true; the input reads as it did. -/
def fnExactDekkerUptoRow : OpenClaim := { program := "ytjendjbbhohjcaa", sum := "995ee10572b243b03dd78c7d7eca3a07df33892d6cd0a10cbb75cb8451cb9c10", func := "loop.example/g00713/laws.FnExactDekker", spec := "fnExactDekker", apart := false, narrowed := true }
def FnExactDekkerUptoSaid : Prop := fnExactDekkerUptoRow.holds Try.pinned (OpenSpec.upto fnExactDekkerSpec)

/-- 'laws.FnExactSwapLock', WHERE WHAT IT READS IS OF BULK AT MOST 1048576: true; the input reads as it did. -/
def fnExactSwapLockUptoRow : OpenClaim := { program := "ytjendjbbhohjcaa", sum := "995ee10572b243b03dd78c7d7eca3a07df33892d6cd0a10cbb75cb8451cb9c10", func := "loop.example/g00713/laws.FnExactSwapLock", spec := "fnExactSwapLock", apart := false, narrowed := true }
def FnExactSwapLockUptoSaid : Prop := fnExactSwapLockUptoRow.holds Try.pinned (OpenSpec.upto fnExactSwapLockSpec)

/-- 'laws.FnExactTickets', WHERE WHAT IT READS IS OF BULK AT MOST 1048576: true; the input reads as it did. -/
def fnExactTicketsUptoRow : OpenClaim := { program := "ytjendjbbhohjcaa", sum := "995ee10572b243b03dd78c7d7eca3a07df33892d6cd0a10cbb75cb8451cb9c10", func := "loop.example/g00713/laws.FnExactTickets", spec := "fnExactTickets", apart := false, narrowed := true }
def FnExactTicketsUptoSaid : Prop := fnExactTicketsUptoRow.holds Try.pinned (OpenSpec.upto fnExactTicketsSpec)

/-- 'laws.FnExactInside', WHERE WHAT IT READS IS OF BULK AT MOST 1048576: true; the input reads as it did. -/
def fnExactInsideUptoRow : OpenClaim := { program := "ytjendjbbhohjcaa", sum := "995ee10572b243b03dd78c7d7eca3a07df33892d6cd0a10cbb75cb8451cb9c10", func := "loop.example/g00713/laws.FnExactInside", spec := "fnExactInside", unfollowed := true, recurses := true, apart := false, narrowed := true }
def FnExactInsideUptoSaid : Prop := fnExactInsideUptoRow.holds Try.pinned (OpenSpec.upto fnExactInsideSpec)

/-- 'laws.FnExactAlike', WHERE WHAT IT READS IS OF BULK AT MOST 1048576: true; the input reads as it did. -/
def fnExactAlikeUptoRow : OpenClaim := { program := "ytjendjbbhohjcaa", sum := "995ee10572b243b03dd78c7d7eca3a07df33892d6cd0a10cbb75cb8451cb9c10", func := "loop.example/g00713/laws.FnExactAlike", spec := "fnExactAlike", unfollowed := true, recurses := true, apart := false, narrowed := true }
def FnExactAlikeUptoSaid : Prop := fnExactAlikeUptoRow.holds Try.pinned (OpenSpec.upto fnExactAlikeSpec)

end Rows
end Go.Proofs.Ytjendjbbhohjcaa
