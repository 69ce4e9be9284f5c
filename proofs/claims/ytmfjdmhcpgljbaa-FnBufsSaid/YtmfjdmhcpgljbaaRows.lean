/-
  No cell of these rows narrows 'for every input' (looked for: loops, veiled, ifaces, maps, wideKeys, modest, calm, conditions, laid).
  DERIVED. THE GIVEN ROWS OF THIS SEAT. 11 by the template 'for every input the law returns true; each argument reads behind the call as it read before'; 0 by the template 'total and deterministic' (their statements: YtmfjdmhcpgljbaaTotals.lean).
  GIVEN WITH THE SEED: the statements are not yours to turn. If you find one false, say at which input.
  Laid BY PROGRAM, IN A SANDBOX (cutbox-rows.mjs): the forced cells as the released guide's own fill.sh prints them over the translation 71f148acb2f29b21… (all of the seat's roots in one cut). By AI agents, Wed Nov 11 2026. No macro, syntax, notation, axiom, sorry.
-/
import Derived.Test.YtmfjdmhcpgljbaaChecked
import GoSem.Claim
import GoSem.ClaimJoined
import GoSem.ClaimMapViews
import Derived.JoinedTies
import Derived.KernelRfl
namespace Go.Proofs.Ytmfjdmhcpgljbaa
/- THE CELL 'sum', in the pinned program and in every row, IS THE sha256 OF THE DUMP (.gsa) THAT YtmfjdmhcpgljbaaProg.lean LOADS. Nothing in Lean hashes anything: it is a label: what it is worth is what the hold of that sum in a sandbox is worth. -/
noncomputable def Try.pinned : Pinned := { name := "ytmfjdmhcpgljbaa", sum := "71f148acb2f29b2109ed2f6ee083e5d4cef79951e4458e9895f60e9fd46af01e", checked := Try.checked }
namespace Rows
def none {H : Type} : Left H := { results := [], args := [] }

/-- 'laws.FnStarts': WHATEVER THE INPUT: true; the input reads as it did. -/
def fnStartsSpec : ChangeSpec := { name := "fnStarts", fn := fun _ => fun
  | [d] => { results := [.lit (.bool true)], args := [d] }
  | _ => none }
def fnStartsRow : OpenClaim := { program := "ytmfjdmhcpgljbaa", sum := "71f148acb2f29b2109ed2f6ee083e5d4cef79951e4458e9895f60e9fd46af01e", func := "loop.example/g00713/laws.FnStarts", spec := "fnStarts", apart := false }
def FnStartsSaid : Prop := fnStartsRow.holds Try.pinned (OpenSpec.ofChange fnStartsSpec)

/-- ITS FALSE NEIGHBOUR: 'it returns false'. Refute it at one input. -/
def fnStartsWrong : ChangeSpec := { name := "fnStarts", fn := fun _ => fun
  | [d] => { results := [.lit (.bool false)], args := [d] }
  | _ => none }
def FnStartsWrongFalsely : Prop := fnStartsRow.holds Try.pinned (OpenSpec.ofChange fnStartsWrong)

/-- 'laws.FnCells': WHATEVER THE INPUT: true; the input reads as it did. -/
def fnCellsSpec : ChangeSpec := { name := "fnCells", fn := fun _ => fun
  | [d] => { results := [.lit (.bool true)], args := [d] }
  | _ => none }
def fnCellsRow : OpenClaim := { program := "ytmfjdmhcpgljbaa", sum := "71f148acb2f29b2109ed2f6ee083e5d4cef79951e4458e9895f60e9fd46af01e", func := "loop.example/g00713/laws.FnCells", spec := "fnCells", apart := false }
def FnCellsSaid : Prop := fnCellsRow.holds Try.pinned (OpenSpec.ofChange fnCellsSpec)

/-- ITS FALSE NEIGHBOUR: 'it returns false'. Refute it at one input. -/
def fnCellsWrong : ChangeSpec := { name := "fnCells", fn := fun _ => fun
  | [d] => { results := [.lit (.bool false)], args := [d] }
  | _ => none }
def FnCellsWrongFalsely : Prop := fnCellsRow.holds Try.pinned (OpenSpec.ofChange fnCellsWrong)

/-- 'laws.FnBufs': WHATEVER THE INPUT: true; the input reads as it did. -/
def fnBufsSpec : ChangeSpec := { name := "fnBufs", fn := fun _ => fun
  | [d] => { results := [.lit (.bool true)], args := [d] }
  | _ => none }
def fnBufsRow : OpenClaim := { program := "ytmfjdmhcpgljbaa", sum := "71f148acb2f29b2109ed2f6ee083e5d4cef79951e4458e9895f60e9fd46af01e", func := "loop.example/g00713/laws.FnBufs", spec := "fnBufs", unfollowed := true, recurses := true, apart := false }
def FnBufsSaid : Prop := fnBufsRow.holds Try.pinned (OpenSpec.ofChange fnBufsSpec)

/-- ITS FALSE NEIGHBOUR: 'it returns false'. Refute it at one input. -/
def fnBufsWrong : ChangeSpec := { name := "fnBufs", fn := fun _ => fun
  | [d] => { results := [.lit (.bool false)], args := [d] }
  | _ => none }
def FnBufsWrongFalsely : Prop := fnBufsRow.holds Try.pinned (OpenSpec.ofChange fnBufsWrong)

/-- 'laws.FnPuts': WHATEVER THE INPUT: true; the input reads as it did. -/
def fnPutsSpec : ChangeSpec := { name := "fnPuts", fn := fun _ => fun
  | [d] => { results := [.lit (.bool true)], args := [d] }
  | _ => none }
def fnPutsRow : OpenClaim := { program := "ytmfjdmhcpgljbaa", sum := "71f148acb2f29b2109ed2f6ee083e5d4cef79951e4458e9895f60e9fd46af01e", func := "loop.example/g00713/laws.FnPuts", spec := "fnPuts", unfollowed := true, recurses := true, apart := false }
def FnPutsSaid : Prop := fnPutsRow.holds Try.pinned (OpenSpec.ofChange fnPutsSpec)

/-- ITS FALSE NEIGHBOUR: 'it returns false'. Refute it at one input. -/
def fnPutsWrong : ChangeSpec := { name := "fnPuts", fn := fun _ => fun
  | [d] => { results := [.lit (.bool false)], args := [d] }
  | _ => none }
def FnPutsWrongFalsely : Prop := fnPutsRow.holds Try.pinned (OpenSpec.ofChange fnPutsWrong)

/-- 'laws.FnExactStart': WHATEVER THE INPUT: true; the input reads as it did. -/
def fnExactStartSpec : ChangeSpec := { name := "fnExactStart", fn := fun _ => fun
  | [d1, d2] => { results := [.lit (.bool true)], args := [d1, d2] }
  | _ => none }
def fnExactStartRow : OpenClaim := { program := "ytmfjdmhcpgljbaa", sum := "71f148acb2f29b2109ed2f6ee083e5d4cef79951e4458e9895f60e9fd46af01e", func := "loop.example/g00713/laws.FnExactStart", spec := "fnExactStart", apart := false }
def FnExactStartSaid : Prop := fnExactStartRow.holds Try.pinned (OpenSpec.ofChange fnExactStartSpec)

/-- ITS FALSE NEIGHBOUR: 'it returns false'. Refute it at one input. -/
def fnExactStartWrong : ChangeSpec := { name := "fnExactStart", fn := fun _ => fun
  | [d1, d2] => { results := [.lit (.bool false)], args := [d1, d2] }
  | _ => none }
def FnExactStartWrongFalsely : Prop := fnExactStartRow.holds Try.pinned (OpenSpec.ofChange fnExactStartWrong)

/-- 'laws.FnExactStateOk': WHATEVER THE INPUT: true; the input reads as it did. -/
def fnExactStateOkSpec : ChangeSpec := { name := "fnExactStateOk", fn := fun _ => fun
  | [d1, d2] => { results := [.lit (.bool true)], args := [d1, d2] }
  | _ => none }
def fnExactStateOkRow : OpenClaim := { program := "ytmfjdmhcpgljbaa", sum := "71f148acb2f29b2109ed2f6ee083e5d4cef79951e4458e9895f60e9fd46af01e", func := "loop.example/g00713/laws.FnExactStateOk", spec := "fnExactStateOk", apart := false }
def FnExactStateOkSaid : Prop := fnExactStateOkRow.holds Try.pinned (OpenSpec.ofChange fnExactStateOkSpec)

/-- ITS FALSE NEIGHBOUR: 'it returns false'. Refute it at one input. -/
def fnExactStateOkWrong : ChangeSpec := { name := "fnExactStateOk", fn := fun _ => fun
  | [d1, d2] => { results := [.lit (.bool false)], args := [d1, d2] }
  | _ => none }
def FnExactStateOkWrongFalsely : Prop := fnExactStateOkRow.holds Try.pinned (OpenSpec.ofChange fnExactStateOkWrong)

/-- 'laws.FnExactDone': WHATEVER THE INPUT: true; the input reads as it did. -/
def fnExactDoneSpec : ChangeSpec := { name := "fnExactDone", fn := fun _ => fun
  | [d1, d2] => { results := [.lit (.bool true)], args := [d1, d2] }
  | _ => none }
def fnExactDoneRow : OpenClaim := { program := "ytmfjdmhcpgljbaa", sum := "71f148acb2f29b2109ed2f6ee083e5d4cef79951e4458e9895f60e9fd46af01e", func := "loop.example/g00713/laws.FnExactDone", spec := "fnExactDone", apart := false }
def FnExactDoneSaid : Prop := fnExactDoneRow.holds Try.pinned (OpenSpec.ofChange fnExactDoneSpec)

/-- ITS FALSE NEIGHBOUR: 'it returns false'. Refute it at one input. -/
def fnExactDoneWrong : ChangeSpec := { name := "fnExactDone", fn := fun _ => fun
  | [d1, d2] => { results := [.lit (.bool false)], args := [d1, d2] }
  | _ => none }
def FnExactDoneWrongFalsely : Prop := fnExactDoneRow.holds Try.pinned (OpenSpec.ofChange fnExactDoneWrong)

/-- 'laws.FnExactBufRead': WHATEVER THE INPUT: true; the input reads as it did. -/
def fnExactBufReadSpec : ChangeSpec := { name := "fnExactBufRead", fn := fun _ => fun
  | [d1, d2, d3] => { results := [.lit (.bool true)], args := [d1, d2, d3] }
  | _ => none }
def fnExactBufReadRow : OpenClaim := { program := "ytmfjdmhcpgljbaa", sum := "71f148acb2f29b2109ed2f6ee083e5d4cef79951e4458e9895f60e9fd46af01e", func := "loop.example/g00713/laws.FnExactBufRead", spec := "fnExactBufRead", unfollowed := true, recurses := true, apart := false }
def FnExactBufReadSaid : Prop := fnExactBufReadRow.holds Try.pinned (OpenSpec.ofChange fnExactBufReadSpec)

/-- ITS FALSE NEIGHBOUR: 'it returns false'. Refute it at one input. -/
def fnExactBufReadWrong : ChangeSpec := { name := "fnExactBufRead", fn := fun _ => fun
  | [d1, d2, d3] => { results := [.lit (.bool false)], args := [d1, d2, d3] }
  | _ => none }
def FnExactBufReadWrongFalsely : Prop := fnExactBufReadRow.holds Try.pinned (OpenSpec.ofChange fnExactBufReadWrong)

/-- 'laws.FnExactBufPut': WHATEVER THE INPUT: true; the input reads as it did. -/
def fnExactBufPutSpec : ChangeSpec := { name := "fnExactBufPut", fn := fun _ => fun
  | [d1, d2, d3] => { results := [.lit (.bool true)], args := [d1, d2, d3] }
  | _ => none }
def fnExactBufPutRow : OpenClaim := { program := "ytmfjdmhcpgljbaa", sum := "71f148acb2f29b2109ed2f6ee083e5d4cef79951e4458e9895f60e9fd46af01e", func := "loop.example/g00713/laws.FnExactBufPut", spec := "fnExactBufPut", apart := false }
def FnExactBufPutSaid : Prop := fnExactBufPutRow.holds Try.pinned (OpenSpec.ofChange fnExactBufPutSpec)

/-- ITS FALSE NEIGHBOUR: 'it returns false'. Refute it at one input. -/
def fnExactBufPutWrong : ChangeSpec := { name := "fnExactBufPut", fn := fun _ => fun
  | [d1, d2, d3] => { results := [.lit (.bool false)], args := [d1, d2, d3] }
  | _ => none }
def FnExactBufPutWrongFalsely : Prop := fnExactBufPutRow.holds Try.pinned (OpenSpec.ofChange fnExactBufPutWrong)

/-- 'laws.FnExactBufFlush': WHATEVER THE INPUT: true; the input reads as it did. -/
def fnExactBufFlushSpec : ChangeSpec := { name := "fnExactBufFlush", fn := fun _ => fun
  | [d1, d2] => { results := [.lit (.bool true)], args := [d1, d2] }
  | _ => none }
def fnExactBufFlushRow : OpenClaim := { program := "ytmfjdmhcpgljbaa", sum := "71f148acb2f29b2109ed2f6ee083e5d4cef79951e4458e9895f60e9fd46af01e", func := "loop.example/g00713/laws.FnExactBufFlush", spec := "fnExactBufFlush", apart := false }
def FnExactBufFlushSaid : Prop := fnExactBufFlushRow.holds Try.pinned (OpenSpec.ofChange fnExactBufFlushSpec)

/-- ITS FALSE NEIGHBOUR: 'it returns false'. Refute it at one input. -/
def fnExactBufFlushWrong : ChangeSpec := { name := "fnExactBufFlush", fn := fun _ => fun
  | [d1, d2] => { results := [.lit (.bool false)], args := [d1, d2] }
  | _ => none }
def FnExactBufFlushWrongFalsely : Prop := fnExactBufFlushRow.holds Try.pinned (OpenSpec.ofChange fnExactBufFlushWrong)

/-- 'laws.FnExactBufAll': WHATEVER THE INPUT: true; the input reads as it did. -/
def fnExactBufAllSpec : ChangeSpec := { name := "fnExactBufAll", fn := fun _ => fun
  | [d1, d2] => { results := [.lit (.bool true)], args := [d1, d2] }
  | _ => none }
def fnExactBufAllRow : OpenClaim := { program := "ytmfjdmhcpgljbaa", sum := "71f148acb2f29b2109ed2f6ee083e5d4cef79951e4458e9895f60e9fd46af01e", func := "loop.example/g00713/laws.FnExactBufAll", spec := "fnExactBufAll", apart := false }
def FnExactBufAllSaid : Prop := fnExactBufAllRow.holds Try.pinned (OpenSpec.ofChange fnExactBufAllSpec)

/-- ITS FALSE NEIGHBOUR: 'it returns false'. Refute it at one input. -/
def fnExactBufAllWrong : ChangeSpec := { name := "fnExactBufAll", fn := fun _ => fun
  | [d1, d2] => { results := [.lit (.bool false)], args := [d1, d2] }
  | _ => none }
def FnExactBufAllWrongFalsely : Prop := fnExactBufAllRow.holds Try.pinned (OpenSpec.ofChange fnExactBufAllWrong)

/- THE SECOND FORM. 'bulk': how many values and letters a reading holds, each counted each time it is reached (what is shared counts as often as it is met; a slice's spare places count too). A statement '..UptoSaid' is the law's where the arguments, and the package variables that the reading takes, are together of bulk at most 1048576: NARROWER than '..Said'. Prove '..Said' where nothing that the law and all that it calls make is longer than what came in: it says more and counts as full. Else prove '..UptoSaid'. A law counts once. -/
mutual
def uptoBulk {H : Type} : DataW H → Nat
  | .lit (.string bytes) => bytes.length + 1
  | .lit _ => 1
  | .nil => 1
  | .ptr d => uptoBulk d + 1
  | .slice elems spare => uptoBulkAll elems + uptoBulkAll spare + 1
  | .agg parts => uptoBulkAll parts + 1
  | .iface _ d => uptoBulk d + 1
  | .map entries => uptoBulkEntries entries + 1
  | .held _ => 1
def uptoBulkAll {H : Type} : List (DataW H) → Nat
  | [] => 0
  | d :: r => uptoBulk d + uptoBulkAll r
def uptoBulkEntries {H : Type} : List (Lit × DataW H) → Nat
  | [] => 0
  | x :: r => uptoBulkEntry x + uptoBulkEntries r
def uptoBulkEntry {H : Type} : Lit × DataW H → Nat
  | (.string bytes, d) => bytes.length + uptoBulk d + 1
  | (_, d) => uptoBulk d + 1
 end
def uptoSmall : (H : Type) → List (DataW H) → Bool := fun _ ds => decide (uptoBulkAll ds ≤ 1048576)
def OpenSpec.upto (s : _root_.Go.ChangeSpec) : _root_.Go.OpenSpec := { _root_.Go.OpenSpec.ofChange s with cond := some uptoSmall }

/-- 'laws.FnStarts', WHERE WHAT IT READS IS OF BULK AT MOST 1048576: true; the input reads as it did. -/
def fnStartsUptoRow : OpenClaim := { program := "ytmfjdmhcpgljbaa", sum := "71f148acb2f29b2109ed2f6ee083e5d4cef79951e4458e9895f60e9fd46af01e", func := "loop.example/g00713/laws.FnStarts", spec := "fnStarts", apart := false, narrowed := true }
def FnStartsUptoSaid : Prop := fnStartsUptoRow.holds Try.pinned (OpenSpec.upto fnStartsSpec)

/-- 'laws.FnCells', WHERE WHAT IT READS IS OF BULK AT MOST 1048576: true; the input reads as it did. -/
def fnCellsUptoRow : OpenClaim := { program := "ytmfjdmhcpgljbaa", sum := "71f148acb2f29b2109ed2f6ee083e5d4cef79951e4458e9895f60e9fd46af01e", func := "loop.example/g00713/laws.FnCells", spec := "fnCells", apart := false, narrowed := true }
def FnCellsUptoSaid : Prop := fnCellsUptoRow.holds Try.pinned (OpenSpec.upto fnCellsSpec)

/-- 'laws.FnBufs', WHERE WHAT IT READS IS OF BULK AT MOST 1048576: true; the input reads as it did. -/
def fnBufsUptoRow : OpenClaim := { program := "ytmfjdmhcpgljbaa", sum := "71f148acb2f29b2109ed2f6ee083e5d4cef79951e4458e9895f60e9fd46af01e", func := "loop.example/g00713/laws.FnBufs", spec := "fnBufs", unfollowed := true, recurses := true, apart := false, narrowed := true }
def FnBufsUptoSaid : Prop := fnBufsUptoRow.holds Try.pinned (OpenSpec.upto fnBufsSpec)

/-- 'laws.FnPuts', WHERE WHAT IT READS IS OF BULK AT MOST 1048576: true; the input reads as it did. -/
def fnPutsUptoRow : OpenClaim := { program := "ytmfjdmhcpgljbaa", sum := "71f148acb2f29b2109ed2f6ee083e5d4cef79951e4458e9895f60e9fd46af01e", func := "loop.example/g00713/laws.FnPuts", spec := "fnPuts", unfollowed := true, recurses := true, apart := false, narrowed := true }
def FnPutsUptoSaid : Prop := fnPutsUptoRow.holds Try.pinned (OpenSpec.upto fnPutsSpec)

/-- 'laws.FnExactStart', WHERE WHAT IT READS IS OF BULK AT MOST 1048576: true; the input reads as it did. -/
def fnExactStartUptoRow : OpenClaim := { program := "ytmfjdmhcpgljbaa", sum := "71f148acb2f29b2109ed2f6ee083e5d4cef79951e4458e9895f60e9fd46af01e", func := "loop.example/g00713/laws.FnExactStart", spec := "fnExactStart", apart := false, narrowed := true }
def FnExactStartUptoSaid : Prop := fnExactStartUptoRow.holds Try.pinned (OpenSpec.upto fnExactStartSpec)

/-- 'laws.FnExactStateOk', WHERE WHAT IT READS IS OF BULK AT MOST 1048576: true; the input reads as it did. -/
def fnExactStateOkUptoRow : OpenClaim := { program := "ytmfjdmhcpgljbaa", sum := "71f148acb2f29b2109ed2f6ee083e5d4cef79951e4458e9895f60e9fd46af01e", func := "loop.example/g00713/laws.FnExactStateOk", spec := "fnExactStateOk", apart := false, narrowed := true }
def FnExactStateOkUptoSaid : Prop := fnExactStateOkUptoRow.holds Try.pinned (OpenSpec.upto fnExactStateOkSpec)

/-- 'laws.FnExactDone', WHERE WHAT IT READS IS OF BULK AT MOST 1048576: true; the input reads as it did. -/
def fnExactDoneUptoRow : OpenClaim := { program := "ytmfjdmhcpgljbaa", sum := "71f148acb2f29b2109ed2f6ee083e5d4cef79951e4458e9895f60e9fd46af01e", func := "loop.example/g00713/laws.FnExactDone", spec := "fnExactDone", apart := false, narrowed := true }
def FnExactDoneUptoSaid : Prop := fnExactDoneUptoRow.holds Try.pinned (OpenSpec.upto fnExactDoneSpec)

/-- 'laws.FnExactBufRead', WHERE WHAT IT READS IS OF BULK AT MOST 1048576: true; the input reads as it did. -/
def fnExactBufReadUptoRow : OpenClaim := { program := "ytmfjdmhcpgljbaa", sum := "71f148acb2f29b2109ed2f6ee083e5d4cef79951e4458e9895f60e9fd46af01e", func := "loop.example/g00713/laws.FnExactBufRead", spec := "fnExactBufRead", unfollowed := true, recurses := true, apart := false, narrowed := true }
def FnExactBufReadUptoSaid : Prop := fnExactBufReadUptoRow.holds Try.pinned (OpenSpec.upto fnExactBufReadSpec)

/-- 'laws.FnExactBufPut', WHERE WHAT IT READS IS OF BULK AT MOST 1048576: true; the input reads as it did. -/
def fnExactBufPutUptoRow : OpenClaim := { program := "ytmfjdmhcpgljbaa", sum := "71f148acb2f29b2109ed2f6ee083e5d4cef79951e4458e9895f60e9fd46af01e", func := "loop.example/g00713/laws.FnExactBufPut", spec := "fnExactBufPut", apart := false, narrowed := true }
def FnExactBufPutUptoSaid : Prop := fnExactBufPutUptoRow.holds Try.pinned (OpenSpec.upto fnExactBufPutSpec)

/-- 'laws.FnExactBufFlush', WHERE WHAT IT READS IS OF BULK AT MOST 1048576: true; the input reads as it did. -/
def fnExactBufFlushUptoRow : OpenClaim := { program := "ytmfjdmhcpgljbaa", sum := "71f148acb2f29b2109ed2f6ee083e5d4cef79951e4458e9895f60e9fd46af01e", func := "loop.example/g00713/laws.FnExactBufFlush", spec := "fnExactBufFlush", apart := false, narrowed := true }
def FnExactBufFlushUptoSaid : Prop := fnExactBufFlushUptoRow.holds Try.pinned (OpenSpec.upto fnExactBufFlushSpec)

/-- 'laws.FnExactBufAll', WHERE WHAT IT READS IS OF BULK AT MOST 1048576: true; the input reads as it did. -/
def fnExactBufAllUptoRow : OpenClaim := { program := "ytmfjdmhcpgljbaa", sum := "71f148acb2f29b2109ed2f6ee083e5d4cef79951e4458e9895f60e9fd46af01e", func := "loop.example/g00713/laws.FnExactBufAll", spec := "fnExactBufAll", apart := false, narrowed := true }
def FnExactBufAllUptoSaid : Prop := fnExactBufAllUptoRow.holds Try.pinned (OpenSpec.upto fnExactBufAllSpec)

end Rows
end Go.Proofs.Ytmfjdmhcpgljbaa
