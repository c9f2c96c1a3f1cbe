/-
  No cell of these rows narrows 'for every input' (looked for: loops, veiled, ifaces, maps, wideKeys, modest, calm, conditions, laid).
  DERIVED. THE GIVEN ROWS OF THIS SEAT. 6 by the template 'for every input the law returns true; each argument reads behind the call as it read before'; 0 by the template 'total and deterministic' (their statements: YtfkllcbjakhbdaaTotals.lean).
  GIVEN WITH THE SEED: the statements are not yours to turn. If you find one false, say at which input.
  Laid BY PROGRAM, IN A SANDBOX (cutbox-rows.mjs): the forced cells as the released guide's own fill.sh prints them over the translation 855eb381ae1151d6… (all of the seat's roots in one cut). By AI agents, Wed Nov 11 2026. No macro, syntax, notation, axiom, sorry.
-/
import Derived.Test.YtfkllcbjakhbdaaChecked
import GoSem.Claim
import GoSem.ClaimJoined
import GoSem.ClaimMapViews
import Derived.JoinedTies
import Derived.KernelRfl
namespace Go.Proofs.Ytfkllcbjakhbdaa
/- THE CELL 'sum', in the pinned program and in every row, IS THE sha256 OF THE DUMP (.gsa) THAT YtfkllcbjakhbdaaProg.lean LOADS. Nothing in Lean hashes anything: it is a label: what it is worth is what the hold of that sum in a sandbox is worth. -/
noncomputable def Try.pinned : Pinned := { name := "ytfkllcbjakhbdaa", sum := "855eb381ae1151d66fdd1968d2002787323de5776dc6f2aacf8ad9078021d64d", checked := Try.checked }
namespace Rows
def none {H : Type} : Left H := { results := [], args := [] }

/-- 'laws.FnExactCoreOk': WHATEVER THE INPUT: true; the input reads as it did. -/
def fnExactCoreOkSpec : ChangeSpec := { name := "fnExactCoreOk", fn := fun _ => fun
  | [d] => { results := [.lit (.bool true)], args := [d] }
  | _ => none }
def fnExactCoreOkRow : OpenClaim := { program := "ytfkllcbjakhbdaa", sum := "855eb381ae1151d66fdd1968d2002787323de5776dc6f2aacf8ad9078021d64d", func := "loop.example/g00760/laws.FnExactCoreOk", spec := "fnExactCoreOk", apart := false }
def FnExactCoreOkSaid : Prop := fnExactCoreOkRow.holds Try.pinned (OpenSpec.ofChange fnExactCoreOkSpec)

/-- ITS FALSE NEIGHBOUR: 'it returns false'. Refute it at one input. -/
def fnExactCoreOkWrong : ChangeSpec := { name := "fnExactCoreOk", fn := fun _ => fun
  | [d] => { results := [.lit (.bool false)], args := [d] }
  | _ => none }
def FnExactCoreOkWrongFalsely : Prop := fnExactCoreOkRow.holds Try.pinned (OpenSpec.ofChange fnExactCoreOkWrong)

/-- 'laws.FnExactReset': WHATEVER THE INPUT: true; the input reads as it did. -/
def fnExactResetSpec : ChangeSpec := { name := "fnExactReset", fn := fun _ => fun
  | [d] => { results := [.lit (.bool true)], args := [d] }
  | _ => none }
def fnExactResetRow : OpenClaim := { program := "ytfkllcbjakhbdaa", sum := "855eb381ae1151d66fdd1968d2002787323de5776dc6f2aacf8ad9078021d64d", func := "loop.example/g00760/laws.FnExactReset", spec := "fnExactReset", apart := false }
def FnExactResetSaid : Prop := fnExactResetRow.holds Try.pinned (OpenSpec.ofChange fnExactResetSpec)

/-- ITS FALSE NEIGHBOUR: 'it returns false'. Refute it at one input. -/
def fnExactResetWrong : ChangeSpec := { name := "fnExactReset", fn := fun _ => fun
  | [d] => { results := [.lit (.bool false)], args := [d] }
  | _ => none }
def FnExactResetWrongFalsely : Prop := fnExactResetRow.holds Try.pinned (OpenSpec.ofChange fnExactResetWrong)

/-- 'laws.FnExactFetches': WHATEVER THE INPUT: true; the input reads as it did. -/
def fnExactFetchesSpec : ChangeSpec := { name := "fnExactFetches", fn := fun _ => fun
  | [d] => { results := [.lit (.bool true)], args := [d] }
  | _ => none }
def fnExactFetchesRow : OpenClaim := { program := "ytfkllcbjakhbdaa", sum := "855eb381ae1151d66fdd1968d2002787323de5776dc6f2aacf8ad9078021d64d", func := "loop.example/g00760/laws.FnExactFetches", spec := "fnExactFetches", apart := false }
def FnExactFetchesSaid : Prop := fnExactFetchesRow.holds Try.pinned (OpenSpec.ofChange fnExactFetchesSpec)

/-- ITS FALSE NEIGHBOUR: 'it returns false'. Refute it at one input. -/
def fnExactFetchesWrong : ChangeSpec := { name := "fnExactFetches", fn := fun _ => fun
  | [d] => { results := [.lit (.bool false)], args := [d] }
  | _ => none }
def FnExactFetchesWrongFalsely : Prop := fnExactFetchesRow.holds Try.pinned (OpenSpec.ofChange fnExactFetchesWrong)

/-- 'laws.FnModes': WHATEVER THE INPUT: true; the input reads as it did. -/
def fnModesSpec : ChangeSpec := { name := "fnModes", fn := fun _ => fun
  | [d] => { results := [.lit (.bool true)], args := [d] }
  | _ => none }
def fnModesRow : OpenClaim := { program := "ytfkllcbjakhbdaa", sum := "855eb381ae1151d66fdd1968d2002787323de5776dc6f2aacf8ad9078021d64d", func := "loop.example/g00760/laws.FnModes", spec := "fnModes", apart := false }
def FnModesSaid : Prop := fnModesRow.holds Try.pinned (OpenSpec.ofChange fnModesSpec)

/-- ITS FALSE NEIGHBOUR: 'it returns false'. Refute it at one input. -/
def fnModesWrong : ChangeSpec := { name := "fnModes", fn := fun _ => fun
  | [d] => { results := [.lit (.bool false)], args := [d] }
  | _ => none }
def FnModesWrongFalsely : Prop := fnModesRow.holds Try.pinned (OpenSpec.ofChange fnModesWrong)

/-- 'laws.FnExactKindOf': WHATEVER THE INPUT: true; the input reads as it did. -/
def fnExactKindOfSpec : ChangeSpec := { name := "fnExactKindOf", fn := fun _ => fun
  | [d] => { results := [.lit (.bool true)], args := [d] }
  | _ => none }
def fnExactKindOfRow : OpenClaim := { program := "ytfkllcbjakhbdaa", sum := "855eb381ae1151d66fdd1968d2002787323de5776dc6f2aacf8ad9078021d64d", func := "loop.example/g00760/laws.FnExactKindOf", spec := "fnExactKindOf", apart := false }
def FnExactKindOfSaid : Prop := fnExactKindOfRow.holds Try.pinned (OpenSpec.ofChange fnExactKindOfSpec)

/-- ITS FALSE NEIGHBOUR: 'it returns false'. Refute it at one input. -/
def fnExactKindOfWrong : ChangeSpec := { name := "fnExactKindOf", fn := fun _ => fun
  | [d] => { results := [.lit (.bool false)], args := [d] }
  | _ => none }
def FnExactKindOfWrongFalsely : Prop := fnExactKindOfRow.holds Try.pinned (OpenSpec.ofChange fnExactKindOfWrong)

/-- 'laws.FnExactClocks': WHATEVER THE INPUT: true; the input reads as it did. -/
def fnExactClocksSpec : ChangeSpec := { name := "fnExactClocks", fn := fun _ => fun
  | [d1, d2, d3] => { results := [.lit (.bool true)], args := [d1, d2, d3] }
  | _ => none }
def fnExactClocksRow : OpenClaim := { program := "ytfkllcbjakhbdaa", sum := "855eb381ae1151d66fdd1968d2002787323de5776dc6f2aacf8ad9078021d64d", func := "loop.example/g00760/laws.FnExactClocks", spec := "fnExactClocks", apart := false }
def FnExactClocksSaid : Prop := fnExactClocksRow.holds Try.pinned (OpenSpec.ofChange fnExactClocksSpec)

/-- ITS FALSE NEIGHBOUR: 'it returns false'. Refute it at one input. -/
def fnExactClocksWrong : ChangeSpec := { name := "fnExactClocks", fn := fun _ => fun
  | [d1, d2, d3] => { results := [.lit (.bool false)], args := [d1, d2, d3] }
  | _ => none }
def FnExactClocksWrongFalsely : Prop := fnExactClocksRow.holds Try.pinned (OpenSpec.ofChange fnExactClocksWrong)

/- THE SECOND FORM. 'bulk': how many values and letters a reading holds, each counted each time it is reached (what is shared counts as often as it is met; a slice's spare places count too). A statement '..UptoSaid' is the law's where the arguments, and the package variables that the reading takes, are together of bulk at most 1048576: NARROWER than '..Said'. Prove '..Said' where nothing that the law and all that it calls make is longer than what came in: it says more and counts as full. Else prove '..UptoSaid'. A law counts once. -/
mutual
def uptoBulk {H : Type} : DataW H → Nat
  | .lit (.string bytes) => bytes.length + 1
  | .lit _ => 1
  | .nil => 1
  | .ptr d => uptoBulk d + 1
  | .slice elems spare => uptoBulkAll elems + uptoBulkAll spare + 1
  | .agg parts => uptoBulkAll parts + 1
  | .iface _ d => uptoBulk d + 1
  | .map entries => uptoBulkEntries entries + 1
  | .held _ => 1
def uptoBulkAll {H : Type} : List (DataW H) → Nat
  | [] => 0
  | d :: r => uptoBulk d + uptoBulkAll r
def uptoBulkEntries {H : Type} : List (Lit × DataW H) → Nat
  | [] => 0
  | x :: r => uptoBulkEntry x + uptoBulkEntries r
def uptoBulkEntry {H : Type} : Lit × DataW H → Nat
  | (.string bytes, d) => bytes.length + uptoBulk d + 1
  | (_, d) => uptoBulk d + 1
 end
def uptoSmall : (H : Type) → List (DataW H) → Bool := fun _ ds => decide (uptoBulkAll ds ≤ 1048576)
def OpenSpec.upto (s : _root_.Go.ChangeSpec) : _root_.Go.OpenSpec := { _root_.Go.OpenSpec.ofChange s with cond := some uptoSmall }

/-- 'laws.FnExactCoreOk', WHERE WHAT IT READS IS OF BULK AT MOST 1048576: true; the input reads as it did. -/
def fnExactCoreOkUptoRow : OpenClaim := { program := "ytfkllcbjakhbdaa", sum := "855eb381ae1151d66fdd1968d2002787323de5776dc6f2aacf8ad9078021d64d", func := "loop.example/g00760/laws.FnExactCoreOk", spec := "fnExactCoreOk", apart := false, narrowed := true }
def FnExactCoreOkUptoSaid : Prop := fnExactCoreOkUptoRow.holds Try.pinned (OpenSpec.upto fnExactCoreOkSpec)

/-- 'laws.FnExactReset', WHERE WHAT IT READS IS OF BULK AT MOST 1048576: true; the input reads as it did. -/
def fnExactResetUptoRow : OpenClaim := { program := "ytfkllcbjakhbdaa", sum := "855eb381ae1151d66fdd1968d2002787323de5776dc6f2aacf8ad9078021d64d", func := "loop.example/g00760/laws.FnExactReset", spec := "fnExactReset", apart := false, narrowed := true }
def FnExactResetUptoSaid : Prop := fnExactResetUptoRow.holds Try.pinned (OpenSpec.upto fnExactResetSpec)

/-- 'laws.FnExactFetches', WHERE WHAT IT READS IS OF BULK AT MOST 1048576: true; the input reads as it did. -/
def fnExactFetchesUptoRow : OpenClaim := { program := "ytfkllcbjakhbdaa", sum := "855eb381ae1151d66fdd1968d2002787323de5776dc6f2aacf8ad9078021d64d", func := "loop.example/g00760/laws.FnExactFetches", spec := "fnExactFetches", apart := false, narrowed := true }
def FnExactFetchesUptoSaid : Prop := fnExactFetchesUptoRow.holds Try.pinned (OpenSpec.upto fnExactFetchesSpec)

/-- 'laws.FnModes', WHERE WHAT IT READS IS OF BULK AT MOST 1048576: true; the input reads as it did. -/
def fnModesUptoRow : OpenClaim := { program := "ytfkllcbjakhbdaa", sum := "855eb381ae1151d66fdd1968d2002787323de5776dc6f2aacf8ad9078021d64d", func := "loop.example/g00760/laws.FnModes", spec := "fnModes", apart := false, narrowed := true }
def FnModesUptoSaid : Prop := fnModesUptoRow.holds Try.pinned (OpenSpec.upto fnModesSpec)

/-- 'laws.FnExactKindOf', WHERE WHAT IT READS IS OF BULK AT MOST 1048576: true; the input reads as it did. -/
def fnExactKindOfUptoRow : OpenClaim := { program := "ytfkllcbjakhbdaa", sum := "855eb381ae1151d66fdd1968d2002787323de5776dc6f2aacf8ad9078021d64d", func := "loop.example/g00760/laws.FnExactKindOf", spec := "fnExactKindOf", apart := false, narrowed := true }
def FnExactKindOfUptoSaid : Prop := fnExactKindOfUptoRow.holds Try.pinned (OpenSpec.upto fnExactKindOfSpec)

/-- 'laws.FnExactClocks', WHERE WHAT IT READS IS OF BULK AT MOST 1048576: true; the input reads as it did. -/
def fnExactClocksUptoRow : OpenClaim := { program := "ytfkllcbjakhbdaa", sum := "855eb381ae1151d66fdd1968d2002787323de5776dc6f2aacf8ad9078021d64d", func := "loop.example/g00760/laws.FnExactClocks", spec := "fnExactClocks", apart := false, narrowed := true }
def FnExactClocksUptoSaid : Prop := fnExactClocksUptoRow.holds Try.pinned (OpenSpec.upto fnExactClocksSpec)

end Rows
end Go.Proofs.Ytfkllcbjakhbdaa
