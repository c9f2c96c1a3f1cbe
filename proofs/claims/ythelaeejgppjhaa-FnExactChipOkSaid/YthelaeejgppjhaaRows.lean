/-
  No cell of these rows narrows 'for every input' (looked for: loops, veiled, ifaces, maps, wideKeys, modest, calm, conditions, laid).
  DERIVED. THE GIVEN ROWS OF THIS SEAT. 5 by the template 'for every input the law returns true; each argument reads behind the call as it read before'; 0 by the template 'total and deterministic' (their statements: YthelaeejgppjhaaTotals.lean).
  GIVEN WITH THE SEED: the statements are not yours to turn. If you find one false, say at which input.
  Laid BY PROGRAM, IN A SANDBOX (cutbox-rows.mjs): the forced cells as the released guide's own fill.sh prints them over the translation 84bcc82f13ff680b… (all of the seat's roots in one cut). By AI agents, Wed Nov 11 2026. No macro, syntax, notation, axiom, sorry.
-/
import Derived.Test.YthelaeejgppjhaaChecked
import GoSem.Claim
import GoSem.ClaimJoined
import GoSem.ClaimMapViews
import Derived.JoinedTies
import Derived.KernelRfl
namespace Go.Proofs.Ythelaeejgppjhaa
/- THE CELL 'sum', in the pinned program and in every row, IS THE sha256 OF THE DUMP (.gsa) THAT YthelaeejgppjhaaProg.lean LOADS. Nothing in Lean hashes anything: it is a label: what it is worth is what the hold of that sum in a sandbox is worth. -/
noncomputable def Try.pinned : Pinned := { name := "ythelaeejgppjhaa", sum := "84bcc82f13ff680bec3951de06eced149ce4c83f4a2d318991597676706b4a16", checked := Try.checked }
namespace Rows
def none {H : Type} : Left H := { results := [], args := [] }

/-- 'laws.FnChip': WHATEVER THE INPUT: true; the input reads as it did. -/
def fnChipSpec : ChangeSpec := { name := "fnChip", fn := fun _ => fun
  | [d] => { results := [.lit (.bool true)], args := [d] }
  | _ => none }
def fnChipRow : OpenClaim := { program := "ythelaeejgppjhaa", sum := "84bcc82f13ff680bec3951de06eced149ce4c83f4a2d318991597676706b4a16", func := "loop.example/g00760/laws.FnChip", spec := "fnChip", apart := false }
def FnChipSaid : Prop := fnChipRow.holds Try.pinned (OpenSpec.ofChange fnChipSpec)

/-- ITS FALSE NEIGHBOUR: 'it returns false'. Refute it at one input. -/
def fnChipWrong : ChangeSpec := { name := "fnChip", fn := fun _ => fun
  | [d] => { results := [.lit (.bool false)], args := [d] }
  | _ => none }
def FnChipWrongFalsely : Prop := fnChipRow.holds Try.pinned (OpenSpec.ofChange fnChipWrong)

/-- 'laws.FnExactChipOk': WHATEVER THE INPUT: true; the input reads as it did. -/
def fnExactChipOkSpec : ChangeSpec := { name := "fnExactChipOk", fn := fun _ => fun
  | [d] => { results := [.lit (.bool true)], args := [d] }
  | _ => none }
def fnExactChipOkRow : OpenClaim := { program := "ythelaeejgppjhaa", sum := "84bcc82f13ff680bec3951de06eced149ce4c83f4a2d318991597676706b4a16", func := "loop.example/g00760/laws.FnExactChipOk", spec := "fnExactChipOk", apart := false }
def FnExactChipOkSaid : Prop := fnExactChipOkRow.holds Try.pinned (OpenSpec.ofChange fnExactChipOkSpec)

/-- ITS FALSE NEIGHBOUR: 'it returns false'. Refute it at one input. -/
def fnExactChipOkWrong : ChangeSpec := { name := "fnExactChipOk", fn := fun _ => fun
  | [d] => { results := [.lit (.bool false)], args := [d] }
  | _ => none }
def FnExactChipOkWrongFalsely : Prop := fnExactChipOkRow.holds Try.pinned (OpenSpec.ofChange fnExactChipOkWrong)

/-- 'laws.FnExactTickChip': WHATEVER THE INPUT: true; the input reads as it did. -/
def fnExactTickChipSpec : ChangeSpec := { name := "fnExactTickChip", fn := fun _ => fun
  | [d] => { results := [.lit (.bool true)], args := [d] }
  | _ => none }
def fnExactTickChipRow : OpenClaim := { program := "ythelaeejgppjhaa", sum := "84bcc82f13ff680bec3951de06eced149ce4c83f4a2d318991597676706b4a16", func := "loop.example/g00760/laws.FnExactTickChip", spec := "fnExactTickChip", apart := false }
def FnExactTickChipSaid : Prop := fnExactTickChipRow.holds Try.pinned (OpenSpec.ofChange fnExactTickChipSpec)

/-- ITS FALSE NEIGHBOUR: 'it returns false'. Refute it at one input. -/
def fnExactTickChipWrong : ChangeSpec := { name := "fnExactTickChip", fn := fun _ => fun
  | [d] => { results := [.lit (.bool false)], args := [d] }
  | _ => none }
def FnExactTickChipWrongFalsely : Prop := fnExactTickChipRow.holds Try.pinned (OpenSpec.ofChange fnExactTickChipWrong)

/-- 'laws.FnExactWriteChip': WHATEVER THE INPUT: true; the input reads as it did. -/
def fnExactWriteChipSpec : ChangeSpec := { name := "fnExactWriteChip", fn := fun _ => fun
  | [d1, d2, d3] => { results := [.lit (.bool true)], args := [d1, d2, d3] }
  | _ => none }
def fnExactWriteChipRow : OpenClaim := { program := "ythelaeejgppjhaa", sum := "84bcc82f13ff680bec3951de06eced149ce4c83f4a2d318991597676706b4a16", func := "loop.example/g00760/laws.FnExactWriteChip", spec := "fnExactWriteChip", apart := false }
def FnExactWriteChipSaid : Prop := fnExactWriteChipRow.holds Try.pinned (OpenSpec.ofChange fnExactWriteChipSpec)

/-- ITS FALSE NEIGHBOUR: 'it returns false'. Refute it at one input. -/
def fnExactWriteChipWrong : ChangeSpec := { name := "fnExactWriteChip", fn := fun _ => fun
  | [d1, d2, d3] => { results := [.lit (.bool false)], args := [d1, d2, d3] }
  | _ => none }
def FnExactWriteChipWrongFalsely : Prop := fnExactWriteChipRow.holds Try.pinned (OpenSpec.ofChange fnExactWriteChipWrong)

/-- 'laws.FnExactAsks': WHATEVER THE INPUT: true; the input reads as it did. -/
def fnExactAsksSpec : ChangeSpec := { name := "fnExactAsks", fn := fun _ => fun
  | [d] => { results := [.lit (.bool true)], args := [d] }
  | _ => none }
def fnExactAsksRow : OpenClaim := { program := "ythelaeejgppjhaa", sum := "84bcc82f13ff680bec3951de06eced149ce4c83f4a2d318991597676706b4a16", func := "loop.example/g00760/laws.FnExactAsks", spec := "fnExactAsks", apart := false }
def FnExactAsksSaid : Prop := fnExactAsksRow.holds Try.pinned (OpenSpec.ofChange fnExactAsksSpec)

/-- ITS FALSE NEIGHBOUR: 'it returns false'. Refute it at one input. -/
def fnExactAsksWrong : ChangeSpec := { name := "fnExactAsks", fn := fun _ => fun
  | [d] => { results := [.lit (.bool false)], args := [d] }
  | _ => none }
def FnExactAsksWrongFalsely : Prop := fnExactAsksRow.holds Try.pinned (OpenSpec.ofChange fnExactAsksWrong)

/- THE SECOND FORM. 'bulk': how many values and letters a reading holds, each counted each time it is reached (what is shared counts as often as it is met; a slice's spare places count too). A statement '..UptoSaid' is the law's where the arguments, and the package variables that the reading takes, are together of bulk at most 1048576: NARROWER than '..Said'. Prove '..Said' where nothing that the law and all that it calls make is longer than what came in: it says more and counts as full. Else prove '..UptoSaid'. A law counts once. -/
mutual
def uptoBulk {H : Type} : DataW H → Nat
  | .lit (.string bytes) => bytes.length + 1
  | .lit _ => 1
  | .nil => 1
  | .ptr d => uptoBulk d + 1
  | .slice elems spare => uptoBulkAll elems + uptoBulkAll spare + 1
  | .agg parts => uptoBulkAll parts + 1
  | .iface _ d => uptoBulk d + 1
  | .map entries => uptoBulkEntries entries + 1
  | .held _ => 1
def uptoBulkAll {H : Type} : List (DataW H) → Nat
  | [] => 0
  | d :: r => uptoBulk d + uptoBulkAll r
def uptoBulkEntries {H : Type} : List (Lit × DataW H) → Nat
  | [] => 0
  | x :: r => uptoBulkEntry x + uptoBulkEntries r
def uptoBulkEntry {H : Type} : Lit × DataW H → Nat
  | (.string bytes, d) => bytes.length + uptoBulk d + 1
  | (_, d) => uptoBulk d + 1
 end
def uptoSmall : (H : Type) → List (DataW H) → Bool := fun _ ds => decide (uptoBulkAll ds ≤ 1048576)
def OpenSpec.upto (s : _root_.Go.ChangeSpec) : _root_.Go.OpenSpec := { _root_.Go.OpenSpec.ofChange s with cond := some uptoSmall }

/-- 'laws.FnChip', WHERE WHAT IT READS IS OF BULK AT MOST 1048576: true; the input reads as it did. -/
def fnChipUptoRow : OpenClaim := { program := "ythelaeejgppjhaa", sum := "84bcc82f13ff680bec3951de06eced149ce4c83f4a2d318991597676706b4a16", func := "loop.example/g00760/laws.FnChip", spec := "fnChip", apart := false, narrowed := true }
def FnChipUptoSaid : Prop := fnChipUptoRow.holds Try.pinned (OpenSpec.upto fnChipSpec)

/-- 'laws.FnExactChipOk', WHERE WHAT IT READS IS OF BULK AT MOST 1048576: true; the input reads as it did. -/
def fnExactChipOkUptoRow : OpenClaim := { program := "ythelaeejgppjhaa", sum := "84bcc82f13ff680bec3951de06eced149ce4c83f4a2d318991597676706b4a16", func := "loop.example/g00760/laws.FnExactChipOk", spec := "fnExactChipOk", apart := false, narrowed := true }
def FnExactChipOkUptoSaid : Prop := fnExactChipOkUptoRow.holds Try.pinned (OpenSpec.upto fnExactChipOkSpec)

/-- 'laws.FnExactTickChip', WHERE WHAT IT READS IS OF BULK AT MOST 1048576: true; the input reads as it did. -/
def fnExactTickChipUptoRow : OpenClaim := { program := "ythelaeejgppjhaa", sum := "84bcc82f13ff680bec3951de06eced149ce4c83f4a2d318991597676706b4a16", func := "loop.example/g00760/laws.FnExactTickChip", spec := "fnExactTickChip", apart := false, narrowed := true }
def FnExactTickChipUptoSaid : Prop := fnExactTickChipUptoRow.holds Try.pinned (OpenSpec.upto fnExactTickChipSpec)

/-- 'laws.FnExactWriteChip', WHERE WHAT IT READS IS OF BULK AT MOST 1048576: true; the input reads as it did. -/
def fnExactWriteChipUptoRow : OpenClaim := { program := "ythelaeejgppjhaa", sum := "84bcc82f13ff680bec3951de06eced149ce4c83f4a2d318991597676706b4a16", func := "loop.example/g00760/laws.FnExactWriteChip", spec := "fnExactWriteChip", apart := false, narrowed := true }
def FnExactWriteChipUptoSaid : Prop := fnExactWriteChipUptoRow.holds Try.pinned (OpenSpec.upto fnExactWriteChipSpec)

/-- 'laws.FnExactAsks', WHERE WHAT IT READS IS OF BULK AT MOST 1048576: true; the input reads as it did. -/
def fnExactAsksUptoRow : OpenClaim := { program := "ythelaeejgppjhaa", sum := "84bcc82f13ff680bec3951de06eced149ce4c83f4a2d318991597676706b4a16", func := "loop.example/g00760/laws.FnExactAsks", spec := "fnExactAsks", apart := false, narrowed := true }
def FnExactAsksUptoSaid : Prop := fnExactAsksUptoRow.holds Try.pinned (OpenSpec.upto fnExactAsksSpec)

end Rows
end Go.Proofs.Ythelaeejgppjhaa
