/-
  No cell of these rows narrows 'for every input' (looked for: loops, veiled, ifaces, maps, wideKeys, modest, calm, conditions, laid).
  DERIVED. THE GIVEN ROWS OF THIS SEAT. 8 by the template 'for every input the law returns true; each argument reads behind the call as it read before'; 0 by the template 'total and deterministic' (their statements: YtpddbhnkopnibaaTotals.lean).
  GIVEN WITH THE SEED: the statements are not yours to turn. If you find one false, say at which input.
  Laid BY PROGRAM, IN A SANDBOX (cutbox-rows.mjs): the forced cells as the released guide's own fill.sh prints them over the translation 3fbda18f3a357b96… (all of the seat's roots in one cut). By AI agents, Wed Nov 11 2026. No macro, syntax, notation, axiom, sorry.
-/
import Derived.Test.YtpddbhnkopnibaaChecked
import GoSem.Claim
import GoSem.ClaimJoined
import GoSem.ClaimMapViews
import Derived.JoinedTies
import Derived.KernelRfl
namespace Go.Proofs.Ytpddbhnkopnibaa
/- THE CELL 'sum', in the pinned program and in every row, IS THE sha256 OF THE DUMP (.gsa) THAT YtpddbhnkopnibaaProg.lean LOADS. Nothing in Lean hashes anything: it is a label: what it is worth is what the hold of that sum in a sandbox is worth. -/
noncomputable def Try.pinned : Pinned := { name := "ytpddbhnkopnibaa", sum := "3fbda18f3a357b963749f9ed9fc0f5162b45fd13d5894b730713cb1c119b3806", checked := Try.checked }
namespace Rows
def none {H : Type} : Left H := { results := [], args := [] }

/-- 'laws.FnFlags': WHATEVER THE INPUT: true; the input reads as it did. -/
def fnFlagsSpec : ChangeSpec := { name := "fnFlags", fn := fun _ => fun
  | [d] => { results := [.lit (.bool true)], args := [d] }
  | _ => none }
def fnFlagsRow : OpenClaim := { program := "ytpddbhnkopnibaa", sum := "3fbda18f3a357b963749f9ed9fc0f5162b45fd13d5894b730713cb1c119b3806", func := "loop.example/g00760/laws.FnFlags", spec := "fnFlags", apart := false }
def FnFlagsSaid : Prop := fnFlagsRow.holds Try.pinned (OpenSpec.ofChange fnFlagsSpec)

/-- ITS FALSE NEIGHBOUR: 'it returns false'. Refute it at one input. -/
def fnFlagsWrong : ChangeSpec := { name := "fnFlags", fn := fun _ => fun
  | [d] => { results := [.lit (.bool false)], args := [d] }
  | _ => none }
def FnFlagsWrongFalsely : Prop := fnFlagsRow.holds Try.pinned (OpenSpec.ofChange fnFlagsWrong)

/-- 'laws.FnRegs': WHATEVER THE INPUT: true; the input reads as it did. -/
def fnRegsSpec : ChangeSpec := { name := "fnRegs", fn := fun _ => fun
  | [d] => { results := [.lit (.bool true)], args := [d] }
  | _ => none }
def fnRegsRow : OpenClaim := { program := "ytpddbhnkopnibaa", sum := "3fbda18f3a357b963749f9ed9fc0f5162b45fd13d5894b730713cb1c119b3806", func := "loop.example/g00760/laws.FnRegs", spec := "fnRegs", apart := false }
def FnRegsSaid : Prop := fnRegsRow.holds Try.pinned (OpenSpec.ofChange fnRegsSpec)

/-- ITS FALSE NEIGHBOUR: 'it returns false'. Refute it at one input. -/
def fnRegsWrong : ChangeSpec := { name := "fnRegs", fn := fun _ => fun
  | [d] => { results := [.lit (.bool false)], args := [d] }
  | _ => none }
def FnRegsWrongFalsely : Prop := fnRegsRow.holds Try.pinned (OpenSpec.ofChange fnRegsWrong)

/-- 'laws.FnExactRegsOk': WHATEVER THE INPUT: true; the input reads as it did. -/
def fnExactRegsOkSpec : ChangeSpec := { name := "fnExactRegsOk", fn := fun _ => fun
  | [d] => { results := [.lit (.bool true)], args := [d] }
  | _ => none }
def fnExactRegsOkRow : OpenClaim := { program := "ytpddbhnkopnibaa", sum := "3fbda18f3a357b963749f9ed9fc0f5162b45fd13d5894b730713cb1c119b3806", func := "loop.example/g00760/laws.FnExactRegsOk", spec := "fnExactRegsOk", apart := false }
def FnExactRegsOkSaid : Prop := fnExactRegsOkRow.holds Try.pinned (OpenSpec.ofChange fnExactRegsOkSpec)

/-- ITS FALSE NEIGHBOUR: 'it returns false'. Refute it at one input. -/
def fnExactRegsOkWrong : ChangeSpec := { name := "fnExactRegsOk", fn := fun _ => fun
  | [d] => { results := [.lit (.bool false)], args := [d] }
  | _ => none }
def FnExactRegsOkWrongFalsely : Prop := fnExactRegsOkRow.holds Try.pinned (OpenSpec.ofChange fnExactRegsOkWrong)

/-- 'laws.FnExactPushed': WHATEVER THE INPUT: true; the input reads as it did. -/
def fnExactPushedSpec : ChangeSpec := { name := "fnExactPushed", fn := fun _ => fun
  | [d1, d2] => { results := [.lit (.bool true)], args := [d1, d2] }
  | _ => none }
def fnExactPushedRow : OpenClaim := { program := "ytpddbhnkopnibaa", sum := "3fbda18f3a357b963749f9ed9fc0f5162b45fd13d5894b730713cb1c119b3806", func := "loop.example/g00760/laws.FnExactPushed", spec := "fnExactPushed", apart := false }
def FnExactPushedSaid : Prop := fnExactPushedRow.holds Try.pinned (OpenSpec.ofChange fnExactPushedSpec)

/-- ITS FALSE NEIGHBOUR: 'it returns false'. Refute it at one input. -/
def fnExactPushedWrong : ChangeSpec := { name := "fnExactPushed", fn := fun _ => fun
  | [d1, d2] => { results := [.lit (.bool false)], args := [d1, d2] }
  | _ => none }
def FnExactPushedWrongFalsely : Prop := fnExactPushedRow.holds Try.pinned (OpenSpec.ofChange fnExactPushedWrong)

/-- 'laws.FnExactPulled': WHATEVER THE INPUT: true; the input reads as it did. -/
def fnExactPulledSpec : ChangeSpec := { name := "fnExactPulled", fn := fun _ => fun
  | [d] => { results := [.lit (.bool true)], args := [d] }
  | _ => none }
def fnExactPulledRow : OpenClaim := { program := "ytpddbhnkopnibaa", sum := "3fbda18f3a357b963749f9ed9fc0f5162b45fd13d5894b730713cb1c119b3806", func := "loop.example/g00760/laws.FnExactPulled", spec := "fnExactPulled", apart := false }
def FnExactPulledSaid : Prop := fnExactPulledRow.holds Try.pinned (OpenSpec.ofChange fnExactPulledSpec)

/-- ITS FALSE NEIGHBOUR: 'it returns false'. Refute it at one input. -/
def fnExactPulledWrong : ChangeSpec := { name := "fnExactPulled", fn := fun _ => fun
  | [d] => { results := [.lit (.bool false)], args := [d] }
  | _ => none }
def FnExactPulledWrongFalsely : Prop := fnExactPulledRow.holds Try.pinned (OpenSpec.ofChange fnExactPulledWrong)

/-- 'laws.FnExactFlagText': WHATEVER THE INPUT: true; the input reads as it did. -/
def fnExactFlagTextSpec : ChangeSpec := { name := "fnExactFlagText", fn := fun _ => fun
  | [d] => { results := [.lit (.bool true)], args := [d] }
  | _ => none }
def fnExactFlagTextRow : OpenClaim := { program := "ytpddbhnkopnibaa", sum := "3fbda18f3a357b963749f9ed9fc0f5162b45fd13d5894b730713cb1c119b3806", func := "loop.example/g00760/laws.FnExactFlagText", spec := "fnExactFlagText", apart := false }
def FnExactFlagTextSaid : Prop := fnExactFlagTextRow.holds Try.pinned (OpenSpec.ofChange fnExactFlagTextSpec)

/-- ITS FALSE NEIGHBOUR: 'it returns false'. Refute it at one input. -/
def fnExactFlagTextWrong : ChangeSpec := { name := "fnExactFlagText", fn := fun _ => fun
  | [d] => { results := [.lit (.bool false)], args := [d] }
  | _ => none }
def FnExactFlagTextWrongFalsely : Prop := fnExactFlagTextRow.holds Try.pinned (OpenSpec.ofChange fnExactFlagTextWrong)

/-- 'laws.FnExactReadFlags': WHATEVER THE INPUT: true; the input reads as it did. -/
def fnExactReadFlagsSpec : ChangeSpec := { name := "fnExactReadFlags", fn := fun _ => fun
  | [d] => { results := [.lit (.bool true)], args := [d] }
  | _ => none }
def fnExactReadFlagsRow : OpenClaim := { program := "ytpddbhnkopnibaa", sum := "3fbda18f3a357b963749f9ed9fc0f5162b45fd13d5894b730713cb1c119b3806", func := "loop.example/g00760/laws.FnExactReadFlags", spec := "fnExactReadFlags", apart := false }
def FnExactReadFlagsSaid : Prop := fnExactReadFlagsRow.holds Try.pinned (OpenSpec.ofChange fnExactReadFlagsSpec)

/-- ITS FALSE NEIGHBOUR: 'it returns false'. Refute it at one input. -/
def fnExactReadFlagsWrong : ChangeSpec := { name := "fnExactReadFlags", fn := fun _ => fun
  | [d] => { results := [.lit (.bool false)], args := [d] }
  | _ => none }
def FnExactReadFlagsWrongFalsely : Prop := fnExactReadFlagsRow.holds Try.pinned (OpenSpec.ofChange fnExactReadFlagsWrong)

/-- 'laws.FnExactRegsText': WHATEVER THE INPUT: true; the input reads as it did. -/
def fnExactRegsTextSpec : ChangeSpec := { name := "fnExactRegsText", fn := fun _ => fun
  | [d] => { results := [.lit (.bool true)], args := [d] }
  | _ => none }
def fnExactRegsTextRow : OpenClaim := { program := "ytpddbhnkopnibaa", sum := "3fbda18f3a357b963749f9ed9fc0f5162b45fd13d5894b730713cb1c119b3806", func := "loop.example/g00760/laws.FnExactRegsText", spec := "fnExactRegsText", apart := false }
def FnExactRegsTextSaid : Prop := fnExactRegsTextRow.holds Try.pinned (OpenSpec.ofChange fnExactRegsTextSpec)

/-- ITS FALSE NEIGHBOUR: 'it returns false'. Refute it at one input. -/
def fnExactRegsTextWrong : ChangeSpec := { name := "fnExactRegsText", fn := fun _ => fun
  | [d] => { results := [.lit (.bool false)], args := [d] }
  | _ => none }
def FnExactRegsTextWrongFalsely : Prop := fnExactRegsTextRow.holds Try.pinned (OpenSpec.ofChange fnExactRegsTextWrong)

/- THE SECOND FORM. 'bulk': how many values and letters a reading holds, each counted each time it is reached (what is shared counts as often as it is met; a slice's spare places count too). A statement '..UptoSaid' is the law's where the arguments, and the package variables that the reading takes, are together of bulk at most 1048576: NARROWER than '..Said'. Prove '..Said' where nothing that the law and all that it calls make is longer than what came in: it says more and counts as full. Else prove '..UptoSaid'. A law counts once. -/
mutual
def uptoBulk {H : Type} : DataW H → Nat
  | .lit (.string bytes) => bytes.length + 1
  | .lit _ => 1
  | .nil => 1
  | .ptr d => uptoBulk d + 1
  | .slice elems spare => uptoBulkAll elems + uptoBulkAll spare + 1
  | .agg parts => uptoBulkAll parts + 1
  | .iface _ d => uptoBulk d + 1
  | .map entries => uptoBulkEntries entries + 1
  | .held _ => 1
def uptoBulkAll {H : Type} : List (DataW H) → Nat
  | [] => 0
  | d :: r => uptoBulk d + uptoBulkAll r
def uptoBulkEntries {H : Type} : List (Lit × DataW H) → Nat
  | [] => 0
  | x :: r => uptoBulkEntry x + uptoBulkEntries r
def uptoBulkEntry {H : Type} : Lit × DataW H → Nat
  | (.string bytes, d) => bytes.length + uptoBulk d + 1
  | (_, d) => uptoBulk d + 1
 end
def uptoSmall : (H : Type) → List (DataW H) → Bool := fun _ ds => decide (uptoBulkAll ds ≤ 1048576)
def OpenSpec.upto (s : _root_.Go.ChangeSpec) : _root_.Go.OpenSpec := { _root_.Go.OpenSpec.ofChange s with cond := some uptoSmall }

/-- 'laws.FnFlags', WHERE WHAT IT READS IS OF BULK AT MOST 1048576: true; the input reads as it did. -/
def fnFlagsUptoRow : OpenClaim := { program := "ytpddbhnkopnibaa", sum := "3fbda18f3a357b963749f9ed9fc0f5162b45fd13d5894b730713cb1c119b3806", func := "loop.example/g00760/laws.FnFlags", spec := "fnFlags", apart := false, narrowed := true }
def FnFlagsUptoSaid : Prop := fnFlagsUptoRow.holds Try.pinned (OpenSpec.upto fnFlagsSpec)

/-- 'laws.FnRegs', WHERE WHAT IT READS IS OF BULK AT MOST 1048576: true; the input reads as it did. -/
def fnRegsUptoRow : OpenClaim := { program := "ytpddbhnkopnibaa", sum := "3fbda18f3a357b963749f9ed9fc0f5162b45fd13d5894b730713cb1c119b3806", func := "loop.example/g00760/laws.FnRegs", spec := "fnRegs", apart := false, narrowed := true }
def FnRegsUptoSaid : Prop := fnRegsUptoRow.holds Try.pinned (OpenSpec.upto fnRegsSpec)

/-- 'laws.FnExactRegsOk', WHERE WHAT IT READS IS OF BULK AT MOST 1048576: true; the input reads as it did. -/
def fnExactRegsOkUptoRow : OpenClaim := { program := "ytpddbhnkopnibaa", sum := "3fbda18f3a357b963749f9ed9fc0f5162b45fd13d5894b730713cb1c119b3806", func := "loop.example/g00760/laws.FnExactRegsOk", spec := "fnExactRegsOk", apart := false, narrowed := true }
def FnExactRegsOkUptoSaid : Prop := fnExactRegsOkUptoRow.holds Try.pinned (OpenSpec.upto fnExactRegsOkSpec)

/-- 'laws.FnExactPushed', WHERE WHAT IT READS IS OF BULK AT MOST 1048576: true; the input reads as it did. -/
def fnExactPushedUptoRow : OpenClaim := { program := "ytpddbhnkopnibaa", sum := "3fbda18f3a357b963749f9ed9fc0f5162b45fd13d5894b730713cb1c119b3806", func := "loop.example/g00760/laws.FnExactPushed", spec := "fnExactPushed", apart := false, narrowed := true }
def FnExactPushedUptoSaid : Prop := fnExactPushedUptoRow.holds Try.pinned (OpenSpec.upto fnExactPushedSpec)

/-- 'laws.FnExactPulled', WHERE WHAT IT READS IS OF BULK AT MOST 1048576: true; the input reads as it did. -/
def fnExactPulledUptoRow : OpenClaim := { program := "ytpddbhnkopnibaa", sum := "3fbda18f3a357b963749f9ed9fc0f5162b45fd13d5894b730713cb1c119b3806", func := "loop.example/g00760/laws.FnExactPulled", spec := "fnExactPulled", apart := false, narrowed := true }
def FnExactPulledUptoSaid : Prop := fnExactPulledUptoRow.holds Try.pinned (OpenSpec.upto fnExactPulledSpec)

/-- 'laws.FnExactFlagText', WHERE WHAT IT READS IS OF BULK AT MOST 1048576: true; the input reads as it did. -/
def fnExactFlagTextUptoRow : OpenClaim := { program := "ytpddbhnkopnibaa", sum := "3fbda18f3a357b963749f9ed9fc0f5162b45fd13d5894b730713cb1c119b3806", func := "loop.example/g00760/laws.FnExactFlagText", spec := "fnExactFlagText", apart := false, narrowed := true }
def FnExactFlagTextUptoSaid : Prop := fnExactFlagTextUptoRow.holds Try.pinned (OpenSpec.upto fnExactFlagTextSpec)

/-- 'laws.FnExactReadFlags', WHERE WHAT IT READS IS OF BULK AT MOST 1048576: true; the input reads as it did. -/
def fnExactReadFlagsUptoRow : OpenClaim := { program := "ytpddbhnkopnibaa", sum := "3fbda18f3a357b963749f9ed9fc0f5162b45fd13d5894b730713cb1c119b3806", func := "loop.example/g00760/laws.FnExactReadFlags", spec := "fnExactReadFlags", apart := false, narrowed := true }
def FnExactReadFlagsUptoSaid : Prop := fnExactReadFlagsUptoRow.holds Try.pinned (OpenSpec.upto fnExactReadFlagsSpec)

/-- 'laws.FnExactRegsText', WHERE WHAT IT READS IS OF BULK AT MOST 1048576: true; the input reads as it did. -/
def fnExactRegsTextUptoRow : OpenClaim := { program := "ytpddbhnkopnibaa", sum := "3fbda18f3a357b963749f9ed9fc0f5162b45fd13d5894b730713cb1c119b3806", func := "loop.example/g00760/laws.FnExactRegsText", spec := "fnExactRegsText", apart := false, narrowed := true }
def FnExactRegsTextUptoSaid : Prop := fnExactRegsTextUptoRow.holds Try.pinned (OpenSpec.upto fnExactRegsTextSpec)

end Rows
end Go.Proofs.Ytpddbhnkopnibaa
