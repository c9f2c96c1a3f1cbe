/-
  No cell of these rows narrows 'for every input' (looked for: loops, veiled, ifaces, maps, wideKeys, modest, calm, conditions, laid).
  DERIVED. THE GIVEN ROWS OF THIS SEAT. 22 by the template 'for every input the law returns true; each argument reads behind the call as it read before'; 0 by the template 'total and deterministic' (their statements: YtjbfoegleinbnaaTotals.lean).
  GIVEN WITH THE SEED: the statements are not yours to turn. If you find one false, say at which input.
  Laid BY PROGRAM, IN A SANDBOX (cutbox-rows.mjs): the forced cells as the released guide's own fill.sh prints them over the translation 20cb92c1075e7d3d… (all of the seat's roots in one cut). By AI agents, Wed Nov 11 2026. No macro, syntax, notation, axiom, sorry.
-/
import Derived.Test.YtjbfoegleinbnaaChecked
import GoSem.Claim
import GoSem.ClaimJoined
import GoSem.ClaimMapViews
import Derived.JoinedTies
import Derived.KernelRfl
namespace Go.Proofs.Ytjbfoegleinbnaa
/- THE CELL 'sum', in the pinned program and in every row, IS THE sha256 OF THE DUMP (.gsa) THAT YtjbfoegleinbnaaProg.lean LOADS. Nothing in Lean hashes anything: it is a label: what it is worth is what the hold of that sum in a sandbox is worth. -/
noncomputable def Try.pinned : Pinned := { name := "ytjbfoegleinbnaa", sum := "20cb92c1075e7d3dfee28eaac850a83656b1f22d2b2c940a994f87ca94a46873", checked := Try.checked }
namespace Rows
def none {H : Type} : Left H := { results := [], args := [] }

/-- 'laws.FnFlags': WHATEVER THE INPUT: true; the input reads as it did. -/
def fnFlagsSpec : ChangeSpec := { name := "fnFlags", fn := fun _ => fun
  | [d] => { results := [.lit (.bool true)], args := [d] }
  | _ => none }
def fnFlagsRow : OpenClaim := { program := "ytjbfoegleinbnaa", sum := "20cb92c1075e7d3dfee28eaac850a83656b1f22d2b2c940a994f87ca94a46873", func := "loop.example/g00760/laws.FnFlags", spec := "fnFlags", apart := false }
def FnFlagsSaid : Prop := fnFlagsRow.holds Try.pinned (OpenSpec.ofChange fnFlagsSpec)

/-- ITS FALSE NEIGHBOUR: 'it returns false'. Refute it at one input. -/
def fnFlagsWrong : ChangeSpec := { name := "fnFlags", fn := fun _ => fun
  | [d] => { results := [.lit (.bool false)], args := [d] }
  | _ => none }
def FnFlagsWrongFalsely : Prop := fnFlagsRow.holds Try.pinned (OpenSpec.ofChange fnFlagsWrong)

/-- 'laws.FnRegs': WHATEVER THE INPUT: true; the input reads as it did. -/
def fnRegsSpec : ChangeSpec := { name := "fnRegs", fn := fun _ => fun
  | [d] => { results := [.lit (.bool true)], args := [d] }
  | _ => none }
def fnRegsRow : OpenClaim := { program := "ytjbfoegleinbnaa", sum := "20cb92c1075e7d3dfee28eaac850a83656b1f22d2b2c940a994f87ca94a46873", func := "loop.example/g00760/laws.FnRegs", spec := "fnRegs", apart := false }
def FnRegsSaid : Prop := fnRegsRow.holds Try.pinned (OpenSpec.ofChange fnRegsSpec)

/-- ITS FALSE NEIGHBOUR: 'it returns false'. Refute it at one input. -/
def fnRegsWrong : ChangeSpec := { name := "fnRegs", fn := fun _ => fun
  | [d] => { results := [.lit (.bool false)], args := [d] }
  | _ => none }
def FnRegsWrongFalsely : Prop := fnRegsRow.holds Try.pinned (OpenSpec.ofChange fnRegsWrong)

/-- 'laws.FnExactRegsOk': WHATEVER THE INPUT: true; the input reads as it did. -/
def fnExactRegsOkSpec : ChangeSpec := { name := "fnExactRegsOk", fn := fun _ => fun
  | [d] => { results := [.lit (.bool true)], args := [d] }
  | _ => none }
def fnExactRegsOkRow : OpenClaim := { program := "ytjbfoegleinbnaa", sum := "20cb92c1075e7d3dfee28eaac850a83656b1f22d2b2c940a994f87ca94a46873", func := "loop.example/g00760/laws.FnExactRegsOk", spec := "fnExactRegsOk", apart := false }
def FnExactRegsOkSaid : Prop := fnExactRegsOkRow.holds Try.pinned (OpenSpec.ofChange fnExactRegsOkSpec)

/-- ITS FALSE NEIGHBOUR: 'it returns false'. Refute it at one input. -/
def fnExactRegsOkWrong : ChangeSpec := { name := "fnExactRegsOk", fn := fun _ => fun
  | [d] => { results := [.lit (.bool false)], args := [d] }
  | _ => none }
def FnExactRegsOkWrongFalsely : Prop := fnExactRegsOkRow.holds Try.pinned (OpenSpec.ofChange fnExactRegsOkWrong)

/-- 'laws.FnExactPushed': WHATEVER THE INPUT: true; the input reads as it did. -/
def fnExactPushedSpec : ChangeSpec := { name := "fnExactPushed", fn := fun _ => fun
  | [d1, d2] => { results := [.lit (.bool true)], args := [d1, d2] }
  | _ => none }
def fnExactPushedRow : OpenClaim := { program := "ytjbfoegleinbnaa", sum := "20cb92c1075e7d3dfee28eaac850a83656b1f22d2b2c940a994f87ca94a46873", func := "loop.example/g00760/laws.FnExactPushed", spec := "fnExactPushed", apart := false }
def FnExactPushedSaid : Prop := fnExactPushedRow.holds Try.pinned (OpenSpec.ofChange fnExactPushedSpec)

/-- ITS FALSE NEIGHBOUR: 'it returns false'. Refute it at one input. -/
def fnExactPushedWrong : ChangeSpec := { name := "fnExactPushed", fn := fun _ => fun
  | [d1, d2] => { results := [.lit (.bool false)], args := [d1, d2] }
  | _ => none }
def FnExactPushedWrongFalsely : Prop := fnExactPushedRow.holds Try.pinned (OpenSpec.ofChange fnExactPushedWrong)

/-- 'laws.FnExactPulled': WHATEVER THE INPUT: true; the input reads as it did. -/
def fnExactPulledSpec : ChangeSpec := { name := "fnExactPulled", fn := fun _ => fun
  | [d] => { results := [.lit (.bool true)], args := [d] }
  | _ => none }
def fnExactPulledRow : OpenClaim := { program := "ytjbfoegleinbnaa", sum := "20cb92c1075e7d3dfee28eaac850a83656b1f22d2b2c940a994f87ca94a46873", func := "loop.example/g00760/laws.FnExactPulled", spec := "fnExactPulled", apart := false }
def FnExactPulledSaid : Prop := fnExactPulledRow.holds Try.pinned (OpenSpec.ofChange fnExactPulledSpec)

/-- ITS FALSE NEIGHBOUR: 'it returns false'. Refute it at one input. -/
def fnExactPulledWrong : ChangeSpec := { name := "fnExactPulled", fn := fun _ => fun
  | [d] => { results := [.lit (.bool false)], args := [d] }
  | _ => none }
def FnExactPulledWrongFalsely : Prop := fnExactPulledRow.holds Try.pinned (OpenSpec.ofChange fnExactPulledWrong)

/-- 'laws.FnExactFlagText': WHATEVER THE INPUT: true; the input reads as it did. -/
def fnExactFlagTextSpec : ChangeSpec := { name := "fnExactFlagText", fn := fun _ => fun
  | [d] => { results := [.lit (.bool true)], args := [d] }
  | _ => none }
def fnExactFlagTextRow : OpenClaim := { program := "ytjbfoegleinbnaa", sum := "20cb92c1075e7d3dfee28eaac850a83656b1f22d2b2c940a994f87ca94a46873", func := "loop.example/g00760/laws.FnExactFlagText", spec := "fnExactFlagText", apart := false }
def FnExactFlagTextSaid : Prop := fnExactFlagTextRow.holds Try.pinned (OpenSpec.ofChange fnExactFlagTextSpec)

/-- ITS FALSE NEIGHBOUR: 'it returns false'. Refute it at one input. -/
def fnExactFlagTextWrong : ChangeSpec := { name := "fnExactFlagText", fn := fun _ => fun
  | [d] => { results := [.lit (.bool false)], args := [d] }
  | _ => none }
def FnExactFlagTextWrongFalsely : Prop := fnExactFlagTextRow.holds Try.pinned (OpenSpec.ofChange fnExactFlagTextWrong)

/-- 'laws.FnExactReadFlags': WHATEVER THE INPUT: true; the input reads as it did. -/
def fnExactReadFlagsSpec : ChangeSpec := { name := "fnExactReadFlags", fn := fun _ => fun
  | [d] => { results := [.lit (.bool true)], args := [d] }
  | _ => none }
def fnExactReadFlagsRow : OpenClaim := { program := "ytjbfoegleinbnaa", sum := "20cb92c1075e7d3dfee28eaac850a83656b1f22d2b2c940a994f87ca94a46873", func := "loop.example/g00760/laws.FnExactReadFlags", spec := "fnExactReadFlags", apart := false }
def FnExactReadFlagsSaid : Prop := fnExactReadFlagsRow.holds Try.pinned (OpenSpec.ofChange fnExactReadFlagsSpec)

/-- ITS FALSE NEIGHBOUR: 'it returns false'. Refute it at one input. -/
def fnExactReadFlagsWrong : ChangeSpec := { name := "fnExactReadFlags", fn := fun _ => fun
  | [d] => { results := [.lit (.bool false)], args := [d] }
  | _ => none }
def FnExactReadFlagsWrongFalsely : Prop := fnExactReadFlagsRow.holds Try.pinned (OpenSpec.ofChange fnExactReadFlagsWrong)

/-- 'laws.FnExactRegsText': WHATEVER THE INPUT: true; the input reads as it did. -/
def fnExactRegsTextSpec : ChangeSpec := { name := "fnExactRegsText", fn := fun _ => fun
  | [d] => { results := [.lit (.bool true)], args := [d] }
  | _ => none }
def fnExactRegsTextRow : OpenClaim := { program := "ytjbfoegleinbnaa", sum := "20cb92c1075e7d3dfee28eaac850a83656b1f22d2b2c940a994f87ca94a46873", func := "loop.example/g00760/laws.FnExactRegsText", spec := "fnExactRegsText", apart := false }
def FnExactRegsTextSaid : Prop := fnExactRegsTextRow.holds Try.pinned (OpenSpec.ofChange fnExactRegsTextSpec)

/-- ITS FALSE NEIGHBOUR: 'it returns false'. Refute it at one input. -/
def fnExactRegsTextWrong : ChangeSpec := { name := "fnExactRegsText", fn := fun _ => fun
  | [d] => { results := [.lit (.bool false)], args := [d] }
  | _ => none }
def FnExactRegsTextWrongFalsely : Prop := fnExactRegsTextRow.holds Try.pinned (OpenSpec.ofChange fnExactRegsTextWrong)

/-- 'laws.FnWith': WHATEVER THE INPUT: true; the input reads as it did. -/
def fnWithSpec : ChangeSpec := { name := "fnWith", fn := fun _ => fun
  | [d] => { results := [.lit (.bool true)], args := [d] }
  | _ => none }
def fnWithRow : OpenClaim := { program := "ytjbfoegleinbnaa", sum := "20cb92c1075e7d3dfee28eaac850a83656b1f22d2b2c940a994f87ca94a46873", func := "loop.example/g00760/laws.FnWith", spec := "fnWith", apart := false }
def FnWithSaid : Prop := fnWithRow.holds Try.pinned (OpenSpec.ofChange fnWithSpec)

/-- ITS FALSE NEIGHBOUR: 'it returns false'. Refute it at one input. -/
def fnWithWrong : ChangeSpec := { name := "fnWith", fn := fun _ => fun
  | [d] => { results := [.lit (.bool false)], args := [d] }
  | _ => none }
def FnWithWrongFalsely : Prop := fnWithRow.holds Try.pinned (OpenSpec.ofChange fnWithWrong)

/-- 'laws.FnNz': WHATEVER THE INPUT: true; the input reads as it did. -/
def fnNzSpec : ChangeSpec := { name := "fnNz", fn := fun _ => fun
  | [d] => { results := [.lit (.bool true)], args := [d] }
  | _ => none }
def fnNzRow : OpenClaim := { program := "ytjbfoegleinbnaa", sum := "20cb92c1075e7d3dfee28eaac850a83656b1f22d2b2c940a994f87ca94a46873", func := "loop.example/g00760/laws.FnNz", spec := "fnNz", apart := false }
def FnNzSaid : Prop := fnNzRow.holds Try.pinned (OpenSpec.ofChange fnNzSpec)

/-- ITS FALSE NEIGHBOUR: 'it returns false'. Refute it at one input. -/
def fnNzWrong : ChangeSpec := { name := "fnNz", fn := fun _ => fun
  | [d] => { results := [.lit (.bool false)], args := [d] }
  | _ => none }
def FnNzWrongFalsely : Prop := fnNzRow.holds Try.pinned (OpenSpec.ofChange fnNzWrong)

/-- 'laws.FnAdd': WHATEVER THE INPUT: true; the input reads as it did. -/
def fnAddSpec : ChangeSpec := { name := "fnAdd", fn := fun _ => fun
  | [d] => { results := [.lit (.bool true)], args := [d] }
  | _ => none }
def fnAddRow : OpenClaim := { program := "ytjbfoegleinbnaa", sum := "20cb92c1075e7d3dfee28eaac850a83656b1f22d2b2c940a994f87ca94a46873", func := "loop.example/g00760/laws.FnAdd", spec := "fnAdd", unfollowed := true, recurses := true, apart := false }
def FnAddSaid : Prop := fnAddRow.holds Try.pinned (OpenSpec.ofChange fnAddSpec)

/-- ITS FALSE NEIGHBOUR: 'it returns false'. Refute it at one input. -/
def fnAddWrong : ChangeSpec := { name := "fnAdd", fn := fun _ => fun
  | [d] => { results := [.lit (.bool false)], args := [d] }
  | _ => none }
def FnAddWrongFalsely : Prop := fnAddRow.holds Try.pinned (OpenSpec.ofChange fnAddWrong)

/-- 'laws.FnSub': WHATEVER THE INPUT: true; the input reads as it did. -/
def fnSubSpec : ChangeSpec := { name := "fnSub", fn := fun _ => fun
  | [d] => { results := [.lit (.bool true)], args := [d] }
  | _ => none }
def fnSubRow : OpenClaim := { program := "ytjbfoegleinbnaa", sum := "20cb92c1075e7d3dfee28eaac850a83656b1f22d2b2c940a994f87ca94a46873", func := "loop.example/g00760/laws.FnSub", spec := "fnSub", unfollowed := true, recurses := true, apart := false }
def FnSubSaid : Prop := fnSubRow.holds Try.pinned (OpenSpec.ofChange fnSubSpec)

/-- ITS FALSE NEIGHBOUR: 'it returns false'. Refute it at one input. -/
def fnSubWrong : ChangeSpec := { name := "fnSub", fn := fun _ => fun
  | [d] => { results := [.lit (.bool false)], args := [d] }
  | _ => none }
def FnSubWrongFalsely : Prop := fnSubRow.holds Try.pinned (OpenSpec.ofChange fnSubWrong)

/-- 'laws.FnTens': WHATEVER THE INPUT: true; the input reads as it did. -/
def fnTensSpec : ChangeSpec := { name := "fnTens", fn := fun _ => fun
  | [d] => { results := [.lit (.bool true)], args := [d] }
  | _ => none }
def fnTensRow : OpenClaim := { program := "ytjbfoegleinbnaa", sum := "20cb92c1075e7d3dfee28eaac850a83656b1f22d2b2c940a994f87ca94a46873", func := "loop.example/g00760/laws.FnTens", spec := "fnTens", unfollowed := true, recurses := true, apart := false }
def FnTensSaid : Prop := fnTensRow.holds Try.pinned (OpenSpec.ofChange fnTensSpec)

/-- ITS FALSE NEIGHBOUR: 'it returns false'. Refute it at one input. -/
def fnTensWrong : ChangeSpec := { name := "fnTens", fn := fun _ => fun
  | [d] => { results := [.lit (.bool false)], args := [d] }
  | _ => none }
def FnTensWrongFalsely : Prop := fnTensRow.holds Try.pinned (OpenSpec.ofChange fnTensWrong)

/-- 'laws.FnShift': WHATEVER THE INPUT: true; the input reads as it did. -/
def fnShiftSpec : ChangeSpec := { name := "fnShift", fn := fun _ => fun
  | [d] => { results := [.lit (.bool true)], args := [d] }
  | _ => none }
def fnShiftRow : OpenClaim := { program := "ytjbfoegleinbnaa", sum := "20cb92c1075e7d3dfee28eaac850a83656b1f22d2b2c940a994f87ca94a46873", func := "loop.example/g00760/laws.FnShift", spec := "fnShift", unfollowed := true, recurses := true, apart := false }
def FnShiftSaid : Prop := fnShiftRow.holds Try.pinned (OpenSpec.ofChange fnShiftSpec)

/-- ITS FALSE NEIGHBOUR: 'it returns false'. Refute it at one input. -/
def fnShiftWrong : ChangeSpec := { name := "fnShift", fn := fun _ => fun
  | [d] => { results := [.lit (.bool false)], args := [d] }
  | _ => none }
def FnShiftWrongFalsely : Prop := fnShiftRow.holds Try.pinned (OpenSpec.ofChange fnShiftWrong)

/-- 'laws.FnBit': WHATEVER THE INPUT: true; the input reads as it did. -/
def fnBitSpec : ChangeSpec := { name := "fnBit", fn := fun _ => fun
  | [d] => { results := [.lit (.bool true)], args := [d] }
  | _ => none }
def fnBitRow : OpenClaim := { program := "ytjbfoegleinbnaa", sum := "20cb92c1075e7d3dfee28eaac850a83656b1f22d2b2c940a994f87ca94a46873", func := "loop.example/g00760/laws.FnBit", spec := "fnBit", apart := false }
def FnBitSaid : Prop := fnBitRow.holds Try.pinned (OpenSpec.ofChange fnBitSpec)

/-- ITS FALSE NEIGHBOUR: 'it returns false'. Refute it at one input. -/
def fnBitWrong : ChangeSpec := { name := "fnBit", fn := fun _ => fun
  | [d] => { results := [.lit (.bool false)], args := [d] }
  | _ => none }
def FnBitWrongFalsely : Prop := fnBitRow.holds Try.pinned (OpenSpec.ofChange fnBitWrong)

/-- 'laws.FnExactWith': WHATEVER THE INPUT: true; the input reads as it did. -/
def fnExactWithSpec : ChangeSpec := { name := "fnExactWith", fn := fun _ => fun
  | [d1, d2, d3] => { results := [.lit (.bool true)], args := [d1, d2, d3] }
  | _ => none }
def fnExactWithRow : OpenClaim := { program := "ytjbfoegleinbnaa", sum := "20cb92c1075e7d3dfee28eaac850a83656b1f22d2b2c940a994f87ca94a46873", func := "loop.example/g00760/laws.FnExactWith", spec := "fnExactWith", apart := false }
def FnExactWithSaid : Prop := fnExactWithRow.holds Try.pinned (OpenSpec.ofChange fnExactWithSpec)

/-- ITS FALSE NEIGHBOUR: 'it returns false'. Refute it at one input. -/
def fnExactWithWrong : ChangeSpec := { name := "fnExactWith", fn := fun _ => fun
  | [d1, d2, d3] => { results := [.lit (.bool false)], args := [d1, d2, d3] }
  | _ => none }
def FnExactWithWrongFalsely : Prop := fnExactWithRow.holds Try.pinned (OpenSpec.ofChange fnExactWithWrong)

/-- 'laws.FnExactNz': WHATEVER THE INPUT: true; the input reads as it did. -/
def fnExactNzSpec : ChangeSpec := { name := "fnExactNz", fn := fun _ => fun
  | [d1, d2] => { results := [.lit (.bool true)], args := [d1, d2] }
  | _ => none }
def fnExactNzRow : OpenClaim := { program := "ytjbfoegleinbnaa", sum := "20cb92c1075e7d3dfee28eaac850a83656b1f22d2b2c940a994f87ca94a46873", func := "loop.example/g00760/laws.FnExactNz", spec := "fnExactNz", apart := false }
def FnExactNzSaid : Prop := fnExactNzRow.holds Try.pinned (OpenSpec.ofChange fnExactNzSpec)

/-- ITS FALSE NEIGHBOUR: 'it returns false'. Refute it at one input. -/
def fnExactNzWrong : ChangeSpec := { name := "fnExactNz", fn := fun _ => fun
  | [d1, d2] => { results := [.lit (.bool false)], args := [d1, d2] }
  | _ => none }
def FnExactNzWrongFalsely : Prop := fnExactNzRow.holds Try.pinned (OpenSpec.ofChange fnExactNzWrong)

/-- 'laws.FnExactAdd': WHATEVER THE INPUT: true; the input reads as it did. -/
def fnExactAddSpec : ChangeSpec := { name := "fnExactAdd", fn := fun _ => fun
  | [d1, d2, d3] => { results := [.lit (.bool true)], args := [d1, d2, d3] }
  | _ => none }
def fnExactAddRow : OpenClaim := { program := "ytjbfoegleinbnaa", sum := "20cb92c1075e7d3dfee28eaac850a83656b1f22d2b2c940a994f87ca94a46873", func := "loop.example/g00760/laws.FnExactAdd", spec := "fnExactAdd", unfollowed := true, recurses := true, apart := false }
def FnExactAddSaid : Prop := fnExactAddRow.holds Try.pinned (OpenSpec.ofChange fnExactAddSpec)

/-- ITS FALSE NEIGHBOUR: 'it returns false'. Refute it at one input. -/
def fnExactAddWrong : ChangeSpec := { name := "fnExactAdd", fn := fun _ => fun
  | [d1, d2, d3] => { results := [.lit (.bool false)], args := [d1, d2, d3] }
  | _ => none }
def FnExactAddWrongFalsely : Prop := fnExactAddRow.holds Try.pinned (OpenSpec.ofChange fnExactAddWrong)

/-- 'laws.FnExactSub': WHATEVER THE INPUT: true; the input reads as it did. -/
def fnExactSubSpec : ChangeSpec := { name := "fnExactSub", fn := fun _ => fun
  | [d1, d2, d3] => { results := [.lit (.bool true)], args := [d1, d2, d3] }
  | _ => none }
def fnExactSubRow : OpenClaim := { program := "ytjbfoegleinbnaa", sum := "20cb92c1075e7d3dfee28eaac850a83656b1f22d2b2c940a994f87ca94a46873", func := "loop.example/g00760/laws.FnExactSub", spec := "fnExactSub", apart := false }
def FnExactSubSaid : Prop := fnExactSubRow.holds Try.pinned (OpenSpec.ofChange fnExactSubSpec)

/-- ITS FALSE NEIGHBOUR: 'it returns false'. Refute it at one input. -/
def fnExactSubWrong : ChangeSpec := { name := "fnExactSub", fn := fun _ => fun
  | [d1, d2, d3] => { results := [.lit (.bool false)], args := [d1, d2, d3] }
  | _ => none }
def FnExactSubWrongFalsely : Prop := fnExactSubRow.holds Try.pinned (OpenSpec.ofChange fnExactSubWrong)

/-- 'laws.FnExactCompare': WHATEVER THE INPUT: true; the input reads as it did. -/
def fnExactCompareSpec : ChangeSpec := { name := "fnExactCompare", fn := fun _ => fun
  | [d1, d2, d3] => { results := [.lit (.bool true)], args := [d1, d2, d3] }
  | _ => none }
def fnExactCompareRow : OpenClaim := { program := "ytjbfoegleinbnaa", sum := "20cb92c1075e7d3dfee28eaac850a83656b1f22d2b2c940a994f87ca94a46873", func := "loop.example/g00760/laws.FnExactCompare", spec := "fnExactCompare", apart := false }
def FnExactCompareSaid : Prop := fnExactCompareRow.holds Try.pinned (OpenSpec.ofChange fnExactCompareSpec)

/-- ITS FALSE NEIGHBOUR: 'it returns false'. Refute it at one input. -/
def fnExactCompareWrong : ChangeSpec := { name := "fnExactCompare", fn := fun _ => fun
  | [d1, d2, d3] => { results := [.lit (.bool false)], args := [d1, d2, d3] }
  | _ => none }
def FnExactCompareWrongFalsely : Prop := fnExactCompareRow.holds Try.pinned (OpenSpec.ofChange fnExactCompareWrong)

/-- 'laws.FnExactShift': WHATEVER THE INPUT: true; the input reads as it did. -/
def fnExactShiftSpec : ChangeSpec := { name := "fnExactShift", fn := fun _ => fun
  | [d1, d2, d3] => { results := [.lit (.bool true)], args := [d1, d2, d3] }
  | _ => none }
def fnExactShiftRow : OpenClaim := { program := "ytjbfoegleinbnaa", sum := "20cb92c1075e7d3dfee28eaac850a83656b1f22d2b2c940a994f87ca94a46873", func := "loop.example/g00760/laws.FnExactShift", spec := "fnExactShift", unfollowed := true, recurses := true, apart := false }
def FnExactShiftSaid : Prop := fnExactShiftRow.holds Try.pinned (OpenSpec.ofChange fnExactShiftSpec)

/-- ITS FALSE NEIGHBOUR: 'it returns false'. Refute it at one input. -/
def fnExactShiftWrong : ChangeSpec := { name := "fnExactShift", fn := fun _ => fun
  | [d1, d2, d3] => { results := [.lit (.bool false)], args := [d1, d2, d3] }
  | _ => none }
def FnExactShiftWrongFalsely : Prop := fnExactShiftRow.holds Try.pinned (OpenSpec.ofChange fnExactShiftWrong)

/-- 'laws.FnExactBit': WHATEVER THE INPUT: true; the input reads as it did. -/
def fnExactBitSpec : ChangeSpec := { name := "fnExactBit", fn := fun _ => fun
  | [d1, d2, d3] => { results := [.lit (.bool true)], args := [d1, d2, d3] }
  | _ => none }
def fnExactBitRow : OpenClaim := { program := "ytjbfoegleinbnaa", sum := "20cb92c1075e7d3dfee28eaac850a83656b1f22d2b2c940a994f87ca94a46873", func := "loop.example/g00760/laws.FnExactBit", spec := "fnExactBit", apart := false }
def FnExactBitSaid : Prop := fnExactBitRow.holds Try.pinned (OpenSpec.ofChange fnExactBitSpec)

/-- ITS FALSE NEIGHBOUR: 'it returns false'. Refute it at one input. -/
def fnExactBitWrong : ChangeSpec := { name := "fnExactBit", fn := fun _ => fun
  | [d1, d2, d3] => { results := [.lit (.bool false)], args := [d1, d2, d3] }
  | _ => none }
def FnExactBitWrongFalsely : Prop := fnExactBitRow.holds Try.pinned (OpenSpec.ofChange fnExactBitWrong)

/- THE SECOND FORM. 'bulk': how many values and letters a reading holds, each counted each time it is reached (what is shared counts as often as it is met; a slice's spare places count too). A statement '..UptoSaid' is the law's where the arguments, and the package variables that the reading takes, are together of bulk at most 1048576: NARROWER than '..Said'. Prove '..Said' where nothing that the law and all that it calls make is longer than what came in: it says more and counts as full. Else prove '..UptoSaid'. A law counts once. -/
mutual
def uptoBulk {H : Type} : DataW H → Nat
  | .lit (.string bytes) => bytes.length + 1
  | .lit _ => 1
  | .nil => 1
  | .ptr d => uptoBulk d + 1
  | .slice elems spare => uptoBulkAll elems + uptoBulkAll spare + 1
  | .agg parts => uptoBulkAll parts + 1
  | .iface _ d => uptoBulk d + 1
  | .map entries => uptoBulkEntries entries + 1
  | .held _ => 1
def uptoBulkAll {H : Type} : List (DataW H) → Nat
  | [] => 0
  | d :: r => uptoBulk d + uptoBulkAll r
def uptoBulkEntries {H : Type} : List (Lit × DataW H) → Nat
  | [] => 0
  | x :: r => uptoBulkEntry x + uptoBulkEntries r
def uptoBulkEntry {H : Type} : Lit × DataW H → Nat
  | (.string bytes, d) => bytes.length + uptoBulk d + 1
  | (_, d) => uptoBulk d + 1
 end
def uptoSmall : (H : Type) → List (DataW H) → Bool := fun _ ds => decide (uptoBulkAll ds ≤ 1048576)
def OpenSpec.upto (s : _root_.Go.ChangeSpec) : _root_.Go.OpenSpec := { _root_.Go.OpenSpec.ofChange s with cond := some uptoSmall }

/-- 'laws.FnFlags', WHERE WHAT IT READS IS OF BULK AT MOST 1048576: true; the input reads as it did. -/
def fnFlagsUptoRow : OpenClaim := { program := "ytjbfoegleinbnaa", sum := "20cb92c1075e7d3dfee28eaac850a83656b1f22d2b2c940a994f87ca94a46873", func := "loop.example/g00760/laws.FnFlags", spec := "fnFlags", apart := false, narrowed := true }
def FnFlagsUptoSaid : Prop := fnFlagsUptoRow.holds Try.pinned (OpenSpec.upto fnFlagsSpec)

/-- 'laws.FnRegs', WHERE WHAT IT READS IS OF BULK AT MOST 1048576: true; the input reads as it did. -/
def fnRegsUptoRow : OpenClaim := { program := "ytjbfoegleinbnaa", sum := "20cb92c1075e7d3dfee28eaac850a83656b1f22d2b2c940a994f87ca94a46873", func := "loop.example/g00760/laws.FnRegs", spec := "fnRegs", apart := false, narrowed := true }
def FnRegsUptoSaid : Prop := fnRegsUptoRow.holds Try.pinned (OpenSpec.upto fnRegsSpec)

/-- 'laws.FnExactRegsOk', WHERE WHAT IT READS IS OF BULK AT MOST 1048576: true; the input reads as it did. -/
def fnExactRegsOkUptoRow : OpenClaim := { program := "ytjbfoegleinbnaa", sum := "20cb92c1075e7d3dfee28eaac850a83656b1f22d2b2c940a994f87ca94a46873", func := "loop.example/g00760/laws.FnExactRegsOk", spec := "fnExactRegsOk", apart := false, narrowed := true }
def FnExactRegsOkUptoSaid : Prop := fnExactRegsOkUptoRow.holds Try.pinned (OpenSpec.upto fnExactRegsOkSpec)

/-- 'laws.FnExactPushed', WHERE WHAT IT READS IS OF BULK AT MOST 1048576: true; the input reads as it did. -/
def fnExactPushedUptoRow : OpenClaim := { program := "ytjbfoegleinbnaa", sum := "20cb92c1075e7d3dfee28eaac850a83656b1f22d2b2c940a994f87ca94a46873", func := "loop.example/g00760/laws.FnExactPushed", spec := "fnExactPushed", apart := false, narrowed := true }
def FnExactPushedUptoSaid : Prop := fnExactPushedUptoRow.holds Try.pinned (OpenSpec.upto fnExactPushedSpec)

/-- 'laws.FnExactPulled', WHERE WHAT IT READS IS OF BULK AT MOST 1048576: true; the input reads as it did. -/
def fnExactPulledUptoRow : OpenClaim := { program := "ytjbfoegleinbnaa", sum := "20cb92c1075e7d3dfee28eaac850a83656b1f22d2b2c940a994f87ca94a46873", func := "loop.example/g00760/laws.FnExactPulled", spec := "fnExactPulled", apart := false, narrowed := true }
def FnExactPulledUptoSaid : Prop := fnExactPulledUptoRow.holds Try.pinned (OpenSpec.upto fnExactPulledSpec)

/-- 'laws.FnExactFlagText', WHERE WHAT IT READS IS OF BULK AT MOST 1048576: true; the input reads as it did. -/
def fnExactFlagTextUptoRow : OpenClaim := { program := "ytjbfoegleinbnaa", sum := "20cb92c1075e7d3dfee28eaac850a83656b1f22d2b2c940a994f87ca94a46873", func := "loop.example/g00760/laws.FnExactFlagText", spec := "fnExactFlagText", apart := false, narrowed := true }
def FnExactFlagTextUptoSaid : Prop := fnExactFlagTextUptoRow.holds Try.pinned (OpenSpec.upto fnExactFlagTextSpec)

/-- 'laws.FnExactReadFlags', WHERE WHAT IT READS IS OF BULK AT MOST 1048576: true; the input reads as it did. -/
def fnExactReadFlagsUptoRow : OpenClaim := { program := "ytjbfoegleinbnaa", sum := "20cb92c1075e7d3dfee28eaac850a83656b1f22d2b2c940a994f87ca94a46873", func := "loop.example/g00760/laws.FnExactReadFlags", spec := "fnExactReadFlags", apart := false, narrowed := true }
def FnExactReadFlagsUptoSaid : Prop := fnExactReadFlagsUptoRow.holds Try.pinned (OpenSpec.upto fnExactReadFlagsSpec)

/-- 'laws.FnExactRegsText', WHERE WHAT IT READS IS OF BULK AT MOST 1048576: true; the input reads as it did. -/
def fnExactRegsTextUptoRow : OpenClaim := { program := "ytjbfoegleinbnaa", sum := "20cb92c1075e7d3dfee28eaac850a83656b1f22d2b2c940a994f87ca94a46873", func := "loop.example/g00760/laws.FnExactRegsText", spec := "fnExactRegsText", apart := false, narrowed := true }
def FnExactRegsTextUptoSaid : Prop := fnExactRegsTextUptoRow.holds Try.pinned (OpenSpec.upto fnExactRegsTextSpec)

/-- 'laws.FnWith', WHERE WHAT IT READS IS OF BULK AT MOST 1048576: true; the input reads as it did. -/
def fnWithUptoRow : OpenClaim := { program := "ytjbfoegleinbnaa", sum := "20cb92c1075e7d3dfee28eaac850a83656b1f22d2b2c940a994f87ca94a46873", func := "loop.example/g00760/laws.FnWith", spec := "fnWith", apart := false, narrowed := true }
def FnWithUptoSaid : Prop := fnWithUptoRow.holds Try.pinned (OpenSpec.upto fnWithSpec)

/-- 'laws.FnNz', WHERE WHAT IT READS IS OF BULK AT MOST 1048576: true; the input reads as it did. -/
def fnNzUptoRow : OpenClaim := { program := "ytjbfoegleinbnaa", sum := "20cb92c1075e7d3dfee28eaac850a83656b1f22d2b2c940a994f87ca94a46873", func := "loop.example/g00760/laws.FnNz", spec := "fnNz", apart := false, narrowed := true }
def FnNzUptoSaid : Prop := fnNzUptoRow.holds Try.pinned (OpenSpec.upto fnNzSpec)

/-- 'laws.FnAdd', WHERE WHAT IT READS IS OF BULK AT MOST 1048576: true; the input reads as it did. -/
def fnAddUptoRow : OpenClaim := { program := "ytjbfoegleinbnaa", sum := "20cb92c1075e7d3dfee28eaac850a83656b1f22d2b2c940a994f87ca94a46873", func := "loop.example/g00760/laws.FnAdd", spec := "fnAdd", unfollowed := true, recurses := true, apart := false, narrowed := true }
def FnAddUptoSaid : Prop := fnAddUptoRow.holds Try.pinned (OpenSpec.upto fnAddSpec)

/-- 'laws.FnSub', WHERE WHAT IT READS IS OF BULK AT MOST 1048576: true; the input reads as it did. -/
def fnSubUptoRow : OpenClaim := { program := "ytjbfoegleinbnaa", sum := "20cb92c1075e7d3dfee28eaac850a83656b1f22d2b2c940a994f87ca94a46873", func := "loop.example/g00760/laws.FnSub", spec := "fnSub", unfollowed := true, recurses := true, apart := false, narrowed := true }
def FnSubUptoSaid : Prop := fnSubUptoRow.holds Try.pinned (OpenSpec.upto fnSubSpec)

/-- 'laws.FnTens', WHERE WHAT IT READS IS OF BULK AT MOST 1048576: true; the input reads as it did. -/
def fnTensUptoRow : OpenClaim := { program := "ytjbfoegleinbnaa", sum := "20cb92c1075e7d3dfee28eaac850a83656b1f22d2b2c940a994f87ca94a46873", func := "loop.example/g00760/laws.FnTens", spec := "fnTens", unfollowed := true, recurses := true, apart := false, narrowed := true }
def FnTensUptoSaid : Prop := fnTensUptoRow.holds Try.pinned (OpenSpec.upto fnTensSpec)

/-- 'laws.FnShift', WHERE WHAT IT READS IS OF BULK AT MOST 1048576: true; the input reads as it did. -/
def fnShiftUptoRow : OpenClaim := { program := "ytjbfoegleinbnaa", sum := "20cb92c1075e7d3dfee28eaac850a83656b1f22d2b2c940a994f87ca94a46873", func := "loop.example/g00760/laws.FnShift", spec := "fnShift", unfollowed := true, recurses := true, apart := false, narrowed := true }
def FnShiftUptoSaid : Prop := fnShiftUptoRow.holds Try.pinned (OpenSpec.upto fnShiftSpec)

/-- 'laws.FnBit', WHERE WHAT IT READS IS OF BULK AT MOST 1048576: true; the input reads as it did. -/
def fnBitUptoRow : OpenClaim := { program := "ytjbfoegleinbnaa", sum := "20cb92c1075e7d3dfee28eaac850a83656b1f22d2b2c940a994f87ca94a46873", func := "loop.example/g00760/laws.FnBit", spec := "fnBit", apart := false, narrowed := true }
def FnBitUptoSaid : Prop := fnBitUptoRow.holds Try.pinned (OpenSpec.upto fnBitSpec)

/-- 'laws.FnExactWith', WHERE WHAT IT READS IS OF BULK AT MOST 1048576: true; the input reads as it did. -/
def fnExactWithUptoRow : OpenClaim := { program := "ytjbfoegleinbnaa", sum := "20cb92c1075e7d3dfee28eaac850a83656b1f22d2b2c940a994f87ca94a46873", func := "loop.example/g00760/laws.FnExactWith", spec := "fnExactWith", apart := false, narrowed := true }
def FnExactWithUptoSaid : Prop := fnExactWithUptoRow.holds Try.pinned (OpenSpec.upto fnExactWithSpec)

/-- 'laws.FnExactNz', WHERE WHAT IT READS IS OF BULK AT MOST 1048576: true; the input reads as it did. -/
def fnExactNzUptoRow : OpenClaim := { program := "ytjbfoegleinbnaa", sum := "20cb92c1075e7d3dfee28eaac850a83656b1f22d2b2c940a994f87ca94a46873", func := "loop.example/g00760/laws.FnExactNz", spec := "fnExactNz", apart := false, narrowed := true }
def FnExactNzUptoSaid : Prop := fnExactNzUptoRow.holds Try.pinned (OpenSpec.upto fnExactNzSpec)

/-- 'laws.FnExactAdd', WHERE WHAT IT READS IS OF BULK AT MOST 1048576: true; the input reads as it did. -/
def fnExactAddUptoRow : OpenClaim := { program := "ytjbfoegleinbnaa", sum := "20cb92c1075e7d3dfee28eaac850a83656b1f22d2b2c940a994f87ca94a46873", func := "loop.example/g00760/laws.FnExactAdd", spec := "fnExactAdd", unfollowed := true, recurses := true, apart := false, narrowed := true }
def FnExactAddUptoSaid : Prop := fnExactAddUptoRow.holds Try.pinned (OpenSpec.upto fnExactAddSpec)

/-- 'laws.FnExactSub', WHERE WHAT IT READS IS OF BULK AT MOST 1048576: true; the input reads as it did. -/
def fnExactSubUptoRow : OpenClaim := { program := "ytjbfoegleinbnaa", sum := "20cb92c1075e7d3dfee28eaac850a83656b1f22d2b2c940a994f87ca94a46873", func := "loop.example/g00760/laws.FnExactSub", spec := "fnExactSub", apart := false, narrowed := true }
def FnExactSubUptoSaid : Prop := fnExactSubUptoRow.holds Try.pinned (OpenSpec.upto fnExactSubSpec)

/-- 'laws.FnExactCompare', WHERE WHAT IT READS IS OF BULK AT MOST 1048576: true; the input reads as it did. -/
def fnExactCompareUptoRow : OpenClaim := { program := "ytjbfoegleinbnaa", sum := "20cb92c1075e7d3dfee28eaac850a83656b1f22d2b2c940a994f87ca94a46873", func := "loop.example/g00760/laws.FnExactCompare", spec := "fnExactCompare", apart := false, narrowed := true }
def FnExactCompareUptoSaid : Prop := fnExactCompareUptoRow.holds Try.pinned (OpenSpec.upto fnExactCompareSpec)

/-- 'laws.FnExactShift', WHERE WHAT IT READS IS OF BULK AT MOST 1048576: true; the input reads as it did. -/
def fnExactShiftUptoRow : OpenClaim := { program := "ytjbfoegleinbnaa", sum := "20cb92c1075e7d3dfee28eaac850a83656b1f22d2b2c940a994f87ca94a46873", func := "loop.example/g00760/laws.FnExactShift", spec := "fnExactShift", unfollowed := true, recurses := true, apart := false, narrowed := true }
def FnExactShiftUptoSaid : Prop := fnExactShiftUptoRow.holds Try.pinned (OpenSpec.upto fnExactShiftSpec)

/-- 'laws.FnExactBit', WHERE WHAT IT READS IS OF BULK AT MOST 1048576: true; the input reads as it did. -/
def fnExactBitUptoRow : OpenClaim := { program := "ytjbfoegleinbnaa", sum := "20cb92c1075e7d3dfee28eaac850a83656b1f22d2b2c940a994f87ca94a46873", func := "loop.example/g00760/laws.FnExactBit", spec := "fnExactBit", apart := false, narrowed := true }
def FnExactBitUptoSaid : Prop := fnExactBitUptoRow.holds Try.pinned (OpenSpec.upto fnExactBitSpec)

end Rows
end Go.Proofs.Ytjbfoegleinbnaa
