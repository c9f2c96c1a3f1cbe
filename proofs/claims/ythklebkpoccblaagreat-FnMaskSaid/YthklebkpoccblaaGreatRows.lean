/-
  No cell of these rows narrows 'for every input' (looked for: loops, veiled, ifaces, maps, wideKeys, modest, calm, conditions, laid).
  DERIVED. THE GIVEN ROWS OF THIS SEAT. 5 by the template 'for every input the law returns true; each argument reads behind the call as it read before'; 0 by the template 'total and deterministic' (their statements: YthklebkpoccblaaGreatTotals.lean).
  GIVEN WITH THE SEED: the statements are not yours to turn. If you find one false, say at which input.
  Laid BY PROGRAM, IN A SANDBOX (cutbox-rows.mjs): the forced cells as the released guide's own fill.sh prints them over the translation 0caf39d15e16dc38… (all of the seat's roots in one cut). By AI agents, Wed Nov 11 2026. No macro, syntax, notation, axiom, sorry.
-/
import Derived.Test.YthklebkpoccblaaGreatChecked
import GoSem.Claim
import GoSem.ClaimJoined
import GoSem.ClaimMapViews
import Derived.JoinedTies
import Derived.KernelRfl
namespace Go.Proofs.YthklebkpoccblaaGreat
/- THE CELL 'sum', in the pinned program and in every row, IS THE sha256 OF THE DUMP (.gsa) THAT YthklebkpoccblaaGreatProg.lean LOADS. Nothing in Lean hashes anything: it is a label: what it is worth is what the hold of that sum in a sandbox is worth. -/
noncomputable def Tryz.pinned : Pinned := { name := "ythklebkpoccblaagreat", sum := "0caf39d15e16dc38c86fe734ed4c222f011dd0bdc7fadc7c930dcf8c09c0e04b", checked := Tryz.checked }
namespace Rows
def none {H : Type} : Left H := { results := [], args := [] }

/-- 'laws.FnFed': WHATEVER THE INPUT: true; the input reads as it did. -/
def fnFedSpec : ChangeSpec := { name := "fnFed", fn := fun _ => fun
  | [d] => { results := [.lit (.bool true)], args := [d] }
  | _ => none }
def fnFedRow : OpenClaim := { program := "ythklebkpoccblaagreat", sum := "0caf39d15e16dc38c86fe734ed4c222f011dd0bdc7fadc7c930dcf8c09c0e04b", func := "loop.example/g00760/laws.FnFed", spec := "fnFed", unfollowed := true, recurses := true, apart := false }
def FnFedSaid : Prop := fnFedRow.holds Tryz.pinned (OpenSpec.ofChange fnFedSpec)

/-- ITS FALSE NEIGHBOUR: 'it returns false'. Refute it at one input. -/
def fnFedWrong : ChangeSpec := { name := "fnFed", fn := fun _ => fun
  | [d] => { results := [.lit (.bool false)], args := [d] }
  | _ => none }
def FnFedWrongFalsely : Prop := fnFedRow.holds Tryz.pinned (OpenSpec.ofChange fnFedWrong)

/-- 'laws.FnWant': WHATEVER THE INPUT: true; the input reads as it did. -/
def fnWantSpec : ChangeSpec := { name := "fnWant", fn := fun _ => fun
  | [d] => { results := [.lit (.bool true)], args := [d] }
  | _ => none }
def fnWantRow : OpenClaim := { program := "ythklebkpoccblaagreat", sum := "0caf39d15e16dc38c86fe734ed4c222f011dd0bdc7fadc7c930dcf8c09c0e04b", func := "loop.example/g00760/laws.FnWant", spec := "fnWant", unfollowed := true, recurses := true, apart := false }
def FnWantSaid : Prop := fnWantRow.holds Tryz.pinned (OpenSpec.ofChange fnWantSpec)

/-- ITS FALSE NEIGHBOUR: 'it returns false'. Refute it at one input. -/
def fnWantWrong : ChangeSpec := { name := "fnWant", fn := fun _ => fun
  | [d] => { results := [.lit (.bool false)], args := [d] }
  | _ => none }
def FnWantWrongFalsely : Prop := fnWantRow.holds Tryz.pinned (OpenSpec.ofChange fnWantWrong)

/-- 'laws.FnResetCore': WHATEVER THE INPUT: true; the input reads as it did. -/
def fnResetCoreSpec : ChangeSpec := { name := "fnResetCore", fn := fun _ => fun
  | [d] => { results := [.lit (.bool true)], args := [d] }
  | _ => none }
def fnResetCoreRow : OpenClaim := { program := "ythklebkpoccblaagreat", sum := "0caf39d15e16dc38c86fe734ed4c222f011dd0bdc7fadc7c930dcf8c09c0e04b", func := "loop.example/g00760/laws.FnResetCore", spec := "fnResetCore", unfollowed := true, recurses := true, apart := false }
def FnResetCoreSaid : Prop := fnResetCoreRow.holds Tryz.pinned (OpenSpec.ofChange fnResetCoreSpec)

/-- ITS FALSE NEIGHBOUR: 'it returns false'. Refute it at one input. -/
def fnResetCoreWrong : ChangeSpec := { name := "fnResetCore", fn := fun _ => fun
  | [d] => { results := [.lit (.bool false)], args := [d] }
  | _ => none }
def FnResetCoreWrongFalsely : Prop := fnResetCoreRow.holds Tryz.pinned (OpenSpec.ofChange fnResetCoreWrong)

/-- 'laws.FnHijack': WHATEVER THE INPUT: true; the input reads as it did. -/
def fnHijackSpec : ChangeSpec := { name := "fnHijack", fn := fun _ => fun
  | [d] => { results := [.lit (.bool true)], args := [d] }
  | _ => none }
def fnHijackRow : OpenClaim := { program := "ythklebkpoccblaagreat", sum := "0caf39d15e16dc38c86fe734ed4c222f011dd0bdc7fadc7c930dcf8c09c0e04b", func := "loop.example/g00760/laws.FnHijack", spec := "fnHijack", unfollowed := true, recurses := true, apart := false }
def FnHijackSaid : Prop := fnHijackRow.holds Tryz.pinned (OpenSpec.ofChange fnHijackSpec)

/-- ITS FALSE NEIGHBOUR: 'it returns false'. Refute it at one input. -/
def fnHijackWrong : ChangeSpec := { name := "fnHijack", fn := fun _ => fun
  | [d] => { results := [.lit (.bool false)], args := [d] }
  | _ => none }
def FnHijackWrongFalsely : Prop := fnHijackRow.holds Tryz.pinned (OpenSpec.ofChange fnHijackWrong)

/-- 'laws.FnMask': WHATEVER THE INPUT: true; the input reads as it did. -/
def fnMaskSpec : ChangeSpec := { name := "fnMask", fn := fun _ => fun
  | [d] => { results := [.lit (.bool true)], args := [d] }
  | _ => none }
def fnMaskRow : OpenClaim := { program := "ythklebkpoccblaagreat", sum := "0caf39d15e16dc38c86fe734ed4c222f011dd0bdc7fadc7c930dcf8c09c0e04b", func := "loop.example/g00760/laws.FnMask", spec := "fnMask", unfollowed := true, recurses := true, apart := false }
def FnMaskSaid : Prop := fnMaskRow.holds Tryz.pinned (OpenSpec.ofChange fnMaskSpec)

/-- ITS FALSE NEIGHBOUR: 'it returns false'. Refute it at one input. -/
def fnMaskWrong : ChangeSpec := { name := "fnMask", fn := fun _ => fun
  | [d] => { results := [.lit (.bool false)], args := [d] }
  | _ => none }
def FnMaskWrongFalsely : Prop := fnMaskRow.holds Tryz.pinned (OpenSpec.ofChange fnMaskWrong)

/- THE SECOND FORM. 'bulk': how many values and letters a reading holds, each counted each time it is reached (what is shared counts as often as it is met; a slice's spare places count too). A statement '..UptoSaid' is the law's where the arguments, and the package variables that the reading takes, are together of bulk at most 1048576: NARROWER than '..Said'. Prove '..Said' where nothing that the law and all that it calls make is longer than what came in: it says more and counts as full. Else prove '..UptoSaid'. A law counts once. -/
mutual
def uptoBulk {H : Type} : DataW H → Nat
  | .lit (.string bytes) => bytes.length + 1
  | .lit _ => 1
  | .nil => 1
  | .ptr d => uptoBulk d + 1
  | .slice elems spare => uptoBulkAll elems + uptoBulkAll spare + 1
  | .agg parts => uptoBulkAll parts + 1
  | .iface _ d => uptoBulk d + 1
  | .map entries => uptoBulkEntries entries + 1
  | .held _ => 1
def uptoBulkAll {H : Type} : List (DataW H) → Nat
  | [] => 0
  | d :: r => uptoBulk d + uptoBulkAll r
def uptoBulkEntries {H : Type} : List (Lit × DataW H) → Nat
  | [] => 0
  | x :: r => uptoBulkEntry x + uptoBulkEntries r
def uptoBulkEntry {H : Type} : Lit × DataW H → Nat
  | (.string bytes, d) => bytes.length + uptoBulk d + 1
  | (_, d) => uptoBulk d + 1
 end
def uptoSmall : (H : Type) → List (DataW H) → Bool := fun _ ds => decide (uptoBulkAll ds ≤ 1048576)
def OpenSpec.upto (s : _root_.Go.ChangeSpec) : _root_.Go.OpenSpec := { _root_.Go.OpenSpec.ofChange s with cond := some uptoSmall }

/-- 'laws.FnFed', WHERE WHAT IT READS IS OF BULK AT MOST 1048576: true; the input reads as it did. -/
def fnFedUptoRow : OpenClaim := { program := "ythklebkpoccblaagreat", sum := "0caf39d15e16dc38c86fe734ed4c222f011dd0bdc7fadc7c930dcf8c09c0e04b", func := "loop.example/g00760/laws.FnFed", spec := "fnFed", unfollowed := true, recurses := true, apart := false, narrowed := true }
def FnFedUptoSaid : Prop := fnFedUptoRow.holds Tryz.pinned (OpenSpec.upto fnFedSpec)

/-- 'laws.FnWant', WHERE WHAT IT READS IS OF BULK AT MOST 1048576: true; the input reads as it did. -/
def fnWantUptoRow : OpenClaim := { program := "ythklebkpoccblaagreat", sum := "0caf39d15e16dc38c86fe734ed4c222f011dd0bdc7fadc7c930dcf8c09c0e04b", func := "loop.example/g00760/laws.FnWant", spec := "fnWant", unfollowed := true, recurses := true, apart := false, narrowed := true }
def FnWantUptoSaid : Prop := fnWantUptoRow.holds Tryz.pinned (OpenSpec.upto fnWantSpec)

/-- 'laws.FnResetCore', WHERE WHAT IT READS IS OF BULK AT MOST 1048576: true; the input reads as it did. -/
def fnResetCoreUptoRow : OpenClaim := { program := "ythklebkpoccblaagreat", sum := "0caf39d15e16dc38c86fe734ed4c222f011dd0bdc7fadc7c930dcf8c09c0e04b", func := "loop.example/g00760/laws.FnResetCore", spec := "fnResetCore", unfollowed := true, recurses := true, apart := false, narrowed := true }
def FnResetCoreUptoSaid : Prop := fnResetCoreUptoRow.holds Tryz.pinned (OpenSpec.upto fnResetCoreSpec)

/-- 'laws.FnHijack', WHERE WHAT IT READS IS OF BULK AT MOST 1048576: true; the input reads as it did. -/
def fnHijackUptoRow : OpenClaim := { program := "ythklebkpoccblaagreat", sum := "0caf39d15e16dc38c86fe734ed4c222f011dd0bdc7fadc7c930dcf8c09c0e04b", func := "loop.example/g00760/laws.FnHijack", spec := "fnHijack", unfollowed := true, recurses := true, apart := false, narrowed := true }
def FnHijackUptoSaid : Prop := fnHijackUptoRow.holds Tryz.pinned (OpenSpec.upto fnHijackSpec)

/-- 'laws.FnMask', WHERE WHAT IT READS IS OF BULK AT MOST 1048576: true; the input reads as it did. -/
def fnMaskUptoRow : OpenClaim := { program := "ythklebkpoccblaagreat", sum := "0caf39d15e16dc38c86fe734ed4c222f011dd0bdc7fadc7c930dcf8c09c0e04b", func := "loop.example/g00760/laws.FnMask", spec := "fnMask", unfollowed := true, recurses := true, apart := false, narrowed := true }
def FnMaskUptoSaid : Prop := fnMaskUptoRow.holds Tryz.pinned (OpenSpec.upto fnMaskSpec)

end Rows
end Go.Proofs.YthklebkpoccblaaGreat
