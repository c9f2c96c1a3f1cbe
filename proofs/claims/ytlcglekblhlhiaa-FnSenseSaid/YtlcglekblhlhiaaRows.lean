/-
  No cell of these rows narrows 'for every input' (looked for: loops, veiled, ifaces, maps, wideKeys, modest, calm, conditions, laid).
  DERIVED. THE GIVEN ROWS OF THIS SEAT. 6 by the template 'for every input the law returns true; each argument reads behind the call as it read before'; 0 by the template 'total and deterministic' (their statements: YtlcglekblhlhiaaTotals.lean).
  GIVEN WITH THE SEED: the statements are not yours to turn. If you find one false, say at which input.
  Laid BY PROGRAM, IN A SANDBOX (cutbox-rows.mjs): the forced cells as the released guide's own fill.sh prints them over the translation b105adc5e5460063… (all of the seat's roots in one cut). By AI agents, Wed Nov 11 2026. No macro, syntax, notation, axiom, sorry.
-/
import Derived.Test.YtlcglekblhlhiaaChecked
import GoSem.Claim
import GoSem.ClaimJoined
import GoSem.ClaimMapViews
import Derived.JoinedTies
import Derived.KernelRfl
namespace Go.Proofs.Ytlcglekblhlhiaa
/- THE CELL 'sum', in the pinned program and in every row, IS THE sha256 OF THE DUMP (.gsa) THAT YtlcglekblhlhiaaProg.lean LOADS. Nothing in Lean hashes anything: it is a label: what it is worth is what the hold of that sum in a sandbox is worth. -/
noncomputable def Try.pinned : Pinned := { name := "ytlcglekblhlhiaa", sum := "b105adc5e5460063f6b2a560c8b35be83ea8e46263730f58908e2a0c58b60649", checked := Try.checked }
namespace Rows
def none {H : Type} : Left H := { results := [], args := [] }

/-- 'laws.FnSense': WHATEVER THE INPUT: true; the input reads as it did. -/
def fnSenseSpec : ChangeSpec := { name := "fnSense", fn := fun _ => fun
  | [d] => { results := [.lit (.bool true)], args := [d] }
  | _ => none }
def fnSenseRow : OpenClaim := { program := "ytlcglekblhlhiaa", sum := "b105adc5e5460063f6b2a560c8b35be83ea8e46263730f58908e2a0c58b60649", func := "loop.example/g00760/laws.FnSense", spec := "fnSense", apart := false }
def FnSenseSaid : Prop := fnSenseRow.holds Try.pinned (OpenSpec.ofChange fnSenseSpec)

/-- ITS FALSE NEIGHBOUR: 'it returns false'. Refute it at one input. -/
def fnSenseWrong : ChangeSpec := { name := "fnSense", fn := fun _ => fun
  | [d] => { results := [.lit (.bool false)], args := [d] }
  | _ => none }
def FnSenseWrongFalsely : Prop := fnSenseRow.holds Try.pinned (OpenSpec.ofChange fnSenseWrong)

/-- 'laws.FnTake': WHATEVER THE INPUT: true; the input reads as it did. -/
def fnTakeSpec : ChangeSpec := { name := "fnTake", fn := fun _ => fun
  | [d] => { results := [.lit (.bool true)], args := [d] }
  | _ => none }
def fnTakeRow : OpenClaim := { program := "ytlcglekblhlhiaa", sum := "b105adc5e5460063f6b2a560c8b35be83ea8e46263730f58908e2a0c58b60649", func := "loop.example/g00760/laws.FnTake", spec := "fnTake", apart := false }
def FnTakeSaid : Prop := fnTakeRow.holds Try.pinned (OpenSpec.ofChange fnTakeSpec)

/-- ITS FALSE NEIGHBOUR: 'it returns false'. Refute it at one input. -/
def fnTakeWrong : ChangeSpec := { name := "fnTake", fn := fun _ => fun
  | [d] => { results := [.lit (.bool false)], args := [d] }
  | _ => none }
def FnTakeWrongFalsely : Prop := fnTakeRow.holds Try.pinned (OpenSpec.ofChange fnTakeWrong)

/-- 'laws.FnExactSense': WHATEVER THE INPUT: true; the input reads as it did. -/
def fnExactSenseSpec : ChangeSpec := { name := "fnExactSense", fn := fun _ => fun
  | [d1, d2, d3] => { results := [.lit (.bool true)], args := [d1, d2, d3] }
  | _ => none }
def fnExactSenseRow : OpenClaim := { program := "ytlcglekblhlhiaa", sum := "b105adc5e5460063f6b2a560c8b35be83ea8e46263730f58908e2a0c58b60649", func := "loop.example/g00760/laws.FnExactSense", spec := "fnExactSense", apart := false }
def FnExactSenseSaid : Prop := fnExactSenseRow.holds Try.pinned (OpenSpec.ofChange fnExactSenseSpec)

/-- ITS FALSE NEIGHBOUR: 'it returns false'. Refute it at one input. -/
def fnExactSenseWrong : ChangeSpec := { name := "fnExactSense", fn := fun _ => fun
  | [d1, d2, d3] => { results := [.lit (.bool false)], args := [d1, d2, d3] }
  | _ => none }
def FnExactSenseWrongFalsely : Prop := fnExactSenseRow.holds Try.pinned (OpenSpec.ofChange fnExactSenseWrong)

/-- 'laws.FnExactTake': WHATEVER THE INPUT: true; the input reads as it did. -/
def fnExactTakeSpec : ChangeSpec := { name := "fnExactTake", fn := fun _ => fun
  | [d1, d2] => { results := [.lit (.bool true)], args := [d1, d2] }
  | _ => none }
def fnExactTakeRow : OpenClaim := { program := "ytlcglekblhlhiaa", sum := "b105adc5e5460063f6b2a560c8b35be83ea8e46263730f58908e2a0c58b60649", func := "loop.example/g00760/laws.FnExactTake", spec := "fnExactTake", apart := false }
def FnExactTakeSaid : Prop := fnExactTakeRow.holds Try.pinned (OpenSpec.ofChange fnExactTakeSpec)

/-- ITS FALSE NEIGHBOUR: 'it returns false'. Refute it at one input. -/
def fnExactTakeWrong : ChangeSpec := { name := "fnExactTake", fn := fun _ => fun
  | [d1, d2] => { results := [.lit (.bool false)], args := [d1, d2] }
  | _ => none }
def FnExactTakeWrongFalsely : Prop := fnExactTakeRow.holds Try.pinned (OpenSpec.ofChange fnExactTakeWrong)

/-- 'laws.FnExactTaken': WHATEVER THE INPUT: true; the input reads as it did. -/
def fnExactTakenSpec : ChangeSpec := { name := "fnExactTaken", fn := fun _ => fun
  | [d] => { results := [.lit (.bool true)], args := [d] }
  | _ => none }
def fnExactTakenRow : OpenClaim := { program := "ytlcglekblhlhiaa", sum := "b105adc5e5460063f6b2a560c8b35be83ea8e46263730f58908e2a0c58b60649", func := "loop.example/g00760/laws.FnExactTaken", spec := "fnExactTaken", apart := false }
def FnExactTakenSaid : Prop := fnExactTakenRow.holds Try.pinned (OpenSpec.ofChange fnExactTakenSpec)

/-- ITS FALSE NEIGHBOUR: 'it returns false'. Refute it at one input. -/
def fnExactTakenWrong : ChangeSpec := { name := "fnExactTaken", fn := fun _ => fun
  | [d] => { results := [.lit (.bool false)], args := [d] }
  | _ => none }
def FnExactTakenWrongFalsely : Prop := fnExactTakenRow.holds Try.pinned (OpenSpec.ofChange fnExactTakenWrong)

/-- 'laws.FnExactVector': WHATEVER THE INPUT: true; the input reads as it did. -/
def fnExactVectorSpec : ChangeSpec := { name := "fnExactVector", fn := fun _ => fun
  | [d] => { results := [.lit (.bool true)], args := [d] }
  | _ => none }
def fnExactVectorRow : OpenClaim := { program := "ytlcglekblhlhiaa", sum := "b105adc5e5460063f6b2a560c8b35be83ea8e46263730f58908e2a0c58b60649", func := "loop.example/g00760/laws.FnExactVector", spec := "fnExactVector", apart := false }
def FnExactVectorSaid : Prop := fnExactVectorRow.holds Try.pinned (OpenSpec.ofChange fnExactVectorSpec)

/-- ITS FALSE NEIGHBOUR: 'it returns false'. Refute it at one input. -/
def fnExactVectorWrong : ChangeSpec := { name := "fnExactVector", fn := fun _ => fun
  | [d] => { results := [.lit (.bool false)], args := [d] }
  | _ => none }
def FnExactVectorWrongFalsely : Prop := fnExactVectorRow.holds Try.pinned (OpenSpec.ofChange fnExactVectorWrong)

/- THE SECOND FORM. 'bulk': how many values and letters a reading holds, each counted each time it is reached (what is shared counts as often as it is met; a slice's spare places count too). A statement '..UptoSaid' is the law's where the arguments, and the package variables that the reading takes, are together of bulk at most 1048576: NARROWER than '..Said'. Prove '..Said' where nothing that the law and all that it calls make is longer than what came in: it says more and counts as full. Else prove '..UptoSaid'. A law counts once. -/
mutual
def uptoBulk {H : Type} : DataW H → Nat
  | .lit (.string bytes) => bytes.length + 1
  | .lit _ => 1
  | .nil => 1
  | .ptr d => uptoBulk d + 1
  | .slice elems spare => uptoBulkAll elems + uptoBulkAll spare + 1
  | .agg parts => uptoBulkAll parts + 1
  | .iface _ d => uptoBulk d + 1
  | .map entries => uptoBulkEntries entries + 1
  | .held _ => 1
def uptoBulkAll {H : Type} : List (DataW H) → Nat
  | [] => 0
  | d :: r => uptoBulk d + uptoBulkAll r
def uptoBulkEntries {H : Type} : List (Lit × DataW H) → Nat
  | [] => 0
  | x :: r => uptoBulkEntry x + uptoBulkEntries r
def uptoBulkEntry {H : Type} : Lit × DataW H → Nat
  | (.string bytes, d) => bytes.length + uptoBulk d + 1
  | (_, d) => uptoBulk d + 1
 end
def uptoSmall : (H : Type) → List (DataW H) → Bool := fun _ ds => decide (uptoBulkAll ds ≤ 1048576)
def OpenSpec.upto (s : _root_.Go.ChangeSpec) : _root_.Go.OpenSpec := { _root_.Go.OpenSpec.ofChange s with cond := some uptoSmall }

/-- 'laws.FnSense', WHERE WHAT IT READS IS OF BULK AT MOST 1048576: true; the input reads as it did. -/
def fnSenseUptoRow : OpenClaim := { program := "ytlcglekblhlhiaa", sum := "b105adc5e5460063f6b2a560c8b35be83ea8e46263730f58908e2a0c58b60649", func := "loop.example/g00760/laws.FnSense", spec := "fnSense", apart := false, narrowed := true }
def FnSenseUptoSaid : Prop := fnSenseUptoRow.holds Try.pinned (OpenSpec.upto fnSenseSpec)

/-- 'laws.FnTake', WHERE WHAT IT READS IS OF BULK AT MOST 1048576: true; the input reads as it did. -/
def fnTakeUptoRow : OpenClaim := { program := "ytlcglekblhlhiaa", sum := "b105adc5e5460063f6b2a560c8b35be83ea8e46263730f58908e2a0c58b60649", func := "loop.example/g00760/laws.FnTake", spec := "fnTake", apart := false, narrowed := true }
def FnTakeUptoSaid : Prop := fnTakeUptoRow.holds Try.pinned (OpenSpec.upto fnTakeSpec)

/-- 'laws.FnExactSense', WHERE WHAT IT READS IS OF BULK AT MOST 1048576: true; the input reads as it did. -/
def fnExactSenseUptoRow : OpenClaim := { program := "ytlcglekblhlhiaa", sum := "b105adc5e5460063f6b2a560c8b35be83ea8e46263730f58908e2a0c58b60649", func := "loop.example/g00760/laws.FnExactSense", spec := "fnExactSense", apart := false, narrowed := true }
def FnExactSenseUptoSaid : Prop := fnExactSenseUptoRow.holds Try.pinned (OpenSpec.upto fnExactSenseSpec)

/-- 'laws.FnExactTake', WHERE WHAT IT READS IS OF BULK AT MOST 1048576: true; the input reads as it did. -/
def fnExactTakeUptoRow : OpenClaim := { program := "ytlcglekblhlhiaa", sum := "b105adc5e5460063f6b2a560c8b35be83ea8e46263730f58908e2a0c58b60649", func := "loop.example/g00760/laws.FnExactTake", spec := "fnExactTake", apart := false, narrowed := true }
def FnExactTakeUptoSaid : Prop := fnExactTakeUptoRow.holds Try.pinned (OpenSpec.upto fnExactTakeSpec)

/-- 'laws.FnExactTaken', WHERE WHAT IT READS IS OF BULK AT MOST 1048576: true; the input reads as it did. -/
def fnExactTakenUptoRow : OpenClaim := { program := "ytlcglekblhlhiaa", sum := "b105adc5e5460063f6b2a560c8b35be83ea8e46263730f58908e2a0c58b60649", func := "loop.example/g00760/laws.FnExactTaken", spec := "fnExactTaken", apart := false, narrowed := true }
def FnExactTakenUptoSaid : Prop := fnExactTakenUptoRow.holds Try.pinned (OpenSpec.upto fnExactTakenSpec)

/-- 'laws.FnExactVector', WHERE WHAT IT READS IS OF BULK AT MOST 1048576: true; the input reads as it did. -/
def fnExactVectorUptoRow : OpenClaim := { program := "ytlcglekblhlhiaa", sum := "b105adc5e5460063f6b2a560c8b35be83ea8e46263730f58908e2a0c58b60649", func := "loop.example/g00760/laws.FnExactVector", spec := "fnExactVector", apart := false, narrowed := true }
def FnExactVectorUptoSaid : Prop := fnExactVectorUptoRow.holds Try.pinned (OpenSpec.upto fnExactVectorSpec)

end Rows
end Go.Proofs.Ytlcglekblhlhiaa
