/-
  No cell of these rows narrows 'for every input' (looked for: loops, veiled, ifaces, maps, wideKeys, modest, calm, conditions, laid).
  DERIVED. THE GIVEN ROWS OF THIS SEAT. 10 by the template 'for every input the law returns true; each argument reads behind the call as it read before'; 0 by the template 'total and deterministic' (their statements: YtcnajmmpijhniaaTotals.lean).
  GIVEN WITH THE SEED: the statements are not yours to turn. If you find one false, say at which input.
  Laid BY PROGRAM, IN A SANDBOX (cutbox-rows.mjs): the forced cells as the released guide's own fill.sh prints them over the translation 10bee96d916454f0… (all of the seat's roots in one cut). By AI agents, Wed Nov 11 2026. No macro, syntax, notation, axiom, sorry.
-/
import Derived.Test.YtcnajmmpijhniaaChecked
import GoSem.Claim
import GoSem.ClaimJoined
import GoSem.ClaimMapViews
import Derived.JoinedTies
import Derived.KernelRfl
namespace Go.Proofs.Ytcnajmmpijhniaa
/- THE CELL 'sum', in the pinned program and in every row, IS THE sha256 OF THE DUMP (.gsa) THAT YtcnajmmpijhniaaProg.lean LOADS. Nothing in Lean hashes anything: it is a label: what it is worth is what the hold of that sum in a sandbox is worth. -/
noncomputable def Try.pinned : Pinned := { name := "ytcnajmmpijhniaa", sum := "10bee96d916454f063f673861928fcb120b943778ea40b0b749008a2f9f2b11c", checked := Try.checked }
namespace Rows
def none {H : Type} : Left H := { results := [], args := [] }

/-- 'laws.FnOwner': WHATEVER THE INPUT: true; the input reads as it did. -/
def fnOwnerSpec : ChangeSpec := { name := "fnOwner", fn := fun _ => fun
  | [d] => { results := [.lit (.bool true)], args := [d] }
  | _ => none }
def fnOwnerRow : OpenClaim := { program := "ytcnajmmpijhniaa", sum := "10bee96d916454f063f673861928fcb120b943778ea40b0b749008a2f9f2b11c", func := "loop.example/g00760/laws.FnOwner", spec := "fnOwner", unfollowed := true, recurses := true, apart := false }
def FnOwnerSaid : Prop := fnOwnerRow.holds Try.pinned (OpenSpec.ofChange fnOwnerSpec)

/-- ITS FALSE NEIGHBOUR: 'it returns false'. Refute it at one input. -/
def fnOwnerWrong : ChangeSpec := { name := "fnOwner", fn := fun _ => fun
  | [d] => { results := [.lit (.bool false)], args := [d] }
  | _ => none }
def FnOwnerWrongFalsely : Prop := fnOwnerRow.holds Try.pinned (OpenSpec.ofChange fnOwnerWrong)

/-- 'laws.FnSpend': WHATEVER THE INPUT: true; the input reads as it did. -/
def fnSpendSpec : ChangeSpec := { name := "fnSpend", fn := fun _ => fun
  | [d] => { results := [.lit (.bool true)], args := [d] }
  | _ => none }
def fnSpendRow : OpenClaim := { program := "ytcnajmmpijhniaa", sum := "10bee96d916454f063f673861928fcb120b943778ea40b0b749008a2f9f2b11c", func := "loop.example/g00760/laws.FnSpend", spec := "fnSpend", unfollowed := true, recurses := true, apart := false }
def FnSpendSaid : Prop := fnSpendRow.holds Try.pinned (OpenSpec.ofChange fnSpendSpec)

/-- ITS FALSE NEIGHBOUR: 'it returns false'. Refute it at one input. -/
def fnSpendWrong : ChangeSpec := { name := "fnSpend", fn := fun _ => fun
  | [d] => { results := [.lit (.bool false)], args := [d] }
  | _ => none }
def FnSpendWrongFalsely : Prop := fnSpendRow.holds Try.pinned (OpenSpec.ofChange fnSpendWrong)

/-- 'laws.FnCopied': WHATEVER THE INPUT: true; the input reads as it did. -/
def fnCopiedSpec : ChangeSpec := { name := "fnCopied", fn := fun _ => fun
  | [d] => { results := [.lit (.bool true)], args := [d] }
  | _ => none }
def fnCopiedRow : OpenClaim := { program := "ytcnajmmpijhniaa", sum := "10bee96d916454f063f673861928fcb120b943778ea40b0b749008a2f9f2b11c", func := "loop.example/g00760/laws.FnCopied", spec := "fnCopied", apart := false }
def FnCopiedSaid : Prop := fnCopiedRow.holds Try.pinned (OpenSpec.ofChange fnCopiedSpec)

/-- ITS FALSE NEIGHBOUR: 'it returns false'. Refute it at one input. -/
def fnCopiedWrong : ChangeSpec := { name := "fnCopied", fn := fun _ => fun
  | [d] => { results := [.lit (.bool false)], args := [d] }
  | _ => none }
def FnCopiedWrongFalsely : Prop := fnCopiedRow.holds Try.pinned (OpenSpec.ofChange fnCopiedWrong)

/-- 'laws.FnKeeper': WHATEVER THE INPUT: true; the input reads as it did. -/
def fnKeeperSpec : ChangeSpec := { name := "fnKeeper", fn := fun _ => fun
  | [d] => { results := [.lit (.bool true)], args := [d] }
  | _ => none }
def fnKeeperRow : OpenClaim := { program := "ytcnajmmpijhniaa", sum := "10bee96d916454f063f673861928fcb120b943778ea40b0b749008a2f9f2b11c", func := "loop.example/g00760/laws.FnKeeper", spec := "fnKeeper", apart := false }
def FnKeeperSaid : Prop := fnKeeperRow.holds Try.pinned (OpenSpec.ofChange fnKeeperSpec)

/-- ITS FALSE NEIGHBOUR: 'it returns false'. Refute it at one input. -/
def fnKeeperWrong : ChangeSpec := { name := "fnKeeper", fn := fun _ => fun
  | [d] => { results := [.lit (.bool false)], args := [d] }
  | _ => none }
def FnKeeperWrongFalsely : Prop := fnKeeperRow.holds Try.pinned (OpenSpec.ofChange fnKeeperWrong)

/-- 'laws.FnExactKeeperOk': WHATEVER THE INPUT: true; the input reads as it did. -/
def fnExactKeeperOkSpec : ChangeSpec := { name := "fnExactKeeperOk", fn := fun _ => fun
  | [d] => { results := [.lit (.bool true)], args := [d] }
  | _ => none }
def fnExactKeeperOkRow : OpenClaim := { program := "ytcnajmmpijhniaa", sum := "10bee96d916454f063f673861928fcb120b943778ea40b0b749008a2f9f2b11c", func := "loop.example/g00760/laws.FnExactKeeperOk", spec := "fnExactKeeperOk", apart := false }
def FnExactKeeperOkSaid : Prop := fnExactKeeperOkRow.holds Try.pinned (OpenSpec.ofChange fnExactKeeperOkSpec)

/-- ITS FALSE NEIGHBOUR: 'it returns false'. Refute it at one input. -/
def fnExactKeeperOkWrong : ChangeSpec := { name := "fnExactKeeperOk", fn := fun _ => fun
  | [d] => { results := [.lit (.bool false)], args := [d] }
  | _ => none }
def FnExactKeeperOkWrongFalsely : Prop := fnExactKeeperOkRow.holds Try.pinned (OpenSpec.ofChange fnExactKeeperOkWrong)

/-- 'laws.FnExactOwner': WHATEVER THE INPUT: true; the input reads as it did. -/
def fnExactOwnerSpec : ChangeSpec := { name := "fnExactOwner", fn := fun _ => fun
  | [d1, d2, d3] => { results := [.lit (.bool true)], args := [d1, d2, d3] }
  | _ => none }
def fnExactOwnerRow : OpenClaim := { program := "ytcnajmmpijhniaa", sum := "10bee96d916454f063f673861928fcb120b943778ea40b0b749008a2f9f2b11c", func := "loop.example/g00760/laws.FnExactOwner", spec := "fnExactOwner", unfollowed := true, recurses := true, apart := false }
def FnExactOwnerSaid : Prop := fnExactOwnerRow.holds Try.pinned (OpenSpec.ofChange fnExactOwnerSpec)

/-- ITS FALSE NEIGHBOUR: 'it returns false'. Refute it at one input. -/
def fnExactOwnerWrong : ChangeSpec := { name := "fnExactOwner", fn := fun _ => fun
  | [d1, d2, d3] => { results := [.lit (.bool false)], args := [d1, d2, d3] }
  | _ => none }
def FnExactOwnerWrongFalsely : Prop := fnExactOwnerRow.holds Try.pinned (OpenSpec.ofChange fnExactOwnerWrong)

/-- 'laws.FnExactSpend': WHATEVER THE INPUT: true; the input reads as it did. -/
def fnExactSpendSpec : ChangeSpec := { name := "fnExactSpend", fn := fun _ => fun
  | [d1, d2] => { results := [.lit (.bool true)], args := [d1, d2] }
  | _ => none }
def fnExactSpendRow : OpenClaim := { program := "ytcnajmmpijhniaa", sum := "10bee96d916454f063f673861928fcb120b943778ea40b0b749008a2f9f2b11c", func := "loop.example/g00760/laws.FnExactSpend", spec := "fnExactSpend", unfollowed := true, recurses := true, apart := false }
def FnExactSpendSaid : Prop := fnExactSpendRow.holds Try.pinned (OpenSpec.ofChange fnExactSpendSpec)

/-- ITS FALSE NEIGHBOUR: 'it returns false'. Refute it at one input. -/
def fnExactSpendWrong : ChangeSpec := { name := "fnExactSpend", fn := fun _ => fun
  | [d1, d2] => { results := [.lit (.bool false)], args := [d1, d2] }
  | _ => none }
def FnExactSpendWrongFalsely : Prop := fnExactSpendRow.holds Try.pinned (OpenSpec.ofChange fnExactSpendWrong)

/-- 'laws.FnExactCopied': WHATEVER THE INPUT: true; the input reads as it did. -/
def fnExactCopiedSpec : ChangeSpec := { name := "fnExactCopied", fn := fun _ => fun
  | [d1, d2] => { results := [.lit (.bool true)], args := [d1, d2] }
  | _ => none }
def fnExactCopiedRow : OpenClaim := { program := "ytcnajmmpijhniaa", sum := "10bee96d916454f063f673861928fcb120b943778ea40b0b749008a2f9f2b11c", func := "loop.example/g00760/laws.FnExactCopied", spec := "fnExactCopied", apart := false }
def FnExactCopiedSaid : Prop := fnExactCopiedRow.holds Try.pinned (OpenSpec.ofChange fnExactCopiedSpec)

/-- ITS FALSE NEIGHBOUR: 'it returns false'. Refute it at one input. -/
def fnExactCopiedWrong : ChangeSpec := { name := "fnExactCopied", fn := fun _ => fun
  | [d1, d2] => { results := [.lit (.bool false)], args := [d1, d2] }
  | _ => none }
def FnExactCopiedWrongFalsely : Prop := fnExactCopiedRow.holds Try.pinned (OpenSpec.ofChange fnExactCopiedWrong)

/-- 'laws.FnExactReadKeeper': WHATEVER THE INPUT: true; the input reads as it did. -/
def fnExactReadKeeperSpec : ChangeSpec := { name := "fnExactReadKeeper", fn := fun _ => fun
  | [d1, d2] => { results := [.lit (.bool true)], args := [d1, d2] }
  | _ => none }
def fnExactReadKeeperRow : OpenClaim := { program := "ytcnajmmpijhniaa", sum := "10bee96d916454f063f673861928fcb120b943778ea40b0b749008a2f9f2b11c", func := "loop.example/g00760/laws.FnExactReadKeeper", spec := "fnExactReadKeeper", apart := false }
def FnExactReadKeeperSaid : Prop := fnExactReadKeeperRow.holds Try.pinned (OpenSpec.ofChange fnExactReadKeeperSpec)

/-- ITS FALSE NEIGHBOUR: 'it returns false'. Refute it at one input. -/
def fnExactReadKeeperWrong : ChangeSpec := { name := "fnExactReadKeeper", fn := fun _ => fun
  | [d1, d2] => { results := [.lit (.bool false)], args := [d1, d2] }
  | _ => none }
def FnExactReadKeeperWrongFalsely : Prop := fnExactReadKeeperRow.holds Try.pinned (OpenSpec.ofChange fnExactReadKeeperWrong)

/-- 'laws.FnExactWriteKeeper': WHATEVER THE INPUT: true; the input reads as it did. -/
def fnExactWriteKeeperSpec : ChangeSpec := { name := "fnExactWriteKeeper", fn := fun _ => fun
  | [d1, d2, d3] => { results := [.lit (.bool true)], args := [d1, d2, d3] }
  | _ => none }
def fnExactWriteKeeperRow : OpenClaim := { program := "ytcnajmmpijhniaa", sum := "10bee96d916454f063f673861928fcb120b943778ea40b0b749008a2f9f2b11c", func := "loop.example/g00760/laws.FnExactWriteKeeper", spec := "fnExactWriteKeeper", apart := false }
def FnExactWriteKeeperSaid : Prop := fnExactWriteKeeperRow.holds Try.pinned (OpenSpec.ofChange fnExactWriteKeeperSpec)

/-- ITS FALSE NEIGHBOUR: 'it returns false'. Refute it at one input. -/
def fnExactWriteKeeperWrong : ChangeSpec := { name := "fnExactWriteKeeper", fn := fun _ => fun
  | [d1, d2, d3] => { results := [.lit (.bool false)], args := [d1, d2, d3] }
  | _ => none }
def FnExactWriteKeeperWrongFalsely : Prop := fnExactWriteKeeperRow.holds Try.pinned (OpenSpec.ofChange fnExactWriteKeeperWrong)

/- THE SECOND FORM. 'bulk': how many values and letters a reading holds, each counted each time it is reached (what is shared counts as often as it is met; a slice's spare places count too). A statement '..UptoSaid' is the law's where the arguments, and the package variables that the reading takes, are together of bulk at most 1048576: NARROWER than '..Said'. Prove '..Said' where nothing that the law and all that it calls make is longer than what came in: it says more and counts as full. Else prove '..UptoSaid'. A law counts once. -/
mutual
def uptoBulk {H : Type} : DataW H → Nat
  | .lit (.string bytes) => bytes.length + 1
  | .lit _ => 1
  | .nil => 1
  | .ptr d => uptoBulk d + 1
  | .slice elems spare => uptoBulkAll elems + uptoBulkAll spare + 1
  | .agg parts => uptoBulkAll parts + 1
  | .iface _ d => uptoBulk d + 1
  | .map entries => uptoBulkEntries entries + 1
  | .held _ => 1
def uptoBulkAll {H : Type} : List (DataW H) → Nat
  | [] => 0
  | d :: r => uptoBulk d + uptoBulkAll r
def uptoBulkEntries {H : Type} : List (Lit × DataW H) → Nat
  | [] => 0
  | x :: r => uptoBulkEntry x + uptoBulkEntries r
def uptoBulkEntry {H : Type} : Lit × DataW H → Nat
  | (.string bytes, d) => bytes.length + uptoBulk d + 1
  | (_, d) => uptoBulk d + 1
 end
def uptoSmall : (H : Type) → List (DataW H) → Bool := fun _ ds => decide (uptoBulkAll ds ≤ 1048576)
def OpenSpec.upto (s : _root_.Go.ChangeSpec) : _root_.Go.OpenSpec := { _root_.Go.OpenSpec.ofChange s with cond := some uptoSmall }

/-- 'laws.FnOwner', WHERE WHAT IT READS IS OF BULK AT MOST 1048576: true; the input reads as it did. -/
def fnOwnerUptoRow : OpenClaim := { program := "ytcnajmmpijhniaa", sum := "10bee96d916454f063f673861928fcb120b943778ea40b0b749008a2f9f2b11c", func := "loop.example/g00760/laws.FnOwner", spec := "fnOwner", unfollowed := true, recurses := true, apart := false, narrowed := true }
def FnOwnerUptoSaid : Prop := fnOwnerUptoRow.holds Try.pinned (OpenSpec.upto fnOwnerSpec)

/-- 'laws.FnSpend', WHERE WHAT IT READS IS OF BULK AT MOST 1048576: true; the input reads as it did. -/
def fnSpendUptoRow : OpenClaim := { program := "ytcnajmmpijhniaa", sum := "10bee96d916454f063f673861928fcb120b943778ea40b0b749008a2f9f2b11c", func := "loop.example/g00760/laws.FnSpend", spec := "fnSpend", unfollowed := true, recurses := true, apart := false, narrowed := true }
def FnSpendUptoSaid : Prop := fnSpendUptoRow.holds Try.pinned (OpenSpec.upto fnSpendSpec)

/-- 'laws.FnCopied', WHERE WHAT IT READS IS OF BULK AT MOST 1048576: true; the input reads as it did. -/
def fnCopiedUptoRow : OpenClaim := { program := "ytcnajmmpijhniaa", sum := "10bee96d916454f063f673861928fcb120b943778ea40b0b749008a2f9f2b11c", func := "loop.example/g00760/laws.FnCopied", spec := "fnCopied", apart := false, narrowed := true }
def FnCopiedUptoSaid : Prop := fnCopiedUptoRow.holds Try.pinned (OpenSpec.upto fnCopiedSpec)

/-- 'laws.FnKeeper', WHERE WHAT IT READS IS OF BULK AT MOST 1048576: true; the input reads as it did. -/
def fnKeeperUptoRow : OpenClaim := { program := "ytcnajmmpijhniaa", sum := "10bee96d916454f063f673861928fcb120b943778ea40b0b749008a2f9f2b11c", func := "loop.example/g00760/laws.FnKeeper", spec := "fnKeeper", apart := false, narrowed := true }
def FnKeeperUptoSaid : Prop := fnKeeperUptoRow.holds Try.pinned (OpenSpec.upto fnKeeperSpec)

/-- 'laws.FnExactKeeperOk', WHERE WHAT IT READS IS OF BULK AT MOST 1048576: true; the input reads as it did. -/
def fnExactKeeperOkUptoRow : OpenClaim := { program := "ytcnajmmpijhniaa", sum := "10bee96d916454f063f673861928fcb120b943778ea40b0b749008a2f9f2b11c", func := "loop.example/g00760/laws.FnExactKeeperOk", spec := "fnExactKeeperOk", apart := false, narrowed := true }
def FnExactKeeperOkUptoSaid : Prop := fnExactKeeperOkUptoRow.holds Try.pinned (OpenSpec.upto fnExactKeeperOkSpec)

/-- 'laws.FnExactOwner', WHERE WHAT IT READS IS OF BULK AT MOST 1048576: true; the input reads as it did. -/
def fnExactOwnerUptoRow : OpenClaim := { program := "ytcnajmmpijhniaa", sum := "10bee96d916454f063f673861928fcb120b943778ea40b0b749008a2f9f2b11c", func := "loop.example/g00760/laws.FnExactOwner", spec := "fnExactOwner", unfollowed := true, recurses := true, apart := false, narrowed := true }
def FnExactOwnerUptoSaid : Prop := fnExactOwnerUptoRow.holds Try.pinned (OpenSpec.upto fnExactOwnerSpec)

/-- 'laws.FnExactSpend', WHERE WHAT IT READS IS OF BULK AT MOST 1048576: true; the input reads as it did. -/
def fnExactSpendUptoRow : OpenClaim := { program := "ytcnajmmpijhniaa", sum := "10bee96d916454f063f673861928fcb120b943778ea40b0b749008a2f9f2b11c", func := "loop.example/g00760/laws.FnExactSpend", spec := "fnExactSpend", unfollowed := true, recurses := true, apart := false, narrowed := true }
def FnExactSpendUptoSaid : Prop := fnExactSpendUptoRow.holds Try.pinned (OpenSpec.upto fnExactSpendSpec)

/-- 'laws.FnExactCopied', WHERE WHAT IT READS IS OF BULK AT MOST 1048576: true; the input reads as it did. -/
def fnExactCopiedUptoRow : OpenClaim := { program := "ytcnajmmpijhniaa", sum := "10bee96d916454f063f673861928fcb120b943778ea40b0b749008a2f9f2b11c", func := "loop.example/g00760/laws.FnExactCopied", spec := "fnExactCopied", apart := false, narrowed := true }
def FnExactCopiedUptoSaid : Prop := fnExactCopiedUptoRow.holds Try.pinned (OpenSpec.upto fnExactCopiedSpec)

/-- 'laws.FnExactReadKeeper', WHERE WHAT IT READS IS OF BULK AT MOST 1048576: true; the input reads as it did. -/
def fnExactReadKeeperUptoRow : OpenClaim := { program := "ytcnajmmpijhniaa", sum := "10bee96d916454f063f673861928fcb120b943778ea40b0b749008a2f9f2b11c", func := "loop.example/g00760/laws.FnExactReadKeeper", spec := "fnExactReadKeeper", apart := false, narrowed := true }
def FnExactReadKeeperUptoSaid : Prop := fnExactReadKeeperUptoRow.holds Try.pinned (OpenSpec.upto fnExactReadKeeperSpec)

/-- 'laws.FnExactWriteKeeper', WHERE WHAT IT READS IS OF BULK AT MOST 1048576: true; the input reads as it did. -/
def fnExactWriteKeeperUptoRow : OpenClaim := { program := "ytcnajmmpijhniaa", sum := "10bee96d916454f063f673861928fcb120b943778ea40b0b749008a2f9f2b11c", func := "loop.example/g00760/laws.FnExactWriteKeeper", spec := "fnExactWriteKeeper", apart := false, narrowed := true }
def FnExactWriteKeeperUptoSaid : Prop := fnExactWriteKeeperUptoRow.holds Try.pinned (OpenSpec.upto fnExactWriteKeeperSpec)

end Rows
end Go.Proofs.Ytcnajmmpijhniaa
