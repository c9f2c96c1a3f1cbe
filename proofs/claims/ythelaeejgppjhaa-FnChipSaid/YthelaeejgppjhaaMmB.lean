/-
  The walks of spec.Where, spec.MemOk, spec.l05At and spec.Peek: what the facts on memory say.
  Conditions: none; each walk leaves old memory as it was.
-/
import Derived.Test.YthelaeejgppjhaaProg
import Derived.Test.YthelaeejgppjhaaMmA
import Derived.Test.YthelaeejgppjhaaTwo
import Derived.WalkKit
import Derived.ProofKit
import Derived.Handy
import Derived.Lib.Hide
namespace Go.Proofs.Ythelaeejgppjhaa
open Go.RowKit
/-- A memory as a value. -/
def memV (r o : ByteArray) : Value := .agg #[.string r, .string o]
end Go.Proofs.Ythelaeejgppjhaa
