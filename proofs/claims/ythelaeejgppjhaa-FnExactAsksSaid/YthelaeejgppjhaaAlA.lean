/-
  Contracts of the reckoning of notes (chapter 2): spec.With, spec.Nz, the methods with, has, withNz, carry of notes, impl.isHigh.
  Conditions: none.
-/
import Derived.Test.YthelaeejgppjhaaBvB
import Derived.Test.YthelaeejgppjhaaProg
import Derived.WalkKit
import Derived.ProofKit
import Derived.Lib.Hide
namespace Go.Proofs.Ythelaeejgppjhaa
open Go.RowKit
end Go.Proofs.Ythelaeejgppjhaa
