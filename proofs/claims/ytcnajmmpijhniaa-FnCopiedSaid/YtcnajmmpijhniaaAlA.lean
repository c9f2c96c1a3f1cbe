/-
  Contracts of the reckoning of notes (chapter 2): spec.With, spec.Nz, the methods with, has, withNz, carry of notes, impl.isHigh.
  Conditions: none.
-/
import Derived.Test.YtcnajmmpijhniaaBvB
import Derived.Test.YtcnajmmpijhniaaProg
import Derived.WalkKit
import Derived.ProofKit
import Derived.Lib.Hide
namespace Go.Proofs.Ytcnajmmpijhniaa
open Go.RowKit
end Go.Proofs.Ytcnajmmpijhniaa
