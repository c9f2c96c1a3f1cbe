/-
  Contracts of the reckoning of notes (chapter 2): spec.With, spec.Nz, the methods with, has, withNz, carry of notes, impl.isHigh.
  Conditions: none.
-/
import Derived.Test.YtboeaeoefoabdaaDoorBvB
import Derived.Test.YtboeaeoefoabdaaDoorProg
import Derived.WalkKit
import Derived.ProofKit
import Derived.Lib.Hide
namespace Go.Proofs.YtboeaeoefoabdaaDoor
open Go.RowKit
end Go.Proofs.YtboeaeoefoabdaaDoor
