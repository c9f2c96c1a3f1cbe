/-
  The walk of spec.Load: the memory that the facts on memory say.
  Conditions: the text is no longer than an int counts; the walk leaves old memory as it was.
-/
import Derived.Test.YtgpcmekcdgboeaaMmC
namespace Go.Proofs.Ytgpcmekcdgboeaa
open Go.RowKit Go.Deep Go.WideShapes Go.ChangeShapes
end Go.Proofs.Ytgpcmekcdgboeaa
