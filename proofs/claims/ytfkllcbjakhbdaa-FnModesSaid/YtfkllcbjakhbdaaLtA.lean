/-
  The walk of the law FnTable: it returns true, whatever is drawn.
  Conditions: none.
-/
import Derived.Test.YtfkllcbjakhbdaaTbG
import Derived.Test.YtfkllcbjakhbdaaTbI
namespace Go.Proofs.Ytfkllcbjakhbdaa
open Go.RowKit
theorem jam_list : jamN.toList = [74, 65, 77] := by rw [ByteArray.toList_eq]; rfl
end Go.Proofs.Ytfkllcbjakhbdaa
