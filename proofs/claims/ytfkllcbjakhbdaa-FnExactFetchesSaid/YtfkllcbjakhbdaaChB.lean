/-
  The walks of spec.ChipOk, spec.Asks and spec.TickChip (chapter 6).
  Conditions: the numbers are those of their kind; each walk leaves old memory as it was.
-/
import Derived.Test.YtfkllcbjakhbdaaChA
import Derived.Test.YtfkllcbjakhbdaaRgC
import Derived.Test.YtfkllcbjakhbdaaRow
namespace Go.Proofs.Ytfkllcbjakhbdaa
open Go.RowKit
theorem chipV_mk (c1 l1 : Int) (v1 ag : Bool) (c2 o2 : Int) (v2 : Bool) (pt dr fl ms : Int) : chipV ⟨c1, l1, v1, ag, c2, o2, v2, pt, dr, fl, ms⟩ = .agg #[.int .i64 c1, .int .i64 l1, .bool v1, .bool ag, .int .i64 c2, .int .i64 o2, .bool v2, .int .i64 pt, .int .i64 dr, .int .i64 fl, .int .i64 ms] := rfl
def zeroC : Array Value := #[.int .i64 0, .int .i64 0, .bool false, .bool false, .int .i64 0, .int .i64 0, .bool false, .int .i64 0, .int .i64 0, .int .i64 0, .int .i64 0]
end Go.Proofs.Ytfkllcbjakhbdaa
