/-
  The contracts of the program's functions of chapter 6, together.
  Conditions: as each says.
-/
import Derived.Test.YthelaeejgppjhaaChM
import Derived.Test.YthelaeejgppjhaaChN
import Derived.Test.YthelaeejgppjhaaChD
namespace Go.Proofs.Ythelaeejgppjhaa
end Go.Proofs.Ythelaeejgppjhaa
