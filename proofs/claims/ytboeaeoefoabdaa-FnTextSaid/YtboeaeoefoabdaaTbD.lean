/-
  The walks of spec.l04Is and spec.ModeSize: whether a text is one of a list of words, and how many bytes a mode has.
  Conditions: none; each walk leaves old memory as it was.
-/
import Derived.Test.YtboeaeoefoabdaaWsC
import Derived.Test.YtboeaeoefoabdaaTwo
import Derived.Test.YtboeaeoefoabdaaTbC
namespace Go.Proofs.Ytboeaeoefoabdaa
open Go.RowKit
/-- The argument of an instruction. -/
def opV (a b : ByteArray) : Value := .agg #[.string a, .string b]
end Go.Proofs.Ytboeaeoefoabdaa
