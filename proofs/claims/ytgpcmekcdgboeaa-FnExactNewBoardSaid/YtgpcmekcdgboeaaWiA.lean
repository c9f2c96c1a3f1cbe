/-
  Contracts of the model's functions on wires (chapter 7), and of the program's Vector and Taken.
  Conditions: none; old memory stays as it was.
-/
import Derived.Test.YtgpcmekcdgboeaaAlA
import Derived.Test.YtgpcmekcdgboeaaBel
namespace Go.Proofs.Ytgpcmekcdgboeaa
open Go.RowKit
def wiresV (n e i : Bool) : Value := .agg #[.bool n, .bool e, .bool i]
theorem wiresV_mk (n e i : Bool) : wiresV n e i = .agg #[.bool n, .bool e, .bool i] := rfl
theorem wires_size : (Try.prog.info? 43).map (·.size) = some 3 := by kernel_rfl
/-- Whether a fall is noted behind a sensing. -/
def senseE (n e nmi : Bool) : Bool := e || (nmi && !n)
/-- What is taken. -/
def takeN (e i : Bool) (p : Int) : Int := if e then 2 else if i && !(tst p 4) then 1 else 0
/-- Whither it leads. -/
def vecN (t : Int) : Int := if t = 2 then 65530 else if t = 3 then 65532 else 65534
end Go.Proofs.Ytgpcmekcdgboeaa
