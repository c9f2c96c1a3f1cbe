/-
  Contracts of the reckoning of notes (chapter 2): spec.With, spec.Nz, the methods with, has, withNz, carry of notes, impl.isHigh.
  Conditions: none.
-/
import Derived.Test.YtlcglekblhlhiaaBvB
import Derived.Test.YtlcglekblhlhiaaProg
import Derived.WalkKit
import Derived.ProofKit
import Derived.Lib.Hide
namespace Go.Proofs.Ytlcglekblhlhiaa
open Go.RowKit
theorem is_set (p f : Int) (w : World) :
    Calls Try.prog 36 #[.int .u8 p, .int .u8 f] w fun e w' => e = .returned (.bool (tst p f)) ∧ w = w' := by
  have H := Lib.hid (tst_u8 p f)
  go_enter Try.func36, Try.ntmps36
  go_wp2
  go_ret
  exact ⟨by rw [← H.out]; rfl, rfl⟩
end Go.Proofs.Ytlcglekblhlhiaa
