/-
  Contracts of the reckoning of notes (chapter 2): spec.With, spec.Nz, the methods with, has, withNz, carry of notes, impl.isHigh.
  Conditions: none.
-/
import Derived.Test.YtgpcmekcdgboeaaBvB
import Derived.Test.YtgpcmekcdgboeaaProg
import Derived.WalkKit
import Derived.ProofKit
import Derived.Lib.Hide
namespace Go.Proofs.Ytgpcmekcdgboeaa
open Go.RowKit
theorem with_flag (p f : Int) (on : Bool) (w : World) :
    Calls Try.prog 47 #[.int .u8 p, .int .u8 f, .bool on] w fun e w' => e = .returned (.int .u8 (wI p f on)) ∧ w = w' := by
  cases on
  · have H := Lib.hid (wI_u8_off p f)
    go_enter Try.func47, Try.ntmps47
    go_wp2
    go_ret
    exact ⟨by rw [H.out]; rfl, rfl⟩
  · have H := Lib.hid (wI_u8_on p f)
    go_enter Try.func47, Try.ntmps47
    go_wp2
    go_ret
    exact ⟨by rw [H.out]; rfl, rfl⟩
end Go.Proofs.Ytgpcmekcdgboeaa
