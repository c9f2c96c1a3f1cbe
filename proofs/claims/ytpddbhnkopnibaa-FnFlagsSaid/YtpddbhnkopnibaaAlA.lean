/-
  Contracts of the reckoning of notes (chapter 2): spec.With, spec.Nz, the methods with, has, withNz, carry of notes, impl.isHigh.
  Conditions: none.
-/
import Derived.Test.YtpddbhnkopnibaaBvB
import Derived.Test.YtpddbhnkopnibaaProg
import Derived.WalkKit
import Derived.ProofKit
import Derived.Lib.Hide
namespace Go.Proofs.Ytpddbhnkopnibaa
open Go.RowKit
theorem spec_with (p f : Int) (on : Bool) (w : World) :
    Calls Try.prog 39 #[.int .i64 p, .int .i64 f, .bool on] w fun e w' => e = .returned (.int .i64 (wI p f on)) ∧ w = w' := by
  cases on
  · have H := Lib.hid (wI_spec_off p f)
    go_enter Try.func39, Try.ntmps39
    go_wp2
    go_ret
    exact ⟨by rw [H.out]; rfl, rfl⟩
  · have H := Lib.hid (wI_spec_on p f)
    go_enter Try.func39, Try.ntmps39
    go_wp2
    go_ret
    exact ⟨by rw [H.out]; rfl, rfl⟩
theorem with_flag (p f : Int) (on : Bool) (w : World) :
    Calls Try.prog 37 #[.int .u8 p, .int .u8 f, .bool on] w fun e w' => e = .returned (.int .u8 (wI p f on)) ∧ w = w' := by
  cases on
  · have H := Lib.hid (wI_u8_off p f)
    go_enter Try.func37, Try.ntmps37
    go_wp2
    go_ret
    exact ⟨by rw [H.out]; rfl, rfl⟩
  · have H := Lib.hid (wI_u8_on p f)
    go_enter Try.func37, Try.ntmps37
    go_wp2
    go_ret
    exact ⟨by rw [H.out]; rfl, rfl⟩
theorem is_set (p f : Int) (w : World) :
    Calls Try.prog 50 #[.int .u8 p, .int .u8 f] w fun e w' => e = .returned (.bool (tst p f)) ∧ w = w' := by
  have H := Lib.hid (tst_u8 p f)
  go_enter Try.func50, Try.ntmps50
  go_wp2
  go_ret
  exact ⟨by rw [← H.out]; rfl, rfl⟩
end Go.Proofs.Ytpddbhnkopnibaa
