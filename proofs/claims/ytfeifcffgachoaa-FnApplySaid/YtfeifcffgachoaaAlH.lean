/-
  Contracts of impl.With, impl.Nz (chapter 2).
  Conditions: none.
-/
import Derived.Test.YtfeifcffgachoaaAlA
namespace Go.Proofs.Ytfeifcffgachoaa
open Go.RowKit
theorem impl_with (p f : Int) (on : Bool) (w : World) :
    Calls Try.prog 71 #[.int .i64 p, .int .i64 f, .bool on] w fun e w' => e = .returned (.int .i64 (wI p f on)) ∧ w = w' := by
  have HW := Lib.hid with_flag
  have hb := wI_bd p f on
  go_enter Try.func71, Try.ntmps71
  go_wp2_with (go_at_call 90; refine (HW.out _ _ _ _).mono ?_; rintro e w' ⟨rfl, rfl⟩; rw [wI_mod, wI_mod'])
  go_ret
  exact ⟨rfl, rfl⟩
theorem impl_nz (p v : Int) (w : World) :
    Calls Try.prog 85 #[.int .i64 p, .int .i64 v] w fun e w' => e = .returned (.int .i64 (nzI p v)) ∧ w = w' := by
  have HW := Lib.hid with_nz
  have hb := nzI_bd p v
  go_enter Try.func85, Try.ntmps85
  go_wp2_with (go_at_call 89; refine (HW.out _ _ (by omega) _).mono ?_; rintro e w' ⟨rfl, rfl⟩; rw [nzI_mod, nzI_mod'])
  go_ret
  exact ⟨rfl, rfl⟩
end Go.Proofs.Ytfeifcffgachoaa
