/-
  Contracts of the reckoning of notes (chapter 2): spec.With, spec.Nz, impl.withFlag, impl.withNz, impl.isSet, impl.carryOf, impl.With, impl.Nz.
  Conditions: none.
-/
import Derived.Test.YtifafpekhdnmbaaBvB
import Derived.Test.YtifafpekhdnmbaaProg
import Derived.WalkKit
import Derived.ProofKit
import Derived.Lib.Hide
namespace Go.Proofs.Ytifafpekhdnmbaa
open Go.RowKit
theorem spec_with (p f : Int) (on : Bool) (w : World) :
    Calls Try.prog 18 #[.int .i64 p, .int .i64 f, .bool on] w fun e w' => e = .returned (.int .i64 (wI p f on)) ∧ w = w' := by
  cases on
  · have H := Lib.hid (wI_spec_off p f)
    go_enter Try.func18, Try.ntmps18
    go_wp2
    go_ret
    exact ⟨by rw [H.out]; rfl, rfl⟩
  · have H := Lib.hid (wI_spec_on p f)
    go_enter Try.func18, Try.ntmps18
    go_wp2
    go_ret
    exact ⟨by rw [H.out]; rfl, rfl⟩
theorem with_flag (p f : Int) (on : Bool) (w : World) :
    Calls Try.prog 43 #[.int .u8 p, .int .u8 f, .bool on] w fun e w' => e = .returned (.int .u8 (wI p f on)) ∧ w = w' := by
  cases on
  · have H := Lib.hid (wI_u8_off p f)
    go_enter Try.func43, Try.ntmps43
    go_wp2
    go_ret
    exact ⟨by rw [H.out]; rfl, rfl⟩
  · have H := Lib.hid (wI_u8_on p f)
    go_enter Try.func43, Try.ntmps43
    go_wp2
    go_ret
    exact ⟨by rw [H.out]; rfl, rfl⟩
theorem is_set (p f : Int) (w : World) :
    Calls Try.prog 47 #[.int .u8 p, .int .u8 f] w fun e w' => e = .returned (.bool (tst p f)) ∧ w = w' := by
  have H := Lib.hid (tst_u8 p f)
  go_enter Try.func47, Try.ntmps47
  go_wp2
  go_ret
  exact ⟨by rw [← H.out]; rfl, rfl⟩
theorem carry_of (p : Int) (w : World) :
    Calls Try.prog 55 #[.int .u8 p] w fun e w' => e = .returned (.int .u8 (cI p)) ∧ w = w' := by
  have hs := is_set p 1
  have H := Lib.hid (cI_tst p)
  go_enter Try.func55, Try.ntmps55
  go_wp2_with (go_at_call 47; refine (hs _).mono ?_; rintro e w' ⟨rfl, rfl⟩)
  all_goals go_ret
  all_goals (rename_i ht; rw [ht] at H; exact ⟨by rw [H.out]; rfl, rfl⟩)
theorem spec_nz (p v : Int) (w : World) :
    Calls Try.prog 21 #[.int .i64 p, .int .i64 v] w fun e w' => e = .returned (.int .i64 (nzI p v)) ∧ w = w' := by
  have hw := spec_with
  have HW := Lib.hid hw
  clear hw
  go_enter Try.func21, Try.ntmps21
  go_wp2_with (go_at_call 18; refine (HW.out _ _ _ _).mono ?_; rintro e w' ⟨rfl, rfl⟩)
  go_ret
  exact ⟨by unfold nzI; rw [← tst_i64 v 128 (by omega), ← and255_0]; rfl, rfl⟩
theorem with_nz (p v : Int) (hv : 0 ≤ v ∧ v < 256) (w : World) :
    Calls Try.prog 44 #[.int .u8 p, .int .u8 v] w fun e w' => e = .returned (.int .u8 (nzI p v)) ∧ w = w' := by
  have hw := with_flag
  have hs := is_set v 128
  have H := Lib.hid (byte_0 v hv)
  have HW := Lib.hid hw
  clear hw
  go_enter Try.func44, Try.ntmps44
  go_wp2_with (first
    | (go_at_call 47; refine (hs _).mono ?_; rintro e w' ⟨rfl, rfl⟩)
    | (go_at_call 43; refine (HW.out _ _ _ _).mono ?_; rintro e w' ⟨rfl, rfl⟩))
  go_ret
  exact ⟨by unfold nzI; rw [← H.out]; rfl, rfl⟩
end Go.Proofs.Ytifafpekhdnmbaa
