/-
  Contracts of the reckoning of notes (chapter 2): spec.With, spec.Nz, the methods with, has, withNz, carry of notes, impl.isHigh.
  Conditions: none.
-/
import Derived.Test.YtfeifcffgachoaaBvB
import Derived.Test.YtfeifcffgachoaaProg
import Derived.WalkKit
import Derived.ProofKit
import Derived.Lib.Hide
namespace Go.Proofs.Ytfeifcffgachoaa
open Go.RowKit
theorem spec_with (p f : Int) (on : Bool) (w : World) :
    Calls Try.prog 73 #[.int .i64 p, .int .i64 f, .bool on] w fun e w' => e = .returned (.int .i64 (wI p f on)) ∧ w = w' := by
  cases on
  · have H := Lib.hid (wI_spec_off p f)
    go_enter Try.func73, Try.ntmps73
    go_wp2
    go_ret
    exact ⟨by rw [H.out]; rfl, rfl⟩
  · have H := Lib.hid (wI_spec_on p f)
    go_enter Try.func73, Try.ntmps73
    go_wp2
    go_ret
    exact ⟨by rw [H.out]; rfl, rfl⟩
theorem with_flag (p f : Int) (on : Bool) (w : World) :
    Calls Try.prog 90 #[.int .u8 p, .int .u8 f, .bool on] w fun e w' => e = .returned (.int .u8 (wI p f on)) ∧ w = w' := by
  cases on
  · have H := Lib.hid (wI_u8_off p f)
    go_enter Try.func90, Try.ntmps90
    go_wp2
    go_ret
    exact ⟨by rw [H.out]; rfl, rfl⟩
  · have H := Lib.hid (wI_u8_on p f)
    go_enter Try.func90, Try.ntmps90
    go_wp2
    go_ret
    exact ⟨by rw [H.out]; rfl, rfl⟩
theorem is_set (p f : Int) (w : World) :
    Calls Try.prog 44 #[.int .u8 p, .int .u8 f] w fun e w' => e = .returned (.bool (tst p f)) ∧ w = w' := by
  have H := Lib.hid (tst_u8 p f)
  go_enter Try.func44, Try.ntmps44
  go_wp2
  go_ret
  exact ⟨by rw [← H.out]; rfl, rfl⟩
theorem carry_of (p : Int) (w : World) :
    Calls Try.prog 95 #[.int .u8 p] w fun e w' => e = .returned (.int .u8 (cI p)) ∧ w = w' := by
  have hs := is_set p 1
  have H := Lib.hid (cI_tst p)
  go_enter Try.func95, Try.ntmps95
  go_wp2_with (go_at_call 44; refine (hs _).mono ?_; rintro e w' ⟨rfl, rfl⟩)
  all_goals go_ret
  all_goals (rename_i ht; rw [ht] at H; exact ⟨by rw [H.out]; rfl, rfl⟩)
theorem spec_nz (p v : Int) (w : World) :
    Calls Try.prog 37 #[.int .i64 p, .int .i64 v] w fun e w' => e = .returned (.int .i64 (nzI p v)) ∧ w = w' := by
  have hw := spec_with
  have HW := Lib.hid hw
  clear hw
  go_enter Try.func37, Try.ntmps37
  go_wp2_with (go_at_call 73; refine (HW.out _ _ _ _).mono ?_; rintro e w' ⟨rfl, rfl⟩)
  go_ret
  exact ⟨by unfold nzI; rw [← tst_i64 v 128 (by omega), ← and255_0]; rfl, rfl⟩
theorem is_high (v : Int) (w : World) :
    Calls Try.prog 100 #[.int .u8 v] w fun e w' => e = .returned (.bool (tst v 128)) ∧ w = w' := by
  have H := Lib.hid (tst_u8 v 128)
  go_enter Try.func100, Try.ntmps100
  go_wp2
  go_ret
  exact ⟨by rw [← H.out]; rfl, rfl⟩
theorem with_nz (p v : Int) (hv : 0 ≤ v ∧ v < 256) (w : World) :
    Calls Try.prog 89 #[.int .u8 p, .int .u8 v] w fun e w' => e = .returned (.int .u8 (nzI p v)) ∧ w = w' := by
  have hw := with_flag
  have hs := is_high v
  have H := Lib.hid (byte_0 v hv)
  have HW := Lib.hid hw
  clear hw
  go_enter Try.func89, Try.ntmps89
  go_wp2_with (first
    | (go_at_call 100; refine (hs _).mono ?_; rintro e w' ⟨rfl, rfl⟩)
    | (go_at_call 90; refine (HW.out _ _ _ _).mono ?_; rintro e w' ⟨rfl, rfl⟩))
  go_ret
  exact ⟨by unfold nzI; rw [← H.out]; rfl, rfl⟩
end Go.Proofs.Ytfeifcffgachoaa
