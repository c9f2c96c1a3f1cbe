/-
  Contracts of RegsOk of both packages (chapter 3).
  Conditions: none.
-/
import Derived.Test.YtgpcmekcdgboeaaRgB
import Derived.Test.YtgpcmekcdgboeaaHxB
import Derived.Deep.QuietTactic
import Derived.BigQuiet
namespace Go.Proofs.Ytgpcmekcdgboeaa
open Go.RowKit
def regsV (a x y s p pc : Int) : Value := .agg #[.int .i64 a, .int .i64 x, .int .i64 y, .int .i64 s, .int .i64 p, .int .i64 pc]
theorem spec_byte (n : Int) (w : World) : Calls Try.prog 18 #[.int .i64 n] w fun e w' => e = .returned (.bool (isB n)) ∧ w = w' := by
  cases h : isB n
  · have HI := Lib.hid (hx_in_no n 0 255 w (isB_no h))
    clear h
    go_enter Try.func18, Try.ntmps18
    go_wp2_with (go_at_call 19; refine HI.out.mono ?_; rintro e w' ⟨rfl, rfl⟩)
    go_ret
    exact ⟨rfl, rfl⟩
  · obtain ⟨h0, h1⟩ := isB_yes h
    have HI := Lib.hid (hx_in_yes n 0 255 w h0 h1)
    clear h
    go_enter Try.func18, Try.ntmps18
    go_wp2_with (go_at_call 19; refine HI.out.mono ?_; rintro e w' ⟨rfl, rfl⟩)
    go_ret
    exact ⟨rfl, rfl⟩
theorem spec_addr (n : Int) (w : World) : Calls Try.prog 19 #[.int .i64 n, .int .i64 0, .int .i64 65535] w fun e w' => e = .returned (.bool (isAd n)) ∧ w = w' := by
  cases h : isAd n
  · exact hx_in_no n 0 65535 w (isAd_no h)
  · exact hx_in_yes n 0 65535 w (isAd_yes h).1 (isAd_yes h).2
theorem keptB_mod (p : Int) : keptB (p % 256) = keptB p := by unfold keptB; rw [tst_mod, tst_mod]
set_option maxHeartbeats 1000000 in
theorem impl_regsOk (a x y s p pc : Int) (w : World) : Calls Try.prog 40 #[regsV a x y s p pc] w fun e w' => e = .returned (.bool (okR a x y s p pc)) ∧ Below w.heap.size w w' := by
  have HB := Lib.hid is_byte
  have HA := Lib.hid is_addr
  have HK := Lib.hid (fun w => are_kept (p % 256) (by omega) (by omega) w)
  have H : Hid (okR a x y s p pc = (isB a && isB x && isB y && isB s && isB p && keptB p && isAd pc)) := Lib.hid rfl
  unfold regsV
  go_enter Try.func40, Try.ntmps40
  go_wp2_with (first
    | (go_at_call 28; refine (HB.out _ _).mono ?_; rintro e w' ⟨rfl, rfl⟩)
    | (go_at_call 43; refine (HA.out _ _).mono ?_; rintro e w' ⟨rfl, rfl⟩)
    | (go_at_call 45; refine (HK.out _).mono ?_; rintro e w' ⟨rfl, rfl⟩; rw [keptB_mod]))
  all_goals go_ret
  all_goals exact ⟨by rw [H.out]; simp [*], (Below.refl _ _).alloc (Nat.le_refl _) _⟩
set_option maxHeartbeats 1000000 in
theorem spec_regsOk (a x y s p pc : Int) (w : World) : Calls Try.prog 37 #[regsV a x y s p pc] w fun e w' => e = .returned (.bool (okR a x y s p pc)) ∧ Below w.heap.size w w' := by
  have HB := Lib.hid spec_byte
  have HA := Lib.hid spec_addr
  have h32 := spec_u p
  have h16 := spec_b p
  have H : Hid (okR a x y s p pc = (isB a && isB x && isB y && isB s && isB p && (tst p 32 && !tst p 16) && isAd pc)) := Lib.hid rfl
  unfold regsV
  cases t32 : tst p 32 <;> cases t16 : tst p 16
  all_goals
    rw [t32] at h32
    rw [t16] at h16
    have H32 := Lib.hid t32
    have H16 := Lib.hid t16
    clear t32 t16
    go_enter Try.func37, Try.ntmps37
    go_wp2_with (first
      | (go_at_call 18; refine (HB.out _ _).mono ?_; rintro e w' ⟨rfl, rfl⟩)
      | (go_at_call 19; refine (HA.out _ _).mono ?_; rintro e w' ⟨rfl, rfl⟩))
    all_goals go_ret
    all_goals exact ⟨by rw [H.out, H32.out, H16.out]; simp [*], (Below.refl _ _).alloc (Nat.le_refl _) _⟩
end Go.Proofs.Ytgpcmekcdgboeaa
