/-
  Contracts of registers (chapter 3): isByte, isAddress, kept, areKept, Pushed, Pulled, RegsOk of both packages.
  Conditions: none.
-/
import Derived.Test.YtgpcmekcdgboeaaRgA
import Derived.Test.YtgpcmekcdgboeaaAlA
import Derived.Outline
namespace Go.Proofs.Ytgpcmekcdgboeaa
open Go.RowKit
theorem is_byte (n : Int) (w : World) : Calls Try.prog 28 #[.int .i64 n] w fun e w' => e = .returned (.bool (isB n)) ∧ w = w' := by
  cases h : isB n
  · have h' := isB_no h
    by_cases h0 : 0 ≤ n
    · have h1 : ¬ n ≤ 255 := by omega
      clear h h'
      go_enter Try.func28, Try.ntmps28
      go_wp2
      go_ret
      exact ⟨rfl, rfl⟩
    · clear h h'
      go_enter Try.func28, Try.ntmps28
      go_wp2
      go_ret
      exact ⟨rfl, rfl⟩
  · obtain ⟨h0, h1⟩ := isB_yes h
    clear h
    go_enter Try.func28, Try.ntmps28
    go_wp2
    go_ret
    exact ⟨rfl, rfl⟩
theorem is_addr (n : Int) (w : World) : Calls Try.prog 43 #[.int .i64 n] w fun e w' => e = .returned (.bool (isAd n)) ∧ w = w' := by
  cases h : isAd n
  · have h' := isAd_no h
    by_cases h0 : 0 ≤ n
    · have h1 : ¬ n ≤ 65535 := by omega
      clear h h'
      go_enter Try.func43, Try.ntmps43
      go_wp2
      go_ret
      exact ⟨rfl, rfl⟩
    · clear h h'
      go_enter Try.func43, Try.ntmps43
      go_wp2
      go_ret
      exact ⟨rfl, rfl⟩
  · obtain ⟨h0, h1⟩ := isAd_yes h
    clear h
    go_enter Try.func43, Try.ntmps43
    go_wp2
    go_ret
    exact ⟨rfl, rfl⟩
theorem kept_any (p : Int) (w : World) : Calls Try.prog 46 #[.int .u8 p] w fun e w' => e = .returned (.int .u8 (keptI p)) ∧ w = w' := by
  have HW := Lib.hid with_flag
  go_enter Try.func46, Try.ntmps46
  go_wp2_with (go_at_call 47; refine (HW.out _ _ _ _).mono ?_; rintro e w' ⟨rfl, rfl⟩)
  go_ret
  exact ⟨rfl, rfl⟩
theorem are_kept (p : Int) (h0 : 0 ≤ p) (h1 : p < 256) (w : World) : Calls Try.prog 45 #[.int .u8 p] w fun e w' => e = .returned (.bool (keptB p)) ∧ w = w' := by
  have HK := Lib.hid kept_any
  have H := Lib.hid (kept_same p h0 h1)
  go_enter Try.func45, Try.ntmps45
  go_wp2_with (go_at_call 46; refine (HK.out _ _).mono ?_; rintro e w' ⟨rfl, rfl⟩)
  go_ret
  exact ⟨by rw [← H.out]; rfl, rfl⟩
/-- What is put on the stack. -/
def pushI (p : Int) (b : Bool) : Int := wI (wI p 32 true) 16 b
theorem keptI_mod (p : Int) : keptI (p % 256) = keptI p := by unfold keptI; rw [wI_mod]
end Go.Proofs.Ytgpcmekcdgboeaa
