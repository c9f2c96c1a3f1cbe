/-
  Contracts of RegsOk of both packages (chapter 3).
  Conditions: none.
-/
import Derived.Test.YtcnajmmpijhniaaRgB
import Derived.Test.YtcnajmmpijhniaaHxB
import Derived.Deep.QuietTactic
import Derived.BigQuiet
namespace Go.Proofs.Ytcnajmmpijhniaa
open Go.RowKit
def regsV (a x y s p pc : Int) : Value := .agg #[.int .i64 a, .int .i64 x, .int .i64 y, .int .i64 s, .int .i64 p, .int .i64 pc]
theorem spec_byte (n : Int) (w : World) : Calls Try.prog 44 #[.int .i64 n] w fun e w' => e = .returned (.bool (isB n)) ∧ w = w' := by
  cases h : isB n
  · have HI := Lib.hid (hx_in_no n 0 255 w (isB_no h))
    clear h
    go_enter Try.func44, Try.ntmps44
    go_wp2_with (go_at_call 42; refine HI.out.mono ?_; rintro e w' ⟨rfl, rfl⟩)
    go_ret
    exact ⟨rfl, rfl⟩
  · obtain ⟨h0, h1⟩ := isB_yes h
    have HI := Lib.hid (hx_in_yes n 0 255 w h0 h1)
    clear h
    go_enter Try.func44, Try.ntmps44
    go_wp2_with (go_at_call 42; refine HI.out.mono ?_; rintro e w' ⟨rfl, rfl⟩)
    go_ret
    exact ⟨rfl, rfl⟩
theorem spec_addr (n : Int) (w : World) : Calls Try.prog 42 #[.int .i64 n, .int .i64 0, .int .i64 65535] w fun e w' => e = .returned (.bool (isAd n)) ∧ w = w' := by
  cases h : isAd n
  · exact hx_in_no n 0 65535 w (isAd_no h)
  · exact hx_in_yes n 0 65535 w (isAd_yes h).1 (isAd_yes h).2
theorem keptB_mod (p : Int) : keptB (p % 256) = keptB p := by unfold keptB; rw [tst_mod, tst_mod]
end Go.Proofs.Ytcnajmmpijhniaa
