/-
  The exact law of OpText (chapter 13).
  Conditions: none; old memory stays as it was.
-/
import Derived.Test.YtboeaeoefoabdaaAsC
namespace Go.Proofs.Ytboeaeoefoabdaa
open Go.RowKit Go.Deep Go.WideShapes Go.ChangeShapes
set_option maxRecDepth 100000 in
set_option maxHeartbeats 4000000 in
theorem exact_OpText (n lo hi : Int) (w : World) : Calls Try.prog 4 #[.int .i64 n, .int .i64 lo, .int .i64 hi] w fun e w' => e = .returned (.bool true) ∧ Below w.heap.size w w' := by
  have hs := fun w => spec_OpText n lo hi w
  have hi2 := fun w => impl_OpText n lo hi w
  generalize opT (opOf n).1 (opOf n).2 lo hi = X at hs hi2
  replace hs := Lib.hid hs
  replace hi2 := Lib.hid hi2
  go_enter Try.func4, Try.ntmps4
  go_wp2_with (first
    | (go_at_call 8; (with_reducible refine (hs.out _).mono ?_); rintro e w1 ⟨rfl, hb1⟩)
    | (go_at_call 7; (with_reducible refine (hi2.out _).mono ?_); rintro e w2 ⟨rfl, hb2⟩))
  go_ret
  exact ⟨rfl, below_then hb1 hb2⟩
end Go.Proofs.Ytboeaeoefoabdaa
