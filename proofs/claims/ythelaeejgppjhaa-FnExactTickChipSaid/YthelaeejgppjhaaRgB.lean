/-
  Contracts of registers (chapter 3): isByte, isAddress, kept, areKept, Pushed, Pulled, RegsOk of both packages.
  Conditions: none.
-/
import Derived.Test.YthelaeejgppjhaaRgA
import Derived.Test.YthelaeejgppjhaaAlA
import Derived.Outline
namespace Go.Proofs.Ythelaeejgppjhaa
open Go.RowKit
theorem is_byte (n : Int) (w : World) : Calls Try.prog 28 #[.int .i64 n] w fun e w' => e = .returned (.bool (isB n)) ∧ w = w' := by
  cases h : isB n
  · have h' := isB_no h
    by_cases h0 : 0 ≤ n
    · have h1 : ¬ n ≤ 255 := by omega
      clear h h'
      go_enter Try.func28, Try.ntmps28
      go_wp2
      go_ret
      exact ⟨rfl, rfl⟩
    · clear h h'
      go_enter Try.func28, Try.ntmps28
      go_wp2
      go_ret
      exact ⟨rfl, rfl⟩
  · obtain ⟨h0, h1⟩ := isB_yes h
    clear h
    go_enter Try.func28, Try.ntmps28
    go_wp2
    go_ret
    exact ⟨rfl, rfl⟩
/-- What is put on the stack. -/
def pushI (p : Int) (b : Bool) : Int := wI (wI p 32 true) 16 b
theorem keptI_mod (p : Int) : keptI (p % 256) = keptI p := by unfold keptI; rw [wI_mod]
end Go.Proofs.Ythelaeejgppjhaa
