/-
  Contracts of registers (chapter 3): isByte, isAddress, kept, areKept, Pushed, Pulled, RegsOk of both packages.
  Conditions: none.
-/
import Derived.Test.YtcnajmmpijhniaaRgA
import Derived.Test.YtcnajmmpijhniaaAlA
import Derived.Outline
namespace Go.Proofs.Ytcnajmmpijhniaa
open Go.RowKit
theorem is_byte (n : Int) (w : World) : Calls Try.prog 41 #[.int .i64 n] w fun e w' => e = .returned (.bool (isB n)) ∧ w = w' := by
  cases h : isB n
  · have h' := isB_no h
    by_cases h0 : 0 ≤ n
    · have h1 : ¬ n ≤ 255 := by omega
      clear h h'
      go_enter Try.func41, Try.ntmps41
      go_wp2
      go_ret
      exact ⟨rfl, rfl⟩
    · clear h h'
      go_enter Try.func41, Try.ntmps41
      go_wp2
      go_ret
      exact ⟨rfl, rfl⟩
  · obtain ⟨h0, h1⟩ := isB_yes h
    clear h
    go_enter Try.func41, Try.ntmps41
    go_wp2
    go_ret
    exact ⟨rfl, rfl⟩
theorem is_addr (n : Int) (w : World) : Calls Try.prog 40 #[.int .i64 n] w fun e w' => e = .returned (.bool (isAd n)) ∧ w = w' := by
  cases h : isAd n
  · have h' := isAd_no h
    by_cases h0 : 0 ≤ n
    · have h1 : ¬ n ≤ 65535 := by omega
      clear h h'
      go_enter Try.func40, Try.ntmps40
      go_wp2
      go_ret
      exact ⟨rfl, rfl⟩
    · clear h h'
      go_enter Try.func40, Try.ntmps40
      go_wp2
      go_ret
      exact ⟨rfl, rfl⟩
  · obtain ⟨h0, h1⟩ := isAd_yes h
    clear h
    go_enter Try.func40, Try.ntmps40
    go_wp2
    go_ret
    exact ⟨rfl, rfl⟩
/-- What is put on the stack. -/
def pushI (p : Int) (b : Bool) : Int := wI (wI p 32 true) 16 b
theorem keptI_mod (p : Int) : keptI (p % 256) = keptI p := by unfold keptI; rw [wI_mod]
end Go.Proofs.Ytcnajmmpijhniaa
