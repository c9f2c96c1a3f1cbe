/-
  The walks of both KeeperOk (chapter 8).
  Conditions: none; each walk leaves old memory as it was.
-/
import Derived.Test.YtfkllcbjakhbdaaKpA
import Derived.Test.YtfkllcbjakhbdaaChJ
import Derived.Test.YtfkllcbjakhbdaaHxS
namespace Go.Proofs.Ytfkllcbjakhbdaa
open Go.RowKit
theorem spec_up (n m : Int) (w : World) : Calls Try.prog 30 #[.int .i64 n, .int .i64 0, .int .i64 m] w fun e w' => e = .returned (.bool (isUp n m)) ∧ w = w' := by
  cases h : isUp n m
  · have h' := isUp_no h
    refine (hx_in_no n 0 m w (by omega)).mono ?_
    rintro e w' ⟨rfl, rfl⟩
    exact ⟨rfl, rfl⟩
  · have h' := isUp_yes h
    refine (hx_in_yes n 0 m w (by omega) (by omega)).mono ?_
    rintro e w' ⟨rfl, rfl⟩
    exact ⟨rfl, rfl⟩
theorem is_up (n m : Int) (w : World) : Calls Try.prog 33 #[.int .i64 n, .int .i64 m] w fun e w' => e = .returned (.bool (isUp n m)) ∧ w = w' := by
  cases h : isUp n m
  · have h' := isUp_no h
    by_cases h0 : 0 ≤ n
    · have h1 : ¬ n ≤ m := by omega
      clear h h'
      go_enter Try.func33, Try.ntmps33
      go_wp2
      go_ret
      exact ⟨rfl, rfl⟩
    · clear h h'
      go_enter Try.func33, Try.ntmps33
      go_wp2
      go_ret
      exact ⟨rfl, rfl⟩
  · obtain ⟨h0, h1⟩ := isUp_yes h
    clear h
    go_enter Try.func33, Try.ntmps33
    go_wp2
    go_ret
    exact ⟨rfl, rfl⟩
end Go.Proofs.Ytfkllcbjakhbdaa
