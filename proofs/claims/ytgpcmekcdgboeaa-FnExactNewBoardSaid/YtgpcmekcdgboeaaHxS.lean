/-
  The walk of spec.HexText: for 1 to 8 digits the list of digits; for another number of digits the empty text.
  Conditions: none; each walk leaves old memory as it was.
-/
import Derived.Test.YtgpcmekcdgboeaaProg
import Derived.Test.YtgpcmekcdgboeaaHxA
import Derived.WalkKit
import Derived.ProofKit
import Derived.Deep.OwnRows
import Derived.Handy
namespace Go.Proofs.Ytgpcmekcdgboeaa
open Go.RowKit Go.Deep Go.WideShapes Go.ChangeShapes
theorem infoU8 : (Try.prog.info? 5).map (fun i => (i.zero, i.size, i.bytes)) = some (some (.int .u8 0), 1, 1) := by kernel_rfl
theorem hx_in_yes (x a b : Int) (w : World) (h1 : a ≤ x) (h2 : x ≤ b) :
    Calls Try.prog 19 #[.int .i64 x, .int .i64 a, .int .i64 b] w fun e w' => e = .returned (.bool true) ∧ w = w' := by
  go_enter Try.func19, Try.ntmps19
  go_wp2
  go_ret
  exact ⟨rfl, rfl⟩
theorem hx_in_no (x a b : Int) (w : World) (h : x < a ∨ b < x) :
    Calls Try.prog 19 #[.int .i64 x, .int .i64 a, .int .i64 b] w fun e w' => e = .returned (.bool false) ∧ w = w' := by
  by_cases h1 : a ≤ x
  · have h2 : ¬ x ≤ b := by omega
    clear h
    go_enter Try.func19, Try.ntmps19
    go_wp2
    go_ret
    exact ⟨rfl, rfl⟩
  · clear h
    go_enter Try.func19, Try.ntmps19
    go_wp2
    go_ret
    exact ⟨rfl, rfl⟩

end Go.Proofs.Ytgpcmekcdgboeaa
