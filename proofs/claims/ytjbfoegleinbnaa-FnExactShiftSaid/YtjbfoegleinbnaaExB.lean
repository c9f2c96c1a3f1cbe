/-
  The walks of the laws FnExactShift, FnExactBit: each returns true.
  Conditions: none.
-/
import Derived.Test.YtjbfoegleinbnaaShB2
import Derived.Test.YtjbfoegleinbnaaAlG
namespace Go.Proofs.Ytjbfoegleinbnaa
open Go.RowKit
theorem exact_shift (p k v : Int) (w : World) : Calls Try.prog 23 #[.int .i64 p, .int .i64 k, .int .i64 v] w fun e w' => e = .returned (.bool true) ∧ Below w.heap.size w w' := by
  have HS := Lib.hid (fun w => spec_shift p k v w)
  have HI := Lib.hid (fun w => impl_shift p k v w)
  go_enter Try.func23, Try.ntmps23
  go_wp2_with (first
    | (go_at_call 63; refine (HS.out _).mono ?_; rintro e w' ⟨rfl, rfl⟩)
    | (go_at_call 62; refine (HI.out _).mono ?_; rintro e w' ⟨rfl, hb⟩))
  go_ret
  exact ⟨rfl, hb⟩
theorem exact_bit (p a b : Int) (w : World) : Calls Try.prog 24 #[.int .i64 p, .int .i64 a, .int .i64 b] w fun e w' => e = .returned (.bool true) ∧ Below w.heap.size w w' := by
  have HS := Lib.hid (fun w => spec_bit p a b w)
  have HI := Lib.hid (fun w => impl_bit p a b w)
  go_enter Try.func24, Try.ntmps24
  go_wp2_with (first
    | (go_at_call 67; refine (HS.out _).mono ?_; rintro e w' ⟨rfl, rfl⟩)
    | (go_at_call 65; refine (HI.out _).mono ?_; rintro e w' ⟨rfl, rfl⟩))
  go_ret
  exact ⟨rfl, Below.refl _ _⟩
end Go.Proofs.Ytjbfoegleinbnaa
