/-
  The walks of the laws FnExactWith, FnExactNz, FnExactAdd, FnExactSub, FnExactCompare: each returns true.
  Conditions: none.
-/
import Derived.Test.YtjbfoegleinbnaaAlF
import Derived.Test.YtjbfoegleinbnaaAlH
namespace Go.Proofs.Ytjbfoegleinbnaa
open Go.RowKit
theorem exact_with (p f : Int) (on : Bool) (w : World) : Calls Try.prog 18 #[.int .i64 p, .int .i64 f, .bool on] w fun e w' => e = .returned (.bool true) ∧ Below w.heap.size w w' := by
  have HS := Lib.hid (fun w => spec_with p f on w)
  have HI := Lib.hid (fun w => impl_with p f on w)
  go_enter Try.func18, Try.ntmps18
  go_wp2_with (first
    | (go_at_call 47; refine (HS.out _).mono ?_; rintro e w' ⟨rfl, rfl⟩)
    | (go_at_call 46; refine (HI.out _).mono ?_; rintro e w' ⟨rfl, rfl⟩))
  go_ret
  exact ⟨rfl, Below.refl _ _⟩
theorem exact_nz (p v : Int) (w : World) : Calls Try.prog 19 #[.int .i64 p, .int .i64 v] w fun e w' => e = .returned (.bool true) ∧ Below w.heap.size w w' := by
  have HS := Lib.hid (fun w => spec_nz p v w)
  have HI := Lib.hid (fun w => impl_nz p v w)
  go_enter Try.func19, Try.ntmps19
  go_wp2_with (first
    | (go_at_call 50; refine (HS.out _).mono ?_; rintro e w' ⟨rfl, rfl⟩)
    | (go_at_call 49; refine (HI.out _).mono ?_; rintro e w' ⟨rfl, rfl⟩))
  go_ret
  exact ⟨rfl, Below.refl _ _⟩
theorem exact_compare (p a b : Int) (w : World) : Calls Try.prog 22 #[.int .i64 p, .int .i64 a, .int .i64 b] w fun e w' => e = .returned (.bool true) ∧ Below w.heap.size w w' := by
  have HS := Lib.hid (fun w => spec_compare p a b w)
  have HI := Lib.hid (fun w => impl_compare p a b w)
  go_enter Try.func22, Try.ntmps22
  go_wp2_with (first
    | (go_at_call 58; refine (HS.out _).mono ?_; rintro e w' ⟨rfl, rfl⟩)
    | (go_at_call 57; refine (HI.out _).mono ?_; rintro e w' ⟨rfl, rfl⟩))
  go_ret
  exact ⟨rfl, Below.refl _ _⟩
theorem exact_add (p a b : Int) (w : World) : Calls Try.prog 20 #[.int .i64 p, .int .i64 a, .int .i64 b] w fun e w' => e = .returned (.bool true) ∧ Below w.heap.size w w' := by
  have HS := Lib.hid (fun w => spec_add p a b w)
  have HI := Lib.hid (fun w => impl_add p a b w)
  go_enter Try.func20, Try.ntmps20
  go_wp2_with (first
    | (go_at_call 53; refine (HS.out _).mono ?_; rintro e w' ⟨rfl, rfl⟩)
    | (go_at_call 52; refine (HI.out _).mono ?_; rintro e w' ⟨rfl, rfl⟩))
  go_ret
  exact ⟨rfl, Below.refl _ _⟩
theorem exact_sub (p a b : Int) (w : World) : Calls Try.prog 21 #[.int .i64 p, .int .i64 a, .int .i64 b] w fun e w' => e = .returned (.bool true) ∧ Below w.heap.size w w' := by
  have HS := Lib.hid (fun w => spec_sub p a b w)
  have HI := Lib.hid (fun w => impl_sub p a b w)
  go_enter Try.func21, Try.ntmps21
  go_wp2_with (first
    | (go_at_call 56; refine (HS.out _).mono ?_; rintro e w' ⟨rfl, rfl⟩)
    | (go_at_call 55; refine (HI.out _).mono ?_; rintro e w' ⟨rfl, rfl⟩))
  go_ret
  exact ⟨rfl, Below.refl _ _⟩
end Go.Proofs.Ytjbfoegleinbnaa
