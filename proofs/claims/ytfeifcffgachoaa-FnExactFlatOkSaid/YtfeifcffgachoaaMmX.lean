/-
  The walks of the five exact laws of chapter 5: the program's functions answer as the model's.
  Conditions: none; each walk leaves old memory as it was.
-/
import Derived.Test.YtfeifcffgachoaaMmI
namespace Go.Proofs.Ytfeifcffgachoaa
open Go.RowKit
theorem sz_mem (a : ByteArray) (ha : a.size ≤ maxLen) (b : ByteArray) (hb : b.size ≤ maxLen) (w : World) :
    Calls Try.prog 45 #[.agg #[.string a, .string b], .int .i64 1048576] w fun e w' => e = .returned (.int .i64 (if 1048576 < a.size + b.size then -1 else 1048576 - (a.size : Int) - (b.size : Int))) ∧ Below w.heap.size w w' := by
  unfold maxLen at ha hb
  by_cases h1 : 1048576 < a.size
  · rw [if_pos (by omega)]
    go_enter Try.func45, Try.ntmps45
    go_wp2
    go_ret
    exact ⟨rfl, below_alloc (Below.refl _ _) _⟩
  by_cases h2 : 1048576 < a.size + b.size
  · rw [if_pos h2]
    go_enter Try.func45, Try.ntmps45
    go_wp2
    go_ret
    exact ⟨rfl, below_alloc (Below.refl _ _) _⟩
  · rw [if_neg h2]
    go_enter Try.func45, Try.ntmps45
    go_wp2
    go_ret
    exact ⟨rfl, below_alloc (Below.refl _ _) _⟩
theorem to_mem (a b : ByteArray) (w : World) : Calls Try.prog 49 #[.agg #[.string a, .string b]] w fun e w' => e = .returned (.agg #[.string a, .string b]) ∧ Below w.heap.size w w' := by
  go_enter Try.func49, Try.ntmps49
  go_wp2
  exact bodyPost_ret (v := .agg #[.string a, .string b]) (by simp [results, Try.results49, go_sem]) rfl ⟨rfl, (((Below.refl _ _).alloc (Nat.le_refl _) _).alloc (by simp) _).alloc (by simp; omega) _⟩
end Go.Proofs.Ytfeifcffgachoaa
