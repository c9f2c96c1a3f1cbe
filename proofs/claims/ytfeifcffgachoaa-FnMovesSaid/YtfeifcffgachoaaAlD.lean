/-
  Contract of impl.Add (chapter 2): it answers as spec.Add.
  Conditions: none.
-/
import Derived.Test.YtfeifcffgachoaaAlC
namespace Go.Proofs.Ytfeifcffgachoaa
open Go.RowKit
theorem impl_add (p a b : Int) (w : World) :
    Calls Try.prog 67 #[.int .i64 p, .int .i64 a, .int .i64 b] w (AddPost .i64 (addN p a b) (addR p a b) w) := by
  have hB := add_binary (p % 256) (a % 256) (b % 256) (by omega) (by omega) w
  have hT := add_tens (p % 256) (a % 256) (b % 256) (by omega) (by omega) w
  rw [binN_mod, rI_mod] at hB
  rw [tenN_mod, sI_mod] at hT
  have hs := is_set (p % 256) 8 w
  rw [tst_mod] at hs
  have n1 := addN_bd p a b
  unfold AddPost
  cases ht : tst p 8
  · rw [ht] at hs
    have e1 : addN p a b = binN p a b := by unfold addN; rw [ht]; rfl
    have e2 : addR p a b = rI p a b % 256 := by unfold addR; rw [ht]; rfl
    rw [e1] at n1
    rw [e1, e2]
    have HB := Lib.hid hB
    clear hB hT e1 e2
    go_enter Try.func67, Try.ntmps67
    go_wp2_with (first
      | (go_at_call 44; refine hs.mono ?_; rintro e w' ⟨rfl, rfl⟩)
      | (go_at_call 86; refine HB.out.mono ?_; rintro e w' ⟨rfl, rfl⟩))
    go_ret2
    exact ⟨rfl, rfl⟩
  · rw [ht] at hs
    have e1 : addN p a b = tenN p a b := by unfold addN; rw [ht]; rfl
    have e2 : addR p a b = upI (sI p a b) % 256 := by unfold addR; rw [ht]; rfl
    rw [e1] at n1
    rw [e1, e2]
    have HB := Lib.hid hT
    clear hB hT e1 e2
    go_enter Try.func67, Try.ntmps67
    go_wp2_with (first
      | (go_at_call 44; refine hs.mono ?_; rintro e w' ⟨rfl, rfl⟩)
      | (go_at_call 87; refine HB.out.mono ?_; rintro e w' ⟨rfl, rfl⟩))
    go_ret2
    exact ⟨rfl, rfl⟩
end Go.Proofs.Ytfeifcffgachoaa
