/-
  The walk of the law FnShift: it returns true, whatever is drawn.
  Conditions: none.
-/
import Derived.Test.YtjbfoegleinbnaaDsB
import Derived.Test.YtjbfoegleinbnaaShB2
import Derived.Test.YtjbfoegleinbnaaBvE
namespace Go.Proofs.Ytjbfoegleinbnaa
open Go.RowKit
set_option maxHeartbeats 1000000 in
theorem shift_law (A : Option Addr) (n c : Nat) (W : World) (hrow : RowB W A n) :
    Calls Try.prog 16 #[.slice A n c] W fun e w' => e = .returned (.bool true) ∧ Below W.heap.size W w' := by
  have hm := hrow.1
  unfold maxLen at hm
  by_cases hbig : 1048576 < n
  · clear hrow
    go_enter Try.func16, Try.ntmps16
    go_wp2_with (go_in)
    go_ret
    exact ⟨rfl, Below.refl _ _⟩
  · have hcode := hrow.code (by omega)
    have hD := drawShift_any W.heap.size n c A W (Nat.le_refl _) hcode
    unfold DrawThree at hD
    clear hrow hcode
    go_enter Try.func16, Try.ntmps16
    go_wp2_with (first
      | (go_at_call 25; go_in)
      | (go_at_call 61; refine hD.mono ?_; rintro e w1 ⟨p, k, v, rfl, hb1⟩; refine Hid.out ?_))
    clear hD
    have HI := Lib.hid impl_shift
    have HS := Lib.hid spec_shift
    have s1 := shift_back p v
    have s2 := s1.1
    have s3 := s1.2
    have s4 := shift_half p v
    have s5 := s4.1
    have s6 := s4.2
    have b1 := shR_bd k p v
    have hV := and_255 v
    have hP := and_1 p
    have hv := and_1 v
    have hq := and_1 (shN 1 p v)
    have hr := and_1 (shN 3 (shN 2 p v) (shR 2 p v))
    clear s1 s4
    refine Lib.hid ?_
    go_wp2_with (first
      | (go_at_call 63; refine (HS.out _ _ _ _).mono ?_; rintro e w' ⟨rfl, rfl⟩)
      | (go_at_call 62; refine (HI.out _ _ _ _).mono ?_; rintro e w2 ⟨rfl, hb2⟩; replace hb1 := hb1.trans (hb2.mono hb1.size); clear hb2))
    go_ret
    exact ⟨by rw [decide_eq_true (show shR k p v ≤ 255 by omega)]; rfl, hb1⟩
end Go.Proofs.Ytjbfoegleinbnaa
