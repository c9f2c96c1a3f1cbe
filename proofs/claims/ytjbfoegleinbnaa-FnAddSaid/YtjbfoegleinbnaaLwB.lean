/-
  The walks of the laws FnAdd and FnSub: each returns true, whatever is drawn.
  Conditions: none.
-/
import Derived.Test.YtjbfoegleinbnaaDsA
import Derived.Test.YtjbfoegleinbnaaAlF
import Derived.Test.YtjbfoegleinbnaaBvE
namespace Go.Proofs.Ytjbfoegleinbnaa
open Go.RowKit
set_option maxHeartbeats 1000000 in
theorem add_law (A : Option Addr) (n c : Nat) (W : World) (hrow : RowB W A n) :
    Calls Try.prog 13 #[.slice A n c] W fun e w' => e = .returned (.bool true) ∧ Below W.heap.size W w' := by
  have hm := hrow.1
  unfold maxLen at hm
  by_cases hbig : 1048576 < n
  · clear hrow
    go_enter Try.func13, Try.ntmps13
    go_wp2_with (go_in)
    go_ret
    exact ⟨rfl, Below.refl _ _⟩
  · have hcode := hrow.code (by omega)
    have hD := drawAdd_any W.heap.size n c A W (Nat.le_refl _) hcode
    unfold DrawThree at hD
    clear hrow hcode
    go_enter Try.func13, Try.ntmps13
    go_wp2_with (first
      | (go_at_call 25; go_in)
      | (go_at_call 51; refine hD.mono ?_; rintro e w1 ⟨p, a, b, rfl, hb1⟩; refine Hid.out ?_))
    clear hD
    have HI := Lib.hid impl_add
    have HS := Lib.hid spec_add
    have c1 := addN_comm p a b
    have c2 := addR_comm p a b
    have b1 := addN_bd p a b
    have b2 := addR_bd p a b
    have hA := and_255 a
    have hB := and_255 b
    have hC := and_1 p
    have hq := and_1 (addN p a b)
    have k0 := cI_bd p
    have k1 := cI_bd (addN p a b)
    have h8 := tst_i64 p 8 (by omega)
    cases ht : tst p 8
    · have ho := add_over p a b ht
      rw [ht] at h8
      have h8' : bits .and .i64 p 8 = 0 := by simpa using h8
      clear h8
      refine Lib.hid ?_
      go_wp2_with (first
        | (go_at_call 52; refine (HI.out _ _ _ _).mono ?_; rintro e w' ⟨rfl, rfl⟩)
        | (go_at_call 53; refine (HS.out _ _ _ _).mono ?_; rintro e w' ⟨rfl, rfl⟩))
      go_ret
      exact ⟨by rw [decide_eq_true (show addR p a b ≤ 255 by omega)]; rfl, hb1⟩
    · rw [ht] at h8
      have h8' : ¬ bits .and .i64 p 8 = 0 := by simpa using h8
      clear h8
      refine Lib.hid ?_
      go_wp2_with (first
        | (go_at_call 52; refine (HI.out _ _ _ _).mono ?_; rintro e w' ⟨rfl, rfl⟩)
        | (go_at_call 53; refine (HS.out _ _ _ _).mono ?_; rintro e w' ⟨rfl, rfl⟩))
      go_ret
      exact ⟨by rw [decide_eq_true (show addR p a b ≤ 255 by omega)]; rfl, hb1⟩
set_option maxHeartbeats 1000000 in
theorem sub_law (A : Option Addr) (n c : Nat) (W : World) (hrow : RowB W A n) :
    Calls Try.prog 14 #[.slice A n c] W fun e w' => e = .returned (.bool true) ∧ Below W.heap.size W w' := by
  have hm := hrow.1
  unfold maxLen at hm
  by_cases hbig : 1048576 < n
  · clear hrow
    go_enter Try.func14, Try.ntmps14
    go_wp2_with (go_in)
    go_ret
    exact ⟨rfl, Below.refl _ _⟩
  · have hcode := hrow.code (by omega)
    have hD := drawSub_any W.heap.size n c A W (Nat.le_refl _) hcode
    unfold DrawThree at hD
    clear hrow hcode
    go_enter Try.func14, Try.ntmps14
    go_wp2_with (first
      | (go_at_call 25; go_in)
      | (go_at_call 54; refine hD.mono ?_; rintro e w1 ⟨p, a, b, rfl, hb1⟩; refine Hid.out ?_))
    clear hD
    have HI := Lib.hid impl_sub
    have HS := Lib.hid spec_sub
    have HA := Lib.hid impl_add
    have HC := Lib.hid impl_compare
    have HD := Lib.hid spec_compare
    have t0 := off_8 p
    have E0 : Hid (bits .andNot .i64 p 8 = bits .andNot .i64 p 8) := Lib.hid rfl
    generalize hP : bits .andNot .i64 p 8 = P at t0
    have hb := sub_back (bits .andNot .i64 P 1) (bits .or .i64 P 1) a b (off_8_1 P t0) (on_8_1 P t0) (off_1 P) (on_1 P)
    have hc := cmp_sub P (bits .or .i64 P 1) a b (on_1 P)
    have hA := and_255 a
    clear t0 E0
    refine Lib.hid ?_
    go_wp2_with (first
      | (go_at_call 55; refine (HI.out _ _ _ _).mono ?_; rintro e w' ⟨rfl, rfl⟩)
      | (go_at_call 56; refine (HS.out _ _ _ _).mono ?_; rintro e w' ⟨rfl, rfl⟩)
      | (go_at_call 52; refine (HA.out _ _ _ _).mono ?_; rintro e w' ⟨rfl, rfl⟩)
      | (go_at_call 57; refine (HC.out _ _ _ _).mono ?_; rintro e w' ⟨rfl, rfl⟩)
      | (go_at_call 58; refine (HD.out _ _ _ _).mono ?_; rintro e w' ⟨rfl, rfl⟩))
    go_ret
    exact ⟨rfl, hb1⟩
end Go.Proofs.Ytjbfoegleinbnaa
