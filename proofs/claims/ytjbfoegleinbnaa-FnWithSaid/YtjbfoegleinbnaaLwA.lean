/-
  The walks of the laws FnWith and FnNz: each returns true, whatever is drawn.
  Conditions: none.
-/
import Derived.Test.YtjbfoegleinbnaaDsB
import Derived.Test.YtjbfoegleinbnaaAlH
import Derived.Test.YtjbfoegleinbnaaBvE
namespace Go.Proofs.Ytjbfoegleinbnaa
open Go.RowKit
set_option maxHeartbeats 1000000 in
theorem with_law (A : Option Addr) (n c : Nat) (W : World) (hrow : RowB W A n) :
    Calls Try.prog 11 #[.slice A n c] W fun e w' => e = .returned (.bool true) ∧ Below W.heap.size W w' := by
  have hm := hrow.1
  unfold maxLen at hm
  by_cases hbig : 1048576 < n
  · clear hrow
    go_enter Try.func11, Try.ntmps11
    go_wp2_with (go_in)
    go_ret
    exact ⟨rfl, Below.refl _ _⟩
  · have hcode := hrow.code (by omega)
    have hD := drawWith_any W.heap.size n c A W (Nat.le_refl _) hcode
    unfold DrawFlag at hD
    clear hrow hcode
    go_enter Try.func11, Try.ntmps11
    go_wp2_with (first
      | (go_at_call 25; go_in)
      | (go_at_call 45; refine hD.mono ?_; rintro e w1 ⟨p, f, on, rfl, hb1⟩; refine Hid.out ?_))
    clear hD
    have HI := Lib.hid impl_with
    have HS := Lib.hid spec_with
    have b := wI_bd p f on
    have h1 := with_out p f on
    cases on
    · have h2 := with_in0 p f
      refine Lib.hid ?_
      go_wp2_with (first
        | (go_at_call 47; refine (HS.out _ _ _ _).mono ?_; rintro e w' ⟨rfl, rfl⟩)
        | (go_at_call 46; refine (HI.out _ _ _ _).mono ?_; rintro e w' ⟨rfl, rfl⟩))
      go_ret
      exact ⟨rfl, hb1⟩
    · have h2 := with_in p f
      refine Lib.hid ?_
      go_wp2_with (first
        | (go_at_call 47; refine (HS.out _ _ _ _).mono ?_; rintro e w' ⟨rfl, rfl⟩)
        | (go_at_call 46; refine (HI.out _ _ _ _).mono ?_; rintro e w' ⟨rfl, rfl⟩))
      go_ret
      exact ⟨rfl, hb1⟩
set_option maxHeartbeats 1000000 in
theorem nz_law (A : Option Addr) (n c : Nat) (W : World) (hrow : RowB W A n) :
    Calls Try.prog 12 #[.slice A n c] W fun e w' => e = .returned (.bool true) ∧ Below W.heap.size W w' := by
  have hm := hrow.1
  unfold maxLen at hm
  by_cases hbig : 1048576 < n
  · clear hrow
    go_enter Try.func12, Try.ntmps12
    go_wp2_with (go_in)
    go_ret
    exact ⟨rfl, Below.refl _ _⟩
  · have hcode := hrow.code (by omega)
    have hD := drawNz_any W.heap.size n c A W (Nat.le_refl _) hcode
    unfold DrawTwo at hD
    clear hrow hcode
    go_enter Try.func12, Try.ntmps12
    go_wp2_with (first
      | (go_at_call 25; go_in)
      | (go_at_call 48; refine hD.mono ?_; rintro e w1 ⟨p, v, rfl, hb1⟩; refine Hid.out ?_))
    clear hD
    have HI := Lib.hid impl_nz
    have HS := Lib.hid spec_nz
    have h1 := nz_out p v
    have h2 := nz_z p v
    rw [← tst_i64 _ 2 (by omega), ← and255_0] at h2
    have h3 := nz_n p v
    rw [← tst_i64 _ 128 (by omega), ← tst_i64 _ 128 (by omega)] at h3
    refine Lib.hid ?_
    go_wp2_with (first
      | (go_at_call 50; refine (HS.out _ _ _).mono ?_; rintro e w' ⟨rfl, rfl⟩)
      | (go_at_call 49; refine (HI.out _ _ _).mono ?_; rintro e w' ⟨rfl, rfl⟩))
    go_ret
    exact ⟨rfl, hb1⟩
end Go.Proofs.Ytjbfoegleinbnaa
