/-
  The walk of the law FnTens: numbers by tens are added and taken away as such; it returns true, whatever is drawn.
  Conditions: none.
-/
import Derived.Test.YtjbfoegleinbnaaAlF
import Derived.Test.YtjbfoegleinbnaaDrA
import Derived.Test.YtjbfoegleinbnaaBvF
namespace Go.Proofs.Ytjbfoegleinbnaa
open Go.RowKit
theorem at_any (B n c : Nat) (A : Option Addr) (w : World) (hcode : Code w B A n) (i : Nat) (hi : i ≤ 2) :
    Calls Try.prog 59 #[.slice A n c, .int .i64 i] w fun e w' => ∃ v : Int, e = .returned (.int .i64 v) ∧ 0 ≤ v ∧ v ≤ 255 ∧ w = w' := by
  have hn := hcode.1
  by_cases h : i < n
  · obtain ⟨b, off, v, rfl, hb, v0, v1, hv⟩ := hcode.at_ h
    have i0 : (0 : Int) ≤ (i : Int) := by omega
    have i1 : (i : Int) < (n : Int) := by omega
    clear hcode
    go_enter Try.func59, Try.ntmps59
    go_wp2
    go_ret
    exact ⟨v, rfl, v0, v1, rfl⟩
  · have i1 : ¬ (i : Int) < (n : Int) := by omega
    clear hcode
    go_enter Try.func59, Try.ntmps59
    go_wp2
    go_ret
    exact ⟨_, rfl, by omega, by omega, rfl⟩
theorem tens_any (x : Int) (h : 0 ≤ x ∧ x < 100) (w : World) :
    Calls Try.prog 60 #[.int .i64 x] w fun e w' => e = .returned (.int .i64 (te x)) ∧ w = w' := by
  go_enter Try.func60, Try.ntmps60
  go_wp2
  go_ret
  exact ⟨rfl, rfl⟩
set_option maxHeartbeats 1000000 in
theorem tens_law (A : Option Addr) (n c : Nat) (W : World) (hrow : RowB W A n) :
    Calls Try.prog 15 #[.slice A n c] W fun e w' => e = .returned (.bool true) ∧ Below W.heap.size W w' := by
  have hm := hrow.1
  unfold maxLen at hm
  by_cases hbig : 1048576 < n
  · clear hrow
    go_enter Try.func15, Try.ntmps15
    go_wp2_with (go_in)
    go_ret
    exact ⟨rfl, Below.refl _ _⟩
  · have hcode := hrow.code (by omega)
    have h0 : Calls Try.prog 59 #[.slice A n c, .int .i64 0] W fun e w' => ∃ v : Int, e = .returned (.int .i64 v) ∧ 0 ≤ v ∧ v ≤ 255 ∧ W = w' := at_any W.heap.size n c A W hcode 0 (by omega)
    have h1 : Calls Try.prog 59 #[.slice A n c, .int .i64 1] W fun e w' => ∃ v : Int, e = .returned (.int .i64 v) ∧ 0 ≤ v ∧ v ≤ 255 ∧ W = w' := at_any W.heap.size n c A W hcode 1 (by omega)
    have h2 : Calls Try.prog 59 #[.slice A n c, .int .i64 2] W fun e w' => ∃ v : Int, e = .returned (.int .i64 v) ∧ 0 ≤ v ∧ v ≤ 255 ∧ W = w' := at_any W.heap.size n c A W hcode 2 (by omega)
    clear hrow hcode
    go_enter Try.func15, Try.ntmps15
    go_wp2_with (first
      | (go_at_call 25; go_in)
      | (go_at_call 59; with_reducible refine h0.mono ?_; rintro e w1 ⟨x, rfl, x0, x1, rfl⟩)
      | (go_at_call 59; with_reducible refine h1.mono ?_; rintro e w1 ⟨y, rfl, y0, y1, rfl⟩)
      | (go_at_call 59; with_reducible refine h2.mono ?_; rintro e w1 ⟨z, rfl, z0, z1, rfl⟩; refine Hid.out ?_))
    have hz : z % 2 = 0 ∨ z % 2 = 1 := by omega
    have hP := tens_p (z % 2) hz
    have HA := Lib.hid impl_add
    have HS := Lib.hid impl_sub
    have HT := Lib.hid tens_any
    have ha := tens_add (bits .or .i64 8 (z % 2)) (x % 100) (y % 100) (by omega) (by omega) hP.1
    have hs := tens_sub (bits .or .i64 8 (z % 2)) (x % 100) (y % 100) (by omega) (by omega) hP.1
    rw [hP.2] at ha hs
    have ha1 := ha.1
    have ha2 := ha.2
    have hs1 := hs.1
    have hs2 := hs.2
    rw [← tst_i64 _ 1 (by omega)] at ha2 hs2
    clear h0 h1 h2 ha hs hP
    refine Lib.hid ?_
    go_wp2_with (first
      | (go_at_call 60; refine (HT.out _ (by omega) _).mono ?_; rintro e w' ⟨rfl, rfl⟩)
      | (go_at_call 52; refine (HA.out _ _ _ _).mono ?_; rintro e w' ⟨rfl, rfl⟩)
      | (go_at_call 55; refine (HS.out _ _ _ _).mono ?_; rintro e w' ⟨rfl, rfl⟩))
    go_ret
    exact ⟨rfl, Below.refl _ _⟩
end Go.Proofs.Ytjbfoegleinbnaa
