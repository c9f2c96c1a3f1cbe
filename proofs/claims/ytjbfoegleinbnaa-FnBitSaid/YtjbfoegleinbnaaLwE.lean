/-
  The walk of the law FnBit: it returns true, whatever is drawn.
  Conditions: none.
-/
import Derived.Test.YtjbfoegleinbnaaDsA
import Derived.Test.YtjbfoegleinbnaaAlE
import Derived.Test.YtjbfoegleinbnaaAlG
import Derived.Test.YtjbfoegleinbnaaBvE
namespace Go.Proofs.Ytjbfoegleinbnaa
open Go.RowKit
set_option maxHeartbeats 1000000 in
theorem bit_law (A : Option Addr) (n c : Nat) (W : World) (hrow : RowB W A n) :
    Calls Try.prog 17 #[.slice A n c] W fun e w' => e = .returned (.bool true) ∧ Below W.heap.size W w' := by
  have hm := hrow.1
  unfold maxLen at hm
  by_cases hbig : 1048576 < n
  · clear hrow
    go_enter Try.func17, Try.ntmps17
    go_wp2_with (go_in)
    go_ret
    exact ⟨rfl, Below.refl _ _⟩
  · have hcode := hrow.code (by omega)
    have hD := drawBit_any W.heap.size n c A W (Nat.le_refl _) hcode
    unfold DrawThree at hD
    have HC := Lib.hid hcode
    clear hrow hcode
    go_enter Try.func17, Try.ntmps17
    go_wp2_with (first
      | (go_at_call 25; go_in)
      | (go_at_call 64; refine hD.mono ?_; rintro e w1 ⟨p, a, v, rfl, hb1⟩; refine Hid.out ?_))
    clear hD
    have HI := Lib.hid impl_bit
    have HS := Lib.hid spec_bit
    have HJ := Lib.hid impl_compare
    have HT := Lib.hid spec_compare
    have hD := drawCompare_any W.heap.size n c A w1 hb1.size (HC.out.below (Nat.le_refl _) hb1)
    unfold DrawThree at hD
    have b1 := bit_192 p a v (bitN p a v) rfl
    have b2 : tst (bitN p a v) 2 = !tst a v := tst_same _ 2 _ (by decide)
    rw [← tst_i64 _ 2 (by omega), ← both_i64] at b2
    replace b2 : (bits .and .i64 (bitN p a v) 2 == 0) = (bits .and .i64 (bits .and .i64 a v) 255 != 0) := by
      unfold bne at b2 ⊢
      rw [← b2, Bool.not_not]
    clear HC
    refine Lib.hid ?_
    go_wp2_with (first
      | (go_at_call 67; refine (HS.out _ _ _ _).mono ?_; rintro e w' ⟨rfl, rfl⟩)
      | (go_at_call 65; refine (HI.out _ _ _ _).mono ?_; rintro e w' ⟨rfl, rfl⟩)
      | (go_at_call 66; refine hD.mono ?_; rintro e w2 ⟨x, y, z, rfl, hb2⟩; refine Hid.out ?_))
    replace hb1 := hb1.trans (hb2.mono hb1.size)
    have d1 := cmp_c x y z
    rw [← tst_i64 _ 1 (by omega)] at d1
    have d2 := cmp_z x y z
    rw [← tst_i64 _ 2 (by omega)] at d2
    have e1 := and_255 y
    have e2 := and_255 z
    clear hD hb2
    refine Lib.hid ?_
    go_wp2_with (first
      | (go_at_call 67; refine (HS.out _ _ _ _).mono ?_; rintro e w' ⟨rfl, rfl⟩)
      | (go_at_call 57; refine (HJ.out _ _ _ _).mono ?_; rintro e w' ⟨rfl, rfl⟩)
      | (go_at_call 58; refine (HT.out _ _ _ _).mono ?_; rintro e w' ⟨rfl, rfl⟩))
    go_ret
    exact ⟨rfl, hb1⟩
end Go.Proofs.Ytjbfoegleinbnaa
