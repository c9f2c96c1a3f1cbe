/-
  Contracts of the differences and of comparing (chapter 2): spec.Sub, impl.subTens, impl.Sub, spec.Compare, impl.Compare.
  Conditions: none.
-/
import Derived.Test.YtfeifcffgachoaaAlD
import Derived.Test.YtfeifcffgachoaaBvC
namespace Go.Proofs.Ytfeifcffgachoaa
open Go.RowKit
theorem spec_sub_bin (p a b : Int) (ht : tst p 8 = false) (w : World) :
    Calls Try.prog 34 #[.int .i64 p, .int .i64 a, .int .i64 b] w (AddPost .i64 (subN p a b) (subR p a b) w) := by
  have HW := Lib.hid spec_with
  have HN := Lib.hid spec_nz
  have h8 := tst_i64 p 8 (by omega)
  rw [ht] at h8
  have hA := and_255 a
  have hB := and_255 b
  have hC := and_1 p
  have h0 := cI_bd p
  have hR := and_255 (a % 256 - b % 256 + (cI p - 1))
  have H : Hid (subR p a b = (a % 256 - b % 256 + (cI p - 1)) % 256) := Lib.hid (by unfold subR; rw [ht]; rfl)
  have H2 := Lib.hid (sub_close p a b)
  go_enter Try.func34, Try.ntmps34
  go_wp2_with (first
    | (go_at_call 37; refine (HN.out _ _ _).mono ?_; rintro e w' ⟨rfl, rfl⟩)
    | (go_at_call 73; refine (HW.out _ _ _ _).mono ?_; rintro e w' ⟨rfl, rfl⟩))
  go_ret2
  exact ⟨by rw [H.out, ← H2.out]; rfl, rfl⟩
theorem spec_sub_ten (p a b : Int) (ht : tst p 8 = true) (w : World) :
    Calls Try.prog 34 #[.int .i64 p, .int .i64 a, .int .i64 b] w (AddPost .i64 (subN p a b) (subR p a b) w) := by
  have HW := Lib.hid spec_with
  have HN := Lib.hid spec_nz
  have h8 := tst_i64 p 8 (by omega)
  rw [ht] at h8
  have hA := and_255 a
  have hB := and_255 b
  have hC := and_1 p
  have h0 := cI_bd p
  have hA1 := and_15 (a % 256)
  have hB1 := and_15 (b % 256)
  rw [show a % 256 % 16 = a % 16 by omega] at hA1
  rw [show b % 256 % 16 = b % 16 by omega] at hB1
  have hA2 := and_240 (a % 256)
  have hB2 := and_240 (b % 256)
  rw [Int.emod_emod] at hA2 hB2
  have H2 := Lib.hid (sub_close p a b)
  by_cases h9 : a % 16 - b % 16 + (cI p - 1) < 0
  · have hl := and_15 (a % 16 - b % 16 + (cI p - 1) - 6)
    have hs : tI p a b = a % 256 / 16 * 16 - b % 256 / 16 * 16 + ((a % 16 - b % 16 + (cI p - 1) - 6) % 16 - 16) := by unfold tI lowS; rw [if_pos h9]
    by_cases h0s : a % 256 / 16 * 16 - b % 256 / 16 * 16 + ((a % 16 - b % 16 + (cI p - 1) - 6) % 16 - 16) < 0
    · have hu := and_255 (a % 256 / 16 * 16 - b % 256 / 16 * 16 + ((a % 16 - b % 16 + (cI p - 1) - 6) % 16 - 16) - 96)
      have HX : Hid (subR p a b = (a % 256 / 16 * 16 - b % 256 / 16 * 16 + ((a % 16 - b % 16 + (cI p - 1) - 6) % 16 - 16) - 96) % 256) := Lib.hid (by unfold subR dnI; rw [ht, hs, if_pos h0s]; rfl)
      clear hs
      go_enter Try.func34, Try.ntmps34
      go_wp2_with (first
        | (go_at_call 37; refine (HN.out _ _ _).mono ?_; rintro e w' ⟨rfl, rfl⟩)
        | (go_at_call 73; refine (HW.out _ _ _ _).mono ?_; rintro e w' ⟨rfl, rfl⟩))
      go_ret2
      exact ⟨by rw [HX.out, ← H2.out]; rfl, rfl⟩
    · have hu := and_255 (a % 256 / 16 * 16 - b % 256 / 16 * 16 + ((a % 16 - b % 16 + (cI p - 1) - 6) % 16 - 16))
      have HX : Hid (subR p a b = (a % 256 / 16 * 16 - b % 256 / 16 * 16 + ((a % 16 - b % 16 + (cI p - 1) - 6) % 16 - 16)) % 256) := Lib.hid (by unfold subR dnI; rw [ht, hs, if_neg h0s]; rfl)
      clear hs
      go_enter Try.func34, Try.ntmps34
      go_wp2_with (first
        | (go_at_call 37; refine (HN.out _ _ _).mono ?_; rintro e w' ⟨rfl, rfl⟩)
        | (go_at_call 73; refine (HW.out _ _ _ _).mono ?_; rintro e w' ⟨rfl, rfl⟩))
      go_ret2
      exact ⟨by rw [HX.out, ← H2.out]; rfl, rfl⟩
  · skip
    have hs : tI p a b = a % 256 / 16 * 16 - b % 256 / 16 * 16 + (a % 16 - b % 16 + (cI p - 1)) := by unfold tI lowS; rw [if_neg h9]
    by_cases h0s : a % 256 / 16 * 16 - b % 256 / 16 * 16 + (a % 16 - b % 16 + (cI p - 1)) < 0
    · have hu := and_255 (a % 256 / 16 * 16 - b % 256 / 16 * 16 + (a % 16 - b % 16 + (cI p - 1)) - 96)
      have HX : Hid (subR p a b = (a % 256 / 16 * 16 - b % 256 / 16 * 16 + (a % 16 - b % 16 + (cI p - 1)) - 96) % 256) := Lib.hid (by unfold subR dnI; rw [ht, hs, if_pos h0s]; rfl)
      clear hs
      go_enter Try.func34, Try.ntmps34
      go_wp2_with (first
        | (go_at_call 37; refine (HN.out _ _ _).mono ?_; rintro e w' ⟨rfl, rfl⟩)
        | (go_at_call 73; refine (HW.out _ _ _ _).mono ?_; rintro e w' ⟨rfl, rfl⟩))
      go_ret2
      exact ⟨by rw [HX.out, ← H2.out]; rfl, rfl⟩
    · have hu := and_255 (a % 256 / 16 * 16 - b % 256 / 16 * 16 + (a % 16 - b % 16 + (cI p - 1)))
      have HX : Hid (subR p a b = (a % 256 / 16 * 16 - b % 256 / 16 * 16 + (a % 16 - b % 16 + (cI p - 1))) % 256) := Lib.hid (by unfold subR dnI; rw [ht, hs, if_neg h0s]; rfl)
      clear hs
      go_enter Try.func34, Try.ntmps34
      go_wp2_with (first
        | (go_at_call 37; refine (HN.out _ _ _).mono ?_; rintro e w' ⟨rfl, rfl⟩)
        | (go_at_call 73; refine (HW.out _ _ _ _).mono ?_; rintro e w' ⟨rfl, rfl⟩))
      go_ret2
      exact ⟨by rw [HX.out, ← H2.out]; rfl, rfl⟩
theorem spec_sub (p a b : Int) (w : World) : Calls Try.prog 34 #[.int .i64 p, .int .i64 a, .int .i64 b] w (AddPost .i64 (subN p a b) (subR p a b) w) := by
  cases ht : tst p 8
  · exact spec_sub_bin p a b ht w
  · exact spec_sub_ten p a b ht w
theorem spec_compare (p a b : Int) (w : World) :
    Calls Try.prog 35 #[.int .i64 p, .int .i64 a, .int .i64 b] w fun e w' => e = .returned (.int .i64 (cmpN p a b)) ∧ w = w' := by
  have HW := Lib.hid spec_with
  have HN := Lib.hid spec_nz
  have hA := and_255 a
  have hB := and_255 b
  go_enter Try.func35, Try.ntmps35
  go_wp2_with (first
    | (go_at_call 37; refine (HN.out _ _ _).mono ?_; rintro e w' ⟨rfl, rfl⟩)
    | (go_at_call 73; refine (HW.out _ _ _ _).mono ?_; rintro e w' ⟨rfl, rfl⟩))
  go_ret
  exact ⟨rfl, rfl⟩
theorem impl_compare (p a b : Int) (w : World) :
    Calls Try.prog 69 #[.int .i64 p, .int .i64 a, .int .i64 b] w fun e w' => e = .returned (.int .i64 (cmpN p a b)) ∧ w = w' := by
  have HW := Lib.hid with_flag
  have HN := Lib.hid with_nz
  have hb := cmpN_bd p a b
  unfold cmpN at hb ⊢
  go_enter Try.func69, Try.ntmps69
  go_wp2_with (first
    | (go_at_call 89; refine (HN.out _ _ (by omega) _).mono ?_; rintro e w' ⟨rfl, rfl⟩; rw [nzI_mod, nzI_congr p (show ((a - b) % 256) % 256 = (a % 256 - b % 256) % 256 by omega)])
    | (go_at_call 90; refine (HW.out _ _ _ _).mono ?_; rintro e w' ⟨rfl, rfl⟩))
  go_ret
  exact ⟨rfl, rfl⟩
end Go.Proofs.Ytfeifcffgachoaa
