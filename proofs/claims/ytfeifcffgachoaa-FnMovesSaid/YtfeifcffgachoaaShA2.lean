/-
  Contract of spec.Shift (chapter 2).
  Conditions: none.
-/
import Derived.Test.YtfeifcffgachoaaAlA
import Derived.Test.YtfeifcffgachoaaBvD
namespace Go.Proofs.Ytfeifcffgachoaa
open Go.RowKit
def ShPost (kind p v : Int) (w : World) (e : Ending) (w' : World) : Prop := e = .returned (.tuple #[.int .i64 (shN kind p v), .int .i64 (shR kind p v)]) ∧ w = w'
theorem spec_shift_no (kind p v : Int) (h : ¬ (0 ≤ kind ∧ kind ≤ 3)) (w : World) : Calls Try.prog 39 #[.int .i64 p, .int .i64 kind, .int .i64 v] w (ShPost kind p v w) := by
  have H := Lib.hid (shN_no kind p v h)
  have hV := and_255 v
  have hP := and_255 p
  have h0 : ¬ kind = 0 := by omega
  have h1 : ¬ kind = 1 := by omega
  have h2 : ¬ kind = 2 := by omega
  have h3 : ¬ kind = 3 := by omega
  clear h
  go_enter Try.func39, Try.ntmps39
  go_wp2
  go_ret2
  exact ⟨by rw [H.out.1, H.out.2]; rfl, rfl⟩
theorem spec_shift_0_0 (p v : Int) (hc : cI p = 0) (w : World) : Calls Try.prog 39 #[.int .i64 p, .int .i64 0, .int .i64 v] w (ShPost 0 p v w) := by
  have hr : shR 0 p v = v % 256 * 2 % 256 := by unfold shR; simp
  have hn : shN 0 p v = nzI (wI p 1 (decide (128 ≤ v % 256))) (v % 256 * 2 % 256) := by rw [shN_yes 0 p v (by omega), hr, nz_c]; rfl
  have H := Lib.hid (And.intro hn hr)
  clear hn hr
  have HW := Lib.hid spec_with
  have HN := Lib.hid spec_nz
  have hC := and_1 p
  rw [hc] at hC
  have hV := and_255 v
  have hV2 := and_255 (v % 256 * 2)
  have ho := or1 (v % 256) (by omega)
  have ho1 := ho.1
  have ho2 := ho.2.1
  have hh := hi_bit (v % 256) (by omega)
  have hh1 := hh.1
  have hh2 := hh.2.1
  rw [show v % 256 % 2 = v % 2 by omega] at hh2
  clear ho hh hc
  go_enter Try.func39, Try.ntmps39
  go_wp2_with (first
    | (go_at_call 37; refine (HN.out _ _ _).mono ?_; rintro e w' ⟨rfl, rfl⟩)
    | (go_at_call 73; refine (HW.out _ _ _ _).mono ?_; rintro e w' ⟨rfl, rfl⟩))
  go_ret2
  exact ⟨by rw [H.out.1, H.out.2]; rfl, rfl⟩
theorem spec_shift_0_1 (p v : Int) (hc : cI p = 1) (w : World) : Calls Try.prog 39 #[.int .i64 p, .int .i64 0, .int .i64 v] w (ShPost 0 p v w) := by
  have hr : shR 0 p v = v % 256 * 2 % 256 := by unfold shR; simp
  have hn : shN 0 p v = nzI (wI p 1 (decide (128 ≤ v % 256))) (v % 256 * 2 % 256) := by rw [shN_yes 0 p v (by omega), hr, nz_c]; rfl
  have H := Lib.hid (And.intro hn hr)
  clear hn hr
  have HW := Lib.hid spec_with
  have HN := Lib.hid spec_nz
  have hC := and_1 p
  rw [hc] at hC
  have hV := and_255 v
  have hV2 := and_255 (v % 256 * 2)
  have ho := or1 (v % 256) (by omega)
  have ho1 := ho.1
  have ho2 := ho.2.1
  have hh := hi_bit (v % 256) (by omega)
  have hh1 := hh.1
  have hh2 := hh.2.1
  rw [show v % 256 % 2 = v % 2 by omega] at hh2
  clear ho hh hc
  go_enter Try.func39, Try.ntmps39
  go_wp2_with (first
    | (go_at_call 37; refine (HN.out _ _ _).mono ?_; rintro e w' ⟨rfl, rfl⟩)
    | (go_at_call 73; refine (HW.out _ _ _ _).mono ?_; rintro e w' ⟨rfl, rfl⟩))
  go_ret2
  exact ⟨by rw [H.out.1, H.out.2]; rfl, rfl⟩
theorem spec_shift_1_0 (p v : Int) (hc : cI p = 0) (w : World) : Calls Try.prog 39 #[.int .i64 p, .int .i64 1, .int .i64 v] w (ShPost 1 p v w) := by
  have hr : shR 1 p v = v % 256 / 2 := by unfold shR; simp
  have hn : shN 1 p v = nzI (wI p 1 (decide (v % 2 = 1))) (v % 256 / 2) := by rw [shN_yes 1 p v (by omega), hr, nz_c]; rfl
  have H := Lib.hid (And.intro hn hr)
  clear hn hr
  have HW := Lib.hid spec_with
  have HN := Lib.hid spec_nz
  have hC := and_1 p
  rw [hc] at hC
  have hV := and_255 v
  have hV2 := and_255 (v % 256 * 2)
  have ho := or1 (v % 256) (by omega)
  have ho1 := ho.1
  have ho2 := ho.2.1
  have hh := hi_bit (v % 256) (by omega)
  have hh1 := hh.1
  have hh2 := hh.2.1
  rw [show v % 256 % 2 = v % 2 by omega] at hh2
  clear ho hh hc
  go_enter Try.func39, Try.ntmps39
  go_wp2_with (first
    | (go_at_call 37; refine (HN.out _ _ _).mono ?_; rintro e w' ⟨rfl, rfl⟩)
    | (go_at_call 73; refine (HW.out _ _ _ _).mono ?_; rintro e w' ⟨rfl, rfl⟩))
  go_ret2
  exact ⟨by rw [H.out.1, H.out.2]; rfl, rfl⟩
theorem spec_shift_1_1 (p v : Int) (hc : cI p = 1) (w : World) : Calls Try.prog 39 #[.int .i64 p, .int .i64 1, .int .i64 v] w (ShPost 1 p v w) := by
  have hr : shR 1 p v = v % 256 / 2 := by unfold shR; simp
  have hn : shN 1 p v = nzI (wI p 1 (decide (v % 2 = 1))) (v % 256 / 2) := by rw [shN_yes 1 p v (by omega), hr, nz_c]; rfl
  have H := Lib.hid (And.intro hn hr)
  clear hn hr
  have HW := Lib.hid spec_with
  have HN := Lib.hid spec_nz
  have hC := and_1 p
  rw [hc] at hC
  have hV := and_255 v
  have hV2 := and_255 (v % 256 * 2)
  have ho := or1 (v % 256) (by omega)
  have ho1 := ho.1
  have ho2 := ho.2.1
  have hh := hi_bit (v % 256) (by omega)
  have hh1 := hh.1
  have hh2 := hh.2.1
  rw [show v % 256 % 2 = v % 2 by omega] at hh2
  clear ho hh hc
  go_enter Try.func39, Try.ntmps39
  go_wp2_with (first
    | (go_at_call 37; refine (HN.out _ _ _).mono ?_; rintro e w' ⟨rfl, rfl⟩)
    | (go_at_call 73; refine (HW.out _ _ _ _).mono ?_; rintro e w' ⟨rfl, rfl⟩))
  go_ret2
  exact ⟨by rw [H.out.1, H.out.2]; rfl, rfl⟩
theorem spec_shift_2_0 (p v : Int) (hc : cI p = 0) (w : World) : Calls Try.prog 39 #[.int .i64 p, .int .i64 2, .int .i64 v] w (ShPost 2 p v w) := by
  have hr : shR 2 p v = v % 256 * 2 % 256 := by unfold shR; simp [hc]
  have hn : shN 2 p v = nzI (wI p 1 (decide (128 ≤ v % 256))) (v % 256 * 2 % 256) := by rw [shN_yes 2 p v (by omega), hr, nz_c]; rfl
  have H := Lib.hid (And.intro hn hr)
  clear hn hr
  have HW := Lib.hid spec_with
  have HN := Lib.hid spec_nz
  have hC := and_1 p
  rw [hc] at hC
  have hV := and_255 v
  have hV2 := and_255 (v % 256 * 2)
  have ho := or1 (v % 256) (by omega)
  have ho1 := ho.1
  have ho2 := ho.2.1
  have hh := hi_bit (v % 256) (by omega)
  have hh1 := hh.1
  have hh2 := hh.2.1
  rw [show v % 256 % 2 = v % 2 by omega] at hh2
  clear ho hh hc
  go_enter Try.func39, Try.ntmps39
  go_wp2_with (first
    | (go_at_call 37; refine (HN.out _ _ _).mono ?_; rintro e w' ⟨rfl, rfl⟩)
    | (go_at_call 73; refine (HW.out _ _ _ _).mono ?_; rintro e w' ⟨rfl, rfl⟩))
  go_ret2
  exact ⟨by rw [H.out.1, H.out.2]; rfl, rfl⟩
theorem spec_shift_2_1 (p v : Int) (hc : cI p = 1) (w : World) : Calls Try.prog 39 #[.int .i64 p, .int .i64 2, .int .i64 v] w (ShPost 2 p v w) := by
  have hr : shR 2 p v = v % 256 * 2 % 256 + 1 := by unfold shR; simp [hc]
  have hn : shN 2 p v = nzI (wI p 1 (decide (128 ≤ v % 256))) (v % 256 * 2 % 256 + 1) := by rw [shN_yes 2 p v (by omega), hr, nz_c]; rfl
  have H := Lib.hid (And.intro hn hr)
  clear hn hr
  have HW := Lib.hid spec_with
  have HN := Lib.hid spec_nz
  have hC := and_1 p
  rw [hc] at hC
  have hV := and_255 v
  have hV2 := and_255 (v % 256 * 2)
  have ho := or1 (v % 256) (by omega)
  have ho1 := ho.1
  have ho2 := ho.2.1
  have hh := hi_bit (v % 256) (by omega)
  have hh1 := hh.1
  have hh2 := hh.2.1
  rw [show v % 256 % 2 = v % 2 by omega] at hh2
  clear ho hh hc
  go_enter Try.func39, Try.ntmps39
  go_wp2_with (first
    | (go_at_call 37; refine (HN.out _ _ _).mono ?_; rintro e w' ⟨rfl, rfl⟩)
    | (go_at_call 73; refine (HW.out _ _ _ _).mono ?_; rintro e w' ⟨rfl, rfl⟩))
  go_ret2
  exact ⟨by rw [H.out.1, H.out.2]; rfl, rfl⟩
theorem spec_shift_3_0 (p v : Int) (hc : cI p = 0) (w : World) : Calls Try.prog 39 #[.int .i64 p, .int .i64 3, .int .i64 v] w (ShPost 3 p v w) := by
  have hr : shR 3 p v = v % 256 / 2 := by unfold shR; simp [hc]
  have hn : shN 3 p v = nzI (wI p 1 (decide (v % 2 = 1))) (v % 256 / 2) := by rw [shN_yes 3 p v (by omega), hr, nz_c]; rfl
  have H := Lib.hid (And.intro hn hr)
  clear hn hr
  have HW := Lib.hid spec_with
  have HN := Lib.hid spec_nz
  have hC := and_1 p
  rw [hc] at hC
  have hV := and_255 v
  have hV2 := and_255 (v % 256 * 2)
  have ho := or1 (v % 256) (by omega)
  have ho1 := ho.1
  have ho2 := ho.2.1
  have hh := hi_bit (v % 256) (by omega)
  have hh1 := hh.1
  have hh2 := hh.2.1
  rw [show v % 256 % 2 = v % 2 by omega] at hh2
  clear ho hh hc
  go_enter Try.func39, Try.ntmps39
  go_wp2_with (first
    | (go_at_call 37; refine (HN.out _ _ _).mono ?_; rintro e w' ⟨rfl, rfl⟩)
    | (go_at_call 73; refine (HW.out _ _ _ _).mono ?_; rintro e w' ⟨rfl, rfl⟩))
  go_ret2
  exact ⟨by rw [H.out.1, H.out.2]; rfl, rfl⟩
theorem spec_shift_3_1 (p v : Int) (hc : cI p = 1) (w : World) : Calls Try.prog 39 #[.int .i64 p, .int .i64 3, .int .i64 v] w (ShPost 3 p v w) := by
  have hr : shR 3 p v = v % 256 / 2 + 128 := by unfold shR; simp [hc]
  have hn : shN 3 p v = nzI (wI p 1 (decide (v % 2 = 1))) (v % 256 / 2 + 128) := by rw [shN_yes 3 p v (by omega), hr, nz_c]; rfl
  have H := Lib.hid (And.intro hn hr)
  clear hn hr
  have HW := Lib.hid spec_with
  have HN := Lib.hid spec_nz
  have hC := and_1 p
  rw [hc] at hC
  have hV := and_255 v
  have hV2 := and_255 (v % 256 * 2)
  have ho := or1 (v % 256) (by omega)
  have ho1 := ho.1
  have ho2 := ho.2.1
  have hh := hi_bit (v % 256) (by omega)
  have hh1 := hh.1
  have hh2 := hh.2.1
  rw [show v % 256 % 2 = v % 2 by omega] at hh2
  clear ho hh hc
  go_enter Try.func39, Try.ntmps39
  go_wp2_with (first
    | (go_at_call 37; refine (HN.out _ _ _).mono ?_; rintro e w' ⟨rfl, rfl⟩)
    | (go_at_call 73; refine (HW.out _ _ _ _).mono ?_; rintro e w' ⟨rfl, rfl⟩))
  go_ret2
  exact ⟨by rw [H.out.1, H.out.2]; rfl, rfl⟩
theorem spec_shift (p kind v : Int) (w : World) : Calls Try.prog 39 #[.int .i64 p, .int .i64 kind, .int .i64 v] w (ShPost kind p v w) := by
  by_cases h : 0 ≤ kind ∧ kind ≤ 3
  · have hc : cI p = 0 ∨ cI p = 1 := by have := cI_bd p; omega
    obtain rfl | rfl | rfl | rfl : kind = 0 ∨ kind = 1 ∨ kind = 2 ∨ kind = 3 := by omega
    · exact hc.elim (fun h => spec_shift_0_0 p v h w) (fun h => spec_shift_0_1 p v h w)
    · exact hc.elim (fun h => spec_shift_1_0 p v h w) (fun h => spec_shift_1_1 p v h w)
    · exact hc.elim (fun h => spec_shift_2_0 p v h w) (fun h => spec_shift_2_1 p v h w)
    · exact hc.elim (fun h => spec_shift_3_0 p v h w) (fun h => spec_shift_3_1 p v h w)
  · exact spec_shift_no kind p v h w
end Go.Proofs.Ytfeifcffgachoaa
