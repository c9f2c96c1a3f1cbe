/-
  Contracts of the sums (chapter 2): spec.Add and impl.Add answer the same notes and the same byte.
  Conditions: none.
-/
import Derived.Test.YtfeifcffgachoaaAlA
namespace Go.Proofs.Ytfeifcffgachoaa
open Go.RowKit
def AddPost (k : IntKind) (n r : Int) (w : World) (e : Ending) (w' : World) : Prop := e = .returned (.tuple #[.int k n, .int k r]) ∧ w = w'
theorem spec_add_bin (p a b : Int) (ht : tst p 8 = false) (w : World) :
    Calls Try.prog 33 #[.int .i64 p, .int .i64 a, .int .i64 b] w (AddPost .i64 (addN p a b) (addR p a b) w) := by
  have HW := Lib.hid spec_with
  have HN := Lib.hid spec_nz
  have h8 := tst_i64 p 8 (by omega)
  rw [ht] at h8
  have hA := and_255 a
  have hB := and_255 b
  have hC := and_1 p
  have h0 := cI_bd p
  have hS := sg_i64 (a % 256) (b % 256) (a % 256 + b % 256 + cI p)
  rw [sg_mod] at hS
  have hR := and_255 (a % 256 + b % 256 + cI p)
  have H : Hid (addN p a b = wI (wI (nzI p (a % 256 + b % 256 + cI p)) 64 (sg a b (a % 256 + b % 256 + cI p))) 1 (decide (255 < a % 256 + b % 256 + cI p)) ∧ addR p a b = (a % 256 + b % 256 + cI p) % 256) :=
    Lib.hid (by unfold addN addR binN rI; rw [ht]; exact ⟨rfl, rfl⟩)
  go_enter Try.func33, Try.ntmps33
  go_wp2_with (first
    | (go_at_call 37; refine (HN.out _ _ _).mono ?_; rintro e w' ⟨rfl, rfl⟩)
    | (go_at_call 73; refine (HW.out _ _ _ _).mono ?_; rintro e w' ⟨rfl, rfl⟩))
  go_ret2
  unfold AddPost
  rw [H.out.1, H.out.2]
  exact ⟨rfl, rfl⟩
theorem spec_add_ten (p a b : Int) (ht : tst p 8 = true) (w : World) :
    Calls Try.prog 33 #[.int .i64 p, .int .i64 a, .int .i64 b] w (AddPost .i64 (addN p a b) (addR p a b) w) := by
  have HW := Lib.hid spec_with
  have HN := Lib.hid spec_nz
  have h8 := tst_i64 p 8 (by omega)
  rw [ht] at h8
  have hA := and_255 a
  have hB := and_255 b
  have hC := and_1 p
  have h0 := cI_bd p
  have hA1 := and_15 (a % 256)
  have hB1 := and_15 (b % 256)
  rw [show a % 256 % 16 = a % 16 by omega] at hA1
  rw [show b % 256 % 16 = b % 16 by omega] at hB1
  have hA2 := and_240 (a % 256)
  have hB2 := and_240 (b % 256)
  rw [Int.emod_emod] at hA2 hB2
  by_cases h9 : 9 < a % 16 + b % 16 + cI p
  · have hl := and_15 (a % 16 + b % 16 + cI p + 6)
    have hs : sI p a b = a % 256 / 16 * 16 + b % 256 / 16 * 16 + ((a % 16 + b % 16 + cI p + 6) % 16 + 16) := by unfold sI lowI; rw [if_pos h9]
    by_cases h160 : 160 ≤ a % 256 / 16 * 16 + b % 256 / 16 * 16 + ((a % 16 + b % 16 + cI p + 6) % 16 + 16)
    · have HX := Lib.hid (ten_close p a b _ (a % 256 / 16 * 16 + b % 256 / 16 * 16 + ((a % 16 + b % 16 + cI p + 6) % 16 + 16) + 96) ht hs (by unfold upI; rw [if_pos h160]))
      clear hs
      go_enter Try.func33, Try.ntmps33
      go_wp2_with (first
        | (go_at_call 37; refine (HN.out _ _ _).mono ?_; rintro e w' ⟨rfl, rfl⟩)
        | (go_at_call 73; refine (HW.out _ _ _ _).mono ?_; rintro e w' ⟨rfl, rfl⟩))
      go_ret2
      exact ⟨by rw [← HX.out.1, ← HX.out.2]; rfl, rfl⟩
    · have HX := Lib.hid (ten_close p a b _ (a % 256 / 16 * 16 + b % 256 / 16 * 16 + ((a % 16 + b % 16 + cI p + 6) % 16 + 16)) ht hs (by unfold upI; rw [if_neg h160]))
      clear hs
      go_enter Try.func33, Try.ntmps33
      go_wp2_with (first
        | (go_at_call 37; refine (HN.out _ _ _).mono ?_; rintro e w' ⟨rfl, rfl⟩)
        | (go_at_call 73; refine (HW.out _ _ _ _).mono ?_; rintro e w' ⟨rfl, rfl⟩))
      go_ret2
      exact ⟨by rw [← HX.out.1, ← HX.out.2]; rfl, rfl⟩
  · have hs : sI p a b = a % 256 / 16 * 16 + b % 256 / 16 * 16 + (a % 16 + b % 16 + cI p) := by unfold sI lowI; rw [if_neg h9]
    by_cases h160 : 160 ≤ a % 256 / 16 * 16 + b % 256 / 16 * 16 + (a % 16 + b % 16 + cI p)
    · have HX := Lib.hid (ten_close p a b _ (a % 256 / 16 * 16 + b % 256 / 16 * 16 + (a % 16 + b % 16 + cI p) + 96) ht hs (by unfold upI; rw [if_pos h160]))
      clear hs
      go_enter Try.func33, Try.ntmps33
      go_wp2_with (first
        | (go_at_call 37; refine (HN.out _ _ _).mono ?_; rintro e w' ⟨rfl, rfl⟩)
        | (go_at_call 73; refine (HW.out _ _ _ _).mono ?_; rintro e w' ⟨rfl, rfl⟩))
      go_ret2
      exact ⟨by rw [← HX.out.1, ← HX.out.2]; rfl, rfl⟩
    · have HX := Lib.hid (ten_close p a b _ (a % 256 / 16 * 16 + b % 256 / 16 * 16 + (a % 16 + b % 16 + cI p)) ht hs (by unfold upI; rw [if_neg h160]))
      clear hs
      go_enter Try.func33, Try.ntmps33
      go_wp2_with (first
        | (go_at_call 37; refine (HN.out _ _ _).mono ?_; rintro e w' ⟨rfl, rfl⟩)
        | (go_at_call 73; refine (HW.out _ _ _ _).mono ?_; rintro e w' ⟨rfl, rfl⟩))
      go_ret2
      exact ⟨by rw [← HX.out.1, ← HX.out.2]; rfl, rfl⟩
theorem spec_add (p a b : Int) (w : World) : Calls Try.prog 33 #[.int .i64 p, .int .i64 a, .int .i64 b] w (AddPost .i64 (addN p a b) (addR p a b) w) := by
  cases ht : tst p 8
  · exact spec_add_bin p a b ht w
  · exact spec_add_ten p a b ht w
theorem sign_changes (a b s : Int) (w : World) :
    Calls Try.prog 99 #[.int .u8 a, .int .u8 b, .int .u8 s] w fun e w' => e = .returned (.bool (sg a b s)) ∧ w = w' := by
  have HS := Lib.hid is_high
  have H := sg_u8 a b s
  go_enter Try.func99, Try.ntmps99
  go_wp2_with (go_at_call 100; refine (HS.out _ _).mono ?_; rintro e w' ⟨rfl, rfl⟩)
  go_ret
  exact ⟨by rw [← H]; rfl, rfl⟩
theorem add_binary (p a b : Int) (ha : 0 ≤ a ∧ a < 256) (hb : 0 ≤ b ∧ b < 256) (w : World) :
    Calls Try.prog 86 #[.int .u8 p, .int .u8 a, .int .u8 b] w (AddPost .u8 (binN p a b) (rI p a b % 256) w) := by
  have HW := Lib.hid with_flag
  have HN := Lib.hid with_nz
  have HC := Lib.hid carry_of
  have HS := Lib.hid sign_changes
  have h0 := cI_bd p
  go_enter Try.func86, Try.ntmps86
  go_wp2_with (first
    | (go_at_call 95; refine (HC.out _ _).mono ?_; rintro e w' ⟨rfl, rfl⟩)
    | (go_at_call 89; refine (HN.out _ _ (by omega) _).mono ?_; rintro e w' ⟨rfl, rfl⟩)
    | (go_at_call 99; refine (HS.out _ _ _ _).mono ?_; rintro e w' ⟨rfl, rfl⟩)
    | (go_at_call 90; refine (HW.out _ _ _ _).mono ?_; rintro e w' ⟨rfl, rfl⟩))
  go_ret2
  have H := bin_close p a b ha hb
  exact ⟨by rw [← H.1, ← H.2]; rfl, rfl⟩
end Go.Proofs.Ytfeifcffgachoaa
