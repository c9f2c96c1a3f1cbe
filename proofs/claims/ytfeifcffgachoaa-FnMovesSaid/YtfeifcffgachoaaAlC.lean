/-
  Contracts of the sums by tens of the program (chapter 2), and of impl.Add.
  Conditions: none.
-/
import Derived.Test.YtfeifcffgachoaaAlB
namespace Go.Proofs.Ytfeifcffgachoaa
open Go.RowKit
theorem add_tens (p a b : Int) (ha : 0 ≤ a ∧ a < 256) (hb : 0 ≤ b ∧ b < 256) (w : World) :
    Calls Try.prog 87 #[.int .u8 p, .int .u8 a, .int .u8 b] w (AddPost .u8 (tenN p a b) (upI (sI p a b) % 256) w) := by
  have HW := Lib.hid with_flag
  have HB := Lib.hid add_binary
  have HC := Lib.hid carry_of
  have HT := Lib.hid is_high
  have HS := Lib.hid sign_changes
  have h0 := cI_bd p
  have hA1 := u8_15 a
  have hB1 := u8_15 b
  have hA2 := u8_240 a
  have hB2 := u8_240 b
  rw [Int.emod_eq_of_lt ha.1 ha.2] at hA2
  rw [Int.emod_eq_of_lt hb.1 hb.2] at hB2
  have hsI : sI p a b = a / 16 * 16 + b / 16 * 16 + lowI (a % 16 + b % 16 + cI p) := by unfold sI; rw [Int.emod_eq_of_lt ha.1 ha.2, Int.emod_eq_of_lt hb.1 hb.2]
  by_cases h9 : 9 < a % 16 + b % 16 + cI p
  · have hl := k_15 .u16 (by decide) (a % 16 + b % 16 + cI p + 6)
    have hs : sI p a b = a / 16 * 16 + b / 16 * 16 + (16 + (a % 16 + b % 16 + cI p + 6) % 16) := by rw [hsI]; unfold lowI; rw [if_pos h9]; omega
    clear hsI
    by_cases h160 : 160 ≤ a / 16 * 16 + b / 16 * 16 + (16 + (a % 16 + b % 16 + cI p + 6) % 16)
    · have HX := Lib.hid (ten_close2 p a b _ (a / 16 * 16 + b / 16 * 16 + (16 + (a % 16 + b % 16 + cI p + 6) % 16) + 96) hs (by unfold upI; rw [if_pos h160]))
      clear hs
      go_enter Try.func87, Try.ntmps87
      go_wp2_with (first
        | (go_at_call 95; refine (HC.out _ _).mono ?_; rintro e w' ⟨rfl, rfl⟩)
        | (go_at_call 86; refine (HB.out _ _ _ ha hb _).mono ?_; rintro e w' ⟨rfl, rfl⟩)
        | (go_at_call 100; refine (HT.out _ _).mono ?_; rintro e w' ⟨rfl, rfl⟩)
        | (go_at_call 99; refine (HS.out _ _ _ _).mono ?_; rintro e w' ⟨rfl, rfl⟩)
        | (go_at_call 90; refine (HW.out _ _ _ _).mono ?_; rintro e w' ⟨rfl, rfl⟩))
      go_ret2
      exact ⟨by rw [← HX.out.1, ← HX.out.2]; rfl, rfl⟩
    · have hX := ten_close2 p a b _ (a / 16 * 16 + b / 16 * 16 + (16 + (a % 16 + b % 16 + cI p + 6) % 16)) hs (by unfold upI; rw [if_neg h160])
      rw [Int.emod_eq_of_lt (a := (a / 16 * 16 + b / 16 * 16 + (16 + (a % 16 + b % 16 + cI p + 6) % 16))) (b := 256) (by omega) (by omega)] at hX
      have HX := Lib.hid hX
      clear hX
      clear hs
      go_enter Try.func87, Try.ntmps87
      go_wp2_with (first
        | (go_at_call 95; refine (HC.out _ _).mono ?_; rintro e w' ⟨rfl, rfl⟩)
        | (go_at_call 86; refine (HB.out _ _ _ ha hb _).mono ?_; rintro e w' ⟨rfl, rfl⟩)
        | (go_at_call 100; refine (HT.out _ _).mono ?_; rintro e w' ⟨rfl, rfl⟩)
        | (go_at_call 99; refine (HS.out _ _ _ _).mono ?_; rintro e w' ⟨rfl, rfl⟩)
        | (go_at_call 90; refine (HW.out _ _ _ _).mono ?_; rintro e w' ⟨rfl, rfl⟩))
      go_ret2
      exact ⟨by rw [← HX.out.1, ← HX.out.2]; rfl, rfl⟩
  · have hs : sI p a b = a / 16 * 16 + b / 16 * 16 + (a % 16 + b % 16 + cI p) := by rw [hsI]; unfold lowI; rw [if_neg h9]
    clear hsI
    by_cases h160 : 160 ≤ a / 16 * 16 + b / 16 * 16 + (a % 16 + b % 16 + cI p)
    · have HX := Lib.hid (ten_close2 p a b _ (a / 16 * 16 + b / 16 * 16 + (a % 16 + b % 16 + cI p) + 96) hs (by unfold upI; rw [if_pos h160]))
      clear hs
      go_enter Try.func87, Try.ntmps87
      go_wp2_with (first
        | (go_at_call 95; refine (HC.out _ _).mono ?_; rintro e w' ⟨rfl, rfl⟩)
        | (go_at_call 86; refine (HB.out _ _ _ ha hb _).mono ?_; rintro e w' ⟨rfl, rfl⟩)
        | (go_at_call 100; refine (HT.out _ _).mono ?_; rintro e w' ⟨rfl, rfl⟩)
        | (go_at_call 99; refine (HS.out _ _ _ _).mono ?_; rintro e w' ⟨rfl, rfl⟩)
        | (go_at_call 90; refine (HW.out _ _ _ _).mono ?_; rintro e w' ⟨rfl, rfl⟩))
      go_ret2
      exact ⟨by rw [← HX.out.1, ← HX.out.2]; rfl, rfl⟩
    · have hX := ten_close2 p a b _ (a / 16 * 16 + b / 16 * 16 + (a % 16 + b % 16 + cI p)) hs (by unfold upI; rw [if_neg h160])
      rw [Int.emod_eq_of_lt (a := (a / 16 * 16 + b / 16 * 16 + (a % 16 + b % 16 + cI p))) (b := 256) (by omega) (by omega)] at hX
      have HX := Lib.hid hX
      clear hX
      clear hs
      go_enter Try.func87, Try.ntmps87
      go_wp2_with (first
        | (go_at_call 95; refine (HC.out _ _).mono ?_; rintro e w' ⟨rfl, rfl⟩)
        | (go_at_call 86; refine (HB.out _ _ _ ha hb _).mono ?_; rintro e w' ⟨rfl, rfl⟩)
        | (go_at_call 100; refine (HT.out _ _).mono ?_; rintro e w' ⟨rfl, rfl⟩)
        | (go_at_call 99; refine (HS.out _ _ _ _).mono ?_; rintro e w' ⟨rfl, rfl⟩)
        | (go_at_call 90; refine (HW.out _ _ _ _).mono ?_; rintro e w' ⟨rfl, rfl⟩))
      go_ret2
      exact ⟨by rw [← HX.out.1, ← HX.out.2]; rfl, rfl⟩
end Go.Proofs.Ytfeifcffgachoaa
