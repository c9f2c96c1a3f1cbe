/-
  Contracts of the differences of the program (chapter 2): impl.subTens, impl.Sub.
  Conditions: none.
-/
import Derived.Test.YtfeifcffgachoaaAlE
namespace Go.Proofs.Ytfeifcffgachoaa
open Go.RowKit
theorem sub_tens (p a b : Int) (ha : 0 ≤ a ∧ a < 256) (hb : 0 ≤ b ∧ b < 256) (w : World) :
    Calls Try.prog 88 #[.int .u8 p, .int .u8 a, .int .u8 b] w fun e w' => e = .returned (.int .u8 (dnI (tI p a b) % 256)) ∧ w = w' := by
  have HC := Lib.hid carry_of
  have h0 := cI_bd p
  have hA1 := u8_15 a
  have hB1 := u8_15 b
  have hA2 := u8_240 a
  have hB2 := u8_240 b
  rw [Int.emod_eq_of_lt ha.1 ha.2] at hA2
  rw [Int.emod_eq_of_lt hb.1 hb.2] at hB2
  have hT := tI_alt p a b ha hb
  by_cases h9 : a % 16 - b % 16 - 1 + cI p < 0
  · have hl := k_15 .i16 (by decide) (a % 16 - b % 16 - 1 + cI p - 6)
    have hs : tI p a b = a / 16 * 16 - b / 16 * 16 + ((a % 16 - b % 16 - 1 + cI p - 6) % 16 - 16) := by rw [hT]; unfold lowS; rw [if_pos h9]
    clear hT
    by_cases h0s : a / 16 * 16 - b / 16 * 16 + ((a % 16 - b % 16 - 1 + cI p - 6) % 16 - 16) < 0
    · have HX : Hid (dnI (tI p a b) = (a / 16 * 16 - b / 16 * 16 + ((a % 16 - b % 16 - 1 + cI p - 6) % 16 - 16) - 96)) := Lib.hid (by unfold dnI; rw [hs, if_pos h0s])
      clear hs
      go_enter Try.func88, Try.ntmps88
      go_wp2_with (go_at_call 95; refine (HC.out _ _).mono ?_; rintro e w' ⟨rfl, rfl⟩)
      go_ret
      exact ⟨by rw [HX.out]; rfl, rfl⟩
    · have HX : Hid (dnI (tI p a b) = (a / 16 * 16 - b / 16 * 16 + ((a % 16 - b % 16 - 1 + cI p - 6) % 16 - 16))) := Lib.hid (by unfold dnI; rw [hs, if_neg h0s])
      clear hs
      go_enter Try.func88, Try.ntmps88
      go_wp2_with (go_at_call 95; refine (HC.out _ _).mono ?_; rintro e w' ⟨rfl, rfl⟩)
      go_ret
      exact ⟨by rw [HX.out, Int.emod_eq_of_lt (a := (a / 16 * 16 - b / 16 * 16 + ((a % 16 - b % 16 - 1 + cI p - 6) % 16 - 16))) (b := 256) (by omega) (by omega)]; rfl, rfl⟩
  · skip
    have hs : tI p a b = a / 16 * 16 - b / 16 * 16 + (a % 16 - b % 16 - 1 + cI p) := by rw [hT]; unfold lowS; rw [if_neg h9]
    clear hT
    by_cases h0s : a / 16 * 16 - b / 16 * 16 + (a % 16 - b % 16 - 1 + cI p) < 0
    · have HX : Hid (dnI (tI p a b) = (a / 16 * 16 - b / 16 * 16 + (a % 16 - b % 16 - 1 + cI p) - 96)) := Lib.hid (by unfold dnI; rw [hs, if_pos h0s])
      clear hs
      go_enter Try.func88, Try.ntmps88
      go_wp2_with (go_at_call 95; refine (HC.out _ _).mono ?_; rintro e w' ⟨rfl, rfl⟩)
      go_ret
      exact ⟨by rw [HX.out]; rfl, rfl⟩
    · have HX : Hid (dnI (tI p a b) = (a / 16 * 16 - b / 16 * 16 + (a % 16 - b % 16 - 1 + cI p))) := Lib.hid (by unfold dnI; rw [hs, if_neg h0s])
      clear hs
      go_enter Try.func88, Try.ntmps88
      go_wp2_with (go_at_call 95; refine (HC.out _ _).mono ?_; rintro e w' ⟨rfl, rfl⟩)
      go_ret
      exact ⟨by rw [HX.out, Int.emod_eq_of_lt (a := (a / 16 * 16 - b / 16 * 16 + (a % 16 - b % 16 - 1 + cI p))) (b := 256) (by omega) (by omega)]; rfl, rfl⟩
theorem impl_sub (p a b : Int) (w : World) :
    Calls Try.prog 68 #[.int .i64 p, .int .i64 a, .int .i64 b] w (AddPost .i64 (subN p a b) (subR p a b) w) := by
  have hc : 0 ≤ bits .xor .u8 IntKind.u8.max (b % 256) ∧ bits .xor .u8 IntKind.u8.max (b % 256) < 256 := ⟨bits_lo_u8 _ _ _, by have := bits_hi_u8 .xor IntKind.u8.max (b % 256); omega⟩
  have hB := add_binary (p % 256) (a % 256) (bits .xor .u8 IntKind.u8.max (b % 256)) (by omega) hc w
  have hb := sub_bin (p % 256) (a % 256) (b % 256) _ (flip_u8 (b % 256))
  rw [subN_mod, dI_mod] at hb
  rw [hb.1, hb.2] at hB
  have HB := Lib.hid hB
  have hT := sub_tens (p % 256) (a % 256) (b % 256) (by omega) (by omega) w
  rw [tI_mod] at hT
  have HT := Lib.hid hT
  clear hB hb hT
  have hs := is_set (p % 256) 8 w
  rw [tst_mod] at hs
  have n1 := subN_bd p a b
  unfold AddPost
  cases ht : tst p 8
  · rw [ht] at hs
    have e2 : subR p a b = dI p a b % 256 := by unfold subR; rw [ht]; rfl
    rw [e2]
    clear e2
    go_enter Try.func68, Try.ntmps68
    go_wp2_with (first
      | (go_at_call 44; refine hs.mono ?_; rintro e w' ⟨rfl, rfl⟩)
      | (go_at_call 86; refine HB.out.mono ?_; rintro e w' ⟨rfl, rfl⟩)
      | (go_at_call 88; refine HT.out.mono ?_; rintro e w' ⟨rfl, rfl⟩))
    go_ret2
    exact ⟨rfl, rfl⟩
  · rw [ht] at hs
    have e2 : subR p a b = dnI (tI p a b) % 256 := by unfold subR; rw [ht]; rfl
    rw [e2]
    clear e2
    go_enter Try.func68, Try.ntmps68
    go_wp2_with (first
      | (go_at_call 44; refine hs.mono ?_; rintro e w' ⟨rfl, rfl⟩)
      | (go_at_call 86; refine HB.out.mono ?_; rintro e w' ⟨rfl, rfl⟩)
      | (go_at_call 88; refine HT.out.mono ?_; rintro e w' ⟨rfl, rfl⟩))
    go_ret2
    exact ⟨rfl, rfl⟩
end Go.Proofs.Ytfeifcffgachoaa
