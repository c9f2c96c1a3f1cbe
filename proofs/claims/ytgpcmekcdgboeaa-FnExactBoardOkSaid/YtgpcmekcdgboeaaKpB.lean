/-
  The walks of both KeeperOk (chapter 8).
  Conditions: none; each walk leaves old memory as it was.
-/
import Derived.Test.YtgpcmekcdgboeaaKpA
import Derived.Test.YtgpcmekcdgboeaaChJ
import Derived.Test.YtgpcmekcdgboeaaHxS
namespace Go.Proofs.Ytgpcmekcdgboeaa
open Go.RowKit
theorem keep_size : (Try.prog.info? 44).map (·.size) = some 7 := by kernel_rfl
theorem spec_up (n m : Int) (w : World) : Calls Try.prog 19 #[.int .i64 n, .int .i64 0, .int .i64 m] w fun e w' => e = .returned (.bool (isUp n m)) ∧ w = w' := by
  cases h : isUp n m
  · have h' := isUp_no h
    refine (hx_in_no n 0 m w (by omega)).mono ?_
    rintro e w' ⟨rfl, rfl⟩
    exact ⟨rfl, rfl⟩
  · have h' := isUp_yes h
    refine (hx_in_yes n 0 m w (by omega) (by omega)).mono ?_
    rintro e w' ⟨rfl, rfl⟩
    exact ⟨rfl, rfl⟩
theorem is_up (n m : Int) (w : World) : Calls Try.prog 29 #[.int .i64 n, .int .i64 m] w fun e w' => e = .returned (.bool (isUp n m)) ∧ w = w' := by
  cases h : isUp n m
  · have h' := isUp_no h
    by_cases h0 : 0 ≤ n
    · have h1 : ¬ n ≤ m := by omega
      clear h h'
      go_enter Try.func29, Try.ntmps29
      go_wp2
      go_ret
      exact ⟨rfl, rfl⟩
    · clear h h'
      go_enter Try.func29, Try.ntmps29
      go_wp2
      go_ret
      exact ⟨rfl, rfl⟩
  · obtain ⟨h0, h1⟩ := isUp_yes h
    clear h
    go_enter Try.func29, Try.ntmps29
    go_wp2
    go_ret
    exact ⟨rfl, rfl⟩
set_option maxHeartbeats 1000000 in
theorem spec_keeperOk (k : KeepI) (w : World) : Calls Try.prog 17 #[keepV k] w fun e w' => e = .returned (.bool (okK k)) ∧ Below w.heap.size w w' := by
  obtain ⟨ws, bu, wl, bl, ad, lf, sm⟩ := k
  have H : Hid (okK ⟨ws, bu, wl, bl, ad, lf, sm⟩ = (isUp ws 8 && isUp bu 8 && isUp wl ws && isUp bl bu && isAd ad && isB lf && isB sm)) := Lib.hid rfl
  rw [keepV_mk]
  have HU := Lib.hid spec_up
  have HB := Lib.hid spec_byte
  have HA := Lib.hid spec_word
  go_enter Try.func17, Try.ntmps17
  go_wp2_with (first
    | (go_at_call 19; refine (HU.out _ _ _).mono ?_; rintro e w' ⟨rfl, rfl⟩)
    | (go_at_call 18; refine (HB.out _ _).mono ?_; rintro e w' ⟨rfl, rfl⟩)
    | (go_at_call 38; refine (HA.out _ _).mono ?_; rintro e w' ⟨rfl, rfl⟩))
  all_goals go_ret
  all_goals exact ⟨by rw [H.out]; simp [*], (Below.refl _ _).alloc (Nat.le_refl _) _⟩
set_option maxHeartbeats 1000000 in
theorem impl_keeperOk (k : KeepI) (w : World) : Calls Try.prog 27 #[keepV k] w fun e w' => e = .returned (.bool (okK k)) ∧ Below w.heap.size w w' := by
  obtain ⟨ws, bu, wl, bl, ad, lf, sm⟩ := k
  have H := Lib.hid (okK_prog ws bu wl bl ad lf sm)
  rw [keepV_mk]
  have HU := Lib.hid is_up
  have HB := Lib.hid is_byte
  have HA := Lib.hid is_addr
  go_enter Try.func27, Try.ntmps27
  go_wp2_with (first
    | (go_at_call 29; refine (HU.out _ _ _).mono ?_; rintro e w' ⟨rfl, rfl⟩)
    | (go_at_call 28; refine (HB.out _ _).mono ?_; rintro e w' ⟨rfl, rfl⟩)
    | (go_at_call 43; refine (HA.out _ _).mono ?_; rintro e w' ⟨rfl, rfl⟩))
  all_goals go_ret
  all_goals exact ⟨by rw [H.out]; simp [*], (Below.refl _ _).alloc (Nat.le_refl _) _⟩
end Go.Proofs.Ytgpcmekcdgboeaa
