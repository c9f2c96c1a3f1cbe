/-
  The walks of spec.ChipOk, spec.Asks and spec.TickChip (chapter 6).
  Conditions: the numbers are those of their kind; each walk leaves old memory as it was.
-/
import Derived.Test.YtgpcmekcdgboeaaChA
import Derived.Test.YtgpcmekcdgboeaaRgC
import Derived.Test.YtgpcmekcdgboeaaRow
namespace Go.Proofs.Ytgpcmekcdgboeaa
open Go.RowKit
theorem spec_word (n : Int) (w : World) : Calls Try.prog 38 #[.int .i64 n] w fun e w' => e = .returned (.bool (isAd n)) ∧ w = w' := by
  have H := Lib.hid (spec_addr n)
  go_enter Try.func38, Try.ntmps38
  go_wp2_with (go_at_call 19; refine (H.out _).mono ?_; rintro e w' ⟨rfl, rfl⟩)
  go_ret
  exact ⟨rfl, rfl⟩
set_option maxHeartbeats 1000000 in
theorem spec_chipOk (c : ChipI) (hf : c.fits) (w : World) : Calls Try.prog 16 #[chipV c] w fun e w' => e = .returned (.bool (okC c)) ∧ Below w.heap.size w w' := by
  have hF := isF_bits hf.fl
  have hM := isF_bits hf.ms
  obtain ⟨c1, l1, v1, ag, c2, o2, v2, pt, dr, fl, ms⟩ := c
  have H : Hid (okC ⟨c1, l1, v1, ag, c2, o2, v2, pt, dr, fl, ms⟩ = (isAd c1 && isAd l1 && isAd c2 && isB o2 && isB pt && isB dr && isF fl && isF ms)) := Lib.hid rfl
  clear hf
  unfold chipV chipC
  simp only [] at hF hM ⊢
  have HB := Lib.hid spec_byte
  have HA := Lib.hid spec_word
  cases h7 : isF fl <;> cases h8 : isF ms
  all_goals
    rw [h7] at hF
    rw [h8] at hM
    have H7 := Lib.hid h7
    have H8 := Lib.hid h8
    clear h7 h8
    go_enter Try.func16, Try.ntmps16
    go_wp2_with (first
      | (go_at_call 18; refine (HB.out _ _).mono ?_; rintro e w' ⟨rfl, rfl⟩)
      | (go_at_call 38; refine (HA.out _ _).mono ?_; rintro e w' ⟨rfl, rfl⟩))
    all_goals go_ret
    all_goals exact ⟨by rw [H.out, H7.out, H8.out]; simp [*], (Below.refl _ _).alloc (Nat.le_refl _) _⟩
theorem chip_size : (Try.prog.info? 42).map (·.size) = some 11 := by kernel_rfl
theorem chipV_mk (c1 l1 : Int) (v1 ag : Bool) (c2 o2 : Int) (v2 : Bool) (pt dr fl ms : Int) : chipV ⟨c1, l1, v1, ag, c2, o2, v2, pt, dr, fl, ms⟩ = .agg #[.int .i64 c1, .int .i64 l1, .bool v1, .bool ag, .int .i64 c2, .int .i64 o2, .bool v2, .int .i64 pt, .int .i64 dr, .int .i64 fl, .int .i64 ms] := rfl
def zeroC : Array Value := #[.int .i64 0, .int .i64 0, .bool false, .bool false, .int .i64 0, .int .i64 0, .bool false, .int .i64 0, .int .i64 0, .int .i64 0, .int .i64 0]
end Go.Proofs.Ytgpcmekcdgboeaa
