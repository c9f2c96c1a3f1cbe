/-
  Contracts of spec.Bit, impl.Bit (chapter 2).
  Conditions: none.
-/
import Derived.Test.YtfeifcffgachoaaAlA
import Derived.Test.YtfeifcffgachoaaBvD
namespace Go.Proofs.Ytfeifcffgachoaa
open Go.RowKit
/-- What is noted of two bytes and their bits in common. -/
def bitN (p a v : Int) : Int := wI (wI (wI p 128 (tst v 128)) 64 (tst v 64)) 2 (!tst a v)
theorem bitN_bd (p a v : Int) : 0 ≤ bitN p a v ∧ bitN p a v < 256 := wI_bd _ _ _
theorem both_i64 (a v : Int) : (bits .and .i64 (bits .and .i64 a v) 255 == 0) = !tst a v := by
  rw [and255_0]
  unfold tst
  rw [B8_bits, show B8 255 = BitVec.allOnes 8 by decide, BitVec.and_allOnes]
  rfl
theorem both_u8 (a v : Int) : (bits .and .u8 a v == 0) = !tst a v := by
  have h := tst_u8 a v
  unfold bne at h
  rw [← Bool.not_not (bits .and .u8 a v == 0), h]
theorem tst_mod' (a v : Int) : tst (a % 256) (v % 256) = tst a v := by unfold tst; rw [B8_mod, B8_mod]
theorem spec_bit (p a v : Int) (w : World) : Calls Try.prog 36 #[.int .i64 p, .int .i64 a, .int .i64 v] w fun e w' => e = .returned (.int .i64 (bitN p a v)) ∧ w = w' := by
  have HW := Lib.hid spec_with
  have h1 := tst_i64 v 128 (by omega)
  have h2 := tst_i64 v 64 (by omega)
  have h3 := both_i64 a v
  go_enter Try.func36, Try.ntmps36
  go_wp2_with (go_at_call 73; refine (HW.out _ _ _ _).mono ?_; rintro e w' ⟨rfl, rfl⟩)
  go_ret
  exact ⟨rfl, rfl⟩
theorem impl_bit (p a v : Int) (w : World) : Calls Try.prog 70 #[.int .i64 p, .int .i64 a, .int .i64 v] w fun e w' => e = .returned (.int .i64 (bitN p a v)) ∧ w = w' := by
  have HW := Lib.hid with_flag
  have HS := Lib.hid is_set
  have h3 := both_u8 (a % 256) (v % 256)
  rw [tst_mod'] at h3
  have hb := bitN_bd p a v
  unfold bitN at hb
  go_enter Try.func70, Try.ntmps70
  go_wp2_with (first
    | (go_at_call 44; refine (HS.out _ _ _).mono ?_; rintro e w' ⟨rfl, rfl⟩; rw [tst_mod])
    | (go_at_call 90; refine (HW.out _ _ _ _).mono ?_; rintro e w' ⟨rfl, rfl⟩; try rw [wI_mod]))
  go_ret
  exact ⟨rfl, rfl⟩
end Go.Proofs.Ytfeifcffgachoaa
