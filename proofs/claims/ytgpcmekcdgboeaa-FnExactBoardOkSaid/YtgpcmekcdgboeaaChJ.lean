/-
  Contracts of the program's small functions on the chip (chapter 6): counts, words and their bytes, the mask; ChipOk and Asks.
  Conditions: as each says.
-/
import Derived.Test.YtgpcmekcdgboeaaChC
namespace Go.Proofs.Ytgpcmekcdgboeaa
open Go.RowKit
theorem of_wrap64 (n : Nat) : BitVec.ofInt 64 (IntKind.i64.wrap (n : Int)) = BitVec.ofNat 64 n := by
  apply BitVec.eq_of_toNat_eq
  rw [BitVec.toNat_ofInt, BitVec.toNat_ofNat, IntKind.wrap_i64]
  have e : ((2 ^ 64 : Nat) : Int) = 18446744073709551616 := by decide
  rw [e]
  omega
theorem of_bits (op : BinOp) (a b : Int) : ∃ x : BitVec 64, BitVec.ofInt 64 (bits op .i64 a b) = x ∧ x = (match op with | .and => BitVec.ofInt 64 a &&& BitVec.ofInt 64 b | .or => BitVec.ofInt 64 a ||| BitVec.ofInt 64 b | .xor => BitVec.ofInt 64 a ^^^ BitVec.ofInt 64 b | _ => BitVec.ofInt 64 a &&& ~~~BitVec.ofInt 64 b) := by
  refine ⟨_, ?_, rfl⟩
  unfold bits
  simp only []
  rw [of_wrap64, BitVec.ofNat_toNat]
  exact BitVec.setWidth_eq _
theorem or_of (a b : Int) : BitVec.ofInt 64 (bits .or .i64 a b) = BitVec.ofInt 64 a ||| BitVec.ofInt 64 b := by
  obtain ⟨x, h, h2⟩ := of_bits .or a b
  rw [h, h2]
theorem none_zero (a : Int) : (bits .andNot .i64 a 96 == 0) = decide (BitVec.ofInt 64 a &&& ~~~(BitVec.ofInt 64 96) = 0#64) := by
  obtain ⟨x, h, h2⟩ := of_bits .andNot a 96
  simp only [] at h2
  have hb : -9223372036854775808 ≤ bits .andNot .i64 a 96 ∧ bits .andNot .i64 a 96 ≤ 9223372036854775807 := by
    unfold bits
    simp only [IntKind.wrap_i64]
    omega
  rw [← h2, ← h]
  generalize bits .andNot .i64 a 96 = z at *
  rw [Bool.eq_iff_iff, beq_iff_eq, decide_eq_true_iff]
  constructor
  · rintro rfl
    rfl
  · intro hz
    have h3 := congrArg BitVec.toNat hz
    rw [BitVec.toNat_ofInt] at h3
    have e : ((2 ^ 64 : Nat) : Int) = 18446744073709551616 := by decide
    rw [e] at h3
    simp only [BitVec.toNat_ofNat] at h3
    omega
theorem or_none (a b : Int) : (bits .andNot .i64 (bits .or .i64 a b) 96 == 0) = ((bits .andNot .i64 a 96 == 0) && (bits .andNot .i64 b 96 == 0)) := by
  rw [none_zero, none_zero, none_zero, or_of]
  generalize BitVec.ofInt 64 a = x
  generalize BitVec.ofInt 64 b = y
  generalize (~~~(BitVec.ofInt 64 96) : BitVec 64) = m
  rw [Bool.eq_iff_iff, Bool.and_eq_true, decide_eq_true_iff, decide_eq_true_iff, decide_eq_true_iff]
  have e : (x ||| y) &&& m = (x &&& m) ||| (y &&& m) := by
    ext i hi
    simp only [BitVec.getElem_and, BitVec.getElem_or]
    cases x[i] <;> cases y[i] <;> cases m[i] <;> rfl
  rw [e]
  constructor
  · intro h
    have hz : ∀ i (hi : i < 64), (x &&& m)[i] = false ∧ (y &&& m)[i] = false := by
      intro i hi
      have := congrArg (fun z : BitVec 64 => z[i]) h
      simp only [BitVec.getElem_or, BitVec.getElem_zero] at this
      simpa using this
    constructor
    · ext i hi
      rw [(hz i hi).1, BitVec.getElem_zero]
    · ext i hi
      rw [(hz i hi).2, BitVec.getElem_zero]
  · rintro ⟨h1, h2⟩
    rw [h1, h2]
    rfl
theorem is_count (n : Int) (w : World) : Calls Try.prog 42 #[.int .i64 n] w fun e w' => e = .returned (.bool (isAd n)) ∧ w = w' := by
  cases h : isAd n
  · have h' := isAd_no h
    by_cases h0 : 0 ≤ n
    · have h1 : ¬ n ≤ 65535 := by omega
      clear h h'
      go_enter Try.func42, Try.ntmps42
      go_wp2
      go_ret
      exact ⟨rfl, rfl⟩
    · clear h h'
      go_enter Try.func42, Try.ntmps42
      go_wp2
      go_ret
      exact ⟨rfl, rfl⟩
  · obtain ⟨h0, h1⟩ := isAd_yes h
    clear h
    go_enter Try.func42, Try.ntmps42
    go_wp2
    go_ret
    exact ⟨rfl, rfl⟩
set_option maxHeartbeats 2000000 in
theorem impl_chipOk (c : ChipI) (hf : c.fits) (w : World) : Calls Try.prog 26 #[chipV c] w fun e w' => e = .returned (.bool (okC c)) ∧ Below w.heap.size w w' := by
  have hF := isF_bits hf.fl
  have hM := isF_bits hf.ms
  have hO := or_none c.fl c.ms
  rw [hF, hM] at hO
  clear hF hM
  obtain ⟨c1, l1, v1, ag, c2, o2, v2, pt, dr, fl, ms⟩ := c
  have H : Hid (okC ⟨c1, l1, v1, ag, c2, o2, v2, pt, dr, fl, ms⟩ = (isAd c1 && isAd l1 && isAd c2 && isB o2 && isB pt && isB dr && isF fl && isF ms)) := Lib.hid rfl
  clear hf
  unfold chipV chipC
  simp only [] at hO ⊢
  have HB := Lib.hid is_byte
  have HA := Lib.hid is_count
  cases h7 : isF fl <;> cases h8 : isF ms
  all_goals
    rw [h7, h8] at hO
    simp only [Bool.and_self, Bool.and_true, Bool.and_false] at hO
    have H7 := Lib.hid h7
    have H8 := Lib.hid h8
    clear h7 h8
    go_enter Try.func26, Try.ntmps26
    go_wp2_with (first
      | (go_at_call 28; refine (HB.out _ _).mono ?_; rintro e w' ⟨rfl, rfl⟩)
      | (go_at_call 42; refine (HA.out _ _).mono ?_; rintro e w' ⟨rfl, rfl⟩))
    all_goals go_ret
    all_goals exact ⟨by rw [H.out, H7.out, H8.out]; simp [*], (Below.refl _ _).alloc (Nat.le_refl _) _⟩
end Go.Proofs.Ytgpcmekcdgboeaa
