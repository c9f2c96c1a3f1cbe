/-
  Contracts of the program's small functions on the chip (chapter 6): counts, words and their bytes, the mask; ChipOk and Asks.
  Conditions: as each says.
-/
import Derived.Test.YtfkllcbjakhbdaaChC
namespace Go.Proofs.Ytfkllcbjakhbdaa
open Go.RowKit
theorem of_wrap64 (n : Nat) : BitVec.ofInt 64 (IntKind.i64.wrap (n : Int)) = BitVec.ofNat 64 n := by
  apply BitVec.eq_of_toNat_eq
  rw [BitVec.toNat_ofInt, BitVec.toNat_ofNat, IntKind.wrap_i64]
  have e : ((2 ^ 64 : Nat) : Int) = 18446744073709551616 := by decide
  rw [e]
  omega
theorem of_bits (op : BinOp) (a b : Int) : ∃ x : BitVec 64, BitVec.ofInt 64 (bits op .i64 a b) = x ∧ x = (match op with | .and => BitVec.ofInt 64 a &&& BitVec.ofInt 64 b | .or => BitVec.ofInt 64 a ||| BitVec.ofInt 64 b | .xor => BitVec.ofInt 64 a ^^^ BitVec.ofInt 64 b | _ => BitVec.ofInt 64 a &&& ~~~BitVec.ofInt 64 b) := by
  refine ⟨_, ?_, rfl⟩
  unfold bits
  simp only []
  rw [of_wrap64, BitVec.ofNat_toNat]
  exact BitVec.setWidth_eq _
theorem or_of (a b : Int) : BitVec.ofInt 64 (bits .or .i64 a b) = BitVec.ofInt 64 a ||| BitVec.ofInt 64 b := by
  obtain ⟨x, h, h2⟩ := of_bits .or a b
  rw [h, h2]
theorem none_zero (a : Int) : (bits .andNot .i64 a 96 == 0) = decide (BitVec.ofInt 64 a &&& ~~~(BitVec.ofInt 64 96) = 0#64) := by
  obtain ⟨x, h, h2⟩ := of_bits .andNot a 96
  simp only [] at h2
  have hb : -9223372036854775808 ≤ bits .andNot .i64 a 96 ∧ bits .andNot .i64 a 96 ≤ 9223372036854775807 := by
    unfold bits
    simp only [IntKind.wrap_i64]
    omega
  rw [← h2, ← h]
  generalize bits .andNot .i64 a 96 = z at *
  rw [Bool.eq_iff_iff, beq_iff_eq, decide_eq_true_iff]
  constructor
  · rintro rfl
    rfl
  · intro hz
    have h3 := congrArg BitVec.toNat hz
    rw [BitVec.toNat_ofInt] at h3
    have e : ((2 ^ 64 : Nat) : Int) = 18446744073709551616 := by decide
    rw [e] at h3
    simp only [BitVec.toNat_ofNat] at h3
    omega
theorem or_none (a b : Int) : (bits .andNot .i64 (bits .or .i64 a b) 96 == 0) = ((bits .andNot .i64 a 96 == 0) && (bits .andNot .i64 b 96 == 0)) := by
  rw [none_zero, none_zero, none_zero, or_of]
  generalize BitVec.ofInt 64 a = x
  generalize BitVec.ofInt 64 b = y
  generalize (~~~(BitVec.ofInt 64 96) : BitVec 64) = m
  rw [Bool.eq_iff_iff, Bool.and_eq_true, decide_eq_true_iff, decide_eq_true_iff, decide_eq_true_iff]
  have e : (x ||| y) &&& m = (x &&& m) ||| (y &&& m) := by
    ext i hi
    simp only [BitVec.getElem_and, BitVec.getElem_or]
    cases x[i] <;> cases y[i] <;> cases m[i] <;> rfl
  rw [e]
  constructor
  · intro h
    have hz : ∀ i (hi : i < 64), (x &&& m)[i] = false ∧ (y &&& m)[i] = false := by
      intro i hi
      have := congrArg (fun z : BitVec 64 => z[i]) h
      simp only [BitVec.getElem_or, BitVec.getElem_zero] at this
      simpa using this
    constructor
    · ext i hi
      rw [(hz i hi).1, BitVec.getElem_zero]
    · ext i hi
      rw [(hz i hi).2, BitVec.getElem_zero]
  · rintro ⟨h1, h2⟩
    rw [h1, h2]
    rfl
end Go.Proofs.Ytfkllcbjakhbdaa
