/-
  Plain facts on the decimal digits of a number, as a loop builds them from the right.
  Conditions: as each lemma says.
-/
import Derived.Lib.ItoaNum
import Derived.WalkKit
import Derived.ProofKit
namespace Go.Proofs.YtmhlplaglnopfaaDoor
/-- The byte of the digit m. -/
def digB (m : Nat) : UInt8 := UInt8.ofNat (48 + m)
/-- What is still to do of the digits D when v is left and out is written. -/
def Left10 (v : Nat) (out D : List UInt8) : Prop := (v = 0 ∧ out = D) ∨ (0 < v ∧ Lib.decDigits v ++ out = D)
theorem Left10.start (u : Nat) (h : 0 < u) : Left10 u [] (Lib.decDigits u) := .inr ⟨h, by simp⟩
theorem Left10.step {v : Nat} {out D : List UInt8} (h : Left10 v out D) (hv : 0 < v) : Left10 (v / 10) (digB (v % 10) :: out) D := by
  rcases h with ⟨h0, _⟩ | ⟨_, h⟩
  · omega
  · by_cases hs : v < 10
    · left
      refine ⟨by omega, ?_⟩
      rw [Lib.decDigits, dif_pos hs] at h
      rw [← h]
      have : v % 10 = v := by omega
      rw [this]; rfl
    · right
      refine ⟨by omega, ?_⟩
      rw [Lib.decDigits, dif_neg hs] at h
      rw [← h, List.append_assoc]; rfl
theorem Left10.done {out D : List UInt8} (h : Left10 0 out D) : out = D := by
  rcases h with ⟨_, h⟩ | ⟨h, _⟩
  · exact h
  · omega
theorem Left10.len {v : Nat} {out D : List UInt8} (h : Left10 v out D) : out.length ≤ D.length := by
  rcases h with ⟨_, h⟩ | ⟨_, h⟩
  · rw [h]; omega
  · rw [← h]; simp
theorem tmod10_neg (v : Nat) : (-(v : Int)).tmod 10 = -((v : Int) % 10) := by rw [Int.neg_tmod]; congr 1
theorem tdiv10_neg (v : Nat) : (-(v : Int)).tdiv 10 = -((v : Int) / 10) := by rw [Int.neg_tdiv]; congr 1
theorem decDigits_lt : ∀ (k u : Nat), u < 10 ^ (k + 1) → (Lib.decDigits u).length ≤ k + 1
  | 0, u, h => by rw [Lib.decDigits, dif_pos (by simpa using h)]; simp
  | k + 1, u, h => by
    by_cases hs : u < 10
    · rw [Lib.decDigits, dif_pos hs]; simp
    · rw [Lib.decDigits, dif_neg hs]
      have := decDigits_lt k (u / 10) (by rw [Nat.pow_succ] at h; omega)
      simp; omega
theorem decDigits_le20 (u : Nat) (h : u ≤ 9223372036854775808) : (Lib.decDigits u).length ≤ 20 := decDigits_lt 19 u (by omega)
end Go.Proofs.YtmhlplaglnopfaaDoor
