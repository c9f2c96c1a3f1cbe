/-
  Plain facts on the digits of a number to the base sixteen: the lowest four bits of a number, the byte of a digit, the list of digits.
  Conditions: as each lemma says.
-/
import Derived.Laws.BitsLemmas
import Derived.WalkKit
import Derived.ProofKit
namespace Go.Proofs.YtboeaeoefoabdaaGreatDoor
theorem i64_and15 (n : Int) : bits .and .i64 n 15 = n % 16 := by
  have h15 : (BitVec.ofInt 64 15).toNat = 2 ^ 4 - 1 := by decide
  have key : (BitVec.ofInt 64 n &&& BitVec.ofInt 64 15).toNat = (n % ((2 ^ 64 : Nat) : Int)).toNat % 2 ^ 4 := by
    rw [BitVec.toNat_and, BitVec.toNat_ofInt, h15, Nat.and_two_pow_sub_one_eq_mod]
  show IntKind.i64.wrap ((BitVec.ofInt 64 n &&& BitVec.ofInt 64 15).toNat : Nat) = n % 16
  rw [key, IntKind.wrap_i64]
  omega

def hexTab : List UInt8 := [48, 49, 50, 51, 52, 53, 54, 55, 56, 57, 65, 66, 67, 68, 69, 70]
/-- The k-th digit from the right. -/
def hexAt (n : Int) (k : Nat) : UInt8 := hexTab.getD ((n / 16 ^ k) % 16).toNat 0
def hexl (n : Int) (d : Nat) : List UInt8 := (List.range d).map fun j => hexAt n (d - 1 - j)
def hexRow (n : Int) (d k : Nat) (j : Nat) : Value := if d - k ≤ j then .int .u8 (hexAt n (d - 1 - j)).toNat else .int .u8 0
theorem hexRow_zero (n : Int) (d : Nat) : ∀ j, j < d → Value.int .u8 0 = hexRow n d 0 j := fun j hj => by unfold hexRow; rw [if_neg (by omega)]
theorem hexRow_succ (n : Int) (d k : Nat) (hk : k < d) : ∀ j, j < d → (if j = d - 1 - k then Value.int .u8 (hexAt n k).toNat else hexRow n d k j) = hexRow n d (k + 1) j := fun j hj => by
  unfold hexRow
  by_cases h : j = d - 1 - k
  · rw [if_pos h, if_pos (by omega)]
    have : d - 1 - j = k := by omega
    rw [this]
  · rw [if_neg h]
    by_cases h2 : d - k ≤ j
    · rw [if_pos h2, if_pos (by omega)]
    · rw [if_neg h2, if_neg (by omega)]
theorem hexRow_all (n : Int) (d : Nat) (j : Nat) (hj : j < d) : hexRow n d d j = .int .u8 ((hexl n d)[j]?.getD 0).toNat := by
  unfold hexRow hexl
  rw [if_pos (by omega)]
  simp [hj]
theorem hexl_length (n : Int) (d : Nat) : (hexl n d).length = d := by simp [hexl]
theorem hexAt_div (n : Int) (k : Nat) : hexAt n k = hexTab.getD ((n / 16 ^ k) % 16).toNat 0 := rfl
theorem div16 (n : Int) (k : Nat) : n / 16 ^ k / 16 = n / 16 ^ (k + 1) := by
  rw [Int.ediv_ediv_of_nonneg (Int.pow_nonneg (by omega)), Int.pow_succ]
/-- The table's byte at a number of four bits. -/
theorem hexTab_at (m : Int) (h : 0 ≤ m ∧ m < 16) (h' : m.toNat < (ByteArray.mk #[48, 49, 50, 51, 52, 53, 54, 55, 56, 57, 65, 66, 67, 68, 69, 70]).size) :
    (ByteArray.mk #[48, 49, 50, 51, 52, 53, 54, 55, 56, 57, 65, 66, 67, 68, 69, 70])[m.toNat] = hexTab.getD m.toNat 0 := by
  obtain ⟨j, rfl⟩ : ∃ j : Nat, m = j := ⟨m.toNat, by omega⟩
  simp only [Int.toNat_natCast] at h' ⊢
  have hj : j < 16 := by omega
  have key : ∀ i : Fin 16, (ByteArray.mk #[48, 49, 50, 51, 52, 53, 54, 55, 56, 57, 65, 66, 67, 68, 69, 70])[i.val]'(by simp [ByteArray.size]) = hexTab.getD i.val 0 := by decide
  exact key ⟨j, hj⟩
def hexCells (n : Int) (d k : Nat) : List Value := ((hexl n d).take k).map fun b => Value.int .u8 (b.toNat : Int)
theorem hexCells_length (n : Int) (d k : Nat) (h : k ≤ d) : (hexCells n d k).length = k := by simp [hexCells, hexl_length]; omega
theorem hexCells_succ (n : Int) (d k : Nat) (h : k < d) : hexCells n d k ++ [Value.int .u8 ((hexAt n (d - 1 - k)).toNat : Int)] = hexCells n d (k + 1) := by
  unfold hexCells
  rw [List.take_succ_eq_append_getElem (by rw [hexl_length]; exact h)]
  simp [hexl]
theorem hexCells_all (n : Int) (d : Nat) : hexCells n d d = (hexl n d).map fun b => Value.int .u8 (b.toNat : Int) := by
  unfold hexCells; rw [List.take_of_length_le (by rw [hexl_length]; omega)]
theorem shift4 (n : Int) (d k : Nat) (h : k < d) : n / 2 ^ (4 * ((d : Int) - 1 - k)).toNat = n / 16 ^ (d - 1 - k) := by
  have e : (4 * ((d : Int) - 1 - k)).toNat = 4 * (d - 1 - k) := by omega
  rw [e, Int.pow_mul]; rfl
end Go.Proofs.YtboeaeoefoabdaaGreatDoor
