/-
  Plain facts: a number's lowest digits to the base sixteen say the number modulo that power of sixteen.
  Conditions: as each lemma says.
-/
import Derived.Test.YtboeaeoefoabdaaGreatDoorHxA
import Derived.Test.YtboeaeoefoabdaaGreatDoorRhA
namespace Go.Proofs.YtboeaeoefoabdaaGreatDoor
theorem hexl_succ (n : Int) (d : Nat) : hexl n (d + 1) = hexl (n / 16) d ++ [hexAt n 0] := by
  unfold hexl
  rw [List.range_succ, List.map_append]
  congr 1
  · apply List.map_congr_left
    intro j hj
    have hj' : j < d := by simpa using hj
    have e : d + 1 - 1 - j = (d - 1 - j) + 1 := by omega
    rw [e]
    unfold hexAt
    rw [← div16, Int.ediv_ediv_of_nonneg (Int.pow_nonneg (by omega)), Int.mul_comm, ← Int.ediv_ediv_of_nonneg (by omega)]
  · simp
theorem tab_val : ∀ m : Fin 16, hxv ((hexTab.getD m.val 0).toNat : Int) = m.val := by decide
theorem hxv_hexAt (n : Int) (k : Nat) : hxv (hexAt n k).toNat = (n / 16 ^ k) % 16 := by
  unfold hexAt
  have h0 := Int.emod_nonneg (n / 16 ^ k) (by omega : (16 : Int) ≠ 0)
  have h1 := Int.emod_lt_of_pos (n / 16 ^ k) (by omega : (0 : Int) < 16)
  obtain ⟨m, hm⟩ : ∃ m : Nat, n / 16 ^ k % 16 = m := ⟨(n / 16 ^ k % 16).toNat, by omega⟩
  rw [hm]
  have := tab_val ⟨m, by omega⟩
  simpa using this
theorem hexl_ok (n : Int) (d : Nat) : HexOk (hexl n d) := by
  intro c hc
  unfold hexl at hc
  obtain ⟨j, _, rfl⟩ := List.mem_map.1 hc
  rw [hxv_hexAt]
  exact Int.emod_nonneg _ (by omega)
theorem emod_step (n m : Int) (hm : 0 < m) : 16 * (n / 16 % m) + n % 16 = n % (16 * m) := by
  have h1 := Int.mul_ediv_add_emod n 16
  have h2 := Int.mul_ediv_add_emod (n / 16) m
  have h3 := Int.emod_nonneg n (by omega : (16 : Int) ≠ 0)
  have h4 := Int.emod_lt_of_pos n (by omega : (0 : Int) < 16)
  have h5 := Int.emod_nonneg (n / 16) (by omega : m ≠ 0)
  have h6 := Int.emod_lt_of_pos (n / 16) hm
  obtain ⟨q, hq⟩ : ∃ q, q = n / 16 % m := ⟨_, rfl⟩
  obtain ⟨r, hr⟩ : ∃ r, r = n % 16 := ⟨_, rfl⟩
  obtain ⟨p, hp⟩ : ∃ p, p = n / 16 / m := ⟨_, rfl⟩
  rw [← hq] at h2 h5 h6
  rw [← hr] at h1 h3 h4
  rw [← hp] at h2
  rw [← hq, ← hr]
  have e : n = (16 * q + r) + (16 * m) * p := by
    have e2 : (16 * m) * p = 16 * (m * p) := by rw [Int.mul_assoc]
    rw [e2]; omega
  rw [e, Int.add_mul_emod_self_left, Int.emod_eq_of_lt (by omega) (by omega)]
theorem hexNum_hexl (d : Nat) : ∀ n : Int, hexNum (hexl n d) = n % 16 ^ d := by
  induction d with
  | zero => intro n; simp [hexl, hexNum]
  | succ d ih =>
    intro n
    rw [hexl_succ, hexNum_snoc, ih, hxv_hexAt, Int.pow_succ, Int.mul_comm _ 16]
    have := emod_step n (16 ^ d) (Int.pow_pos (by omega))
    simpa using this
theorem rh_hexl (n : Int) (d : Nat) (h1 : 1 ≤ d) (h7 : d ≤ 7) : rh (hexl n d) = n % 16 ^ d := by
  rw [rh_yes _ (hexl_ok n d) (by rw [hexl_length]; exact h1) (by rw [hexl_length]; exact h7), hexNum_hexl]
theorem rh_hexl8 (n : Int) : rh (hexl n 8) = -1 := rh_len _ (by rw [hexl_length]; omega)
theorem i64_mask (k : Nat) (hk : k ≤ 62) (n : Int) (M : Int) (hM : M = 2 ^ k - 1) : bits .and .i64 n M = n % 2 ^ k := by
  have hp : (2 : Nat) ^ k ≤ 2 ^ 62 := Nat.pow_le_pow_right (by omega) hk
  have hp1 : 1 ≤ (2 : Nat) ^ k := Nat.one_le_two_pow
  have ec : ((2 : Int) ^ k) = ((2 ^ k : Nat) : Int) := by norm_cast
  have hMn : M = ((2 ^ k - 1 : Nat) : Int) := by rw [hM, ec]; omega
  have h62 : (2 : Nat) ^ 62 = 4611686018427387904 := by decide
  have h64 : ((2 ^ 64 : Nat) : Int) = 18446744073709551616 := by decide
  have h15 : (BitVec.ofInt 64 M).toNat = 2 ^ k - 1 := by
    rw [hMn, BitVec.toNat_ofInt, h64, Int.emod_eq_of_lt (by omega) (by omega), Int.toNat_natCast]
  have key : (BitVec.ofInt 64 n &&& BitVec.ofInt 64 M).toNat = (n % ((2 ^ 64 : Nat) : Int)).toNat % 2 ^ k := by
    rw [BitVec.toNat_and, BitVec.toNat_ofInt, h15, Nat.and_two_pow_sub_one_eq_mod]
  show IntKind.i64.wrap ((BitVec.ofInt 64 n &&& BitVec.ofInt 64 M).toNat : Nat) = n % 2 ^ k
  rw [key]
  have hd : (2 ^ k : Nat) ∣ 2 ^ 64 := Nat.pow_dvd_pow 2 (by omega)
  have e1 : (((n % ((2 ^ 64 : Nat) : Int)).toNat % 2 ^ k : Nat) : Int) = n % 2 ^ k := by
    rw [Int.natCast_emod, Int.toNat_of_nonneg (Int.emod_nonneg _ (by decide)), ec]
    exact Int.emod_emod_of_dvd n (by exact_mod_cast hd)
  rw [e1, ec]
  have h5 := Int.emod_nonneg n (show ((2 ^ k : Nat) : Int) ≠ 0 by omega)
  have h6 := Int.emod_lt_of_pos n (show (0 : Int) < ((2 ^ k : Nat) : Int) by omega)
  exact IntWalk.i64_in _ ⟨by omega, by omega⟩
end Go.Proofs.YtboeaeoefoabdaaGreatDoor
