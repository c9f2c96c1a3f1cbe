/-
  Plain facts on bytes shifted by one place.
  Conditions: as each lemma says.
-/
import Derived.Test.YtfeifcffgachoaaBvC
namespace Go.Proofs.Ytfeifcffgachoaa
theorem or1_all : ∀ v : Fin 256, bits .or .i64 ((v.val : Int) * 2 % 256) 1 = (v.val : Int) * 2 % 256 + 1 ∧ bits .or .i64 ((v.val : Int) / 2) 128 = (v.val : Int) / 2 + 128 ∧
    bits .or .u8 ((v.val : Int) * 2 % 256) 0 = (v.val : Int) * 2 % 256 ∧ bits .or .u8 ((v.val : Int) * 2 % 256) 1 = (v.val : Int) * 2 % 256 + 1 ∧
    bits .or .u8 ((v.val : Int) / 2) 0 = (v.val : Int) / 2 ∧ bits .or .u8 ((v.val : Int) / 2) 128 = (v.val : Int) / 2 + 128 := by decide +kernel
theorem or1 (v : Int) (h : 0 ≤ v ∧ v < 256) : bits .or .i64 (v * 2 % 256) 1 = v * 2 % 256 + 1 ∧ bits .or .i64 (v / 2) 128 = v / 2 + 128 ∧
    bits .or .u8 (v * 2 % 256) 0 = v * 2 % 256 ∧ bits .or .u8 (v * 2 % 256) 1 = v * 2 % 256 + 1 ∧
    bits .or .u8 (v / 2) 0 = v / 2 ∧ bits .or .u8 (v / 2) 128 = v / 2 + 128 := by
  obtain ⟨n, rfl⟩ : ∃ n : Nat, v = n := ⟨v.toNat, by omega⟩
  exact or1_all ⟨n, by omega⟩
theorem hi_bit_all : ∀ v : Fin 256, (bits .and .i64 (v.val : Int) 128 != 0) = decide (128 ≤ (v.val : Int)) ∧ (bits .and .i64 (v.val : Int) 1 != 0) = decide ((v.val : Int) % 2 = 1) ∧
    bits .and .u8 (v.val : Int) 1 = (v.val : Int) % 2 := by decide +kernel
theorem hi_bit (v : Int) (h : 0 ≤ v ∧ v < 256) : (bits .and .i64 v 128 != 0) = decide (128 ≤ v) ∧ (bits .and .i64 v 1 != 0) = decide (v % 2 = 1) ∧ bits .and .u8 v 1 = v % 2 := by
  obtain ⟨n, rfl⟩ : ∃ n : Nat, v = n := ⟨v.toNat, by omega⟩
  exact hi_bit_all ⟨n, by omega⟩
/-- The byte that is shifted, by kind. -/
def shR (kind p v : Int) : Int :=
  if kind = 0 then v % 256 * 2 % 256 else if kind = 1 then v % 256 / 2 else if kind = 2 then v % 256 * 2 % 256 + cI p else if kind = 3 then v % 256 / 2 + 128 * cI p else v % 256
/-- The bit that goes. -/
def shG (kind v : Int) : Bool := if kind = 0 ∨ kind = 2 then decide (128 ≤ v % 256) else decide (v % 2 = 1)
/-- What is noted then. -/
def shN (kind p v : Int) : Int := if 0 ≤ kind ∧ kind ≤ 3 then wI (nzI p (shR kind p v)) 1 (shG kind v) else p % 256
theorem shN_yes (kind p v : Int) (h : 0 ≤ kind ∧ kind ≤ 3) : shN kind p v = wI (nzI p (shR kind p v)) 1 (shG kind v) := by unfold shN; rw [if_pos h]
theorem shN_no (kind p v : Int) (h : ¬ (0 ≤ kind ∧ kind ≤ 3)) : shN kind p v = p % 256 ∧ shR kind p v = v % 256 := by
  unfold shN shR
  rw [if_neg h, if_neg (by omega), if_neg (by omega), if_neg (by omega), if_neg (by omega)]
  exact ⟨rfl, rfl⟩
theorem shR_bd (kind p v : Int) : 0 ≤ shR kind p v ∧ shR kind p v < 256 := by
  have := cI_bd p
  unfold shR
  (repeat' split) <;> omega
theorem shN_bd (kind p v : Int) : 0 ≤ shN kind p v ∧ shN kind p v < 256 := by
  unfold shN; split
  · exact wI_bd _ _ _
  · omega
/-- C may be noted ahead of N and Z. -/
theorem nz_c (p r : Int) (g : Bool) : nzI (wI p 1 g) r = wI (nzI p r) 1 g := by
  unfold nzI
  apply wI_eq
  simp only [wI_B8]
  rw [w8_swap (B8 p) (B8 1) (B8 128) _ _ (by decide), w8_swap _ (B8 1) (B8 2) _ _ (by decide)]
theorem shR_mod (kind p v : Int) : shR kind (p % 256) (v % 256) = shR kind p v := by unfold shR; rw [cI_mod, Int.emod_emod]
end Go.Proofs.Ytfeifcffgachoaa
