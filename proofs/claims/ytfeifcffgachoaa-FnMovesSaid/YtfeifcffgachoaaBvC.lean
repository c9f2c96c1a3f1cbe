/-
  Plain facts on differences of two bytes and what is noted of them, by twos and by tens; on comparing two bytes.
  Conditions: as each lemma says.
-/
import Derived.Test.YtfeifcffgachoaaBvB
namespace Go.Proofs.Ytfeifcffgachoaa
def sgs (a b r : Int) : Bool := (B8 a ^^^ B8 b) &&& (B8 a ^^^ B8 r) &&& 128 != 0
theorem sgs_i64 (a b r : Int) : (bits .and .i64 (bits .and .i64 (bits .xor .i64 a b) (bits .xor .i64 a r)) 128 != 0) = sgs a b r := by
  rw [tst_i64 _ 128 (by omega)]; unfold tst; rw [B8_bits, B8_bits, B8_bits]; rfl
theorem sgs_mod (a b r : Int) : sgs (a % 256) (b % 256) r = sgs a b r := by unfold sgs; rw [B8_mod, B8_mod]
def dI (p a b : Int) : Int := a % 256 - b % 256 + (cI p - 1)
/-- The notes of a difference. -/
def subN (p a b : Int) : Int := wI (wI (nzI p (dI p a b)) 1 (decide (0 ≤ dI p a b))) 64 (sgs a b (dI p a b))
def lowS (l : Int) : Int := if l < 0 then (l - 6) % 16 - 16 else l
def tI (p a b : Int) : Int := a % 256 / 16 * 16 - b % 256 / 16 * 16 + lowS (a % 16 - b % 16 + (cI p - 1))
def dnI (s : Int) : Int := if s < 0 then s - 96 else s
/-- Its byte. -/
def subR (p a b : Int) : Int := if tst p 8 then dnI (tI p a b) % 256 else dI p a b % 256
theorem B8_flip (b c : Int) (h : c % 256 = 255 - b % 256) : B8 c = ~~~B8 b := by
  apply BitVec.eq_of_toNat_eq
  have h1 := B8_nat c
  have h2 := B8_nat b
  rw [BitVec.toNat_not]
  have := (B8 b).isLt
  omega
theorem flip_sign (x y r : BitVec 8) : (x ^^^ r) &&& (~~~y ^^^ r) = (x ^^^ y) &&& (x ^^^ r) := by
  apply BitVec.eq_of_getLsbD_eq
  intro i hi
  simp only [BitVec.getLsbD_and, BitVec.getLsbD_xor, BitVec.getLsbD_not, hi, decide_true, Bool.true_and]
  cases x.getLsbD i <;> cases y.getLsbD i <;> cases r.getLsbD i <;> rfl
/-- A difference is a sum with the other's bits turned over. -/
theorem sub_bin (p a b c : Int) (h : c % 256 = 255 - b % 256) : binN p a c = subN p a b ∧ rI p a c % 256 = dI p a b % 256 := by
  have hr : rI p a c = dI p a b + 256 := by unfold rI dI; omega
  unfold binN subN
  rw [hr]
  refine ⟨?_, by omega⟩
  have e1 : nzI p (dI p a b + 256) = nzI p (dI p a b) := nzI_congr p (by omega)
  have e2 : sg a c (dI p a b + 256) = sgs a b (dI p a b) := by
    unfold sg sgs
    rw [B8_flip b c h, show B8 (dI p a b + 256) = B8 (dI p a b) from B8_eq (by omega), flip_sign]
  have e3 : decide (255 < dI p a b + 256) = decide (0 ≤ dI p a b) := decide_eq_decide.2 (by omega)
  rw [e1, e2, e3]
  apply wI_eq
  rw [wI_B8, wI_B8]
  exact w8_swap _ _ _ _ _ (by decide)
theorem dI_mod (p a b : Int) : dI (p % 256) (a % 256) (b % 256) = dI p a b := by unfold dI; rw [cI_mod]; omega
theorem tI_mod (p a b : Int) : tI (p % 256) (a % 256) (b % 256) = tI p a b := by
  unfold tI; rw [cI_mod, show a % 256 % 16 = a % 16 by omega, show b % 256 % 16 = b % 16 by omega, Int.emod_emod, Int.emod_emod]
theorem subN_mod (p a b : Int) : subN (p % 256) (a % 256) (b % 256) = subN p a b := by unfold subN; rw [dI_mod, nzI_mod, sgs_mod]
theorem subN_bd (p a b : Int) : 0 ≤ subN p a b ∧ subN p a b < 256 := wI_bd _ _ _
theorem subR_bd (p a b : Int) : 0 ≤ subR p a b ∧ subR p a b < 256 := by unfold subR; split <;> omega
theorem sub_close (p a b : Int) : wI (wI (nzI p (a % 256 - b % 256 + (cI p - 1))) 1 (decide (0 ≤ a % 256 - b % 256 + (cI p - 1)))) 64 (bits .and .i64 (bits .and .i64 (bits .xor .i64 (a % 256) (b % 256)) (bits .xor .i64 (a % 256) (a % 256 - b % 256 + (cI p - 1)))) 128 != 0) = subN p a b := by
  rw [sgs_i64, sgs_mod]; rfl
/-- What is noted of two bytes compared. -/
def cmpN (p a b : Int) : Int := wI (nzI p (a % 256 - b % 256)) 1 (decide (b % 256 ≤ a % 256))
theorem cmpN_bd (p a b : Int) : 0 ≤ cmpN p a b ∧ cmpN p a b < 256 := wI_bd _ _ _
theorem flip_u8 (y : Int) : bits .xor .u8 IntKind.u8.max y % 256 = 255 - y % 256 := by
  rw [bits_u8_val, show IntKind.u8.max = 255 from rfl]
  unfold bop
  simp only []
  rw [show B8 255 = BitVec.allOnes 8 by decide, BitVec.allOnes_xor, BitVec.toNat_not]
  have h1 := B8_nat y
  have := (B8 y).isLt
  omega
theorem tI_alt (p a b : Int) (ha : 0 ≤ a ∧ a < 256) (hb : 0 ≤ b ∧ b < 256) : tI p a b = a / 16 * 16 - b / 16 * 16 + lowS (a % 16 - b % 16 - 1 + cI p) := by
  unfold tI
  rw [Int.emod_eq_of_lt ha.1 ha.2, Int.emod_eq_of_lt hb.1 hb.2, show a % 16 - b % 16 - 1 + cI p = a % 16 - b % 16 + (cI p - 1) by omega]
end Go.Proofs.Ytfeifcffgachoaa
