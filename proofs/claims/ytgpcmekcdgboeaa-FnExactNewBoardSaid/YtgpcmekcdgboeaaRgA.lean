/-
  Plain facts on registers (chapter 3): what is a byte, what is an address, notes as they are kept, what right registers are.
  Conditions: as each lemma says.
-/
import Derived.Test.YtgpcmekcdgboeaaBvB
namespace Go.Proofs.Ytgpcmekcdgboeaa
def isB (n : Int) : Bool := decide (0 ≤ n ∧ n ≤ 255)
def isAd (n : Int) : Bool := decide (0 ≤ n ∧ n ≤ 65535)
theorem isB_yes {n : Int} (h : isB n = true) : 0 ≤ n ∧ n ≤ 255 := of_decide_eq_true h
theorem isB_no {n : Int} (h : isB n = false) : n < 0 ∨ 255 < n := by have := of_decide_eq_false h; omega
theorem isAd_yes {n : Int} (h : isAd n = true) : 0 ≤ n ∧ n ≤ 65535 := of_decide_eq_true h
theorem isAd_no {n : Int} (h : isAd n = false) : n < 0 ∨ 65535 < n := by have := of_decide_eq_false h; omega
/-- Notes as the core keeps them. -/
def keptI (p : Int) : Int := wI (wI p 32 true) 16 false
def keptB (p : Int) : Bool := tst p 32 && !tst p 16
theorem kept_all : ∀ b : BitVec 8, (b == w8 (w8 b 32 true) 16 false) = (b &&& 32 != 0 && !(b &&& 16 != 0)) := by decide +kernel
theorem kept_same (p : Int) (h0 : 0 ≤ p) (h1 : p < 256) : (p == keptI p) = keptB p := by
  have hb := wI_bd (wI p 32 true) 16 false
  have h := kept_all (B8 p)
  unfold keptB tst
  rw [show B8 32 = 32 by decide, show B8 16 = 16 by decide, ← h, Bool.eq_iff_iff, beq_iff_eq, beq_iff_eq]
  have e : B8 (keptI p) = w8 (w8 (B8 p) 32 true) 16 false := by
    unfold keptI
    rw [wI_B8, wI_B8, show B8 32 = 32 by decide, show B8 16 = 16 by decide]
  rw [← e]
  constructor
  · intro h2; rw [← h2]
  · intro h2; exact B8_inj ⟨h0, h1⟩ hb h2
/-- What right registers are. -/
def okR (a x y s p pc : Int) : Bool := isB a && isB x && isB y && isB s && isB p && keptB p && isAd pc
theorem okR_yes {a x y s p pc : Int} (h : okR a x y s p pc = true) : isB a = true ∧ isB x = true ∧ isB y = true ∧ isB s = true ∧ isB p = true ∧ keptB p = true ∧ isAd pc = true := by
  unfold okR at h
  simp only [Bool.and_eq_true] at h
  obtain ⟨⟨⟨⟨⟨⟨h1, h2⟩, h3⟩, h4⟩, h5⟩, h6⟩, h7⟩ := h
  exact ⟨h1, h2, h3, h4, h5, h6, h7⟩
theorem spec_u (p : Int) : (bits .and .i64 p 32 != 0) = tst p 32 := tst_i64 p 32 (by omega)
theorem spec_b (p : Int) : (bits .and .i64 p 16 == 0) = !tst p 16 := by
  rw [← tst_i64 p 16 (by omega)]
  unfold bne
  rw [Bool.not_not]
end Go.Proofs.Ytgpcmekcdgboeaa
