/-
  Plain facts on numbers of two digits by tens, added and taken away (chapter 2).
  Conditions: as each lemma says.
-/
import Derived.Test.YtjbfoegleinbnaaBvE
namespace Go.Proofs.Ytjbfoegleinbnaa
/-- A number of two digits by tens. -/
def te (x : Int) : Int := x / 10 * 16 + x % 10
theorem tens_p (c : Int) (h : c = 0 ∨ c = 1) : tst (bits .or .i64 8 c) 8 = true ∧ cI (bits .or .i64 8 c) = c := by
  rcases h with rfl | rfl
  · exact ⟨by decide +kernel, by decide +kernel⟩
  · exact ⟨by decide +kernel, by decide +kernel⟩
theorem te_parts (x : Int) (h : 0 ≤ x ∧ x < 100) : te x % 256 = te x ∧ te x % 16 = x % 10 ∧ te x % 256 / 16 * 16 = x / 10 * 16 := by unfold te; omega
theorem digits (x : Int) (h : 0 ≤ x ∧ x < 100) : ∃ u v : Int, x = 10 * u + v ∧ x / 10 = u ∧ x % 10 = v ∧ 0 ≤ u ∧ u ≤ 9 ∧ 0 ≤ v ∧ v ≤ 9 := ⟨x / 10, x % 10, by omega, rfl, rfl, by omega, by omega, by omega, by omega⟩
theorem te_of (s u v : Int) (h : s = 10 * u + v) (hv : 0 ≤ v ∧ v ≤ 9) : te s = u * 16 + v := by unfold te; omega
theorem up_sum (u v u' v' c : Int) (hu : 0 ≤ u ∧ u ≤ 9) (hv : 0 ≤ v ∧ v ≤ 9) (hu' : 0 ≤ u' ∧ u' ≤ 9) (hv' : 0 ≤ v' ∧ v' ≤ 9) (hc : 0 ≤ c ∧ c ≤ 1) :
    upI (u * 16 + u' * 16 + lowI (v + v' + c)) % 256 = te ((10 * u + v + (10 * u' + v') + c) % 100) ∧ (256 ≤ upI (u * 16 + u' * 16 + lowI (v + v' + c)) ↔ 99 < 10 * u + v + (10 * u' + v') + c) := by
  unfold lowI
  by_cases h9 : 9 < v + v' + c
  · rw [if_pos h9, show (v + v' + c + 6) % 16 + 16 = v + v' + c + 6 by omega]
    unfold upI
    by_cases h : 160 ≤ u * 16 + u' * 16 + (v + v' + c + 6)
    · rw [if_pos h, te_of _ (u + u' + 1 - 10) (v + v' + c - 10) (by omega) (by omega)]
      exact ⟨by omega, by omega⟩
    · rw [if_neg h, te_of _ (u + u' + 1) (v + v' + c - 10) (by omega) (by omega)]
      exact ⟨by omega, by omega⟩
  · rw [if_neg h9]
    unfold upI
    by_cases h : 160 ≤ u * 16 + u' * 16 + (v + v' + c)
    · rw [if_pos h, te_of _ (u + u' - 10) (v + v' + c) (by omega) (by omega)]
      exact ⟨by omega, by omega⟩
    · rw [if_neg h, te_of _ (u + u') (v + v' + c) (by omega) (by omega)]
      exact ⟨by omega, by omega⟩
theorem dn_dif (u v u' v' c : Int) (hu : 0 ≤ u ∧ u ≤ 9) (hv : 0 ≤ v ∧ v ≤ 9) (hu' : 0 ≤ u' ∧ u' ≤ 9) (hv' : 0 ≤ v' ∧ v' ≤ 9) (hc : 0 ≤ c ∧ c ≤ 1) :
    dnI (u * 16 - u' * 16 + lowS (v - v' + (c - 1))) % 256 = te ((10 * u + v - (10 * u' + v') - 1 + c + 100) % 100) := by
  unfold lowS
  by_cases h9 : v - v' + (c - 1) < 0
  · rw [if_pos h9, show (v - v' + (c - 1) - 6) % 16 - 16 = v - v' + (c - 1) - 6 by omega]
    unfold dnI
    by_cases h : u * 16 - u' * 16 + (v - v' + (c - 1) - 6) < 0
    · rw [if_pos h, te_of _ (u - u' - 1 + 10) (v - v' + (c - 1) + 10) (by omega) (by omega)]
      omega
    · rw [if_neg h, te_of _ (u - u' - 1) (v - v' + (c - 1) + 10) (by omega) (by omega)]
      omega
  · rw [if_neg h9]
    unfold dnI
    by_cases h : u * 16 - u' * 16 + (v - v' + (c - 1)) < 0
    · rw [if_pos h, te_of _ (u - u' + 10) (v - v' + (c - 1)) (by omega) (by omega)]
      omega
    · rw [if_neg h, te_of _ (u - u') (v - v' + (c - 1)) (by omega) (by omega)]
      omega
theorem tens_add (p a b : Int) (ha : 0 ≤ a ∧ a < 100) (hb : 0 ≤ b ∧ b < 100) (ht : tst p 8 = true) :
    addR p (te a) (te b) = te ((a + b + cI p) % 100) ∧ tst (addN p (te a) (te b)) 1 = decide (99 < a + b + cI p) := by
  have hc := cI_bd p
  obtain ⟨a1, a2, a3⟩ := te_parts a ha
  obtain ⟨b1, b2, b3⟩ := te_parts b hb
  have hs : sI p (te a) (te b) = a / 10 * 16 + b / 10 * 16 + lowI (a % 10 + b % 10 + cI p) := by unfold sI; rw [a2, a3, b2, b3]
  have hn : tst (addN p (te a) (te b)) 1 = decide (256 ≤ upI (sI p (te a) (te b))) := by unfold addN; rw [if_pos ht]; exact tst_same _ 1 _ (by decide)
  have hr : addR p (te a) (te b) = upI (sI p (te a) (te b)) % 256 := by unfold addR; rw [if_pos ht]
  obtain ⟨u, v, ea, e1, e2, u0, u1, v0, v1⟩ := digits a ha
  obtain ⟨u', v', eb, e3, e4, u2, u3, v2, v3⟩ := digits b hb
  have h := up_sum u v u' v' (cI p) ⟨u0, u1⟩ ⟨v0, v1⟩ ⟨u2, u3⟩ ⟨v2, v3⟩ hc
  rw [hn, hr, hs, e1, e2, e3, e4, ea, eb]
  exact ⟨h.1, decide_eq_decide.2 h.2⟩
theorem tens_sub (p a b : Int) (ha : 0 ≤ a ∧ a < 100) (hb : 0 ≤ b ∧ b < 100) (ht : tst p 8 = true) :
    subR p (te a) (te b) = te ((a - b - 1 + cI p + 100) % 100) ∧ tst (subN p (te a) (te b)) 1 = decide (0 ≤ a - b - 1 + cI p) := by
  have hc := cI_bd p
  obtain ⟨a1, a2, a3⟩ := te_parts a ha
  obtain ⟨b1, b2, b3⟩ := te_parts b hb
  have hs : tI p (te a) (te b) = a / 10 * 16 - b / 10 * 16 + lowS (a % 10 - b % 10 + (cI p - 1)) := by unfold tI; rw [a2, a3, b2, b3]
  have hn : tst (subN p (te a) (te b)) 1 = decide (0 ≤ dI p (te a) (te b)) := by
    unfold subN; rw [tst_far _ 64 1 _ (by decide)]; exact tst_same _ 1 _ (by decide)
  have hr : subR p (te a) (te b) = dnI (tI p (te a) (te b)) % 256 := by unfold subR; rw [if_pos ht]
  have hd : dI p (te a) (te b) = te a - te b + (cI p - 1) := by unfold dI; rw [a1, b1]
  obtain ⟨u, v, ea, e1, e2, u0, u1, v0, v1⟩ := digits a ha
  obtain ⟨u', v', eb, e3, e4, u2, u3, v2, v3⟩ := digits b hb
  have h := dn_dif u v u' v' (cI p) ⟨u0, u1⟩ ⟨v0, v1⟩ ⟨u2, u3⟩ ⟨v2, v3⟩ hc
  have hta := te_of a u v ea ⟨v0, v1⟩
  have htb := te_of b u' v' eb ⟨v2, v3⟩
  rw [hn, hr, hs, hd, e1, e2, e3, e4, hta, htb, ea, eb]
  exact ⟨h, decide_eq_decide.2 (by omega)⟩
end Go.Proofs.Ytjbfoegleinbnaa
