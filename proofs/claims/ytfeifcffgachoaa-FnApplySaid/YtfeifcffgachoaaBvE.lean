/-
  Plain facts that the laws of the reckoning (chapter 2) turn on.
  Conditions: as each lemma says.
-/
import Derived.Test.YtfeifcffgachoaaBvD
namespace Go.Proofs.Ytfeifcffgachoaa
theorem bits_comm (k : IntKind) (x y : Int) : bits .and k x y = bits .and k y x := by unfold bits; simp only []; rw [BitVec.and_comm]
theorem and_val' (m x : Int) (hm : 0 ≤ m ∧ m < 256) : bits .and .i64 m x = ((B8 m &&& B8 x).toNat : Int) := by
  rw [bits_comm, and_val x m hm, BitVec.and_comm]
theorem andNot_val (q f : Int) (hq : 0 ≤ q ∧ q < 256) : bits .andNot .i64 q f = ((B8 q &&& ~~~B8 f).toNat : Int) := by
  have h : 0 ≤ bits .andNot .i64 q f ∧ bits .andNot .i64 q f < 256 := by
    obtain ⟨n, rfl⟩ : ∃ n : Nat, q = n := ⟨q.toNat, by omega⟩
    unfold bits
    simp only []
    have h : (BitVec.ofInt IntKind.i64.bits (n : Int) &&& ~~~BitVec.ofInt IntKind.i64.bits f).toNat ≤ n := by
      rw [BitVec.ofInt_natCast, BitVec.toNat_and, BitVec.toNat_ofNat]
      exact Nat.le_trans Nat.and_le_left (Nat.mod_le _ _)
    generalize (BitVec.ofInt IntKind.i64.bits (n : Int) &&& ~~~BitVec.ofInt IntKind.i64.bits f).toNat = z at h
    rw [wrap_small .i64 (by decide) z (by omega)]
    omega
  rw [B8_val _ h.1 h.2, B8_bits]
  rfl
theorem w8_out (P F : BitVec 8) (on : Bool) : w8 P F on &&& ~~~F = P &&& ~~~F := by
  apply BitVec.eq_of_getLsbD_eq
  intro i hi
  rw [BitVec.getLsbD_and, BitVec.getLsbD_and, BitVec.getLsbD_not, w8_bit _ _ _ _ hi]
  cases F.getLsbD i <;> simp only [hi, decide_true, Bool.not_false, Bool.and_true, Bool.not_true, Bool.and_false, if_true, if_false, Bool.false_eq_true]
theorem w8_in (P F : BitVec 8) (on : Bool) : w8 P F on &&& F = if on then F else 0 := by
  apply BitVec.eq_of_getLsbD_eq
  intro i hi
  rw [BitVec.getLsbD_and, w8_bit _ _ _ _ hi]
  cases on <;> cases h : F.getLsbD i <;> simp only [Bool.and_true, Bool.and_false, if_true, if_false, Bool.false_eq_true, h, BitVec.ofNat_eq_ofNat, BitVec.getLsbD_zero]
theorem w8_far (P F G : BitVec 8) (on : Bool) (hFG : F &&& G = 0) : w8 P F on &&& G = P &&& G := by
  apply BitVec.eq_of_getLsbD_eq
  intro i hi
  have h2 : (F.getLsbD i && G.getLsbD i) = false := by rw [← BitVec.getLsbD_and, hFG]; simp only [BitVec.ofNat_eq_ofNat, BitVec.getLsbD_zero]
  rw [BitVec.getLsbD_and, BitVec.getLsbD_and, w8_bit _ _ _ _ hi]
  cases hf : F.getLsbD i <;> cases hg : G.getLsbD i <;> rw [hf, hg] at h2 <;> first | exact absurd h2 (by decide) | simp only [Bool.and_true, Bool.and_false, if_true, if_false, Bool.false_eq_true]
theorem tst_same (p f : Int) (on : Bool) (hf : B8 f ≠ 0) : tst (wI p f on) f = on := by
  unfold tst
  rw [wI_B8, w8_in]
  cases on
  · rfl
  · simp only [if_true]; rw [bne_iff_ne]; exact hf
theorem tst_far (p f g : Int) (on : Bool) (h : B8 f &&& B8 g = 0) : tst (wI p f on) g = tst p g := by
  unfold tst
  rw [wI_B8, w8_far _ _ _ _ h]
/-! FnWith -/
theorem with_out (p f : Int) (on : Bool) : bits .andNot .i64 (wI p f on) f = bits .andNot .i64 (bits .and .i64 p 255) f := by
  rw [andNot_val _ _ (wI_bd p f on), and_255, andNot_val _ _ (by omega), wI_B8, w8_out, B8_mod]
theorem with_in (p f : Int) : bits .and .i64 (wI p f true) f = bits .and .i64 f 255 := by
  rw [and_val' _ _ (wI_bd p f true), wI_B8, w8_in, and_255, ← B8_nat]; rfl
theorem with_in0 (p f : Int) : bits .and .i64 (wI p f false) f = 0 := by
  rw [and_val' _ _ (wI_bd p f false), wI_B8, w8_in]; rfl
/-! FnNz -/
theorem nz_z (p v : Int) : tst (nzI p v) 2 = !tst v 255 := tst_same _ 2 _ (by decide)
theorem nz_n (p v : Int) : tst (nzI p v) 128 = tst v 128 := by
  unfold nzI; rw [tst_far _ 2 128 _ (by decide), tst_same _ 128 _ (by decide)]
theorem nz_out (p v : Int) : bits .andNot .i64 (nzI p v) 130 = bits .andNot .i64 (bits .and .i64 p 255) 130 := by
  rw [andNot_val _ _ (nzI_bd p v), and_255, andNot_val _ _ (by omega), B8_mod]
  unfold nzI
  rw [wI_B8, wI_B8]
  congr 2
  apply BitVec.eq_of_getLsbD_eq
  intro i hi
  rw [BitVec.getLsbD_and, BitVec.getLsbD_and, w8_bit _ _ _ _ hi, w8_bit _ _ _ _ hi]
  obtain rfl | rfl | rfl | rfl | rfl | rfl | rfl | rfl : i = 0 ∨ i = 1 ∨ i = 2 ∨ i = 3 ∨ i = 4 ∨ i = 5 ∨ i = 6 ∨ i = 7 := by omega
  all_goals first | rfl | (rw [show (~~~B8 130).getLsbD 1 = false by decide, Bool.and_false, Bool.and_false]) | (rw [show (~~~B8 130).getLsbD 7 = false by decide, Bool.and_false, Bool.and_false])
/-! FnAdd -/
theorem cI_tst' (p : Int) : cI p = if tst p 1 = true then 1 else 0 := cI_tst p
theorem sg_comm (a b r : Int) : sg a b r = sg b a r := by unfold sg; rw [BitVec.and_comm (B8 a ^^^ B8 r)]
theorem rI_comm (p a b : Int) : rI p b a = rI p a b := by unfold rI; omega
theorem sI_comm (p a b : Int) : sI p b a = sI p a b := by
  unfold sI
  rw [show b % 16 + a % 16 + cI p = a % 16 + b % 16 + cI p by omega]
  omega
theorem addN_comm (p a b : Int) : addN p b a = addN p a b := by
  unfold addN tenN binN
  rw [rI_comm, sI_comm, sg_comm b a, sg_comm b a]
theorem addR_comm (p a b : Int) : addR p b a = addR p a b := by unfold addR; rw [rI_comm, sI_comm]
theorem rI_bd (p a b : Int) : 0 ≤ rI p a b ∧ rI p a b ≤ 511 := by have := cI_bd p; unfold rI; omega
theorem add_over (p a b : Int) (ht : tst p 8 = false) : addR p a b + 256 * cI (addN p a b) = a % 256 + b % 256 + cI p := by
  have h := rI_bd p a b
  have e : a % 256 + b % 256 + cI p = rI p a b := rfl
  rw [e]
  have h1 : tst (addN p a b) 1 = decide (255 < rI p a b) := by
    unfold addN; rw [if_neg (by rw [ht]; decide)]; exact tst_same _ 1 _ (by decide)
  have h2 : addR p a b = rI p a b % 256 := by unfold addR; rw [if_neg (by rw [ht]; decide)]
  rw [h2, cI_tst, h1]
  by_cases h3 : 255 < rI p a b
  · rw [if_pos (by simpa using h3)]; omega
  · rw [if_neg (by simpa using h3)]; omega
/-! FnSub -/
theorem tst_off (p f g : Int) : tst (bits .andNot .i64 p f) g = (B8 p &&& ~~~B8 f &&& B8 g != 0) := by unfold tst; rw [B8_bits]; rfl
theorem off_8 (p : Int) : tst (bits .andNot .i64 p 8) 8 = false := by
  rw [tst_off, BitVec.and_assoc, show ~~~B8 8 &&& B8 8 = 0 by decide]; simp
theorem off_8_1 (p : Int) (h : tst p 8 = false) : tst (bits .andNot .i64 p 1) 8 = false := by
  rw [tst_off, BitVec.and_assoc, show ~~~B8 1 &&& B8 8 = B8 8 by decide]; exact h
theorem on_8_1 (p : Int) (h : tst p 8 = false) : tst (bits .or .i64 p 1) 8 = false := by
  have e : (B8 p ||| B8 1) &&& B8 8 = B8 p &&& B8 8 := by
    apply BitVec.eq_of_getLsbD_eq
    intro i hi
    rw [BitVec.getLsbD_and, BitVec.getLsbD_or, BitVec.getLsbD_and]
    obtain rfl | rfl | rfl | rfl | rfl | rfl | rfl | rfl : i = 0 ∨ i = 1 ∨ i = 2 ∨ i = 3 ∨ i = 4 ∨ i = 5 ∨ i = 6 ∨ i = 7 := by omega
    all_goals simp [show (B8 1) = 1#8 by decide, show B8 8 = 8#8 by decide]
  unfold tst
  rw [B8_bits]
  unfold bop
  simp only []
  rw [e]; exact h
theorem off_1 (p : Int) : cI (bits .andNot .i64 p 1) = 0 := by
  have h : tst (bits .andNot .i64 p 1) 1 = false := by rw [tst_off, BitVec.and_assoc, show ~~~B8 1 &&& B8 1 = 0 by decide]; simp
  rw [cI_tst, h]; rfl
theorem on_1 (p : Int) : cI (bits .or .i64 p 1) = 1 := by
  have h : tst (bits .or .i64 p 1) 1 = true := by
    unfold tst; rw [B8_bits]; unfold bop; simp only []
    have e : (B8 p ||| B8 1) &&& B8 1 = B8 1 := by
      apply BitVec.eq_of_getLsbD_eq
      intro i hi
      rw [BitVec.getLsbD_and, BitVec.getLsbD_or]
      cases (B8 p).getLsbD i <;> cases (B8 1).getLsbD i <;> rfl
    rw [e]; decide
  rw [cI_tst, h]; rfl
theorem sub_back (p0 p1 a b : Int) (h0 : tst p0 8 = false) (h1 : tst p1 8 = false) (c0 : cI p0 = 0) (c1 : cI p1 = 1) : subR p1 (addR p0 a b) b = a % 256 := by
  unfold subR addR dI rI
  rw [h0, h1, c0, c1]
  simp only [Bool.false_eq_true, if_false]
  omega
theorem mask_131 (P Q : BitVec 8) (n z c v : Bool) : w8 (w8 (w8 P 128 n) 2 z) 1 c &&& 131 = w8 (w8 (w8 (w8 Q 128 n) 2 z) 1 c) 64 v &&& 131 := by
  apply BitVec.eq_of_getLsbD_eq
  intro i hi
  rw [BitVec.getLsbD_and, BitVec.getLsbD_and, w8_bit _ _ _ _ hi, w8_bit _ _ _ _ hi, w8_bit _ _ _ _ hi, w8_bit _ _ _ _ hi, w8_bit _ _ _ _ hi, w8_bit _ _ _ _ hi, w8_bit _ _ _ _ hi]
  obtain rfl | rfl | rfl | rfl | rfl | rfl | rfl | rfl : i = 0 ∨ i = 1 ∨ i = 2 ∨ i = 3 ∨ i = 4 ∨ i = 5 ∨ i = 6 ∨ i = 7 := by omega
  all_goals simp
theorem cmp_sub (p p1 a b : Int) (c1 : cI p1 = 1) : bits .and .i64 (cmpN p a b) 131 = bits .and .i64 (subN p1 a b) 131 := by
  rw [and_val _ _ (by omega), and_val _ _ (by omega)]
  congr 2
  unfold cmpN subN
  have e : dI p1 a b = a % 256 - b % 256 := by unfold dI; omega
  rw [e]
  unfold nzI
  simp only [wI_B8]
  rw [show decide (b % 256 ≤ a % 256) = decide (0 ≤ a % 256 - b % 256) from decide_eq_decide.2 (by omega)]
  exact mask_131 _ _ _ _ _ _
/-! FnShift -/
theorem cI_wI (p : Int) (on : Bool) : cI (wI p 1 on) = if on then 1 else 0 := by rw [cI_tst, tst_same _ 1 _ (by decide)]
theorem shift_back (p v : Int) : shR 3 (shN 2 p v) (shR 2 p v) = v % 256 ∧ cI (shN 3 (shN 2 p v) (shR 2 p v)) = cI p := by
  have hc := cI_bd p
  have e2 : shR 2 p v = v % 256 * 2 % 256 + cI p := by unfold shR; simp
  have n2 : cI (shN 2 p v) = if 128 ≤ v % 256 then 1 else 0 := by
    rw [shN_yes 2 p v (by omega), cI_wI]; unfold shG; simp
  have e3 : shR 3 (shN 2 p v) (shR 2 p v) = shR 2 p v % 256 / 2 + 128 * cI (shN 2 p v) := by unfold shR; simp
  refine ⟨?_, ?_⟩
  · rw [e3, n2, e2]
    split <;> omega
  · have g : shG 3 (shR 2 p v) = decide (shR 2 p v % 2 = 1) := by unfold shG; rw [if_neg (by decide)]
    rw [shN_yes 3 _ _ (by omega), cI_wI, g]
    by_cases h : cI p = 1
    · rw [decide_eq_true (by omega), if_pos rfl]; omega
    · rw [decide_eq_false (by omega), if_neg (by decide)]; omega
theorem shift_half (p v : Int) : shR 1 p v = v % 256 / 2 ∧ cI (shN 1 p v) = cI v := by
  have e : shR 1 p v = v % 256 / 2 := by unfold shR; simp
  refine ⟨e, ?_⟩
  have g : shG 1 v = decide (v % 2 = 1) := by unfold shG; rw [if_neg (by decide)]
  rw [shN_yes 1 _ _ (by omega), cI_wI, cI_eq, g]
  by_cases h : v % 2 = 1
  · rw [decide_eq_true h, if_pos rfl]; omega
  · rw [decide_eq_false h, if_neg (by decide)]; omega
/-! FnBit -/
theorem bit_192 (p a v : Int) (q : Int) (hq : q = wI (wI (wI p 128 (tst v 128)) 64 (tst v 64)) 2 (!tst a v)) : bits .and .i64 q 192 = bits .and .i64 v 192 := by
  subst hq
  rw [and_val _ _ (by omega), and_val _ _ (by omega)]
  congr 2
  simp only [wI_B8]
  apply BitVec.eq_of_getLsbD_eq
  intro i hi
  rw [BitVec.getLsbD_and, BitVec.getLsbD_and, w8_bit _ _ _ _ hi, w8_bit _ _ _ _ hi, w8_bit _ _ _ _ hi]
  have t1 : tst v 128 = (B8 v).getLsbD 7 := by
    unfold tst
    generalize B8 v = V
    revert V; decide +kernel
  have t2 : tst v 64 = (B8 v).getLsbD 6 := by
    unfold tst
    generalize B8 v = V
    revert V; decide +kernel
  rw [t1, t2]
  obtain rfl | rfl | rfl | rfl | rfl | rfl | rfl | rfl : i = 0 ∨ i = 1 ∨ i = 2 ∨ i = 3 ∨ i = 4 ∨ i = 5 ∨ i = 6 ∨ i = 7 := by omega
  all_goals simp [show B8 192 = 192#8 by decide, show B8 128 = 128#8 by decide, show B8 64 = 64#8 by decide, show B8 2 = 2#8 by decide]
theorem cmp_c (p y z : Int) : tst (cmpN p y z) 1 = decide (z % 256 ≤ y % 256) := tst_same _ 1 _ (by decide)
theorem cmp_z (p y z : Int) : tst (cmpN p y z) 2 = (y % 256 == z % 256) := by
  unfold cmpN
  rw [tst_far _ 1 2 _ (by decide), nz_z, tst_255]
  rw [Bool.eq_iff_iff]
  simp only [Bool.not_eq_true', bne_eq_false_iff_eq, beq_iff_eq]
  omega
end Go.Proofs.Ytfeifcffgachoaa
