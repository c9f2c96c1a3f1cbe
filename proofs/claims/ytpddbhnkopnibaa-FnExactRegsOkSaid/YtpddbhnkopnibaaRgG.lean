/-
  Plain facts on notes that are read from eight signs (chapter 3): a byte comes back from its text, and a text that is read is that byte's text.
  Conditions: as each lemma says.
-/
import Derived.Test.YtpddbhnkopnibaaRgD
namespace Go.Proofs.Ytpddbhnkopnibaa
def sg8 (l : List UInt8) (i : Nat) : Bool := l.getD i 0 == fLet i
def rdB (f : Nat → Bool) : Nat → Int
  | 0 => 0
  | k + 1 => wI (rdB f k) (fBit k) (f k)
def rdN (l : List UInt8) (k : Nat) : Int := rdB (sg8 l) k
theorem rdN_succ (l : List UInt8) (k : Nat) : rdN l (k + 1) = wI (rdN l k) (fBit k) (sg8 l k) := rfl
theorem rdN_bd (l : List UInt8) (k : Nat) : 0 ≤ rdN l k ∧ rdN l k < 256 := by
  cases k with
  | zero => exact ⟨Int.le_refl 0, by show (0 : Int) < 256; omega⟩
  | succ k => exact wI_bd _ _ _
def okAt (l : List UInt8) (i : Nat) : Bool := sg8 l i || l.getD i 0 == 46
def okF (l : List UInt8) : Bool := l.length == 8 && (List.range 8).all (okAt l)
def rfl8 (l : List UInt8) : Int := if okF l then rdN l 8 else -1
theorem okF_at {l : List UInt8} (h : okF l = true) (i : Nat) (hi : i < 8) : okAt l i = true := by
  unfold okF at h
  rw [Bool.and_eq_true, List.all_eq_true] at h
  exact h.2 i (List.mem_range.2 hi)
theorem okF_len {l : List UInt8} (h : okF l = true) : l.length = 8 := by
  unfold okF at h
  rw [Bool.and_eq_true, beq_iff_eq] at h
  exact h.1
theorem okF_mk {l : List UInt8} (h : l.length = 8) (ha : ∀ i, i < 8 → okAt l i = true) : okF l = true := by
  unfold okF
  rw [Bool.and_eq_true, beq_iff_eq, List.all_eq_true]
  exact ⟨h, fun i hi => ha i (List.mem_range.1 hi)⟩
theorem rfl8_bad {l : List UInt8} (i : Nat) (hi : i < 8) (h : okAt l i = false) : rfl8 l = -1 := by
  unfold rfl8
  rw [if_neg]
  intro h2
  rw [okF_at h2 i hi] at h
  cases h
theorem rfl8_len {l : List UInt8} (h : l.length ≠ 8) : rfl8 l = -1 := by
  unfold rfl8
  rw [if_neg]
  intro h2
  exact h (okF_len h2)
theorem ftl_back_all : ∀ p : Fin 256, (okF (ftl (p.val : Nat)) && rdN (ftl (p.val : Nat)) 8 == (p.val : Nat)) = true := by decide +kernel
theorem ftl_back (p : Int) (h0 : 0 ≤ p) (h1 : p < 256) : okF (ftl p) = true ∧ rdN (ftl p) 8 = p := by
  have h := ftl_back_all ⟨p.toNat, by omega⟩
  simp only [Bool.and_eq_true, beq_iff_eq] at h
  rw [Int.toNat_of_nonneg h0] at h
  exact h
theorem rfl8_ftl (p : Int) (h0 : 0 ≤ p) (h1 : p < 256) : rfl8 (ftl p) = p := by
  obtain ⟨h2, h3⟩ := ftl_back p h0 h1
  unfold rfl8
  rw [if_pos h2, h3]
def bsOf (n : Nat) (i : Nat) : Bool := n.testBit i
theorem rdB_tst_all : ∀ n : Fin 256, ((List.range 8).all fun i => tst (rdB (bsOf n.val) 8) (fBit i) == bsOf n.val i) = true := by decide +kernel
theorem rdB_congr (f g : Nat → Bool) (k : Nat) (h : ∀ i, i < k → f i = g i) : rdB f k = rdB g k := by
  induction k with
  | zero => rfl
  | succ k ih => unfold rdB; rw [ih fun i hi => h i (by omega), h k (by omega)]
def numOf (f : Nat → Bool) : Nat → Nat
  | 0 => 0
  | k + 1 => numOf f k + if f k then 2 ^ k else 0
theorem numOf_lt (f : Nat → Bool) (k : Nat) : numOf f k < 2 ^ k := by
  induction k with
  | zero => simp [numOf]
  | succ k ih =>
    unfold numOf
    rw [Nat.pow_succ]
    split <;> omega
theorem numOf_bit (f : Nat → Bool) (k i : Nat) (h : i < k) : (numOf f k).testBit i = f i := by
  induction k with
  | zero => omega
  | succ k ih =>
    unfold numOf
    have hl := numOf_lt f k
    by_cases hik : i = k
    · subst hik
      cases hf : f i
      · simp [Nat.testBit_lt_two_pow hl]
      · simp only [if_true]
        rw [Nat.add_comm, Nat.testBit_two_pow_add_eq, Nat.testBit_lt_two_pow hl]
        rfl
    · cases hf : f k
      · simpa using ih (by omega)
      · simp only [if_true]
        rw [Nat.add_comm, Nat.testBit_two_pow_add_gt (by omega)]
        exact ih (by omega)
theorem rdB_tst (f : Nat → Bool) (i : Nat) (hi : i < 8) : tst (rdB f 8) (fBit i) = f i := by
  have hl := numOf_lt f 8
  have h := rdB_tst_all ⟨numOf f 8, hl⟩
  rw [List.all_eq_true] at h
  have h1 := h i (List.mem_range.2 hi)
  rw [beq_iff_eq] at h1
  have e : rdB (bsOf (numOf f 8)) 8 = rdB f 8 := rdB_congr _ _ 8 fun j hj => numOf_bit f 8 j hj
  simp only [e] at h1
  rw [h1]
  exact numOf_bit f 8 i hi
theorem ftl_rdN {l : List UInt8} (h : okF l = true) : ftl (rdN l 8) = l := by
  have hlen := okF_len h
  apply List.ext_getElem (by rw [ftl_length, hlen])
  intro i h1 h2
  rw [ftl_length] at h1
  have hok := okF_at h i h1
  have ht := rdB_tst (sg8 l) i h1
  have e : (ftl (rdN l 8))[i]'(by rw [ftl_length]; exact h1) = fSign (rdN l 8) i := by simp [ftl]
  rw [e]
  unfold fSign
  show (if tst (rdB (sg8 l) 8) (fBit i) = true then fLet i else 46) = l[i]
  rw [ht]
  unfold okAt at hok
  have hg : l.getD i 0 = l[i] := by simp [List.getD, h2]
  cases hs : sg8 l i
  · rw [hs, Bool.false_or, beq_iff_eq, hg] at hok
    rw [if_neg (by decide), hok]
  · unfold sg8 at hs
    rw [beq_iff_eq, hg] at hs
    rw [if_pos rfl, hs]
/-- None of the 256 texts is this one: it is not read. -/
theorem rfl8_none {l : List UInt8} (h : ∀ q : Nat, q < 256 → ftl (q : Int) ≠ l) : rfl8 l = -1 := by
  unfold rfl8
  rw [if_neg]
  intro h2
  have hb := rdN_bd l 8
  have h3 := ftl_rdN h2
  have h4 := h (rdN l 8).toNat (by omega)
  rw [Int.toNat_of_nonneg hb.1] at h4
  exact h4 h3
end Go.Proofs.Ytpddbhnkopnibaa
