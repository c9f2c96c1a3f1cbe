/-
  Plain facts on the chip (chapter 6): what a right chip is; its clock, its reads and writes; the two bits of its flags and its mask; how the model's bit operators act on them.
  Conditions: as each lemma says.
-/
import Derived.Test.YtgpcmekcdgboeaaBnA
import Derived.Test.YtgpcmekcdgboeaaRgA
namespace Go.Proofs.Ytgpcmekcdgboeaa
structure ChipI where
  c1 : Int
  l1 : Int
  v1 : Bool
  ag : Bool
  c2 : Int
  o2 : Int
  v2 : Bool
  pt : Int
  dr : Int
  fl : Int
  ms : Int
def chipC (c : ChipI) : Array Value := #[.int .i64 c.c1, .int .i64 c.l1, .bool c.v1, .bool c.ag, .int .i64 c.c2, .int .i64 c.o2, .bool c.v2, .int .i64 c.pt, .int .i64 c.dr, .int .i64 c.fl, .int .i64 c.ms]
def chipV (c : ChipI) : Value := .agg (chipC c)
def i64I (n : Int) : Prop := -9223372036854775808 ≤ n ∧ n ≤ 9223372036854775807
/-- The numbers are those of their kind. -/
structure ChipI.fits (c : ChipI) : Prop where
  c1 : i64I c.c1
  l1 : i64I c.l1
  c2 : i64I c.c2
  o2 : i64I c.o2
  pt : i64I c.pt
  dr : i64I c.dr
  fl : i64I c.fl
  ms : i64I c.ms
/-- A number of the two bits 64 and 32. -/
def mkF (p q : Bool) : Int := (if p then 64 else 0) + (if q then 32 else 0)
def isF (n : Int) : Bool := decide (n = 0 ∨ n = 32 ∨ n = 64 ∨ n = 96)
def f6 (n : Int) : Bool := decide (n = 64 ∨ n = 96)
def f5 (n : Int) : Bool := decide (n = 32 ∨ n = 96)
theorem isF_mk (p q : Bool) : isF (mkF p q) = true := by cases p <;> cases q <;> decide
theorem f6_mk (p q : Bool) : f6 (mkF p q) = p := by cases p <;> cases q <;> decide
theorem f5_mk (p q : Bool) : f5 (mkF p q) = q := by cases p <;> cases q <;> decide
theorem mk_isF {n : Int} (h : isF n = true) : n = mkF (f6 n) (f5 n) := by
  rcases of_decide_eq_true h with rfl | rfl | rfl | rfl <;> decide
theorem mkF_bd (p q : Bool) : 0 ≤ mkF p q ∧ mkF p q ≤ 96 := by cases p <;> cases q <;> decide
theorem mkF_inj {p q r s : Bool} (h : mkF p q = mkF r s) : p = r ∧ q = s := by
  have h1 := congrArg f6 h
  have h2 := congrArg f5 h
  rw [f6_mk, f6_mk] at h1
  rw [f5_mk, f5_mk] at h2
  exact ⟨h1, h2⟩
theorem mkF_zero (p q : Bool) : mkF p q = 0 ↔ (p = false ∧ q = false) := by cases p <;> cases q <;> decide
/-- What a right chip is. -/
def okC (c : ChipI) : Bool := isAd c.c1 && isAd c.l1 && isAd c.c2 && isB c.o2 && isB c.pt && isB c.dr && isF c.fl && isF c.ms
structure ChipI.right (c : ChipI) : Prop where
  c1 : 0 ≤ c.c1 ∧ c.c1 ≤ 65535
  l1 : 0 ≤ c.l1 ∧ c.l1 ≤ 65535
  c2 : 0 ≤ c.c2 ∧ c.c2 ≤ 65535
  o2 : 0 ≤ c.o2 ∧ c.o2 ≤ 255
  pt : 0 ≤ c.pt ∧ c.pt ≤ 255
  dr : 0 ≤ c.dr ∧ c.dr ≤ 255
  fl : isF c.fl = true
  ms : isF c.ms = true
theorem okC_iff (c : ChipI) : okC c = true ↔ c.right := by
  unfold okC isAd isB
  simp only [Bool.and_eq_true, decide_eq_true_eq]
  constructor
  · rintro ⟨⟨⟨⟨⟨⟨⟨h1, h2⟩, h3⟩, h4⟩, h5⟩, h6⟩, h7⟩, h8⟩
    exact ⟨h1, h2, h3, h4, h5, h6, h7, h8⟩
  · rintro ⟨h1, h2, h3, h4, h5, h6, h7, h8⟩
    exact ⟨⟨⟨⟨⟨⟨⟨h1, h2⟩, h3⟩, h4⟩, h5⟩, h6⟩, h7⟩, h8⟩
theorem ChipI.right.fits {c : ChipI} (h : c.right) : c.fits := by
  have h7 := of_decide_eq_true h.fl
  have h8 := of_decide_eq_true h.ms
  obtain ⟨a1, a2, a3, a4, a5, a6, _, _⟩ := h
  constructor <;> unfold i64I <;> omega
def asksC (c : ChipI) : Bool := bits .and .i64 c.fl c.ms != 0
theorem and_mk (p q r s : Bool) : bits .and .i64 (mkF p q) (mkF r s) = mkF (p && r) (q && s) := by cases p <;> cases q <;> cases r <;> cases s <;> decide
theorem asks_mk {c : ChipI} {p q r s : Bool} (hf : c.fl = mkF p q) (hm : c.ms = mkF r s) : asksC c = ((p && r) || (q && s)) := by
  unfold asksC
  rw [hf, hm, and_mk]
  cases p <;> cases q <;> cases r <;> cases s <;> decide
theorem or64_mk (p q : Bool) : bits .or .i64 (mkF p q) 64 = mkF true q := by cases p <;> cases q <;> decide
theorem or32_mk (p q : Bool) : bits .or .i64 (mkF p q) 32 = mkF p true := by cases p <;> cases q <;> decide
theorem not64_mk (p q : Bool) : bits .andNot .i64 (mkF p q) 64 = mkF false q := by cases p <;> cases q <;> decide
theorem not32_mk (p q : Bool) : bits .andNot .i64 (mkF p q) 32 = mkF p false := by cases p <;> cases q <;> decide
theorem or128_mk (p q : Bool) : bits .or .i64 (mkF p q) 128 = mkF p q + 128 := by cases p <;> cases q <;> decide
theorem not96_mk (p q : Bool) : bits .andNot .i64 (mkF p q) 96 = 0 := by cases p <;> cases q <;> decide
theorem mk_b (p q : Bool) : 0 ≤ mkF p q ∧ mkF p q ≤ 255 := by have := mkF_bd p q; omega
theorem notv_all : ∀ b : BitVec 8, ∀ p q : Bool, (bop .andNot (B8 (mkF p q)) b) = B8 (mkF (p && !(b &&& 64 != 0)) (q && !(b &&& 32 != 0))) := by decide +kernel
theorem orv_all : ∀ b : BitVec 8, ∀ p q : Bool, (bop .or (B8 (mkF p q)) (bop .and b 96)) = B8 (mkF (p || (b &&& 64 != 0)) (q || (b &&& 32 != 0))) := by decide +kernel
theorem tst64 (v : Int) : tst v 64 = (B8 v &&& 64 != 0) := rfl
theorem notv_mk (p q : Bool) {v : Int} (hv : 0 ≤ v ∧ v ≤ 255) : bits .andNot .i64 (mkF p q) v = mkF (p && !tst v 64) (q && !tst v 32) := by
  rw [b_bits words_i64 .andNot (mk_b p q) hv, notv_all]
  exact (B8_val _ (mk_b _ _).1 (by have := (mk_b (p && !tst v 64) (q && !tst v 32)).2; exact Int.lt_add_one_iff.2 this)).symm
theorem and96_bd (v : Int) : 0 ≤ bits .and .i64 v 96 ∧ bits .and .i64 v 96 ≤ 255 := by have := and_small v 96 (by omega); omega
theorem orv_mk (p q : Bool) (v : Int) : bits .or .i64 (mkF p q) (bits .and .i64 v 96) = mkF (p || tst v 64) (q || tst v 32) := by
  rw [b_bits words_i64 .or (mk_b p q) (and96_bd v), B8_bits, show B8 96 = 96 by decide, orv_all]
  exact (B8_val _ (mk_b _ _).1 (by have := (mk_b (p || tst v 64) (q || tst v 32)).2; exact Int.lt_add_one_iff.2 this)).symm
/-- No bits but the two: told of any number of its kind. -/
theorem bv_two {w : Nat} (b : BitVec w) (h : b &&& ~~~(BitVec.ofNat w 96) = 0#w) : b.toNat = (if b.getLsbD 6 then 64 else 0) + (if b.getLsbD 5 then 32 else 0) := by
  have hb : ∀ i, b.toNat.testBit i = true → i = 5 ∨ i = 6 := by
    intro i hi
    by_cases hiw : i < w
    · have h1 := congrArg (fun x => x.getLsbD i) h
      simp only [BitVec.getLsbD_and, BitVec.getLsbD_not, hiw, decide_true, Bool.true_and, BitVec.getLsbD_zero] at h1
      have h2 : b.getLsbD i = true := hi
      rw [h2, Bool.true_and, Bool.not_eq_false', BitVec.getLsbD_ofNat] at h1
      simp only [hiw, decide_true, Bool.true_and] at h1
      have h3 : i < 7 := by
        rcases Nat.lt_or_ge i 7 with h | h
        · exact h
        · rw [Nat.testBit_lt_two_pow (Nat.lt_of_lt_of_le (by decide : 96 < 2 ^ 7) (Nat.pow_le_pow_right (by omega) h))] at h1
          cases h1
      have h4 : i = 0 ∨ i = 1 ∨ i = 2 ∨ i = 3 ∨ i = 4 ∨ i = 5 ∨ i = 6 := by omega
      rcases h4 with rfl | rfl | rfl | rfl | rfl | rfl | rfl <;> first | (exact absurd h1 (by decide)) | omega
    · have : b.getLsbD i = true := hi
      rw [BitVec.getLsbD_of_ge b i (by omega)] at this
      cases this
  have e : b.toNat = (if b.getLsbD 6 then 64 else 0) ||| (if b.getLsbD 5 then 32 else 0) := by
    apply Nat.eq_of_testBit_eq
    intro i
    rw [Nat.testBit_or]
    have t6 : ∀ i, (64 : Nat).testBit i = decide (i = 6) := fun i => by rw [show (64 : Nat) = 2 ^ 6 from rfl, Nat.testBit_two_pow]; simp [eq_comm]
    have t5 : ∀ i, (32 : Nat).testBit i = decide (i = 5) := fun i => by rw [show (32 : Nat) = 2 ^ 5 from rfl, Nat.testBit_two_pow]; simp [eq_comm]
    have g6 : b.getLsbD 6 = b.toNat.testBit 6 := rfl
    have g5 : b.getLsbD 5 = b.toNat.testBit 5 := rfl
    rw [g6, g5]
    by_cases h6 : i = 6
    · subst h6
      cases b.toNat.testBit 6 <;> cases b.toNat.testBit 5 <;> decide
    · by_cases h5 : i = 5
      · subst h5
        cases b.toNat.testBit 6 <;> cases b.toNat.testBit 5 <;> decide
      · have : b.toNat.testBit i = false := by
          cases hi : b.toNat.testBit i
          · rfl
          · rcases hb i hi with h | h <;> omega
        rw [this]
        cases b.toNat.testBit 6 <;> cases b.toNat.testBit 5 <;> simp [t6, t5, h6, h5]
  rw [e]
  cases b.getLsbD 6 <;> cases b.getLsbD 5 <;> decide
theorem isF_bits {n : Int} (h : i64I n) : (bits .andNot .i64 n 96 == 0) = isF n := by
  unfold i64I at h
  cases hf : isF n
  · rw [beq_eq_false_iff_ne]
    intro h0
    have hn : (BitVec.ofInt 64 n &&& ~~~(BitVec.ofNat 64 96)) = 0#64 := by
      unfold bits at h0
      simp only [IntKind.wrap_i64] at h0
      have hlt := (BitVec.ofInt IntKind.i64.bits n &&& ~~~BitVec.ofInt IntKind.i64.bits 96).isLt
      have e64 : IntKind.i64.bits = 64 := rfl
      have h2 : (BitVec.ofInt IntKind.i64.bits n &&& ~~~BitVec.ofInt IntKind.i64.bits 96).toNat = 0 := by
        generalize (BitVec.ofInt IntKind.i64.bits n &&& ~~~BitVec.ofInt IntKind.i64.bits 96).toNat = z at h0 hlt
        rw [e64] at hlt
        omega
      exact BitVec.eq_of_toNat_eq h2
    have h2 := bv_two _ hn
    rw [BitVec.toNat_ofInt] at h2
    have e : ((2 ^ 64 : Nat) : Int) = 18446744073709551616 := by decide
    rw [e] at h2
    have hc : (n % 18446744073709551616).toNat = 0 ∨ (n % 18446744073709551616).toNat = 32 ∨ (n % 18446744073709551616).toNat = 64 ∨ (n % 18446744073709551616).toNat = 96 := by
      rw [h2]
      cases (BitVec.ofInt 64 n).getLsbD 6 <;> cases (BitVec.ofInt 64 n).getLsbD 5 <;> decide
    have : n = 0 ∨ n = 32 ∨ n = 64 ∨ n = 96 := by omega
    unfold isF at hf
    exact absurd this (of_decide_eq_false hf)
  · rw [mk_isF hf, not96_mk]
    rfl
/-- A right chip's clock. -/
def tickR (c : ChipI) : ChipI :=
  { c1 := if c.c1 = 0 then (if c.ag then c.l1 else 65535) else c.c1 - 1, l1 := c.l1, v1 := if c.c1 = 0 then c.v1 && c.ag else c.v1, ag := c.ag,
    c2 := if c.c2 = 0 then 65535 else c.c2 - 1, o2 := c.o2, v2 := if c.c2 = 0 then false else c.v2, pt := c.pt, dr := c.dr,
    fl := mkF (f6 c.fl || (decide (c.c1 = 0) && c.v1)) (f5 c.fl || (decide (c.c2 = 0) && c.v2)), ms := c.ms }
def tickI (c : ChipI) : ChipI := if okC c then tickR c else c
theorem tickR_right {c : ChipI} (h : c.right) : (tickR c).right := by
  obtain ⟨h1, h2, h3, h4, h5, h6, h7, h8⟩ := h
  refine ⟨?_, h2, ?_, h4, h5, h6, isF_mk _ _, h8⟩
  · have e : (tickR c).c1 = if c.c1 = 0 then (if c.ag then c.l1 else 65535) else c.c1 - 1 := rfl
    rw [e]
    split
    · split <;> omega
    · omega
  · have e : (tickR c).c2 = if c.c2 = 0 then 65535 else c.c2 - 1 := rfl
    rw [e]
    split <;> omega
/-- The byte of a port: its own bits where it drives them, else those outside. -/
def portI (pt dr p : Int) : Int := (((B8 pt &&& B8 dr) ||| (B8 p &&& ~~~B8 dr)).toNat : Int)
theorem portI_bd (pt dr p : Int) : 0 ≤ portI pt dr p ∧ portI pt dr p < 256 := by
  unfold portI
  have := ((B8 pt &&& B8 dr) ||| (B8 p &&& ~~~B8 dr)).isLt
  omega
theorem port_spec {pt dr p : Int} (hd : 0 ≤ dr ∧ dr ≤ 255) : bits .or .i64 (bits .and .i64 pt dr) (bits .and .i64 (bits .andNot .i64 p dr) 255) = portI pt dr p := by
  have h1 := and_small pt dr (by omega)
  have h2 := and_small (bits .andNot .i64 p dr) 255 (by omega)
  rw [b_bits words_i64 .or (by omega) (by omega), B8_bits, B8_bits, B8_bits, show B8 255 = BitVec.allOnes 8 by decide]
  unfold portI bop
  simp only [BitVec.and_allOnes]
/-- A right chip behind a read of a register, and the byte. -/
def readR (c : ChipI) (r p : Int) : ChipI × Int :=
  if r = 0 then (c, portI c.pt c.dr p) else if r = 2 then (c, c.dr) else if r = 4 then ({ c with fl := mkF false (f5 c.fl) }, c.c1 % 256)
  else if r = 5 then (c, c.c1 / 256) else if r = 6 then (c, c.l1 % 256) else if r = 7 then (c, c.l1 / 256)
  else if r = 8 then ({ c with fl := mkF (f6 c.fl) false }, c.c2 % 256) else if r = 9 then (c, c.c2 / 256)
  else if r = 11 then (c, if c.ag then 64 else 0) else if r = 13 then (c, if asksC c then c.fl + 128 else c.fl) else if r = 14 then (c, c.ms + 128) else (c, 0)
def readI (c : ChipI) (r p : Int) : ChipI × Int := if okC c then readR c (r % 16) p else (c, 0)
/-- A right chip behind a write of a byte. -/
def writeR (c : ChipI) (r v : Int) : ChipI :=
  if r = 0 then { c with pt := v } else if r = 2 then { c with dr := v } else if r = 4 ∨ r = 6 then { c with l1 := c.l1 / 256 * 256 + v }
  else if r = 5 then { c with l1 := v * 256 + c.l1 % 256, c1 := v * 256 + c.l1 % 256, v1 := true, fl := mkF false (f5 c.fl) }
  else if r = 7 then { c with l1 := v * 256 + c.l1 % 256, fl := mkF false (f5 c.fl) } else if r = 8 then { c with o2 := v }
  else if r = 9 then { c with c2 := v * 256 + c.o2, v2 := true, fl := mkF (f6 c.fl) false } else if r = 11 then { c with ag := tst v 64 }
  else if r = 13 then { c with fl := mkF (f6 c.fl && !tst v 64) (f5 c.fl && !tst v 32) }
  else if r = 14 then { c with ms := if tst v 128 then mkF (f6 c.ms || tst v 64) (f5 c.ms || tst v 32) else mkF (f6 c.ms && !tst v 64) (f5 c.ms && !tst v 32) } else c
def writeI (c : ChipI) (r v : Int) : ChipI := if okC c then writeR c (r % 16) (v % 256) else c
theorem ite_has {α : Type} {P : α → Prop} {q : Prop} [Decidable q] {a b : α} (h1 : P a) (h2 : P b) : P (if q then a else b) := by split <;> assumption
def OkRead (x : ChipI × Int) : Prop := x.1.right ∧ 0 ≤ x.2 ∧ x.2 ≤ 255
theorem readR_right {c : ChipI} (h : c.right) (r p : Int) : OkRead (readR c r p) := by
  have hp := portI_bd c.pt c.dr p
  have h' := h
  obtain ⟨h1, h2, h3, h4, h5, h6, h7, h8⟩ := h
  have h7' := of_decide_eq_true h7
  have h8' := of_decide_eq_true h8
  have s : ∀ v : Int, 0 ≤ v ∧ v ≤ 255 → OkRead (c, v) := fun v hv => ⟨h', hv.1, hv.2⟩
  have f : ∀ (p q : Bool) (v : Int), 0 ≤ v ∧ v ≤ 255 → OkRead ({ c with fl := mkF p q }, v) := fun p q v hv => ⟨⟨h1, h2, h3, h4, h5, h6, isF_mk _ _, h8⟩, hv.1, hv.2⟩
  unfold readR
  repeat' (refine ite_has (P := OkRead) ?_ ?_)
  · exact s _ (by omega)
  · exact s _ (by omega)
  · exact f _ _ _ (by omega)
  · exact s _ (by omega)
  · exact s _ (by omega)
  · exact s _ (by omega)
  · exact f _ _ _ (by omega)
  · exact s _ (by omega)
  · exact s _ (by split <;> omega)
  · exact s _ (by split <;> omega)
  · exact s _ (by omega)
  · exact s _ (by omega)
theorem writeR_right {c : ChipI} (h : c.right) (r v : Int) (hv : 0 ≤ v ∧ v ≤ 255) : (writeR c r v).right := by
  have h' := h
  obtain ⟨h1, h2, h3, h4, h5, h6, h7, h8⟩ := h
  unfold writeR
  repeat' (refine ite_has (P := ChipI.right) ?_ ?_)
  · exact ⟨h1, h2, h3, h4, hv, h6, h7, h8⟩
  · exact ⟨h1, h2, h3, h4, h5, hv, h7, h8⟩
  · exact ⟨h1, by show 0 ≤ c.l1 / 256 * 256 + v ∧ c.l1 / 256 * 256 + v ≤ 65535; omega, h3, h4, h5, h6, h7, h8⟩
  · exact ⟨by show 0 ≤ v * 256 + c.l1 % 256 ∧ v * 256 + c.l1 % 256 ≤ 65535; omega, by show 0 ≤ v * 256 + c.l1 % 256 ∧ v * 256 + c.l1 % 256 ≤ 65535; omega, h3, h4, h5, h6, isF_mk _ _, h8⟩
  · exact ⟨h1, by show 0 ≤ v * 256 + c.l1 % 256 ∧ v * 256 + c.l1 % 256 ≤ 65535; omega, h3, h4, h5, h6, isF_mk _ _, h8⟩
  · exact ⟨h1, h2, h3, hv, h5, h6, h7, h8⟩
  · exact ⟨h1, h2, by show 0 ≤ v * 256 + c.o2 ∧ v * 256 + c.o2 ≤ 65535; omega, h4, h5, h6, isF_mk _ _, h8⟩
  · exact ⟨h1, h2, h3, h4, h5, h6, h7, h8⟩
  · exact ⟨h1, h2, h3, h4, h5, h6, isF_mk _ _, h8⟩
  · exact ⟨h1, h2, h3, h4, h5, h6, h7, by show isF (if tst v 128 then mkF (f6 c.ms || tst v 64) (f5 c.ms || tst v 32) else mkF (f6 c.ms && !tst v 64) (f5 c.ms && !tst v 32)) = true; split <;> exact isF_mk _ _⟩
  · exact h'
end Go.Proofs.Ytgpcmekcdgboeaa
