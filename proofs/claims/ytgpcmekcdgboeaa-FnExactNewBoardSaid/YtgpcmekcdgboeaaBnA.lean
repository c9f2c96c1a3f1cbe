/-
  Plain facts on the bit operators at numbers that are words (0 .. 65535): they are those of natural numbers; a word's two bytes put together and taken apart.
  Conditions: as each lemma says.
-/
import Derived.Test.YtgpcmekcdgboeaaBvB
namespace Go.Proofs.Ytgpcmekcdgboeaa
def natOp (op : BinOp) (a b : Nat) : Nat :=
  match op with
  | .and => a &&& b
  | .or => a ||| b
  | .xor => a ^^^ b
  | _ => a ^^^ (a &&& b)
/-- A kind of integer that holds every word. -/
structure Words (k : IntKind) : Prop where
  wide : 16 ≤ k.bits
  keep : ∀ n : Nat, n < 65536 → k.wrap (n : Int) = (n : Int)
theorem words_i64 : Words .i64 := ⟨by decide, fun n h => by rw [IntKind.wrap_i64]; omega⟩
theorem words_u16 : Words .u16 := ⟨by decide, fun n h => by rw [IntKind.wrap_u16]; omega⟩
theorem of_nat {w : Nat} (hw : 16 ≤ w) (a : Nat) (h : a < 65536) : (BitVec.ofInt w (a : Int)).toNat = a := by
  rw [BitVec.ofInt_natCast, BitVec.toNat_ofNat]
  refine Nat.mod_eq_of_lt (Nat.lt_of_lt_of_le h ?_)
  exact Nat.pow_le_pow_right (n := 2) (by omega) hw
theorem andNot_xor {w : Nat} (x y : BitVec w) : x &&& ~~~y = x ^^^ (x &&& y) := by
  ext i hi
  simp only [BitVec.getElem_and, BitVec.getElem_not, BitVec.getElem_xor]
  cases x[i] <;> cases y[i] <;> rfl
theorem natOp_lt (op : BinOp) (a b : Nat) (ha : a < 65536) (hb : b < 65536) : natOp op a b < 65536 := by
  have h1 : a < 2 ^ 16 := ha
  have h2 : b < 2 ^ 16 := hb
  unfold natOp
  split
  · exact Nat.and_lt_two_pow _ h2
  · exact Nat.or_lt_two_pow h1 h2
  · exact Nat.xor_lt_two_pow h1 h2
  · exact Nat.xor_lt_two_pow h1 (Nat.and_lt_two_pow _ h2)
theorem bits_nat {k : IntKind} (hk : Words k) (op : BinOp) (a b : Nat) (ha : a < 65536) (hb : b < 65536) : bits op k (a : Int) (b : Int) = (natOp op a b : Int) := by
  rw [← hk.keep _ (natOp_lt op a b ha hb)]
  unfold bits natOp
  cases op <;> simp only [andNot_xor, BitVec.toNat_and, BitVec.toNat_or, BitVec.toNat_xor, of_nat hk.wide a ha, of_nat hk.wide b hb]
theorem low8 (a : Nat) : a &&& 255 = a % 256 := Nat.and_two_pow_sub_one_eq_mod a 8
theorem high8 (a : Nat) : a ^^^ (a &&& 255) = a / 256 * 256 := by
  apply Nat.eq_of_testBit_eq
  intro i
  have e : a / 256 * 256 = a / 2 ^ 8 * 2 ^ 8 := rfl
  have e2 : (255 : Nat) = 2 ^ 8 - 1 := rfl
  rw [e, Nat.testBit_xor, Nat.testBit_and, e2, Nat.testBit_two_pow_sub_one, Nat.testBit_mul_two_pow, Nat.testBit_div_two_pow]
  by_cases h : 8 ≤ i
  · rw [Nat.sub_add_cancel h]
    simp [h, show ¬ i < 8 by omega]
  · simp [h, show i < 8 by omega]
theorem or_add (q v : Nat) (h : v < 256) : q * 256 ||| v = q * 256 + v := by
  have := Nat.shiftLeft_add_eq_or_of_lt (i := 8) (b := v) h q
  rw [Nat.shiftLeft_eq] at this
  exact this.symm
section
variable {k : IntKind} (hk : Words k)
include hk
theorem w_low {n : Int} (h : 0 ≤ n ∧ n ≤ 65535) : bits .and k n 255 = n % 256 := by
  obtain ⟨a, rfl⟩ : ∃ a : Nat, n = a := ⟨n.toNat, by omega⟩
  have := bits_nat hk .and a 255 (by omega) (by omega)
  rw [show natOp .and a 255 = a % 256 from low8 a] at this
  exact this.trans (by omega)
theorem w_high {n : Int} (h : 0 ≤ n ∧ n ≤ 65535) : bits .andNot k n 255 = n / 256 * 256 := by
  obtain ⟨a, rfl⟩ : ∃ a : Nat, n = a := ⟨n.toNat, by omega⟩
  have := bits_nat hk .andNot a 255 (by omega) (by omega)
  rw [show natOp .andNot a 255 = a / 256 * 256 from high8 a] at this
  exact this.trans (by omega)
theorem w_or {q v : Int} (h : 0 ≤ q ∧ q ≤ 255) (hv : 0 ≤ v ∧ v ≤ 255) : bits .or k (q * 256) v = q * 256 + v := by
  obtain ⟨a, rfl⟩ : ∃ a : Nat, q = a := ⟨q.toNat, by omega⟩
  obtain ⟨b, rfl⟩ : ∃ b : Nat, v = b := ⟨v.toNat, by omega⟩
  have := bits_nat hk .or (a * 256) b (by omega) (by omega)
  rw [show natOp .or (a * 256) b = a * 256 + b from or_add a b (by omega)] at this
  rw [show (a : Int) * 256 = ((a * 256 : Nat) : Int) by omega, this]
  omega
theorem w_or' {q v : Int} (h : 0 ≤ q ∧ q ≤ 255) (hv : 0 ≤ v ∧ v ≤ 255) : bits .or k v (q * 256) = q * 256 + v := by
  obtain ⟨a, rfl⟩ : ∃ a : Nat, q = a := ⟨q.toNat, by omega⟩
  obtain ⟨b, rfl⟩ : ∃ b : Nat, v = b := ⟨v.toNat, by omega⟩
  have := bits_nat hk .or b (a * 256) (by omega) (by omega)
  rw [show natOp .or b (a * 256) = a * 256 + b by show b ||| a * 256 = _; rw [Nat.or_comm]; exact or_add a b (by omega)] at this
  rw [show (a : Int) * 256 = ((a * 256 : Nat) : Int) by omega, this]
  omega
/-- A bit operator at two bytes is that of their eight bits. -/
theorem b_bits (op : BinOp) {x y : Int} (hx : 0 ≤ x ∧ x ≤ 255) (hy : 0 ≤ y ∧ y ≤ 255) : bits op k x y = ((bop op (B8 x) (B8 y)).toNat : Int) := by
  obtain ⟨a, rfl⟩ : ∃ a : Nat, x = a := ⟨x.toNat, by omega⟩
  obtain ⟨b, rfl⟩ : ∃ b : Nat, y = b := ⟨y.toNat, by omega⟩
  have h := bits_nat hk op a b (by omega) (by omega)
  have hlt : natOp op a b < 256 := by
    have h1 : a < 2 ^ 8 := by omega
    have h2 : b < 2 ^ 8 := by omega
    unfold natOp
    split
    · exact Nat.and_lt_two_pow _ h2
    · exact Nat.or_lt_two_pow h1 h2
    · exact Nat.xor_lt_two_pow h1 h2
    · exact Nat.xor_lt_two_pow h1 (Nat.and_lt_two_pow _ h2)
  rw [← B8_bits op k, ← B8_val _ (by omega) (by omega)]
end
end Go.Proofs.Ytgpcmekcdgboeaa
