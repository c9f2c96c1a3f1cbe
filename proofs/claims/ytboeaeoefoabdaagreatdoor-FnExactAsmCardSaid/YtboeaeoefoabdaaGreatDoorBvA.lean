/-
  Plain facts on the lowest eight bits of a number: the bit operators of every kind of integer act on them as on bytes; a byte with some of its bits set or not.
  Conditions: as each lemma says.
-/
import Derived.Laws.BitsLemmas
import Derived.Laws.Closers25b
import Derived.WalkKit
import Derived.ProofKit
namespace Go.Proofs.YtboeaeoefoabdaaGreatDoor
/-- A number's lowest eight bits. -/
def B8 (x : Int) : BitVec 8 := BitVec.ofInt 8 x
def bop (op : BinOp) (a b : BitVec 8) : BitVec 8 :=
  match op with
  | .and => a &&& b
  | .or => a ||| b
  | .xor => a ^^^ b
  | _ => a &&& ~~~b
theorem B8_nat (x : Int) : ((B8 x).toNat : Int) = x % 256 := by
  unfold B8
  rw [BitVec.toNat_ofInt]
  have : ((2 ^ 8 : Nat) : Int) = 256 := by decide
  rw [this]
  omega
theorem B8_eq {x y : Int} (h : x % 256 = y % 256) : B8 x = B8 y := by
  apply BitVec.eq_of_toNat_eq
  have h1 := B8_nat x
  have h2 := B8_nat y
  omega
theorem B8_eq_iff {x y : Int} : B8 x = B8 y ↔ x % 256 = y % 256 := by
  refine ⟨fun h => ?_, B8_eq⟩
  rw [← B8_nat, ← B8_nat, h]
theorem B8_back (b : BitVec 8) : B8 (b.toNat : Int) = b := by
  apply BitVec.eq_of_toNat_eq
  have h1 := B8_nat (b.toNat : Int)
  have := b.isLt
  omega
theorem B8_mod (x : Int) : B8 (x % 256) = B8 x := B8_eq (by omega)
theorem B8_wrap (k : IntKind) (n : Int) : B8 (k.wrap n) = B8 n := by
  apply B8_eq
  cases k <;> simp [IntKind.wrap, IntKind.bits, IntKind.signed] <;> (try split) <;> omega
theorem bits_ge (k : IntKind) : 8 ≤ k.bits := by cases k <;> decide
theorem B8_wide {w : Nat} (hw : 8 ≤ w) (x : Int) : (BitVec.ofInt w x).setWidth 8 = B8 x := by
  apply BitVec.eq_of_toNat_eq
  have h1 := B8_nat x
  rw [BitVec.toNat_setWidth, BitVec.toNat_ofInt]
  obtain ⟨d, rfl⟩ : ∃ d, w = 8 + d := ⟨w - 8, by omega⟩
  have hd : (2 ^ 8 : Nat) ∣ 2 ^ (8 + d) := Nat.pow_dvd_pow 2 (by omega)
  have hz : ((2 ^ 8 : Nat) : Int) ∣ ((2 ^ (8 + d) : Nat) : Int) := Int.natCast_dvd_natCast.2 hd
  have h2 : (x % ((2 ^ (8 + d) : Nat) : Int)) % ((2 ^ 8 : Nat) : Int) = x % ((2 ^ 8 : Nat) : Int) := Int.emod_emod_of_dvd x hz
  have h3 : 0 ≤ x % ((2 ^ (8 + d) : Nat) : Int) := Int.emod_nonneg _ (by have := Nat.two_pow_pos (8 + d); omega)
  have e : ((2 ^ 8 : Nat) : Int) = 256 := by decide
  rw [e] at h2
  have e2 : (2 ^ 8 : Nat) = 256 := by decide
  rw [e2]
  generalize x % ((2 ^ (8 + d) : Nat) : Int) = y at h2 h3 ⊢
  omega
theorem B8_bits (op : BinOp) (k : IntKind) (x y : Int) : B8 (bits op k x y) = bop op (B8 x) (B8 y) := by
  unfold bits
  simp only []
  rw [B8_wrap]
  have hk := bits_ge k
  unfold B8
  rw [BitVec.ofInt_natCast, BitVec.ofNat_toNat]
  have hx := B8_wide hk x
  have hy := B8_wide hk y
  unfold B8 at hx hy
  unfold bop
  cases op <;> simp only [BitVec.setWidth_and, BitVec.setWidth_or, BitVec.setWidth_xor, BitVec.setWidth_not hk, hx, hy]
/-- A number that is a byte is the number of its lowest eight bits. -/
theorem B8_val (x : Int) (h0 : 0 ≤ x) (h1 : x < 256) : x = ((B8 x).toNat : Int) := by rw [B8_nat]; omega
theorem B8_inj {x y : Int} (hx : 0 ≤ x ∧ x < 256) (hy : 0 ≤ y ∧ y < 256) (h : B8 x = B8 y) : x = y := by
  rw [B8_val x hx.1 hx.2, B8_val y hy.1 hy.2, h]
theorem bits_u8_val (op : BinOp) (x y : Int) : bits op .u8 x y = ((bop op (B8 x) (B8 y)).toNat : Int) := by
  have h0 := bits_lo_u8 op x y
  have h1 := bits_hi_u8 op x y
  rw [B8_val (bits op .u8 x y) h0 (by omega), B8_bits]
theorem and_small (x m : Int) (hm : 0 ≤ m ∧ m < 256) : 0 ≤ bits .and .i64 x m ∧ bits .and .i64 x m < 256 := by
  obtain ⟨n, rfl⟩ : ∃ n : Nat, m = n := ⟨m.toNat, by omega⟩
  have hn : n < 256 := by omega
  unfold bits
  simp only [IntKind.wrap_i64]
  have h : (BitVec.ofInt IntKind.i64.bits x &&& BitVec.ofInt IntKind.i64.bits (n : Int)).toNat ≤ n := by
    rw [BitVec.ofInt_natCast, BitVec.toNat_and, BitVec.toNat_ofNat]
    exact Nat.le_trans Nat.and_le_right (Nat.mod_le _ _)
  generalize (BitVec.ofInt IntKind.i64.bits x &&& BitVec.ofInt IntKind.i64.bits (n : Int)).toNat = z at h
  omega
theorem and_val (x m : Int) (hm : 0 ≤ m ∧ m < 256) : bits .and .i64 x m = ((B8 x &&& B8 m).toNat : Int) := by
  have h := and_small x m hm
  rw [B8_val _ h.1 h.2, B8_bits]
  rfl
theorem wrap_small (k : IntKind) (hk : k ≠ .i8) (n : Int) (h : 0 ≤ n ∧ n < 256) : k.wrap n = n := by
  cases k <;> first | exact absurd rfl hk | (simp [IntKind.wrap, IntKind.bits, IntKind.signed] <;> (try split) <;> omega)
theorem and_small_k (k : IntKind) (hk : k ≠ .i8) (x m : Int) (hm : 0 ≤ m ∧ m < 256) : 0 ≤ bits .and k x m ∧ bits .and k x m < 256 := by
  obtain ⟨n, rfl⟩ : ∃ n : Nat, m = n := ⟨m.toNat, by omega⟩
  have hn : n < 256 := by omega
  unfold bits
  simp only []
  have h : (BitVec.ofInt k.bits x &&& BitVec.ofInt k.bits (n : Int)).toNat ≤ n := by
    rw [BitVec.ofInt_natCast, BitVec.toNat_and, BitVec.toNat_ofNat]
    exact Nat.le_trans Nat.and_le_right (Nat.mod_le _ _)
  generalize (BitVec.ofInt k.bits x &&& BitVec.ofInt k.bits (n : Int)).toNat = z at h
  rw [wrap_small k hk z (by omega)]
  omega
theorem and_val_k (k : IntKind) (hk : k ≠ .i8) (x m : Int) (hm : 0 ≤ m ∧ m < 256) : bits .and k x m = ((B8 x &&& B8 m).toNat : Int) := by
  have h := and_small_k k hk x m hm
  rw [B8_val _ h.1 h.2, B8_bits]
  rfl
/-- A byte with the bits of another set or not. -/
def w8 (p f : BitVec 8) (on : Bool) : BitVec 8 := if on then p ||| f else p &&& ~~~f
/-- Its number. -/
def wI (p f : Int) (on : Bool) : Int := ((w8 (B8 p) (B8 f) on).toNat : Int)
theorem wI_bd (p f : Int) (on : Bool) : 0 ≤ wI p f on ∧ wI p f on < 256 := by
  unfold wI
  have := (w8 (B8 p) (B8 f) on).isLt
  omega
theorem wI_B8 (p f : Int) (on : Bool) : B8 (wI p f on) = w8 (B8 p) (B8 f) on := B8_back _
theorem wI_mod (p f : Int) (on : Bool) : wI (p % 256) f on = wI p f on := by unfold wI; rw [B8_mod]
theorem wI_mod' (p f : Int) (on : Bool) : wI p (f % 256) on = wI p f on := by unfold wI; rw [B8_mod]
theorem wI_spec_on (p f : Int) : bits .and .i64 (bits .or .i64 p f) 255 = wI p f true := by
  rw [and_val _ _ (by omega), B8_bits]
  unfold wI w8 bop
  simp only [if_true]
  congr 1
  rw [show B8 255 = BitVec.allOnes 8 by decide, BitVec.and_allOnes]
theorem wI_spec_off (p f : Int) : bits .and .i64 (bits .andNot .i64 p f) 255 = wI p f false := by
  rw [and_val _ _ (by omega), B8_bits]
  unfold wI w8 bop
  simp only [Bool.false_eq_true, if_false]
  congr 1
  rw [show B8 255 = BitVec.allOnes 8 by decide, BitVec.and_allOnes]
theorem wI_u8_on (p f : Int) : bits .or .u8 p f = wI p f true := by rw [bits_u8_val]; rfl
theorem wI_u8_off (p f : Int) : bits .andNot .u8 p f = wI p f false := by rw [bits_u8_val]; rfl
/-- Whether two numbers' lowest eight bits have one in common. -/
def tst (p f : Int) : Bool := B8 p &&& B8 f != 0
theorem tst_u8 (p f : Int) : (bits .and .u8 p f != 0) = tst p f := by
  rw [bits_u8_val]
  unfold tst bop
  simp only []
  rw [Bool.eq_iff_iff, bne_iff_ne, bne_iff_ne, Ne, Ne, not_congr]
  constructor
  · intro h
    apply BitVec.eq_of_toNat_eq
    have : (B8 p &&& B8 f).toNat = 0 := by omega
    rw [this]; rfl
  · intro h; rw [h]; rfl
theorem tst_i64 (p f : Int) (hf : 0 ≤ f ∧ f < 256) : (bits .and .i64 p f != 0) = tst p f := by
  rw [and_val _ _ hf, ← tst_u8, bits_u8_val]; rfl
theorem tst_255 (v : Int) : tst v 255 = (v % 256 != 0) := by
  unfold tst
  rw [show B8 255 = BitVec.allOnes 8 by decide, BitVec.and_allOnes]
  have h := B8_nat v
  rw [Bool.eq_iff_iff, bne_iff_ne, bne_iff_ne, Ne, Ne, not_congr]
  constructor
  · intro h1; rw [h1] at h; simp at h; omega
  · intro h1; apply BitVec.eq_of_toNat_eq; have : (B8 v).toNat = 0 := by omega
    rw [this]; rfl
theorem and255_0 (v : Int) : (bits .and .i64 v 255 == 0) = (!tst v 255) := by
  rw [← tst_i64 v 255 (by omega)]
  unfold bne
  rw [Bool.not_not]
theorem byte_0 (v : Int) (h : 0 ≤ v ∧ v < 256) : (v == 0) = (!tst v 255) := by
  rw [tst_255, Int.emod_eq_of_lt h.1 h.2]
  unfold bne
  rw [Bool.not_not]
/-- The lowest bit, as a number. -/
def cI (p : Int) : Int := ((B8 p &&& 1).toNat : Int)
theorem cI_eq (p : Int) : cI p = p % 2 := by
  have h := B8_nat p
  unfold cI
  rw [BitVec.toNat_and, show (1 : BitVec 8).toNat = 1 from rfl, Nat.and_one_is_mod]
  omega
theorem cI_bd (p : Int) : 0 ≤ cI p ∧ cI p ≤ 1 := by rw [cI_eq]; omega
theorem cI_tst (p : Int) : cI p = if tst p 1 then 1 else 0 := by
  have h := cI_bd p
  have e : (tst p 1 = true) ↔ cI p ≠ 0 := by
    unfold tst cI
    rw [bne_iff_ne, show B8 1 = 1 by decide, Ne, Ne, not_congr]
    constructor
    · intro h; rw [h]; rfl
    · intro h; apply BitVec.eq_of_toNat_eq; have : (B8 p &&& 1).toNat = 0 := by omega
      rw [this]; rfl
  split
  · rename_i h1; have := e.1 h1; omega
  · rename_i h1; have : ¬ cI p ≠ 0 := fun h2 => h1 (e.2 h2)
    omega
theorem and_1 (p : Int) : bits .and .i64 p 1 = cI p := and_val p 1 (by omega)
theorem and_255 (a : Int) : bits .and .i64 a 255 = a % 256 := by
  rw [and_val a 255 (by omega), show B8 255 = BitVec.allOnes 8 by decide, BitVec.and_allOnes, B8_nat]
theorem B8_15 (a : Int) : ((B8 a &&& 15).toNat : Int) = a % 16 := by
  have h := B8_nat a
  rw [BitVec.toNat_and, show (15 : BitVec 8).toNat = 2 ^ 4 - 1 from rfl, Nat.and_two_pow_sub_one_eq_mod]
  omega
theorem and_15 (a : Int) : bits .and .i64 a 15 = a % 16 := by
  rw [and_val a 15 (by omega)]; exact B8_15 a
theorem hi_all : ∀ a : BitVec 8, (a &&& 240).toNat = a.toNat / 16 * 16 := by decide +kernel
theorem B8_240 (a : Int) : ((B8 a &&& 240).toNat : Int) = a % 256 / 16 * 16 := by
  have h := B8_nat a
  rw [hi_all]
  omega
theorem and_240 (a : Int) : bits .and .i64 a 240 = a % 256 / 16 * 16 := by
  rw [and_val a 240 (by omega)]; exact B8_240 a
theorem u8_and (a m : Int) : bits .and .u8 a m = ((B8 a &&& B8 m).toNat : Int) := bits_u8_val .and a m
theorem u8_15 (a : Int) : bits .and .u8 a 15 = a % 16 := by rw [u8_and]; exact B8_15 a
theorem u8_240 (a : Int) : bits .and .u8 a 240 = a % 256 / 16 * 16 := by rw [u8_and]; exact B8_240 a
theorem k_15 (k : IntKind) (hk : k ≠ .i8) (a : Int) : bits .and k a 15 = a % 16 := by rw [and_val_k k hk a 15 (by omega)]; exact B8_15 a
end Go.Proofs.YtboeaeoefoabdaaGreatDoor
