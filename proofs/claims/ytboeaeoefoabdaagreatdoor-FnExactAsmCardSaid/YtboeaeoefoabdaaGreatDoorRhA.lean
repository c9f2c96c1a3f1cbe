/-
  Plain facts on reading digits to the base sixteen: the number of a digit's byte, and what a text of such digits says.
  Conditions: as each lemma says.
-/
import Derived.Laws.BitsLemmas
import Derived.Laws.Closers25b
import Derived.WalkKit
import Derived.ProofKit
namespace Go.Proofs.YtboeaeoefoabdaaGreatDoor
/-- The number of a digit's byte; -1 where it is none. -/
def hxv (c : Int) : Int := if 48 ≤ c ∧ c ≤ 57 then c - 48 else if 65 ≤ c ∧ c ≤ 70 then c - 55 else if 97 ≤ c ∧ c ≤ 102 then c - 87 else -1
theorem hxv_bd (c : Int) : -1 ≤ hxv c ∧ hxv c ≤ 15 := by unfold hxv; (repeat' split) <;> omega
def HexOk (l : List UInt8) : Prop := ∀ c ∈ l, 0 ≤ hxv c.toNat
def hexNum (l : List UInt8) : Int := l.foldl (fun a c => 16 * a + hxv c.toNat) 0
theorem hexNum_snoc (l : List UInt8) (c : UInt8) : hexNum (l ++ [c]) = 16 * hexNum l + hxv c.toNat := by simp [hexNum]
theorem hexNum_fold (l : List UInt8) : ∀ (a : Int), 0 ≤ a → HexOk l → 0 ≤ l.foldl (fun a c => 16 * a + hxv c.toNat) a ∧ l.foldl (fun a c => 16 * a + hxv c.toNat) a + 1 ≤ (a + 1) * 16 ^ l.length := by
  induction l with
  | nil => intro a ha _; simpa using ha
  | cons c r ih =>
    intro a ha h
    have h1 := h c (by simp)
    have hb := hxv_bd c.toNat
    have h2 := ih (16 * a + hxv c.toNat) (by omega) (fun x hx => h x (by simp [hx]))
    simp only [List.foldl_cons, List.length_cons]
    refine ⟨h2.1, Int.le_trans h2.2 ?_⟩
    rw [Int.pow_succ, Int.mul_comm (16 ^ r.length) 16, ← Int.mul_assoc]
    exact Int.mul_le_mul_of_nonneg_right (by omega) (Int.pow_nonneg (by omega))
theorem hexNum_bd (l : List UInt8) (h : HexOk l) (h8 : l.length ≤ 8) : 0 ≤ hexNum l ∧ hexNum l < 4294967296 := by
  have h1 := hexNum_fold l 0 (by omega) h
  unfold hexNum
  refine ⟨h1.1, ?_⟩
  have h2 : (16 : Int) ^ l.length ≤ 4294967296 := by
    have : (16 : Nat) ^ l.length ≤ 16 ^ 8 := Nat.pow_le_pow_right (by omega) h8
    have e : ((16 ^ l.length : Nat) : Int) = (16 : Int) ^ l.length := by norm_cast
    rw [← e]; omega
  omega
open Classical in
/-- What ReadHex answers. -/
noncomputable def rh (l : List UInt8) : Int := if HexOk l ∧ 1 ≤ l.length ∧ l.length ≤ 7 then hexNum l else -1
theorem rh_yes (l : List UInt8) (h : HexOk l) (h1 : 1 ≤ l.length) (h7 : l.length ≤ 7) : rh l = hexNum l := by unfold rh; rw [if_pos ⟨h, h1, h7⟩]
theorem rh_len (l : List UInt8) (h : l.length < 1 ∨ 7 < l.length) : rh l = -1 := by unfold rh; rw [if_neg (by omega)]
theorem rh_bad (l : List UInt8) (c : UInt8) (hc : c ∈ l) (h : hxv c.toNat < 0) : rh l = -1 := by
  unfold rh
  rw [if_neg]
  rintro ⟨h1, _⟩
  have := h1 c hc
  omega
theorem low_all : ∀ c : Fin 256, (97 ≤ c.val ∧ c.val ≤ 102 → bits .or .u8 (c.val : Int) 32 = c.val) ∧ (65 ≤ c.val ∧ c.val ≤ 70 → bits .or .u8 (c.val : Int) 32 = c.val + 32) ∧
    (¬ (97 ≤ c.val ∧ c.val ≤ 102) → ¬ (65 ≤ c.val ∧ c.val ≤ 70) → ¬ (97 ≤ bits .or .u8 (c.val : Int) 32 ∧ bits .or .u8 (c.val : Int) 32 ≤ 102)) := by decide +kernel
theorem low_small (c : Int) (h : 97 ≤ c ∧ c ≤ 102) : bits .or .u8 c 32 = c := by
  obtain ⟨n, rfl⟩ : ∃ n : Nat, c = n := ⟨c.toNat, by omega⟩
  exact (low_all ⟨n, by omega⟩).1 (by simp; omega)
theorem low_great (c : Int) (h : 65 ≤ c ∧ c ≤ 70) : bits .or .u8 c 32 = c + 32 := by
  obtain ⟨n, rfl⟩ : ∃ n : Nat, c = n := ⟨c.toNat, by omega⟩
  exact (low_all ⟨n, by omega⟩).2.1 (by simp; omega)
theorem low_none (c : Int) (h0 : 0 ≤ c ∧ c < 256) (h1 : ¬ (97 ≤ c ∧ c ≤ 102)) (h2 : ¬ (65 ≤ c ∧ c ≤ 70)) : ¬ (97 ≤ bits .or .u8 c 32 ∧ bits .or .u8 c 32 ≤ 102) := by
  obtain ⟨n, rfl⟩ : ∃ n : Nat, c = n := ⟨c.toNat, by omega⟩
  exact (low_all ⟨n, by omega⟩).2.2 (by simp; omega) (by simp; omega)
theorem low_bd (c : Int) : 0 ≤ bits .or .u8 c 32 ∧ bits .or .u8 c 32 < 256 := ⟨by have := bits_lo_u8 .or c 32; omega, by have := bits_hi_u8 .or c 32; omega⟩
end Go.Proofs.YtboeaeoefoabdaaGreatDoor
