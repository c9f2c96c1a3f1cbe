/-
  Plain facts on reading decimal digits: which texts are a number's own digits, and what Go's own reading and a digit by digit reading make of a text.
  Conditions: as each lemma says.
-/
import Derived.Test.YtmhlplaglnopfaaDoorDcA
import Derived.Lib.AtoiAll
namespace Go.Proofs.YtmhlplaglnopfaaDoor
def isDig (c : UInt8) : Bool := decide (48 ≤ c.toNat ∧ c.toNat ≤ 57)
def decVal (l : List UInt8) : Nat := l.foldl (fun a c => a * 10 + (c.toNat - 48)) 0
theorem decVal_snoc (l : List UInt8) (c : UInt8) : decVal (l ++ [c]) = decVal l * 10 + (c.toNat - 48) := by simp [decVal]
theorem digB_toNat (m : Nat) (h : m < 10) : (digB m).toNat = 48 + m := by unfold digB; simp [UInt8.toNat_ofNat']; omega
theorem isDig_digB (m : Nat) (h : m < 10) : isDig (digB m) = true := by unfold isDig; rw [digB_toNat m h]; simp; omega
theorem decDigits_small (u : Nat) (h : u < 10) : Lib.decDigits u = [digB u] := by rw [Lib.decDigits, dif_pos h]; rfl
theorem decDigits_big (u : Nat) (h : ¬ u < 10) : Lib.decDigits u = Lib.decDigits (u / 10) ++ [digB (u % 10)] := by rw [Lib.decDigits, dif_neg h]; rfl
theorem decDigits_ne (u : Nat) : Lib.decDigits u ≠ [] := by
  by_cases h : u < 10
  · rw [decDigits_small u h]; simp
  · rw [decDigits_big u h]; simp
theorem decDigits_dig (u : Nat) : ∀ c ∈ Lib.decDigits u, isDig c = true := by
  induction u using Nat.strongRecOn with
  | _ u ih =>
    by_cases h : u < 10
    · rw [decDigits_small u h]; intro c hc; simp at hc; subst hc; exact isDig_digB u h
    · rw [decDigits_big u h]
      intro c hc
      simp only [List.mem_append, List.mem_singleton] at hc
      rcases hc with hc | rfl
      · exact ih (u / 10) (by omega) c hc
      · exact isDig_digB _ (by omega)
theorem decVal_digits (u : Nat) : decVal (Lib.decDigits u) = u := by
  induction u using Nat.strongRecOn with
  | _ u ih =>
    by_cases h : u < 10
    · rw [decDigits_small u h]; simp [decVal, digB_toNat u h]
    · rw [decDigits_big u h, decVal_snoc, ih (u / 10) (by omega), digB_toNat _ (by omega)]; omega
theorem foldl_lt (l : List UInt8) : ∀ (a : Nat), (∀ c ∈ l, isDig c = true) → l.foldl (fun a c => a * 10 + (c.toNat - 48)) a + 1 ≤ (a + 1) * 10 ^ l.length := by
  induction l with
  | nil => intro a _; simp
  | cons c r ih =>
    intro a h
    have h1 := ih (a * 10 + (c.toNat - 48)) (fun x hx => h x (by simp [hx]))
    have h2 := h c (by simp)
    simp [isDig] at h2
    simp only [List.foldl_cons, List.length_cons]
    refine Nat.le_trans h1 ?_
    rw [Nat.pow_succ, Nat.mul_comm (10 ^ r.length) 10, ← Nat.mul_assoc]
    exact Nat.mul_le_mul_right _ (by omega)
theorem decVal_lt (l : List UInt8) (h : ∀ c ∈ l, isDig c = true) : decVal l < 10 ^ l.length := by
  have := foldl_lt l 0 h
  unfold decVal
  omega
open Lib in
theorem parse_append (l : List UInt8) : ∀ (acc v : Nat) (c : UInt8), parseUint10 acc l = .ok v → isDig c = true → v < 1844674407370955161 → parseUint10 acc (l ++ [c]) = .ok (v * 10 + (c.toNat - 48)) := by
  induction l with
  | nil =>
    intro acc v c h hc hv
    simp only [parseUint10, NumEnd.ok.injEq] at h
    subst h
    simp [isDig] at hc
    simp only [List.nil_append, parseUint10]
    rw [if_pos hc, if_neg (by omega), if_neg (by omega)]
  | cons a r ih =>
    intro acc v c h hc hv
    simp only [List.cons_append, parseUint10] at h ⊢
    split at h
    · rename_i h1
      rw [if_pos h1]
      split at h
      · cases h
      · rename_i h2
        rw [if_neg h2]
        split at h
        · cases h
        · rename_i h3
          rw [if_neg h3]
          exact ih _ v c h hc hv
    · cases h
open Lib in
theorem parse_digits (u : Nat) (h : u < 1000000000000000000) : parseUint10 0 (decDigits u) = .ok u := by
  induction u using Nat.strongRecOn with
  | _ u ih =>
    by_cases hs : u < 10
    · rw [decDigits_small u hs]
      have := parse_append [] 0 0 (digB u) rfl (isDig_digB u hs) (by omega)
      rw [digB_toNat u hs] at this
      simpa using this
    · rw [decDigits_big u hs]
      rw [parse_append _ 0 (u / 10) (digB (u % 10)) (ih (u / 10) (by omega) (by omega)) (isDig_digB _ (by omega)) (by omega), digB_toNat _ (by omega)]
      congr 1; omega
open Lib in
theorem atoi_digits (u : Nat) (h : u ≤ 999999999) : atoiAll (decDigits u) = .ok (u : Int) := by
  have hp := parse_digits u (by omega)
  have hd := decDigits_dig u
  have hn := decDigits_ne u
  generalize decDigits u = l at hp hd hn
  match l, hn with
  | c :: r, _ =>
    have hc := hd c (by simp)
    simp [isDig] at hc
    simp only [atoiAll]
    rw [if_neg (by omega)]
    unfold parseMag
    rw [if_neg (by simp), hp]
    simp only
    rw [if_neg (by omega), if_neg (by omega), if_neg (by omega)]
/-- What ReadDec answers. -/
def rd (l : List UInt8) : Int := if Lib.decDigits (decVal l) = l ∧ l.length ≤ 9 then (decVal l : Int) else -1
theorem rd_yes (v : Nat) (h : v ≤ 999999999) : rd (Lib.decDigits v) = v := by
  unfold rd
  rw [decVal_digits]
  rw [if_pos ⟨rfl, decDigits_lt 8 v (by omega)⟩]
theorem pow10_le9 (k : Nat) (h : k ≤ 9) : 10 ^ k ≤ 1000000000 := Nat.pow_le_pow_right (by omega) h
theorem rd_atoi (l : List UInt8) (h : Lib.decDigits (decVal l) = l) (h9 : l.length ≤ 9) : decVal l ≤ 999999999 ∧ Lib.atoiAll l = .ok (decVal l : Int) := by
  have hd := decDigits_dig (decVal l)
  rw [h] at hd
  have h1 := decVal_lt l hd
  have h2 := pow10_le9 l.length h9
  have h3 : decVal l ≤ 999999999 := by omega
  refine ⟨h3, ?_⟩
  have := atoi_digits (decVal l) h3
  rwa [h] at this
/-- What the program's reading makes of Go's own answer v. -/
theorem rd_ok_no (l : List UInt8) (v : Int) (h : Lib.atoiAll l = .ok v) (hv : v < 0 ∨ 999999999 < v ∨ Lib.itoa v ≠ l) : rd l = -1 := by
  unfold rd
  by_cases hc : Lib.decDigits (decVal l) = l ∧ l.length ≤ 9
  · obtain ⟨h3, h4⟩ := rd_atoi l hc.1 hc.2
    rw [h] at h4
    injection h4 with h4
    subst h4
    rcases hv with hv | hv | hv
    · omega
    · omega
    · exact absurd (by unfold Lib.itoa; rw [if_neg (by omega)]; exact hc.1) hv
  · rw [if_neg hc]
theorem rd_ok_yes (l : List UInt8) (v : Int) (h0 : 0 ≤ v) (h9 : v ≤ 999999999) (h : Lib.itoa v = l) : rd l = v := by
  obtain ⟨u, rfl⟩ : ∃ u : Nat, v = u := ⟨v.toNat, by omega⟩
  unfold Lib.itoa at h
  rw [if_neg (by omega)] at h
  rw [← h]
  exact rd_yes u (by omega)
theorem rd_err (l : List UInt8) (h : Lib.atoiAll l = .«syntax» ∨ Lib.atoiAll l = .range) : rd l = -1 := by
  unfold rd
  by_cases hc : Lib.decDigits (decVal l) = l ∧ l.length ≤ 9
  · obtain ⟨_, h4⟩ := rd_atoi l hc.1 hc.2
    rw [h4] at h
    rcases h with h | h <;> cases h
  · rw [if_neg hc]
theorem rd_long (l : List UInt8) (h : 9 < l.length) : rd l = -1 := by unfold rd; rw [if_neg (by omega)]
theorem rd_bad (l : List UInt8) (c : UInt8) (hc : c ∈ l) (h : isDig c = false) : rd l = -1 := by
  unfold rd
  rw [if_neg]
  rintro ⟨h1, _⟩
  have := decDigits_dig (decVal l) c (by rw [h1]; exact hc)
  rw [h] at this; cases this
theorem rd_empty : rd [] = -1 := by
  unfold rd
  rw [if_neg]
  rintro ⟨h1, _⟩
  exact decDigits_ne _ h1
theorem rd_end_no (l : List UInt8) (h : Lib.itoa (decVal l) ≠ l) : rd l = -1 := by
  unfold rd
  rw [if_neg]
  rintro ⟨h1, _⟩
  exact h (by unfold Lib.itoa; rw [if_neg (by omega)]; exact h1)
theorem rd_end_yes (l : List UInt8) (h9 : l.length ≤ 9) (h : Lib.itoa (decVal l) = l) : rd l = decVal l := by
  unfold Lib.itoa at h
  rw [if_neg (by omega)] at h
  unfold rd
  rw [if_pos ⟨h, h9⟩]; 
end Go.Proofs.YtmhlplaglnopfaaDoor
