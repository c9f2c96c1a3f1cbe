/-
  Great letters, and words with a blank between, plainly (chapter 13).
  Conditions: none.
-/
import Derived.Test.YtboeaeoefoabdaaGreatDoorWsA
namespace Go.Proofs.YtboeaeoefoabdaaGreatDoor
open Go.RowKit
def up1 (c : UInt8) : UInt8 := if 97 ≤ c.toNat ∧ c.toNat ≤ 122 then c - 32 else c
def upL (l : List UInt8) : List UInt8 := l.map up1
theorem up_all : ∀ m : Fin 256, bl (up1 (UInt8.ofNat m.val)) = bl (UInt8.ofNat m.val) := by decide +kernel
theorem bl_up (c : UInt8) : bl (up1 c) = bl c := by
  have h := up_all ⟨c.toNat, c.toNat_lt⟩
  rwa [UInt8.ofNat_toNat] at h
theorem upL_length (l : List UInt8) : (upL l).length = l.length := by simp [upL]
theorem trim_up (l : List UInt8) : trimL (upL l) = upL (trimL l) := by
  unfold trimL upL
  induction l with
  | nil => rfl
  | cons c l ih =>
    rw [List.map_cons, List.dropWhile_cons, List.dropWhile_cons, bl_up]
    split
    · exact ih
    · rfl
theorem take_up (l : List UInt8) : ((upL l).takeWhile fun b => !bl b) = upL (l.takeWhile fun b => !bl b) ∧ ((upL l).dropWhile fun b => !bl b) = upL (l.dropWhile fun b => !bl b) := by
  unfold upL
  induction l with
  | nil => exact ⟨rfl, rfl⟩
  | cons c l ih =>
    rw [List.map_cons, List.takeWhile_cons, List.takeWhile_cons, List.dropWhile_cons, List.dropWhile_cons, bl_up]
    split
    · exact ⟨by rw [ih.1]; rfl, ih.2⟩
    · exact ⟨rfl, rfl⟩
theorem word_up (l : List UInt8) : wordL (upL l) = upL (wordL l) ∧ restL (upL l) = upL (restL l) := by
  unfold wordL restL
  rw [trim_up]
  exact take_up _
theorem behind_up (l : List UInt8) (k : Nat) : behind (upL l) k = upL (behind l k) := by
  induction k with
  | zero => rfl
  | succ k ih => rw [behind_succ, behind_succ, ih, (word_up _).2]
theorem word_size (l : List UInt8) (k : Nat) : (wordB l k).size = (wordL (behind l k)).length := bsize _
theorem up_size (l : List UInt8) (k : Nat) : (wordB (upL l) k).size = (wordB l k).size := by
  rw [word_size, word_size, behind_up, (word_up _).1, upL_length]
theorem good_iff (l : List UInt8) (k : Nat) : Good (told l k) ↔ ∀ i, i < k → (wordB l i).size ≠ 0 := by
  unfold Good told
  simp
theorem good_up {l : List UInt8} {k : Nat} (h : Good (told (upL l) k)) : Good (told l k) := by
  rw [good_iff] at h ⊢
  intro i hi
  rw [← up_size]; exact h i hi
/-- The first k words. -/
def wordsL (l : List UInt8) (k : Nat) : List (List UInt8) := (List.range k).map fun i => wordL (behind l i)
theorem wordsL_succ (l : List UInt8) (k : Nat) : wordsL l (k + 1) = wordsL l k ++ [wordL (behind l k)] := by simp [wordsL, List.range_succ]
theorem wordsL_length (l : List UInt8) (k : Nat) : (wordsL l k).length = k := by simp [wordsL]
theorem wordsL_up (l : List UInt8) (k : Nat) : wordsL (upL l) k = (wordsL l k).map upL := by
  simp [wordsL, behind_up, word_up]
theorem joinB_snoc : ∀ (ws : List (List UInt8)) (w : List UInt8), ws ≠ [] → joinB (ws ++ [w]) = joinB ws ++ 32 :: w
  | [], _, h => absurd rfl h
  | [v], w, _ => rfl
  | v :: u :: ws, w, _ => by
    have ih := joinB_snoc (u :: ws) w (by simp)
    show v ++ 32 :: joinB (u :: ws ++ [w]) = (v ++ 32 :: joinB (u :: ws)) ++ 32 :: w
    rw [ih]; simp
theorem joinB_up : ∀ (ws : List (List UInt8)), joinB (ws.map upL) = upL (joinB ws)
  | [] => rfl
  | [v] => rfl
  | v :: u :: ws => by
    have ih := joinB_up (u :: ws)
    show upL v ++ 32 :: joinB ((u :: ws).map upL) = upL (v ++ 32 :: joinB (u :: ws))
    rw [ih]
    simp [upL, up1]
/-- The words of a text with a blank between two of them. -/
def lineS (l : List UInt8) (k : Nat) : List UInt8 := joinB (wordsL l k)
theorem lineS_zero (l : List UInt8) : lineS l 0 = [] := rfl
theorem lineS_one (l : List UInt8) : lineS l 1 = wordL l := rfl
theorem lineS_succ (l : List UInt8) (k : Nat) (h : 0 < k) : lineS l (k + 1) = lineS l k ++ 32 :: wordL (behind l k) := by
  unfold lineS
  rw [wordsL_succ, joinB_snoc _ _ (fun e => by have := wordsL_length l k; rw [e] at this; simp at this; omega)]
theorem lineS_up (l : List UInt8) (k : Nat) : lineS (upL l) k = upL (lineS l k) := by unfold lineS; rw [wordsL_up, joinB_up]
theorem rest_head (l : List UInt8) : restL l = [] ∨ ∃ c r, restL l = c :: r ∧ bl c = true := by
  unfold restL
  generalize trimL l = t
  induction t with
  | nil => exact .inl rfl
  | cons c t ih =>
    rw [List.dropWhile_cons]
    by_cases h : bl c = true
    · rw [if_neg (by simp [h])]; exact .inr ⟨c, t, rfl, h⟩
    · rw [if_pos (by simp [h])]; exact ih
theorem lineS_bound {l : List UInt8} {k : Nat} (h : Good (told l k)) : (lineS l k).length + (if k = 0 then 0 else (behind l k).length) ≤ l.length := by
  induction k with
  | zero => simp [lineS_zero]
  | succ k ih =>
    rw [good_iff] at h
    have ih := ih ((good_iff l k).2 fun i hi => h i (by omega))
    have hk := h k (by omega)
    rw [word_size] at hk
    have wr := word_rest (behind l k)
    have tl := trimL_le (behind l k)
    rw [if_neg (by omega), behind_succ]
    rcases Nat.eq_zero_or_pos k with rfl | hp
    · rw [lineS_one]
      have e : behind l 0 = l := rfl
      rw [e] at wr tl ⊢
      omega
    · rw [lineS_succ l k hp, List.length_append, List.length_cons]
      rw [if_neg (by omega)] at ih
      have hb : (trimL (behind l k)).length + 1 ≤ (behind l k).length := by
        obtain ⟨j, rfl⟩ : ∃ j, k = j + 1 := ⟨k - 1, by omega⟩
        rw [behind_succ] at wr tl hk ⊢
        rcases rest_head (behind l j) with e | ⟨c, r, e, hc⟩
        · rw [e] at hk; exact absurd rfl hk
        · rw [e]
          have := trimL_le r
          unfold trimL at this ⊢
          rw [List.dropWhile_cons, if_pos hc]
          simp only [List.length_cons]; omega
      omega
end Go.Proofs.YtboeaeoefoabdaaGreatDoor
