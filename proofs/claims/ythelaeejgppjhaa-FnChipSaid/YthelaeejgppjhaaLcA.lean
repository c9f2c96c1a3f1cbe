/-
  Plain facts on the numbers that a draw whose bytes are used up goes on with: they come round to every state of 64 bits, so that a draw that waits for a byte of a kind gets it.
  Conditions: as each lemma says.
-/
import Derived.Test.YthelaeejgppjhaaDrE
namespace Go.Proofs.Ythelaeejgppjhaa
open Go.RowKit
def stepI (x : Int) : Int := 6364136223846793005 * x + 1442695040888963407
def itI : Nat → Int → Int
  | 0, x => x
  | n + 1, x => itI n (stepI x)
theorem itI_add (m n : Nat) : ∀ x, itI (m + n) x = itI n (itI m x) := by
  induction m with
  | zero => intro x; rw [Nat.zero_add]; rfl
  | succ m ih => intro x; rw [Nat.succ_add]; exact ih (stepI x)
theorem aff_step (A B p u v : Int) (hA : A = 1 + 4 * p * u) (hB : B = p * (1 + 2 * v)) :
    A * A = 1 + 4 * (2 * p) * (u + 2 * p * u * u) ∧ A * B + B = 2 * p * (1 + 2 * (v + p * u + 2 * p * u * v)) := by
  subst hA; subst hB
  constructor <;> grind
/-- So many steps at once are one number times the state, and another one. -/
theorem aff (k : Nat) : ∃ A B u v : Int, (∀ x, itI (2 ^ k) x = A * x + B) ∧ A = 1 + 4 * (2 : Int) ^ k * u ∧ B = (2 : Int) ^ k * (1 + 2 * v) := by
  induction k with
  | zero => exact ⟨6364136223846793005, 1442695040888963407, 1591034055961698251, 721347520444481703, fun x => rfl, by decide, by decide⟩
  | succ k ih =>
    obtain ⟨A, B, u, v, h, hA, hB⟩ := ih
    obtain ⟨h1, h2⟩ := aff_step A B ((2 : Int) ^ k) u v hA hB
    refine ⟨A * A, A * B + B, u + 2 * (2 : Int) ^ k * u * u, v + (2 : Int) ^ k * u + 2 * (2 : Int) ^ k * u * v, fun x => ?_, ?_, ?_⟩
    · have e : 2 ^ (k + 1) = 2 ^ k + 2 ^ k := by rw [Nat.pow_succ]; omega
      rw [e, itI_add, h, h]; grind
    · rw [h1, Int.pow_succ, Int.mul_comm ((2 : Int) ^ k) 2]
    · rw [h2, Int.pow_succ, Int.mul_comm ((2 : Int) ^ k) 2]
theorem reach_step (A B p u v X y q : Int) (hA : A = 1 + 4 * p * u) (hB : B = p * (1 + 2 * v)) (h : X - y = p * (2 * q + 1)) : A * X + B - y = p * 2 * (q + 2 * u * X + 1 + v) := by
  subst hA; subst hB; grind
/-- From each state to each other one, but for multiples of 2 to the k. -/
theorem reach (k : Nat) (x y : Int) : ∃ n q, n < 2 ^ k ∧ itI n x - y = (2 : Int) ^ k * q := by
  induction k with
  | zero => exact ⟨0, x - y, by decide, by simp [itI]⟩
  | succ k ih =>
    obtain ⟨n, q, hn, h⟩ := ih
    have e : 2 ^ (k + 1) = 2 ^ k + 2 ^ k := by rw [Nat.pow_succ]; omega
    rcases Int.emod_two_eq q with h0 | h1
    · refine ⟨n, q / 2, by omega, ?_⟩
      have : q = 2 * (q / 2) := by omega
      rw [h, Int.pow_succ, Int.mul_assoc, ← this]
    · obtain ⟨A, B, u, v, ha, hA, hB⟩ := aff k
      have hq : q = 2 * (q / 2) + 1 := by omega
      rw [hq] at h
      refine ⟨n + 2 ^ k, q / 2 + 2 * u * itI n x + 1 + v, by omega, ?_⟩
      · rw [itI_add, ha, Int.pow_succ]
        exact reach_step A B _ u v _ _ _ hA hB h
def itH : Nat → Int → Int
  | 0, h => h
  | n + 1, h => itH n (nextH h)
theorem itH_add (m n : Nat) : ∀ x, itH (m + n) x = itH n (itH m x) := by
  induction m with
  | zero => intro x; rw [Nat.zero_add]; rfl
  | succ m ih => intro x; rw [Nat.succ_add]; exact ih (nextH x)
/-- Two states are one of 64 bits. -/
def Same (x y : Int) : Prop := ∃ q : Int, x = y + 18446744073709551616 * q
theorem wrap_same (x : Int) : Same (wrap64 x) x := ⟨-((x + 9223372036854775808) / 18446744073709551616), by unfold wrap64; omega⟩
theorem same_wrap {x y : Int} (h : Same x y) : wrap64 x = wrap64 y := by
  obtain ⟨q, rfl⟩ := h
  unfold wrap64; omega
theorem nextH_step (h : Int) : nextH h = wrap64 (stepI h) := by
  unfold nextH stepI
  obtain ⟨q, hq⟩ := wrap_same (h * 6364136223846793005)
  exact same_wrap ⟨q, by omega⟩
theorem same_step {x y : Int} (h : Same x y) : Same (stepI x) (stepI y) := by
  obtain ⟨q, rfl⟩ := h
  exact ⟨6364136223846793005 * q, by unfold stepI; omega⟩
theorem nextH_same {x y : Int} (h : Same x y) : nextH x = nextH y := by
  rw [nextH_step, nextH_step]
  exact same_wrap (same_step h)
theorem same_trans {x y z : Int} (h : Same x y) (k : Same y z) : Same x z := by
  obtain ⟨q, rfl⟩ := h
  obtain ⟨p, rfl⟩ := k
  exact ⟨p + q, by omega⟩
theorem itI_same (n : Nat) : ∀ x y : Int, Same x y → Same (itI n x) (itI n y) := by
  induction n with
  | zero => intro x y h; exact h
  | succ n ih => intro x y h; exact ih _ _ (same_step h)
theorem itH_same (n : Nat) : ∀ h, Same (itH n h) (itI n h) := by
  induction n with
  | zero => intro h; exact ⟨0, by simp [itH, itI]⟩
  | succ n ih =>
    intro h
    refine same_trans (ih (nextH h)) (itI_same n _ _ ?_)
    rw [nextH_step]
    exact wrap_same _
/-- Every state comes round to nought. -/
theorem comes (h : Int) : ∃ n, n < 18446744073709551616 ∧ Same (itH n h) 0 := by
  obtain ⟨n, q, hn, e⟩ := reach 64 h 0
  refine ⟨n, by simpa using hn, same_trans (itH_same n h) ⟨q, ?_⟩⟩
  have e2 : (2 : Int) ^ 64 = 18446744073709551616 := by decide
  rw [e2] at e
  omega
theorem least {P : Nat → Prop} : ∀ n, P n → ∃ m, m ≤ n ∧ P m ∧ ∀ j, j < m → ¬ P j := by
  intro n
  induction n using Nat.strongRecOn with
  | _ n ih =>
    intro h
    by_cases hj : ∃ j, j < n ∧ P j
    · obtain ⟨j, hj, hp⟩ := hj
      obtain ⟨m, h1, h2, h3⟩ := ih j hj hp
      exact ⟨m, by omega, h2, h3⟩
    · exact ⟨n, Nat.le_refl _, h, fun j hjn hp => hj ⟨j, hjn, hp⟩⟩
theorem dist_ex (h : Int) : ∃ m, m < 18446744073709551616 ∧ Same (itH m h) 0 ∧ ∀ j, j < m → ¬ Same (itH j h) 0 := by
  obtain ⟨n, hn, hs⟩ := comes h
  obtain ⟨m, h1, h2, h3⟩ := least (P := fun j => Same (itH j h) 0) n hs
  exact ⟨m, by omega, h2, h3⟩
/-- How many draws there are till nought. -/
noncomputable def dist (h : Int) : Nat := Classical.choose (dist_ex h)
theorem dist_lt (h : Int) : dist h < 18446744073709551616 := (Classical.choose_spec (dist_ex h)).1
theorem dist_at (h : Int) : Same (itH (dist h) h) 0 := (Classical.choose_spec (dist_ex h)).2.1
theorem dist_le (h : Int) (m : Nat) (hm : Same (itH m h) 0) : dist h ≤ m := by
  rcases Nat.lt_or_ge m (dist h) with h1 | h1
  · exact absurd hm ((Classical.choose_spec (dist_ex h)).2.2 m h1)
  · exact h1
theorem dist_next (h : Int) (r : Nat) (hr : r ≤ dist h) : dist (itH r h) ≤ dist h - r := by
  apply dist_le
  rw [← itH_add, show r + (dist h - r) = dist h by omega]
  exact dist_at h
/-- The byte that a draw answers whose bytes are used up. -/
def gx (h : Int) : Int := bits BinOp.xor IntKind.i64 (nextH h / 8589934592) (nextH h / 35184372088832) % 256
theorem gx_same {x y : Int} (h : Same x y) : gx x = gx y := by unfold gx; rw [nextH_same h]
theorem gx_at (bs : Nat → Int) (n : Nat) (h : Int) : byteAt bs n n h = gx h := by unfold byteAt gx; rw [if_neg (by omega), Int.add_zero]
theorem gx_0 : gx 0 = 148 := by decide +kernel
theorem gx_1 : gx (nextH 0) = 79 := by decide +kernel
/-- How long it takes, at most, till a letter comes. -/
noncomputable def wait (h : Int) : Nat := if 3 ≤ gx h % 5 then 0 else dist h + 1
theorem wait_lt (h : Int) : wait h < 18446744073709551618 := by unfold wait; have := dist_lt h; split <;> omega
theorem dist_pos (h : Int) (hb : ¬ 3 ≤ gx h % 5) : 1 ≤ dist h := by
  rcases Nat.eq_zero_or_pos (dist h) with h0 | h0
  · have := dist_at h
    rw [h0] at this
    rw [gx_same (show Same h 0 from this), gx_0] at hb
    omega
  · exact h0
/-- One draw that brought no letter. -/
theorem wait_one (h : Int) (hb : ¬ 3 ≤ gx h % 5) : wait (nextH h) < wait h := by
  have h1 := dist_pos h hb
  have h2 := dist_next h 1 h1
  have e : itH 1 h = nextH h := rfl
  rw [e] at h2
  unfold wait
  rw [if_neg hb]
  split <;> omega
/-- Three draws that brought no letter. -/
theorem wait_three (h : Int) (hb : ¬ 3 ≤ gx h % 5) (h3 : gx (nextH h) % 9 = 0 ∨ gx (nextH (nextH h)) % 20 = 0) : wait (nextH (nextH (nextH h))) < wait h := by
  have h1 := dist_pos h hb
  have e3 : itH 3 h = nextH (nextH (nextH h)) := rfl
  have e2 : itH 2 h = nextH (nextH h) := rfl
  have e1 : itH 1 h = nextH h := rfl
  have hat := dist_at h
  unfold wait
  rw [if_neg hb]
  split
  · omega
  · rename_i hb3
    have h12 : dist h ≠ 1 := by
      intro he
      rw [he, e1] at hat
      rw [gx_same hat, gx_0, nextH_same hat, gx_1] at h3
      omega
    have h22 : dist h ≠ 2 := by
      intro he
      rw [he, e2] at hat
      rw [nextH_same hat, gx_1] at hb3
      omega
    have h2 := dist_next h 3 (by omega)
    rw [e3] at h2
    omega
end Go.Proofs.Ythelaeejgppjhaa
