/-
  Plain facts on the words of a text: the parts without blanks and bytes 9, one behind the other.
  Conditions: as each lemma says.
-/
import Derived.WalkKit
import Derived.ProofKit
namespace Go.Proofs.YtboeaeoefoabdaaGreatDoor
def bl (b : UInt8) : Bool := ([32, 9] : List UInt8).contains b
def trimL (l : List UInt8) : List UInt8 := l.dropWhile bl
def wordL (l : List UInt8) : List UInt8 := (trimL l).takeWhile fun b => !bl b
def restL (l : List UInt8) : List UInt8 := (trimL l).dropWhile fun b => !bl b
theorem trimL_le (l : List UInt8) : (trimL l).length ≤ l.length := (List.dropWhile_sublist _).length_le
/-- What is left of a text behind k words. -/
def behind (l : List UInt8) : Nat → List UInt8
  | 0 => l
  | k + 1 => restL (behind l k)
def wordB (l : List UInt8) (k : Nat) : ByteArray := ⟨(wordL (behind l k)).toArray⟩
/-- The first k texts that are told. -/
def told (l : List UInt8) (k : Nat) : List ByteArray := (List.range k).map (wordB l)
theorem told_succ (l : List UInt8) (k : Nat) : told l (k + 1) = told l k ++ [wordB l k] := by simp [told, List.range_succ]
theorem restL_le (l : List UInt8) : (restL l).length ≤ l.length := Nat.le_trans (List.dropWhile_sublist _).length_le (trimL_le l)
theorem behind_le (l : List UInt8) (k : Nat) : (behind l k).length ≤ l.length := by
  induction k with
  | zero => exact Nat.le_refl _
  | succ k ih => exact Nat.le_trans (restL_le _) ih
theorem word_rest (l : List UInt8) : (wordL l).length + (restL l).length = (trimL l).length := by
  have h := List.takeWhile_append_dropWhile (p := fun b => !bl b) (l := trimL l)
  have h2 := congrArg List.length h
  rw [List.length_append] at h2
  exact h2
def Good (pre : List ByteArray) : Prop := ∀ x ∈ pre, x.size ≠ 0
theorem bsize (l : List UInt8) : (⟨l.toArray⟩ : ByteArray).size = l.length := by show l.toArray.size = _; simp
theorem behind_succ (L : List UInt8) (k : Nat) : behind L (k + 1) = restL (behind L k) := rfl
theorem told_end (L : List UInt8) : ∃ k, Good (told L k) ∧ (wordB L k).size = 0 := by
  suffices h : ∀ n k, (behind L k).length ≤ n → Good (told L k) → ∃ k, Good (told L k) ∧ (wordB L k).size = 0 from h _ 0 (Nat.le_refl _) (by simp [Good, told])
  intro n
  induction n with
  | zero =>
    intro k hk hg
    refine ⟨k, hg, ?_⟩
    have h1 := word_rest (behind L k)
    have h2 := trimL_le (behind L k)
    unfold wordB
    rw [bsize]
    omega
  | succ n ih =>
    intro k hk hg
    by_cases h0 : (wordB L k).size = 0
    · exact ⟨k, hg, h0⟩
    · refine ih (k + 1) ?_ ?_
      · have h1 := word_rest (behind L k)
        have h2 := trimL_le (behind L k)
        unfold wordB at h0
        rw [bsize] at h0
        rw [behind_succ]
        omega
      · rw [told_succ]
        intro y hy
        rcases List.mem_append.1 hy with hy | hy
        · exact hg y hy
        · rw [List.mem_singleton] at hy; subst hy; exact h0
theorem told_one {L : List UInt8} {k m : Nat} (h1 : Good (told L k)) (h2 : (wordB L k).size = 0) (k1 : Good (told L m)) (k2 : (wordB L m).size = 0) : k = m := by
  have mem : ∀ {a b : Nat}, a < b → wordB L a ∈ told L b := fun {a b} h => List.mem_map.2 ⟨a, List.mem_range.2 h, rfl⟩
  rcases Nat.lt_trichotomy k m with h | h | h
  · exact absurd h2 (k1 _ (mem h))
  · exact h
  · exact absurd k2 (h1 _ (mem h))
theorem told_length (L : List UInt8) (k : Nat) : (told L k).length = k := by simp [told]
theorem told_bound (L : List UInt8) (k : Nat) (h : Good (told L k)) : k ≤ L.length := by
  suffices h : ∀ j, j ≤ k → j + (behind L j).length ≤ L.length by have := h k (Nat.le_refl _); omega
  intro j
  induction j with
  | zero => intro _; simp [behind]
  | succ j ih =>
    intro hj
    have h0 := h (wordB L j) (List.mem_map.2 ⟨j, List.mem_range.2 (by omega), rfl⟩)
    have h1 := word_rest (behind L j)
    have h2 := trimL_le (behind L j)
    have h3 := ih (by omega)
    unfold wordB at h0
    rw [bsize] at h0
    rw [behind_succ]
    omega
/-- A word, a blank behind it, and the rest. -/
theorem word_blank (l : List UInt8) : wordL (32 :: l) = wordL l ∧ restL (32 :: l) = restL l := by
  unfold wordL restL trimL
  rw [List.dropWhile_cons_of_pos (by decide)]
  exact ⟨rfl, rfl⟩
theorem take_nb (w r : List UInt8) (h : ∀ c ∈ w, bl c = false) (hr : r = [] ∨ ∃ r', r = 32 :: r') : (w ++ r).takeWhile (fun b => !bl b) = w ∧ (w ++ r).dropWhile (fun b => !bl b) = r := by
  induction w with
  | nil =>
    rcases hr with rfl | ⟨r', rfl⟩
    · exact ⟨rfl, rfl⟩
    · exact ⟨rfl, rfl⟩
  | cons c w ih =>
    have hc := h c (by simp)
    obtain ⟨h1, h2⟩ := ih fun d hd => h d (by simp [hd])
    rw [List.cons_append, List.takeWhile_cons_of_pos (by rw [hc]; rfl), List.dropWhile_cons_of_pos (by rw [hc]; rfl), h1, h2]
    exact ⟨rfl, rfl⟩
theorem wordL_of (w r : List UInt8) (hne : w ≠ []) (h : ∀ c ∈ w, bl c = false) (hr : r = [] ∨ ∃ r', r = 32 :: r') : wordL (w ++ r) = w ∧ restL (w ++ r) = r := by
  have ht : trimL (w ++ r) = w ++ r := by
    cases w with
    | nil => exact absurd rfl hne
    | cons c w =>
      unfold trimL
      rw [List.cons_append, List.dropWhile_cons_of_neg (by rw [h c (by simp)]; decide)]
  unfold wordL restL
  rw [ht]
  exact take_nb w r h hr
/-- Words with a blank between two of them. -/
def joinB : List (List UInt8) → List UInt8
  | [] => []
  | [w] => w
  | w :: v :: ws => w ++ 32 :: joinB (v :: ws)
theorem told_join : ∀ (ws : List (List UInt8)), (∀ w ∈ ws, w ≠ [] ∧ ∀ c ∈ w, bl c = false) → ∀ (L : List UInt8) (k : Nat), (behind L k = joinB ws ∨ behind L k = 32 :: joinB ws) →
    told L (k + ws.length) = told L k ++ ws.map (fun w => ⟨w.toArray⟩) ∧ (wordB L (k + ws.length)).size = 0
  | [], _, L, k, hb => by
    refine ⟨by simp, ?_⟩
    have h : wordL (behind L k) = [] := by
      rcases hb with h | h
      · rw [h]; rfl
      · rw [h, (word_blank _).1]; rfl
    unfold wordB
    rw [show k + ([] : List (List UInt8)).length = k from rfl, bsize, h]; rfl
  | w :: ws, hw, L, k, hb => by
    obtain ⟨hne, hnb⟩ := hw w (by simp)
    obtain ⟨r, hr, hj, hk⟩ : ∃ r, (r = [] ∨ ∃ r', r = 32 :: r') ∧ joinB (w :: ws) = w ++ r ∧ (r = joinB ws ∨ r = 32 :: joinB ws) := by
      cases ws with
      | nil => exact ⟨[], .inl rfl, by simp [joinB], .inl rfl⟩
      | cons v ws => exact ⟨32 :: joinB (v :: ws), .inr ⟨_, rfl⟩, rfl, .inr rfl⟩
    have hword : wordL (behind L k) = w ∧ restL (behind L k) = r := by
      have h0 := wordL_of w r hne hnb hr
      rcases hb with h | h
      · rw [h, hj]; exact h0
      · rw [h, (word_blank _).1, (word_blank _).2, hj]; exact h0
    have ih := told_join ws (fun x hx => hw x (by simp [hx])) L (k + 1) (by rw [behind_succ, hword.2]; exact hk)
    have e : k + (w :: ws).length = k + 1 + ws.length := by simp; omega
    rw [e]
    refine ⟨?_, ih.2⟩
    rw [ih.1, told_succ]
    unfold wordB
    rw [hword.1]
    simp
theorem told_words (ws : List (List UInt8)) (hw : ∀ w ∈ ws, w ≠ [] ∧ ∀ c ∈ w, bl c = false) : told (joinB ws) ws.length = ws.map (fun w => ⟨w.toArray⟩) ∧ (wordB (joinB ws) ws.length).size = 0 := by
  have h := told_join ws hw (joinB ws) 0 (.inl rfl)
  rw [Nat.zero_add] at h
  exact ⟨by rw [h.1]; simp [told], h.2⟩
theorem good_words (ws : List (List UInt8)) (hw : ∀ w ∈ ws, w ≠ [] ∧ ∀ c ∈ w, bl c = false) : Good (told (joinB ws) ws.length) := by
  rw [(told_words ws hw).1]
  intro x hx
  obtain ⟨w, hm, rfl⟩ := List.mem_map.1 hx
  rw [bsize]
  intro h0
  exact (hw w hm).1 (List.length_eq_zero_iff.1 h0)
end Go.Proofs.YtboeaeoefoabdaaGreatDoor
