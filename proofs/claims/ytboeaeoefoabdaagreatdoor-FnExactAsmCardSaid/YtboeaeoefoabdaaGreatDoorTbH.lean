/-
  Plain facts on the table as the program holds it: 256 rows of a name and a mode, empty where a byte is no instruction; the bytes of a name; and what an instruction's byte is, told by them.
  Conditions: as each lemma says.
-/
import Derived.Test.YtboeaeoefoabdaaGreatDoorTbE
namespace Go.Proofs.YtboeaeoefoabdaaGreatDoor
def noB : ByteArray := ⟨#[]⟩
/-- The name and the mode that stand at a byte of the table; empty ones where it is no instruction. -/
def rowAt (i : Nat) : ByteArray × ByteArray := match opRows.find? fun r => r.1 == i with
  | some r => (nmR r, mdR r)
  | none => (noB, noB)
def rowCells (i : Nat) : List Value := [.string (rowAt i).1, .string (rowAt i).2]
def tabCells : Array Value := ((List.range 256).flatMap rowCells).toArray
theorem flat_two {α β} (f : α → List β) : ∀ (l : List α), (∀ x ∈ l, (f x).length = 2) → ∀ (i : Nat) (h : i < l.length), (l.flatMap f)[2 * i]? = (f l[i])[0]? ∧ (l.flatMap f)[2 * i + 1]? = (f l[i])[1]?
  | [], _, i, h => absurd h (Nat.not_lt_zero _)
  | x :: l, hl, 0, _ => by
    have h2 := hl x (by simp)
    constructor
    · show (f x ++ l.flatMap f)[0]? = (f x)[0]?
      rw [List.getElem?_append_left (by omega)]
    · show (f x ++ l.flatMap f)[1]? = (f x)[1]?
      rw [List.getElem?_append_left (by omega)]
  | x :: l, hl, i + 1, h => by
    have h2 := hl x (by simp)
    have hi : i < l.length := by simpa using h
    have ih := flat_two f l (fun y hy => hl y (by simp [hy])) i hi
    constructor
    · show (f x ++ l.flatMap f)[2 * (i + 1)]? = (f l[i])[0]?
      rw [List.getElem?_append_right (by omega), h2, ← ih.1]; rfl
    · show (f x ++ l.flatMap f)[2 * (i + 1) + 1]? = (f l[i])[1]?
      rw [List.getElem?_append_right (by omega), h2, ← ih.2, show 2 * (i + 1) + 1 - 2 = 2 * i + 1 by omega]
theorem tabCells_size : tabCells.size = 512 := by
  unfold tabCells
  rw [List.size_toArray, flat_length rowCells 2 _ (fun _ _ => rfl), List.length_range]
theorem tabCells_at (i : Nat) (h : i < 256) : tabCells[2 * i]? = some (.string (rowAt i).1) ∧ tabCells[2 * i + 1]? = some (.string (rowAt i).2) := by
  have := flat_two rowCells (List.range 256) (fun _ _ => rfl) i (by simpa using h)
  simpa [tabCells, rowCells] using this
theorem tabCells_one : ∀ v ∈ tabCells, v.oneCell' = true := by
  intro v hv
  unfold tabCells at hv
  simp only [List.mem_toArray, List.mem_flatMap, rowCells] at hv
  obtain ⟨i, _, h⟩ := hv
  simp only [List.mem_cons, List.not_mem_nil, or_false] at h
  rcases h with rfl | rfl <;> rfl
theorem rowAt_mod (n : Int) (m : Nat) (hm : (m : Int) = n % 256) : opOf n = if (rowAt m).1 = noB then (jamN, impM) else rowAt m := by
  have e : (fun r : Nat × List UInt8 × List UInt8 => (r.1 : Int) == n % 256) = fun r => r.1 == m := by
    funext r
    rw [← hm]
    exact Bool.eq_iff_iff.2 (by simp; omega)
  unfold opOf rowAt
  rw [e]
  cases hf : opRows.find? fun r => r.1 == m with
  | none => simp
  | some r =>
    have h3 := (rows_ok r (List.mem_of_find?_eq_some hf)).2.1
    have hne : nmR r ≠ noB := by
      intro h
      have := congrArg (fun b : ByteArray => b.data.toList) h
      simp [nmR, noB] at this
      rw [this] at h3
      simp at h3
    simp [hne]
theorem row_rows : ∀ r ∈ opRows, rowAt r.1 = (nmR r, mdR r) := by
  have h : opRows.all (fun r => decide (rowAt r.1 = (nmR r, mdR r))) = true := by decide +kernel
  intro r hr
  simpa using List.all_eq_true.1 h r hr
theorem row_code : ∀ m : Fin 256, (rowAt m.val).1 = noB ∨ codeOf (rowAt m.val).1 (rowAt m.val).2 = (m.val : Int) := by decide +kernel
/-- The bytes below k that a name has. -/
def codesAt (s : ByteArray) (k : Nat) : List Int := ((List.range k).filter fun i => decide ((rowAt i).1 ≠ noB ∧ (rowAt i).1 = s)).map fun i : Nat => (i : Int)
theorem codesAt_step (s : ByteArray) (k : Nat) : codesAt s (k + 1) = codesAt s k ++ (if (rowAt k).1 ≠ noB ∧ (rowAt k).1 = s then [(k : Int)] else []) := by
  unfold codesAt
  rw [List.range_succ, List.filter_append, List.map_append]
  congr 1
  by_cases h : (rowAt k).1 ≠ noB ∧ (rowAt k).1 = s
  · rw [if_pos h, List.filter_cons_of_pos (by simpa using h)]; rfl
  · rw [if_neg h, List.filter_cons_of_neg (by simpa using h)]; rfl
theorem codesAt_mem (s : ByteArray) (k : Nat) (z : Int) (h : z ∈ codesAt s k) : ∃ i : Nat, i < k ∧ z = (i : Int) ∧ (rowAt i).1 ≠ noB ∧ (rowAt i).1 = s := by
  unfold codesAt at h
  obtain ⟨i, hi, rfl⟩ := List.mem_map.1 h
  obtain ⟨h1, h2⟩ := List.mem_filter.1 hi
  have h3 := of_decide_eq_true h2
  exact ⟨i, by simpa using h1, rfl, h3.1, h3.2⟩
theorem codesAt_length (s : ByteArray) (k : Nat) : (codesAt s k).length ≤ k := by
  unfold codesAt
  rw [List.length_map]
  exact Nat.le_trans (List.length_filter_le _ _) (by simp)
theorem code_hit (a b : ByteArray) (i : Nat) (hi : i < 256) (h0 : (rowAt i).1 ≠ noB) (h1 : (rowAt i).1 = a) (h2 : (rowAt i).2 = b) : codeOf a b = (i : Int) := by
  rcases row_code ⟨i, hi⟩ with h | h
  · exact absurd h h0
  · rw [← h1, ← h2]; exact h
theorem code_none (a b : ByteArray) (h : ∀ z ∈ codesAt a 256, (rowAt z.toNat).2 ≠ b) : codeOf a b = -1 := by
  refine codeOf_miss a b fun j hj ⟨h1, h2⟩ => ?_
  have hm := List.getElem_mem hj
  have hr := row_rows _ hm
  have hk := (rows_ok _ hm).1
  have h3 := (rows_ok _ hm).2.1
  have hne : nmR opRows[j] ≠ noB := by
    intro h
    have := congrArg (fun b : ByteArray => b.data.toList) h
    simp [nmR, noB] at this
    rw [this] at h3
    simp at h3
  have hz : (opRows[j].1 : Int) ∈ codesAt a 256 := by
    unfold codesAt
    refine List.mem_map.2 ⟨opRows[j].1, List.mem_filter.2 ⟨List.mem_range.2 hk, ?_⟩, rfl⟩
    rw [hr]
    exact decide_eq_true ⟨hne, h1⟩
  refine h _ hz ?_
  rw [Int.toNat_natCast, hr]
  exact h2
theorem row_small : ∀ m : Fin 256, (rowAt m.val).1.size ≤ 3 ∧ (rowAt m.val).2.size ≤ 3 := by decide +kernel
theorem op_size3 (n : Int) : (opOf n).1.size ≤ 3 ∧ (opOf n).2.size ≤ 3 := by
  have h := row_small ⟨(n % 256).toNat, by omega⟩
  rw [rowAt_mod n (n % 256).toNat (by omega)]
  split
  · exact ⟨by decide, by decide⟩
  · exact h
end Go.Proofs.YtboeaeoefoabdaaGreatDoor
