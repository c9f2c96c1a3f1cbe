/-
  Plain facts on the lines of a text: the parts between bytes 10, taken one behind the other.
  Conditions: as each lemma says.
-/
import Derived.Lib.Split
import Derived.Lib.SplitLaws
import Derived.Lib.CountLaws
import Derived.Lib.Strings
import Derived.Lib.IndexBytes
namespace Go.Proofs.YtboeaeoefoabdaaGreatDoor
open Go.Lib
def nl : ByteArray := ⟨#[10]⟩
def linesB (s : ByteArray) : List ByteArray := splitB nl 0 (countB s nl) s
theorem index_none (c : UInt8) (l : List UInt8) (h : ∀ b ∈ l, b ≠ c) : index l [c] = -1 := by
  induction l with
  | nil => simp [index]
  | cons b l ih =>
    have hb : b ≠ c := h b (by simp)
    have ih' := ih (fun x hx => h x (by simp [hx]))
    simp [index, ih', Ne.symm hb]
theorem index_first (c : UInt8) (p r : List UInt8) (h : ∀ b ∈ p, b ≠ c) : index (p ++ c :: r) [c] = p.length := by
  induction p with
  | nil => simp [index]
  | cons b p ih =>
    have hb : b ≠ c := h b (by simp)
    have ih' := ih (fun x hx => h x (by simp [hx]))
    simp only [List.cons_append, index]
    rw [ih', if_neg (by simp [Ne.symm hb]), if_neg (by simp)]
    simp
theorem linesB_none (t : ByteArray) (h : ∀ b ∈ t.data.toList, b ≠ 10) : linesB t = [t] := by
  have hi : indexB t nl = -1 := index_none 10 _ h
  unfold linesB
  rw [countB_miss t nl hi]
  exact splitB_miss nl 0 0 t hi
theorem linesB_first (t : ByteArray) (p r : List UInt8) (e : t.data.toList = p ++ 10 :: r) (h : ∀ b ∈ p, b ≠ 10) : linesB t = t.extract 0 p.length :: linesB (t.extract (p.length + 1) t.size) := by
  have hi : indexB t nl = (p.length : Int) := by
    show index t.data.toList nl.data.toList = _
    rw [e]
    exact index_first 10 p r h
  have hs : nl.size = 1 := rfl
  unfold linesB
  rw [countB_hit t nl p.length (by decide) hi, Nat.add_comm 1, splitB_hit nl 0 _ t p.length hi]
  rw [hs]; rfl
theorem ba_ext {a b : ByteArray} (h : a.data.toList = b.data.toList) : a = b := by
  obtain ⟨⟨a⟩⟩ := a
  obtain ⟨⟨b⟩⟩ := b
  simpa using h
/-- No byte 10 from fr up to k. -/
def NoNl (s : ByteArray) (fr k : Nat) : Prop := ∀ (j : Nat) (h : j < s.size), fr ≤ j → j < k → s[j] ≠ 10
theorem NoNl.part {s : ByteArray} {fr k : Nat} (h : NoNl s fr k) (hk : k ≤ s.size) : ∀ b ∈ (s.data.toList.drop fr).take (k - fr), b ≠ 10 := by
  intro b hb
  obtain ⟨i, hi, rfl⟩ := List.mem_iff_getElem.1 hb
  simp only [List.length_take, List.length_drop, Array.length_toList] at hi
  have hsz : s.data.size = s.size := rfl
  rw [hsz] at hi
  have := h (fr + i) (by omega) (by omega) (by omega)
  simp only [List.getElem_take, List.getElem_drop, Array.getElem_toList]
  exact this
theorem linesB_step (s : ByteArray) (fr k : Nat) (hf : fr ≤ k) (hk : k < s.size) (h10 : s[k] = 10) (h : NoNl s fr k) : linesB (s.extract fr s.size) = s.extract fr k :: linesB (s.extract (k + 1) s.size) := by
  have hsz : s.data.toList.length = s.size := by simp
  have e : (s.extract fr s.size).data.toList = (s.data.toList.drop fr).take (k - fr) ++ 10 :: s.data.toList.drop (k + 1) := by
    rw [extract_to_end]
    have h1 : s.data.toList.drop fr = (s.data.toList.drop fr).take (k - fr) ++ (s.data.toList.drop fr).drop (k - fr) := (List.take_append_drop _ _).symm
    have h2 : s.data.toList.drop k = s.data.toList[k]'(by omega) :: s.data.toList.drop (k + 1) := List.drop_eq_getElem_cons (by omega)
    have h3 : s.data.toList[k]'(by omega) = 10 := h10
    refine h1.trans ?_
    rw [List.drop_drop, show fr + (k - fr) = k by omega, h2, h3]
  have hl : ((s.data.toList.drop fr).take (k - fr)).length = k - fr := by simp; omega
  rw [linesB_first _ _ _ e (h.part (by omega)), hl]
  congr 1
  · apply ba_ext
    rw [extract_data, extract_to_end, extract_data]; simp
  · congr 1
    apply ba_ext
    rw [extract_to_end, extract_to_end, extract_to_end, List.drop_drop]
    congr 1; omega
theorem linesB_last (s : ByteArray) (fr : Nat) (h : NoNl s fr s.size) : linesB (s.extract fr s.size) = [s.extract fr s.size] := by
  apply linesB_none
  rw [extract_to_end]
  have := h.part (Nat.le_refl _)
  rw [List.take_of_length_le (by simp)] at this
  exact this
theorem extract_zero_all (s : ByteArray) : s.extract 0 s.size = s := by
  apply ba_ext; rw [extract_to_end]; rfl
theorem NoNl.more {s : ByteArray} {fr k : Nat} (h : NoNl s fr k) (hk : k < s.size) (hn : s[k] ≠ 10) : NoNl s fr (k + 1) := by
  intro j hj h1 h2
  by_cases e : j = k
  · subst e; exact hn
  · exact h j hj h1 (by omega)
theorem NoNl.start (s : ByteArray) (k : Nat) : NoNl s k k := fun j _ h1 h2 => by omega
end Go.Proofs.YtboeaeoefoabdaaGreatDoor
