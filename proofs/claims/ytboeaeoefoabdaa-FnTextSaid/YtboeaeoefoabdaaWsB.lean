/-
  The walk of spec.Words: a new row of the words of a text; old memory stays as it was.
  Conditions: the text has at most 1048576 bytes.
-/
import Derived.Test.YtboeaeoefoabdaaWsA
import Derived.Test.YtboeaeoefoabdaaProg
import Derived.WalkKit
import Derived.ProofKit
import Derived.Handy
import Derived.Lib.Hide
import Derived.Laws.AppendOwn
import Derived.Deep.OwnRows
import Derived.WalkSpells
import Derived.Lib.Strings
namespace Go.Proofs.Ytboeaeoefoabdaa
open Go.RowKit
theorem info9 : (Try.prog.info? 9).map (fun i => (i.zero, i.size, i.bytes)) = some (some (.string ⟨#[]⟩), 1, 16) := by kernel_rfl
def SpecPost (s : ByteArray) (w : World) (e : Ending) (W' : World) : Prop := ∃ v k, e = .returned v ∧ Good (told s.data.toList k) ∧ (wordB s.data.toList k).size = 0 ∧ W'.ownsRow w.heap.size 9 1 v k ((told s.data.toList k).map Value.string) ∧ v ≠ .slice none 0 0 ∧ Below w.heap.size w W'
theorem drop_cons (s : ByteArray) (i : Nat) (h : i < s.size) : s.data.toList.drop i = s[i] :: s.data.toList.drop (i + 1) := by
  rw [List.drop_eq_getElem_cons (by simpa using h)]
  rfl
theorem trim_blank (s : ByteArray) (i : Nat) (h : i < s.size) (hb : bl s[i] = true) : trimL (s.data.toList.drop i) = trimL (s.data.toList.drop (i + 1)) := by
  rw [drop_cons s i h]; simp [trimL, hb]
theorem trim_word (s : ByteArray) (i : Nat) (h : i < s.size) (hb : bl s[i] = false) : trimL (s.data.toList.drop i) = s.data.toList.drop i := by
  rw [drop_cons s i h]; simp [trimL, hb]
/-- From i to e there is no blank. -/
def NoBl (s : ByteArray) (i e : Nat) : Prop := ∀ j, i ≤ j → j < e → ∀ h : j < s.size, bl s[j] = false
theorem NoBl.more {s : ByteArray} {i e : Nat} (h : NoBl s i e) (he : e < s.size) (hb : bl s[e] = false) : NoBl s i (e + 1) := by
  intro j h1 h2 h3
  by_cases h4 : j = e
  · subst h4; exact hb
  · exact h j h1 (by omega) h3
theorem take_word (s : ByteArray) (i e : Nat) (hie : i ≤ e) (he : e ≤ s.size) (hn : NoBl s i e) (hend : e = s.size ∨ ∃ h : e < s.size, bl s[e] = true) :
    (s.data.toList.drop i).takeWhile (fun b => !bl b) = (s.extract i e).data.toList ∧ (s.data.toList.drop i).dropWhile (fun b => !bl b) = s.data.toList.drop e := by
  have hx : (s.extract i e).data.toList = (s.data.toList.drop i).take (e - i) := by
    rw [Lib.extract_data]
  rw [hx]
  clear hx
  obtain ⟨d, rfl⟩ : ∃ d, e = i + d := ⟨e - i, by omega⟩
  rw [Nat.add_sub_cancel_left]
  induction d generalizing i with
  | zero =>
    rcases hend with h | ⟨h, hb⟩
    · rw [List.drop_eq_nil_of_le (by simp; omega)]; simp; omega
    · have h' : i < s.size := h
      have hb' : bl s[i] = true := hb
      rw [Nat.add_zero, drop_cons s i h']; simp [hb']
  | succ d ih =>
    have hi : i < s.size := by omega
    have hb := hn i (Nat.le_refl _) (by omega) hi
    obtain ⟨h1, h2⟩ := ih (i + 1) (by omega) (by omega) (fun j a b c => hn j (by omega) (by omega) c) (by rw [show i + 1 + d = i + (d + 1) by omega]; exact hend)
    rw [drop_cons s i hi]
    simp [hb, h1, h2, show i + 1 + d = i + (d + 1) by omega]
end Go.Proofs.Ytboeaeoefoabdaa
