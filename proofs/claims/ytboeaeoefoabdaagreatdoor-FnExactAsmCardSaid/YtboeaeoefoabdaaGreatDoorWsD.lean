/-
  The words of a text, in memory.
  Conditions: the text has at most 1048576 bytes.
-/
import Derived.Test.YtboeaeoefoabdaaGreatDoorWsB
namespace Go.Proofs.YtboeaeoefoabdaaGreatDoor
open Go.RowKit
/-- The words of a text, in memory. -/
def WordsG (l : List UInt8) (w : World) (e : Ending) (w' : World) : Prop := ∃ (A : Option Addr) (k cap : Nat), e = .returned (.slice A k cap) ∧ Good (told l k) ∧ (wordB l k).size = 0 ∧ (0 < k → ∃ g, A = some ⟨g, 0, none⟩ ∧ ∀ j, j < k → w'.cell? ⟨g, j, none⟩ = some (.string ⟨(wordL (behind l j)).toArray⟩)) ∧ Below w.heap.size w w'
theorem spec_wordsG (s : ByteArray) (hs : s.size ≤ 1048576) (w : World) : Calls Tryz.prog 41 #[.string s] w (WordsG s.data.toList w) := by
  refine (spec_words s hs w).mono ?_
  rintro e w' ⟨v, k, rfl, h1, h2, h3, h4, h5⟩
  generalize s.data.toList = l at *
  rcases h3.2 with ⟨rfl, h0⟩ | ⟨g, cap, cur, rfl, _⟩
  · exact absurd rfl h4
  · refine ⟨some ⟨g, 0, none⟩, k, cap, rfl, h1, h2, fun _ => ⟨g, rfl, fun j hj => ?_⟩, h5⟩
    have := h3.cells (g := g) rfl j (.string (wordB l j)) (by simp [told, hj])
    cases j with
    | zero => simpa [Addr.add, wordB] using this
    | succ j => simpa [Addr.add, wordB] using this
end Go.Proofs.YtboeaeoefoabdaaGreatDoor
