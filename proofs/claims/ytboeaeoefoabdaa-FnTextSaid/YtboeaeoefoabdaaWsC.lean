/-
  The walk of spec.Words at words with blanks between: those words.
  Conditions: as each says; old memory stays as it was.
-/
import Derived.Test.YtboeaeoefoabdaaWsB
namespace Go.Proofs.Ytboeaeoefoabdaa
open Go.RowKit
def WordsAt (ws : List (List UInt8)) (w : World) (e : Ending) (w' : World) : Prop := ∃ g cap, e = .returned (.slice (some ⟨g, 0, none⟩) ws.length cap) ∧
  (∀ j (h : j < ws.length), w'.cell? ⟨g, j, none⟩ = some (.string ⟨ws[j].toArray⟩)) ∧ Below w.heap.size w w'
theorem ok_words (ws : List (List UInt8)) (h : (ws.all fun w => w != [] && w.all fun c => !bl c) = true) : ∀ w ∈ ws, w ≠ [] ∧ ∀ c ∈ w, bl c = false := by
  intro w hw
  have h1 := List.all_eq_true.1 h w hw
  simp only [Bool.and_eq_true, bne_iff_ne, ne_eq] at h1
  exact ⟨h1.1, fun c hc => by simpa using List.all_eq_true.1 h1.2 c hc⟩
end Go.Proofs.Ytboeaeoefoabdaa
