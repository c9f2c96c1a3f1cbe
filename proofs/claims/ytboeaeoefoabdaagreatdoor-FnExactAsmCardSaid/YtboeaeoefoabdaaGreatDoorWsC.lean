/-
  The walk of spec.Words at words with blanks between: those words.
  Conditions: as each says; old memory stays as it was.
-/
import Derived.Test.YtboeaeoefoabdaaGreatDoorWsB
namespace Go.Proofs.YtboeaeoefoabdaaGreatDoor
open Go.RowKit
def WordsAt (ws : List (List UInt8)) (w : World) (e : Ending) (w' : World) : Prop := ∃ g cap, e = .returned (.slice (some ⟨g, 0, none⟩) ws.length cap) ∧
  (∀ j (h : j < ws.length), w'.cell? ⟨g, j, none⟩ = some (.string ⟨ws[j].toArray⟩)) ∧ Below w.heap.size w w'
theorem spec_words_of (ws : List (List UInt8)) (hne : 0 < ws.length) (hok : ∀ w ∈ ws, w ≠ [] ∧ ∀ c ∈ w, bl c = false) (hs : (joinB ws).length ≤ 1048576) (w : World) :
    Calls Tryz.prog 41 #[.string ⟨(joinB ws).toArray⟩] w (WordsAt ws w) := by
  refine (spec_words ⟨(joinB ws).toArray⟩ (by rw [bsize]; omega) w).mono ?_
  rintro e w' ⟨v, k, rfl, h1, h2, h3, h4, h5⟩
  have e0 : (⟨(joinB ws).toArray⟩ : ByteArray).data.toList = joinB ws := List.toList_toArray
  rw [e0] at h1 h2 h3
  have ht := told_words _ hok
  have hk : k = ws.length := told_one h1 h2 (good_words _ hok) ht.2
  rw [hk, ht.1] at h3
  obtain ⟨g, cap, rfl⟩ : ∃ g cap, v = Value.slice (some ⟨g, 0, none⟩) ws.length cap := by
    rcases h3.2 with ⟨_, h0⟩ | ⟨g, cap, cur, h0, _⟩
    · omega
    · exact ⟨g, cap, h0⟩
  exact ⟨g, cap, rfl, fun j hj => by
    have := h3.cells (g := g) rfl j (.string ⟨ws[j].toArray⟩) (by simp [hj])
    cases j with
    | zero => simpa [Addr.add] using this
    | succ j => simpa [Addr.add] using this, h5⟩
theorem ok_words (ws : List (List UInt8)) (h : (ws.all fun w => w != [] && w.all fun c => !bl c) = true) : ∀ w ∈ ws, w ≠ [] ∧ ∀ c ∈ w, bl c = false := by
  intro w hw
  have h1 := List.all_eq_true.1 h w hw
  simp only [Bool.and_eq_true, bne_iff_ne, ne_eq] at h1
  exact ⟨h1.1, fun c hc => by simpa using List.all_eq_true.1 h1.2 c hc⟩
end Go.Proofs.YtboeaeoefoabdaaGreatDoor
