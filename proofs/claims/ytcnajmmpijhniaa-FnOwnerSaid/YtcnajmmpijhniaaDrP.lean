/-
  The walks of the draws of the model that pick a text of a list.
  Conditions: the draw has at most 1048576 bytes; the lists are not empty.
-/
import Derived.Test.YtcnajmmpijhniaaDrA
namespace Go.Proofs.Ytcnajmmpijhniaa
open Go.RowKit
def AllS (l : List Value) : Prop := ∀ i, i < l.length → ∃ s : ByteArray, s.size ≤ 100 ∧ l[i]? = some (.string s)
theorem allS_nil : AllS [] := fun _ hi => absurd hi (Nat.not_lt_zero _)
theorem allS_cons {s : ByteArray} {l : List Value} (h : s.size ≤ 100) (hl : AllS l) : AllS (.string s :: l) := by
  intro i hi
  cases i with
  | zero => exact ⟨s, h, rfl⟩
  | succ i => simpa using hl i (by simpa using hi)
end Go.Proofs.Ytcnajmmpijhniaa
