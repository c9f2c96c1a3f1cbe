/-
  Plain facts on texts that differ.
  Conditions: as each lemma says.
-/
import Derived.WalkKit
import Derived.ProofKit
namespace Go.Proofs.YtboeaeoefoabdaaGreatDoor
theorem eq_no {a b : ByteArray} (h : ¬ a = b) : (a.toList == b.toList) = false := by
  rw [beq_eq_false_iff_ne]
  intro e
  rw [ByteArray.toList_eq, ByteArray.toList_eq] at e
  exact h (ByteArray.ext (Array.toList_inj.mp e))
theorem ne_list {x : ByteArray} (l : List UInt8) (h : ¬ x = ⟨l.toArray⟩) : (x.toList == l) = false := by
  have := eq_no h
  rw [ByteArray.toList_eq (⟨l.toArray⟩ : ByteArray)] at this
  exact this
theorem ne_list' {x : ByteArray} (l : List UInt8) (h : ¬ x = ⟨l.toArray⟩) : (l == x.toList) = false := by
  have := ne_list l h
  rw [beq_eq_false_iff_ne] at this ⊢
  exact fun e => this e.symm
end Go.Proofs.YtboeaeoefoabdaaGreatDoor
