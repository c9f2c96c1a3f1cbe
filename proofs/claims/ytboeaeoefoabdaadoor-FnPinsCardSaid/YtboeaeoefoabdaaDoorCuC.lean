/-
  strings.Contains of one byte.
  Conditions: as each says.
-/
import Derived.Test.YtboeaeoefoabdaaDoorPnD
import Derived.Test.YtboeaeoefoabdaaDoorBel
import Derived.Test.YtboeaeoefoabdaaDoorShl
import Derived.Lib.Bytealg
namespace Go.Proofs.YtboeaeoefoabdaaDoor
open Go.RowKit
theorem has_index (c : UInt8) (l : List UInt8) : decide (0 ≤ Lib.indexByte l c) = hasB c l := by
  unfold hasB
  induction l with
  | nil => rfl
  | cons b l ih =>
    unfold Lib.indexByte
    rw [List.any_cons]
    by_cases hb : b = c
    · subst hb; simp
    · have h1 : (b == c) = false := by simp [hb]
      have hg := Lib.indexByte_ge l c
      rw [h1, if_neg (by simp), Bool.false_or, ← ih]
      by_cases h : Lib.indexByte l c = -1
      · rw [if_pos (by simp [h]), h]
      · rw [if_neg (by simp [h])]
        rw [decide_eq_true (by omega), decide_eq_true (by omega)]
theorem has_call (l : List UInt8) (c : UInt8) (w : World) : Calls Tryd.prog 23 #[.string ⟨l.toArray⟩, .string ⟨#[c]⟩] w fun e w' => e = .returned (.bool (hasB c l)) ∧ w = w' := by
  have h := Tryd.strings_Contains_one ⟨l.toArray⟩ c w
  rw [show (⟨l.toArray⟩ : ByteArray).data.toList = l by simp, has_index] at h
  exact h.mono fun _ _ ⟨he, hw⟩ => ⟨he, hw.symm⟩
end Go.Proofs.YtboeaeoefoabdaaDoor
