/-
  strings.Cut at a blank.
  Conditions: as each says.
-/
import Derived.Test.YtboeaeoefoabdaaGreatDoorCuA
import Derived.Test.YtboeaeoefoabdaaGreatDoorBel
import Derived.Test.YtboeaeoefoabdaaGreatDoorShl
import Derived.Lib.IndexMore
namespace Go.Proofs.YtboeaeoefoabdaaGreatDoor
open Go.RowKit
theorem cut_index (l : List UInt8) : (0 ≤ Lib.index l [32] ∧ l.take (Lib.index l [32]).toNat = nameL l ∧ l.drop ((Lib.index l [32]).toNat + 1) = restB l) ∨ (Lib.index l [32] = -1 ∧ nameL l = l ∧ restB l = []) := by
  unfold nameL restB
  induction l with
  | nil => exact .inr ⟨rfl, rfl, rfl⟩
  | cons c l ih =>
    unfold Lib.index
    by_cases hc : c = 32
    · subst hc
      refine .inl ?_
      simp
    · have h1 : ([32] : List UInt8).isPrefixOf (c :: l) = false := by simp [List.isPrefixOf, Ne.symm hc]
      have h2 : (c != 32) = true := by simp [hc]
      rw [if_neg (by simp [h1]), List.takeWhile_cons, if_pos h2, List.dropWhile_cons, if_pos h2]
      rcases ih with ⟨i0, i1, i2⟩ | ⟨i0, i1, i2⟩
      · refine .inl ?_
        rw [if_neg (by simp; omega)]
        have e : (Lib.index l [32] + 1).toNat = (Lib.index l [32]).toNat + 1 := by omega
        refine ⟨by omega, ?_, ?_⟩
        · rw [e, List.take_succ_cons, i1]
        · rw [e, List.drop_succ_cons, i2]
      · refine .inr ?_
        rw [if_pos (by simp [i0])]
        exact ⟨rfl, by rw [i1], i2⟩
theorem cut_blank (l : List UInt8) : (Lib.cut l [32]).1 = nameL l ∧ (Lib.cut l [32]).2.1 = restB l := by
  unfold Lib.cut
  rcases cut_index l with ⟨h0, h1, h2⟩ | ⟨h0, h1, h2⟩
  · rw [if_pos h0]; exact ⟨h1, h2⟩
  · rw [if_neg (by omega)]; exact ⟨h1.symm, h2.symm⟩
theorem cut_call (s : ByteArray) (hs : s.size < 4294967281) (m : Int) (w : World) (hm : w.cell? ⟨1, 0, none⟩ = some (.int .i64 m)) : ∃ b, Calls Tryz.prog 54 #[.string s, .string ⟨#[32]⟩] w fun e w' => e = .returned (.tuple #[.string ⟨(nameL s.data.toList).toArray⟩, .string ⟨(restB s.data.toList).toArray⟩, .bool b]) ∧ Below w.heap.size w w' := by
  have h := Tryz.strings_Cut s ⟨#[32]⟩ m w hs hm
  obtain ⟨e1, e2⟩ := cut_blank s.data.toList
  rw [show (⟨#[32]⟩ : ByteArray).data.toList = [32] from rfl, e1, e2] at h
  exact ⟨(Lib.cut s.data.toList [32]).2.2, h.mono fun e w' ⟨he, n, hw⟩ => ⟨he, by rw [hw]; exact below_drewN (Below.refl _ _) n⟩⟩
end Go.Proofs.YtboeaeoefoabdaaGreatDoor
