/-
  An argument that is a struct of structs of structs: the inner struct's fields, where they lie.
  Conditions: as the lemma says.
-/
import Derived.Test.YtgpcmekcdgboeaaOpN
namespace Go.Proofs.Ytgpcmekcdgboeaa
open Go.Joins Go.ChangeShapes Go.WideShapes Go.RowKit Go.Deep
section
variable {H : Type} {enc : TypeId × Value → H} {P : Program} {w : World} {base : Nat} {spare : Nat → Bool} {held : Bool}
theorem nest_in {T : TypeId} {fs : Array Field} {cs : Array Value} {o m : Nat} (hs : P.underlying T = some (.struct fs)) (hC : P.cellsOf T = m)
    (h : ∃ n y, DataW.trod enc P w base spare held n T ((cs.toList.drop o).take (P.cellsOf T)) = some y) :
    ∀ (i : Nat) (f : Field), fs[i]? = some f → Nat.ble (f.offset + P.cellsOf f.type) m = true → ∃ n y, DataW.trod enc P w base spare held n f.type ((cs.toList.drop (o + f.offset)).take (P.cellsOf f.type)) = some y := by
  obtain ⟨fuel, y, hf⟩ := h
  intro i f hi hle
  have hle := Nat.le_of_ble_eq_true hle
  obtain ⟨xs, n, _, _, hL, hlen, hg⟩ := DataW.trod_struct hs hf
  have hlt : i < fs.size := (Array.getElem?_eq_some_iff.1 hi).1
  have h1 := hg i f hi
  have e : (((cs.toList.drop o).take (P.cellsOf T)).drop f.offset).take (P.cellsOf f.type) = (cs.toList.drop (o + f.offset)).take (P.cellsOf f.type) := by
    rw [List.drop_take, List.take_take, List.drop_drop, Nat.min_eq_left (by omega)]
  rw [e, List.getElem?_eq_getElem (by omega)] at h1
  exact ⟨n, _, h1⟩
end
end Go.Proofs.Ytgpcmekcdgboeaa
