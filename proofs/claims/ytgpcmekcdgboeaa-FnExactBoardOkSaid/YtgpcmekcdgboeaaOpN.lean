/-
  An argument that is a struct some fields of which are structs of one-cell fields: its value written out, cell by cell.
  Conditions: as each lemma says.
-/
import Derived.Test.YtgpcmekcdgboeaaOpA
namespace Go.Proofs.Ytgpcmekcdgboeaa
open Go.Joins Go.ChangeShapes Go.WideShapes Go.RowKit Go.Deep
section
variable {H : Type} {enc : TypeId × Value → H} {P : Program} {w : World} {base : Nat} {spare : Nat → Bool} {held : Bool}
theorem open_nest {r : Reach} {b0 : Nat} {t : TypeId} {fs : Array Field} {v : Value} {d : DataW H} {p : List MemPlace} {m : Nat} (hs : P.underlying t = some (.struct fs)) (hC : P.cellsOf t = m)
    (hv : Value.okWide P w r b0 t v) (h : DataW.Trod enc P w base spare held t v d p) :
    ∃ cs : Array Value, v = .agg cs ∧ cs.size = m ∧ ∀ (i : Nat) (f : Field), fs[i]? = some f → ∃ n y, DataW.trod enc P w base spare held n f.type ((cs.toList.drop f.offset).take (P.cellsOf f.type)) = some y := by
  obtain ⟨cs, rfl, hsz⟩ := okWide_struct hs hv
  obtain ⟨fuel, hf⟩ := h
  obtain ⟨xs, n, _, _, _, hlen, hg⟩ := DataW.trod_struct hs hf
  refine ⟨cs, rfl, hsz.trans hC, fun i f hi => ?_⟩
  have hlt : i < fs.size := (Array.getElem?_eq_some_iff.1 hi).1
  have h1 := hg i f hi
  have e2 : (Value.agg cs).cells.toList = cs.toList := by simp [Value.cells]
  rw [e2, List.getElem?_eq_getElem (by omega)] at h1
  exact ⟨n, _, h1⟩
theorem cells_at {cs : Array Value} {o m j : Nat} {c : Value} (h : ((cs.toList.drop o).take m)[j]? = some c) : cs[o + j]? = some c := by
  rw [List.getElem?_take] at h
  split at h
  · rw [List.getElem?_drop] at h
    rw [← Array.getElem?_toList]
    exact h
  · exact absurd h (by simp)
theorem nest_at {T : TypeId} {fs : Array Field} {cs : Array Value} {o : Nat} (hs : P.underlying T = some (.struct fs)) (hone : oneCellFields P fs = true) (hC : P.cellsOf T = fs.size)
    (h : ∃ n y, DataW.trod enc P w base spare held n T ((cs.toList.drop o).take (P.cellsOf T)) = some y) :
    ∀ (j : Nat) (f : Field), fs[j]? = some f → ∃ c n y, cs[o + j]? = some c ∧ DataW.trod enc P w base spare held n f.type [c] = some y := by
  obtain ⟨fuel, y, hf⟩ := h
  intro j f hj
  obtain ⟨xs, n, _, _, hL, hlen, hg⟩ := DataW.trod_struct hs hf
  obtain ⟨ho, hk⟩ := hone_of hone j f hj
  have hlt : j < fs.size := (Array.getElem?_eq_some_iff.1 hj).1
  have h1 := hg j f hj
  rw [hC] at hL h1
  generalize hLL : (cs.toList.drop o).take fs.size = L at hL h1
  have hl : j < L.length := by omega
  have e : (L.drop f.offset).take (P.cellsOf f.type) = [L[j]] := by
    rw [ho, hk, List.drop_eq_getElem_cons hl, List.take_succ_cons, List.take_zero]
  rw [e, List.getElem?_eq_getElem (by omega)] at h1
  refine ⟨L[j], n, _, ?_, h1⟩
  exact cells_at (m := fs.size) (by rw [hLL]; exact List.getElem?_eq_getElem hl)
theorem one_at {T : TypeId} {cs : Array Value} {o : Nat} (hC : P.cellsOf T = 1) (ho : o < cs.size)
    (h : ∃ n y, DataW.trod enc P w base spare held n T ((cs.toList.drop o).take (P.cellsOf T)) = some y) :
    ∃ c n y, cs[o]? = some c ∧ DataW.trod enc P w base spare held n T [c] = some y := by
  obtain ⟨n, y, hf⟩ := h
  have hl : o < cs.toList.length := by simpa using ho
  have e : (cs.toList.drop o).take (P.cellsOf T) = [cs[o]] := by
    rw [hC, List.drop_eq_getElem_cons hl]
    simp
  rw [e] at hf
  exact ⟨cs[o], n, y, Array.getElem?_eq_getElem ho, hf⟩
end
end Go.Proofs.Ytgpcmekcdgboeaa
