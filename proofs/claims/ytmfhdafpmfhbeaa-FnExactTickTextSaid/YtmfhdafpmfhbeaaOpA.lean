/-
  An argument that is a struct of one-cell fields: its value written out, field by field.
  Conditions: as each lemma says.
-/
import Derived.ChangeSame
import Derived.OpenShut
import Derived.Lib.SmallJoins
namespace Go.Proofs.Ytmfhdafpmfhbeaa
open Go.Joins Go.ChangeShapes Go.WideShapes Go.RowKit Go.Deep
section
variable {H : Type} {enc : TypeId × Value → H} {P : Program} {w : World} {base : Nat} {spare : Nat → Bool} {held : Bool}
theorem open_fields {r : Reach} {b0 : Nat} {t : TypeId} {fs : Array Field} {v : Value} {d : DataW H} {p : List MemPlace} (hs : P.underlying t = some (.struct fs)) (hone : oneCellFields P fs = true) (hC : P.cellsOf t = fs.size)
    (hv : Value.okWide P w r b0 t v) (h : DataW.Trod enc P w base spare held t v d p) :
    ∃ cs : Array Value, v = .agg cs ∧ cs.size = fs.size ∧ ∀ (i : Nat) (f : Field), fs[i]? = some f → ∃ c n y, cs[i]? = some c ∧ DataW.trod enc P w base spare held n f.type [c] = some y := by
  obtain ⟨cs, rfl, hsz⟩ := okWide_struct hs hv
  obtain ⟨fuel, hf⟩ := h
  obtain ⟨xs, n, _, _, _, hlen, hg⟩ := DataW.trod_struct hs hf
  refine ⟨cs, rfl, hsz.trans hC, fun i f hi => ?_⟩
  obtain ⟨ho, hk⟩ := hone_of hone i f hi
  have hlt : i < fs.size := (Array.getElem?_eq_some_iff.1 hi).1
  have hcl : i < cs.size := by rw [hsz, hC]; exact hlt
  have h1 := hg i f hi
  have e1 : ((Value.agg cs).cells.toList.drop f.offset).take (P.cellsOf f.type) = [cs[i]] := by
    rw [ho, hk]
    have e2 : (Value.agg cs).cells.toList = cs.toList := by simp [Value.cells]
    rw [e2, List.drop_eq_getElem_cons (by simpa using hcl)]
    simp
  rw [e1, List.getElem?_eq_getElem (by omega)] at h1
  exact ⟨cs[i], n, _, Array.getElem?_eq_getElem hcl, h1⟩
end
/-- The values of an array from a place on. -/
def AtL (cs : Array Value) : Nat → List Value → Prop
  | _, [] => True
  | i, v :: l => cs[i]? = some v ∧ AtL cs (i + 1) l
theorem atL_get {cs : Array Value} : ∀ (l : List Value) (i : Nat), AtL cs i l → ∀ j v, l[j]? = some v → cs[i + j]? = some v
  | [], _, _, _, _, h => by simp at h
  | x :: l, i, ⟨h1, h2⟩, 0, v, h => by simp at h; subst h; exact h1
  | x :: l, i, ⟨h1, h2⟩, j + 1, v, h => by
    have := atL_get l (i + 1) h2 j v (by simpa using h)
    rw [show i + (j + 1) = i + 1 + j by omega]
    exact this
theorem arr_of {cs : Array Value} {l : List Value} (hsz : cs.size = l.length) (h : AtL cs 0 l) : cs = l.toArray := by
  apply Array.ext
  · simpa using hsz
  · intro i h1 h2
    have h3 : i < l.length := by omega
    have := atL_get l 0 h i l[i] (List.getElem?_eq_getElem h3)
    rw [Nat.zero_add, Array.getElem?_eq_getElem h1] at this
    simpa using this
theorem int_leaf {H : Type} {enc : TypeId × Value → H} {P : Program} {w : World} {base : Nat} {spare : Nat → Bool} {held : Bool} {t : TypeId} {k : IntKind} {cs : Array Value} {i : Nat} (ht : P.underlying t = some (.int k))
    (h : ∃ c n y, cs[i]? = some c ∧ DataW.trod enc P w base spare held n t [c] = some y) : ∃ a : Int, cs[i]? = some (.int k a) := by
  obtain ⟨c, n, y, hc, hy⟩ := h
  obtain ⟨a, h1, _, _⟩ := DataW.trod_int ht hy
  simp only [List.cons.injEq, and_true] at h1
  exact ⟨a, by rw [hc, h1]⟩
theorem i64_leaf {H : Type} {enc : TypeId × Value → H} {P : Program} {w : World} {base : Nat} {spare : Nat → Bool} {held : Bool} {t : TypeId} {cs : Array Value} {i : Nat} (ht : P.underlying t = some (.int .i64))
    (h : ∃ c n y, cs[i]? = some c ∧ DataW.trod enc P w base spare held n t [c] = some y) : ∃ a : Int, cs[i]? = some (.int .i64 a) ∧ -9223372036854775808 ≤ a ∧ a ≤ 9223372036854775807 := by
  obtain ⟨c, n, y, hc, hy⟩ := h
  obtain ⟨a, h1, _, hw⟩ := DataW.trod_int ht hy
  simp only [List.cons.injEq, and_true] at h1
  refine ⟨a, by rw [hc, h1], ?_⟩
  simp [Lit.wf, IntKind.min, IntKind.max, IntKind.signed, IntKind.bits] at hw
  omega
theorem string_leaf {H : Type} {enc : TypeId × Value → H} {P : Program} {w : World} {base : Nat} {spare : Nat → Bool} {held : Bool} {t : TypeId} {cs : Array Value} {i : Nat} (ht : P.underlying t = some .string)
    (h : ∃ c n y, cs[i]? = some c ∧ DataW.trod enc P w base spare held n t [c] = some y) : ∃ s : ByteArray, cs[i]? = some (.string s) ∧ s.size ≤ maxLen := by
  obtain ⟨c, n, y, hc, hy⟩ := h
  obtain ⟨s, h1, _, hs⟩ := DataW.trod_string ht hy
  simp only [List.cons.injEq, and_true] at h1
  exact ⟨s, by rw [hc, h1], hs⟩
theorem bool_leaf {H : Type} {enc : TypeId × Value → H} {P : Program} {w : World} {base : Nat} {spare : Nat → Bool} {held : Bool} {t : TypeId} {cs : Array Value} {i : Nat} (ht : P.underlying t = some .bool)
    (h : ∃ c n y, cs[i]? = some c ∧ DataW.trod enc P w base spare held n t [c] = some y) : ∃ b : Bool, cs[i]? = some (.bool b) := by
  obtain ⟨c, n, y, hc, hy⟩ := h
  obtain ⟨b, h1, _⟩ := DataW.trod_bool ht hy
  simp only [List.cons.injEq, and_true] at h1
  exact ⟨b, by rw [hc, h1]⟩
end Go.Proofs.Ytmfhdafpmfhbeaa
