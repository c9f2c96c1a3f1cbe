/-
  Pins come back from their text, plainly (chapter 12).
  Conditions: none.
-/
import Derived.Test.YtboeaeoefoabdaaDoorPnA
import Derived.Test.YtboeaeoefoabdaaDoorRhA
namespace Go.Proofs.YtboeaeoefoabdaaDoor
open Go.RowKit Go.Deep Go.WideShapes Go.ChangeShapes

def hasB (c : UInt8) (l : List UInt8) : Bool := l.any (· == c)
def portP (l : List UInt8) : Int := match l.reverse with
  | b :: a :: c :: _ => if c = 32 then 16 * hxv a.toNat + hxv b.toNat else 0
  | _ => 0
theorem dec_all : ∀ (n i t r : Bool) (p : Fin 256), hasB 110 (pinT n i t r (p.val : Int)) = n ∧ hasB 105 (pinT n i t r (p.val : Int)) = i ∧ hasB 119 (pinT n i t r (p.val : Int)) = t ∧ hasB 114 (pinT n i t r (p.val : Int)) = r ∧ portP (pinT n i t r (p.val : Int)) = p.val := by decide +kernel
theorem dec_pins (n i t r : Bool) (p : Int) (h0 : 0 ≤ p) (h1 : p < 256) : hasB 110 (pinT n i t r p) = n ∧ hasB 105 (pinT n i t r p) = i ∧ hasB 119 (pinT n i t r p) = t ∧ hasB 114 (pinT n i t r p) = r ∧ portP (pinT n i t r p) = p := by
  obtain ⟨m, rfl⟩ : ∃ m : Nat, p = m := ⟨p.toNat, by omega⟩
  exact dec_all n i t r ⟨m, by omega⟩
/-- What ReadPins answers: pins whose text it is, or none. -/
def RpOk (l : List UInt8) (n i t r : Bool) (p : Int) (b : Bool) : Prop :=
  (b = true ∧ 0 ≤ p ∧ p < 256 ∧ pinT n i t r p = l) ∨ (b = false ∧ n = false ∧ i = false ∧ t = false ∧ r = false ∧ p = 0 ∧ ∀ n i t r p, 0 ≤ p → p < 256 → pinT n i t r p ≠ l)
theorem rp_one {l : List UInt8} {n i t r n2 i2 t2 r2 b b2 : Bool} {p p2 : Int} (h : RpOk l n i t r p b) (k : RpOk l n2 i2 t2 r2 p2 b2) : n = n2 ∧ i = i2 ∧ t = t2 ∧ r = r2 ∧ p = p2 ∧ b = b2 := by
  rcases h with ⟨rfl, h0, h1, h2⟩ | ⟨rfl, rfl, rfl, rfl, rfl, rfl, hn⟩
  · rcases k with ⟨rfl, k0, k1, k2⟩ | ⟨rfl, rfl, rfl, rfl, rfl, rfl, kn⟩
    · have e := dec_pins n i t r p h0 h1
      have d := dec_pins n2 i2 t2 r2 p2 k0 k1
      rw [h2] at e
      rw [k2] at d
      exact ⟨e.1.symm.trans d.1, e.2.1.symm.trans d.2.1, e.2.2.1.symm.trans d.2.2.1, e.2.2.2.1.symm.trans d.2.2.2.1, e.2.2.2.2.symm.trans d.2.2.2.2, rfl⟩
    · exact absurd h2 (kn n i t r p h0 h1)
  · rcases k with ⟨rfl, k0, k1, k2⟩ | ⟨rfl, rfl, rfl, rfl, rfl, rfl, kn⟩
    · exact absurd k2 (hn n2 i2 t2 r2 p2 k0 k1)
    · exact ⟨rfl, rfl, rfl, rfl, rfl, rfl⟩
end Go.Proofs.YtboeaeoefoabdaaDoor
