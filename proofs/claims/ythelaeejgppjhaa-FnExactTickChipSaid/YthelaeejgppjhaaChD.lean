/-
  The walk of spec.ReadChip (chapter 6), register by register.
  Conditions: the numbers are those of their kind; the walk leaves old memory as it was.
-/
import Derived.Test.YthelaeejgppjhaaChC
import Derived.Deep.RegionHeld3
namespace Go.Proofs.Ythelaeejgppjhaa
open Go.RowKit
theorem read_no {c : ChipI} (h : okC c = false) (r p : Int) : readI c r p = (c, 0) := by unfold readI; rw [h]; rfl
theorem read_yes {c : ChipI} (h : okC c = true) (r p : Int) : readI c r p = readR c (r % 16) p := by unfold readI; rw [h]; rfl
theorem set11 {w : World} {b : Nat} {t : TypeId} (h : w.heap[b]? = some (.cells zeroC t (0, 0))) (x0 x1 x2 x3 x4 x5 x6 x7 x8 x9 x10 : Value) :
    (((((((((((w.setCell ⟨b, 0, none⟩ x0).setCell ⟨b, 1, none⟩ x1).setCell ⟨b, 2, none⟩ x2).setCell ⟨b, 3, none⟩ x3).setCell ⟨b, 4, none⟩ x4).setCell ⟨b, 5, none⟩ x5).setCell ⟨b, 6, none⟩ x6).setCell ⟨b, 7, none⟩ x7).setCell ⟨b, 8, none⟩ x8).setCell ⟨b, 9, none⟩ x9).setCell ⟨b, 10, none⟩ x10).heap[b]? = some (.cells #[x0, x1, x2, x3, x4, x5, x6, x7, x8, x9, x10] t (0, 0)) := by
  have e := row_set (i := 10) (v := x10) (row_set (i := 9) (v := x9) (row_set (i := 8) (v := x8) (row_set (i := 7) (v := x7) (row_set (i := 6) (v := x6) (row_set (i := 5) (v := x5) (row_set (i := 4) (v := x4) (row_set (i := 3) (v := x3) (row_set (i := 2) (v := x2) (row_set (i := 1) (v := x1) (row_set (i := 0) (v := x0) h))))))))))
  simp only [zeroC, List.setIfInBounds_toArray, List.set_cons_zero, List.set_cons_succ] at e
  exact e
theorem ChipRows.below {W w w' : World} {b r : Nat} {c : ChipI} (h : ChipRows W b r c w) (hb : Below w.heap.size w w') : ChipRows W b r c w' := ⟨blk_below h.row hb, blk_below h.res hb, below_then h.old hb⟩
def readV (x : ChipI × Int) : Value := .tuple #[chipV x.1, .int .i64 x.2]
end Go.Proofs.Ythelaeejgppjhaa
