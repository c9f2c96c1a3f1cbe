/-
  The walk of spec.TickChip (chapter 6).
  Conditions: the numbers are those of their kind; the walk leaves old memory as it was.
-/
import Derived.Test.YtfkllcbjakhbdaaChB
import Derived.Deep.CutRange
namespace Go.Proofs.Ytfkllcbjakhbdaa
open Go.RowKit
theorem tick_no {c : ChipI} (h : okC c = false) : tickI c = c := by unfold tickI; rw [h]; rfl
theorem tick_yes {c : ChipI} (h : okC c = true) : tickI c = tickR c := by unfold tickI; rw [h]; rfl
/-- A right chip behind what its first timer does of a clock; and its second. -/
def tickA (c : ChipI) : ChipI := { c with c1 := if c.c1 = 0 then (if c.ag then c.l1 else 65535) else c.c1 - 1, v1 := if c.c1 = 0 then c.v1 && c.ag else c.v1, fl := mkF (f6 c.fl || (decide (c.c1 = 0) && c.v1)) (f5 c.fl) }
def tickB (c : ChipI) : ChipI := { c with c2 := if c.c2 = 0 then 65535 else c.c2 - 1, v2 := if c.c2 = 0 then false else c.v2, fl := mkF (f6 c.fl) (f5 c.fl || (decide (c.c2 = 0) && c.v2)) }
theorem tick_two (c : ChipI) : tickR c = tickB (tickA c) := by
  unfold tickR tickB tickA
  simp only [f6_mk, f5_mk]
end Go.Proofs.Ytfkllcbjakhbdaa
