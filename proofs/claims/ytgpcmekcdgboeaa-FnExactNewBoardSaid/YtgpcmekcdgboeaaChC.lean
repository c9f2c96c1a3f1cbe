/-
  The walk of spec.TickChip (chapter 6).
  Conditions: the numbers are those of their kind; the walk leaves old memory as it was.
-/
import Derived.Test.YtgpcmekcdgboeaaChB
import Derived.Deep.CutRange
namespace Go.Proofs.Ytgpcmekcdgboeaa
open Go.RowKit
theorem tick_no {c : ChipI} (h : okC c = false) : tickI c = c := by unfold tickI; rw [h]; rfl
theorem tick_yes {c : ChipI} (h : okC c = true) : tickI c = tickR c := by unfold tickI; rw [h]; rfl
/-- A right chip behind what its first timer does of a clock; and its second. -/
def tickA (c : ChipI) : ChipI := { c with c1 := if c.c1 = 0 then (if c.ag then c.l1 else 65535) else c.c1 - 1, v1 := if c.c1 = 0 then c.v1 && c.ag else c.v1, fl := mkF (f6 c.fl || (decide (c.c1 = 0) && c.v1)) (f5 c.fl) }
def tickB (c : ChipI) : ChipI := { c with c2 := if c.c2 = 0 then 65535 else c.c2 - 1, v2 := if c.c2 = 0 then false else c.v2, fl := mkF (f6 c.fl) (f5 c.fl || (decide (c.c2 = 0) && c.v2)) }
theorem tick_two (c : ChipI) : tickR c = tickB (tickA c) := by
  unfold tickR tickB tickA
  simp only [f6_mk, f5_mk]
/-- A chip stands in a block, the nought of its kind in another; old memory is as it was. -/
structure ChipRows (W : World) (b r : Nat) (c : ChipI) (w : World) : Prop where
  row : w.heap[b]? = some (.cells (chipC c) 42 (0, 0))
  res : w.heap[r]? = some (.cells zeroC 42 (0, 0))
  old : Below W.heap.size W w
theorem rows_lit {W w : World} {b r : Nat} {c1 l1 : Int} {v1 ag : Bool} {c2 o2 : Int} {v2 : Bool} {pt dr fl ms : Int} (h : ChipRows W b r ⟨c1, l1, v1, ag, c2, o2, v2, pt, dr, fl, ms⟩ w) :
    w.heap[b]? = some (.cells #[.int .i64 c1, .int .i64 l1, .bool v1, .bool ag, .int .i64 c2, .int .i64 o2, .bool v2, .int .i64 pt, .int .i64 dr, .int .i64 fl, .int .i64 ms] 42 (0, 0)) := h.row
theorem res_lit {W w : World} {b r : Nat} {c : ChipI} (h : ChipRows W b r c w) :
    w.heap[r]? = some (.cells #[.int .i64 0, .int .i64 0, .bool false, .bool false, .int .i64 0, .int .i64 0, .bool false, .int .i64 0, .int .i64 0, .int .i64 0, .int .i64 0] 42 (0, 0)) := h.res
end Go.Proofs.Ytgpcmekcdgboeaa
