/-
  The walk of the model's draw of a number.
  Conditions: the draw has at most 1048576 bytes.
-/
import Derived.Test.YtboeaeoefoabdaaDoorDrA
import Derived.Deep.RegionHeld3
namespace Go.Proofs.YtboeaeoefoabdaaDoor
open Go.RowKit
def IntPost (w : World) (e : Ending) (w' : World) : Prop := ∃ x : Int, e = .returned (.int .i64 x) ∧ I64 x ∧ Below w.heap.size w w'
theorem new_drawn {B n c : Nat} {A : Option Addr} {w w1 : World} (hB : B ≤ w.heap.size) (hcode : Code w B A n) (hc : Cur w1 w.heap.size A n c) (hb : Below w.heap.size w w1) : Drawn B w.heap.size n c A w1 :=
  ⟨Nat.le_trans hB hb.size, hB, hcode.below hB hb, hc⟩
end Go.Proofs.YtboeaeoefoabdaaDoor
