/-
  The walks of the draws DrawWith, DrawNz, DrawShift of the model (chapter 2).
  Conditions: the draw has at most 1048576 bytes.
-/
import Derived.Test.YthelaeejgppjhaaDsA
namespace Go.Proofs.Ythelaeejgppjhaa
open Go.RowKit
def DrawTwo (w : World) (e : Ending) (w' : World) : Prop := ∃ p v : Int, e = .returned (.tuple #[.int .i64 p, .int .i64 v]) ∧ Below w.heap.size w w'
def DrawFlag (w : World) (e : Ending) (w' : World) : Prop := ∃ (p f : Int) (on : Bool), e = .returned (.tuple #[.int .i64 p, .int .i64 f, .bool on]) ∧ Below w.heap.size w w'
end Go.Proofs.Ythelaeejgppjhaa
