/-
  The walk of l01Text of the model: a text of so many bytes.
  Conditions: the draw has at most 1048576 bytes; at most 250 bytes are asked for.
-/
import Derived.Test.YthelaeejgppjhaaTxA
namespace Go.Proofs.Ythelaeejgppjhaa
open Go.RowKit Go.Deep Go.WideShapes Go.ChangeShapes
theorem infoT8 : (Try.prog.info? 5).map (fun i => (i.zero, i.size, i.bytes)) = some (some (.int .u8 0), 1, 1) := by kernel_rfl
def TextPost (m g : Nat) (A : Option Addr) (n c : Nat) (w : World) (e : Ending) (w' : World) : Prop :=
  ∃ s : ByteArray, e = .returned (.string s) ∧ s.size = m ∧ Cur w' g A n c ∧ w.grownBy w' (some g)
end Go.Proofs.Ythelaeejgppjhaa
