/-
  The walk of l01Bent of the model: a text with a byte changed, cut or put in; at most 100 bytes longer.
  Conditions: the draw has at most 1048576 bytes, the text at most 1000.
-/
import Derived.Test.YtcnajmmpijhniaaDrP
import Derived.Test.YtcnajmmpijhniaaBlk
import Derived.Test.YtcnajmmpijhniaaDrI
import Derived.Deep.RegionWith
import Derived.IntWalk
namespace Go.Proofs.Ytcnajmmpijhniaa
open Go.RowKit
def BentPost (m g : Nat) (A : Option Addr) (n c : Nat) (w : World) (e : Ending) (w' : World) : Prop :=
  ∃ s : ByteArray, e = .returned (.string s) ∧ s.size ≤ m ∧ Cur w' g A n c ∧ w.grownBy w' (some g)
end Go.Proofs.Ytcnajmmpijhniaa
