/-
  The walk of spec.CodeOf: the byte that the table has for a name and a mode, -1 where it has none.
  Conditions: none; the walk leaves the world as it was.
-/
import Derived.Test.YtboeaeoefoabdaaGreatDoorTbB
import Derived.Test.YtboeaeoefoabdaaGreatDoorTbE
namespace Go.Proofs.YtboeaeoefoabdaaGreatDoor
open Go.RowKit
theorem rh_two (c : Nat) (h : c < 256) : rh (hexl (c : Int) 2) = c := by
  rw [rh_hexl _ 2 (by omega) (by omega), show (16 : Int) ^ 2 = 256 by decide]
  omega
end Go.Proofs.YtboeaeoefoabdaaGreatDoor
