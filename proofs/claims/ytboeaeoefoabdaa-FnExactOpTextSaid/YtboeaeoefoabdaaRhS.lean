/-
  The walk of spec.ReadHex: it answers what 'rh' says of the text's bytes, and leaves the world as it was.
  Conditions: the text is no longer than an int counts.
-/
import Derived.Test.YtboeaeoefoabdaaProg
import Derived.Test.YtboeaeoefoabdaaRhA
import Derived.Test.YtboeaeoefoabdaaHxS
import Derived.WalkKit
import Derived.ProofKit
import Derived.Handy
import Derived.Lib.Hide
import Derived.Lib.Strings
namespace Go.Proofs.Ytboeaeoefoabdaa
open Go.RowKit
theorem take_snoc (s : ByteArray) (k : Nat) (h : k < s.size) : s.data.toList.take (k + 1) = s.data.toList.take k ++ [s[k]] := by
  rw [List.take_succ_eq_append_getElem (by simpa using h)]; rfl
theorem mem_byte (s : ByteArray) (k : Nat) (h : k < s.size) : s[k] ∈ s.data.toList := by
  have : s.data.toList[k]? = some s[k] := by simp [h]; rfl
  exact List.mem_of_getElem? this
end Go.Proofs.Ytboeaeoefoabdaa
