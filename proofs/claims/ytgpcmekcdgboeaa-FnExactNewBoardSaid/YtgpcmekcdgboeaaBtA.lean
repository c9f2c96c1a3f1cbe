/-
  Plain facts on a number's lowest eight bits as a byte.
  Conditions: as each lemma says.
-/
import Derived.WalkKit
import Derived.ProofKit
namespace Go.Proofs.Ytgpcmekcdgboeaa
/-- A number's lowest eight bits as a byte. -/
def b8 (v : Int) : UInt8 := UInt8.ofNat (v % 256).toNat
theorem b8_val (v : Int) : ((b8 v).toNat : Int) = v % 256 := by unfold b8; simp [UInt8.toNat_ofNat']; omega
end Go.Proofs.Ytgpcmekcdgboeaa
