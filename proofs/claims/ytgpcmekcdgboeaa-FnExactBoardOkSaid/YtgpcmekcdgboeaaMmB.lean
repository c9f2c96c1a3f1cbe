/-
  The walks of spec.Where, spec.MemOk, spec.l05At and spec.Peek: what the facts on memory say.
  Conditions: none; each walk leaves old memory as it was.
-/
import Derived.Test.YtgpcmekcdgboeaaProg
import Derived.Test.YtgpcmekcdgboeaaMmA
import Derived.Test.YtgpcmekcdgboeaaTwo
import Derived.WalkKit
import Derived.ProofKit
import Derived.Handy
import Derived.Lib.Hide
namespace Go.Proofs.Ytgpcmekcdgboeaa
open Go.RowKit
/-- A memory as a value. -/
def memV (r o : ByteArray) : Value := .agg #[.string r, .string o]
theorem spec_memOk (r o : ByteArray) (w : World) : Calls Try.prog 15 #[memV r o] w fun e w' => e = .returned (.bool (decide (OkM r o))) ∧ Below w.heap.size w w' := by
  unfold memV
  obtain ⟨K, hK⟩ : ∃ K, K = decide (OkM r o) := ⟨_, rfl⟩
  rw [← hK]
  go_enter Try.func15, Try.ntmps15
  by_cases h1 : r.size ≤ 1024
  · replace hK := Lib.hid (hK.trans (show decide (OkM r o) = decide ((o.size : Int) ≤ 512) from decide_eq_decide.2 (by unfold OkM; omega)))
    go_wp2
    go_ret
    exact ⟨by rw [hK.out]; rfl, below_alloc (Below.refl _ _) _⟩
  · replace hK := Lib.hid (hK.trans (decide_eq_false (fun h => h1 h.1)))
    go_wp2
    go_ret
    exact ⟨by rw [hK.out]; rfl, below_alloc (Below.refl _ _) _⟩
end Go.Proofs.Ytgpcmekcdgboeaa
