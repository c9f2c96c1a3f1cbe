/-
  The walks of the program's own functions of memory: what the facts on memory say.
  Conditions: as each says; each walk leaves old memory as it was.
-/
import Derived.Test.YtgpcmekcdgboeaaMmD
namespace Go.Proofs.Ytgpcmekcdgboeaa
open Go.RowKit
theorem impl_memOk (r o : ByteArray) (w : World) : Calls Try.prog 25 #[memV r o] w fun e w' => e = .returned (.bool (decide (OkM r o))) ∧ Below w.heap.size w w' := by
  unfold memV
  obtain ⟨K, hK⟩ : ∃ K, K = decide (OkM r o) := ⟨_, rfl⟩
  rw [← hK]
  go_enter Try.func25, Try.ntmps25
  by_cases h1 : r.size ≤ 1024
  · replace hK := Lib.hid (hK.trans (show decide (OkM r o) = decide ((o.size : Int) ≤ 512) from decide_eq_decide.2 (by unfold OkM; omega)))
    go_wp2
    go_ret
    exact ⟨by rw [hK.out]; rfl, below_alloc (Below.refl _ _) _⟩
  · replace hK := Lib.hid (hK.trans (decide_eq_false (fun h => h1 h.1)))
    go_wp2
    go_ret
    exact ⟨by rw [hK.out]; rfl, below_alloc (Below.refl _ _) _⟩
end Go.Proofs.Ytgpcmekcdgboeaa
