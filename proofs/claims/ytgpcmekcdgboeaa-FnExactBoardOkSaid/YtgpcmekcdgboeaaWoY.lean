/-
  Registers as the laws hand them on (chapter 9).
  Conditions: as each says; each walk leaves old memory as it was.
-/
import Derived.Test.YtgpcmekcdgboeaaWoA
import Derived.Test.YtgpcmekcdgboeaaRow
namespace Go.Proofs.Ytgpcmekcdgboeaa
open Go.RowKit
theorem lreg_size : (Try.prog.info? 23).map (·.size) = some 6 := by kernel_rfl
theorem to_regI (k : RegI) (w : World) : Calls Try.prog 39 #[regI k] w fun e w' => e = .returned (regI k) ∧ Below w.heap.size w w' := by
  obtain ⟨a, x, y, s, p, pc⟩ := k
  rw [regI_mk]
  go_enter Try.func39, Try.ntmps39
  go_wp2
  exact bodyPost_ret (v := .agg #[.int .i64 a, .int .i64 x, .int .i64 y, .int .i64 s, .int .i64 p, .int .i64 pc]) (by simp [results, Try.results39, go_sem]) rfl ⟨rfl, (((Below.refl _ _).alloc (Nat.le_refl _) _).alloc (by simp) _).alloc (by simp; omega) _⟩
theorem eq_regI (k : RegI) (w : World) : Calls Try.prog 44 #[regI k, regI k] w fun e w' => e = .returned (.bool true) ∧ Below w.heap.size w w' := by
  obtain ⟨a, x, y, s, p, pc⟩ := k
  rw [regI_mk]
  go_enter Try.func44, Try.ntmps44
  go_wp2
  go_ret
  exact ⟨rfl, below_alloc (below_alloc (Below.refl _ _) _) _⟩
end Go.Proofs.Ytgpcmekcdgboeaa
