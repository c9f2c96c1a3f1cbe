/-
  Reset and Fetches (chapter 10).
  Conditions: as each says; each walk leaves old memory as it was.
-/
import Derived.Test.YtgpcmekcdgboeaaCrA
namespace Go.Proofs.Ytgpcmekcdgboeaa
open Go.RowKit
set_option maxRecDepth 100000 in
set_option maxHeartbeats 4000000 in
theorem spec_resetC (a x y s p pc sq cd t lo hi vl : Int) (cr : Bool) (nx : Int) (jm : Bool) (w : World) : Calls Try.prog 30 #[coreV a x y s p pc sq cd t lo hi vl cr nx jm] w fun e w' => e = .returned (coreV a x y s p pc sq cd 0 lo hi vl cr 3 false) ∧ Below w.heap.size w w' := by
  rw [coreV_mk, coreV_mk]
  go_enter Try.func30, Try.ntmps30
  go_wp2
  exact bodyPost_ret (results_cell_row rfl _ _ (w.heap.size + 1) _ _ _ _ rfl (blk_new2 w _ _) Try.underlying40 rfl icore_size) rfl ⟨rfl, below_alloc (below_alloc (Below.refl _ _) _) _⟩
set_option maxRecDepth 100000 in
set_option maxHeartbeats 4000000 in
theorem impl_resetC (a x y s p pc sq cd t lo hi vl : Int) (cr : Bool) (nx : Int) (jm : Bool) (w : World) : Calls Try.prog 31 #[coreV a x y s p pc sq cd t lo hi vl cr nx jm] w fun e w' => e = .returned (coreV a x y s p pc sq cd 0 lo hi vl cr 3 false) ∧ Below w.heap.size w w' := by
  rw [coreV_mk, coreV_mk]
  go_enter Try.func31, Try.ntmps31
  go_wp2
  exact bodyPost_ret (results_cell_row rfl _ _ (w.heap.size + 1) _ _ _ _ rfl (blk_new2 w _ _) Try.underlying40 rfl icore_size) rfl ⟨rfl, below_alloc (below_alloc (Below.refl _ _) _) _⟩
end Go.Proofs.Ytgpcmekcdgboeaa
