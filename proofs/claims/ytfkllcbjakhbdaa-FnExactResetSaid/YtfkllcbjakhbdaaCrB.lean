/-
  Reset and Fetches (chapter 10).
  Conditions: as each says; each walk leaves old memory as it was.
-/
import Derived.Test.YtfkllcbjakhbdaaCrA
namespace Go.Proofs.Ytfkllcbjakhbdaa
open Go.RowKit
set_option maxRecDepth 100000 in
set_option maxHeartbeats 4000000 in
theorem spec_resetC (a x y s p pc sq cd t lo hi vl : Int) (cr : Bool) (nx : Int) (jm : Bool) (w : World) : Calls Try.prog 12 #[coreV a x y s p pc sq cd t lo hi vl cr nx jm] w fun e w' => e = .returned (coreV a x y s p pc sq cd 0 lo hi vl cr 3 false) ∧ Below w.heap.size w w' := by
  rw [coreV_mk, coreV_mk]
  go_enter Try.func12, Try.ntmps12
  go_wp2
  exact bodyPost_ret (results_cell_row rfl _ _ (w.heap.size + 1) _ _ _ _ rfl (blk_new2 w _ _) Try.underlying29 rfl icore_size) rfl ⟨rfl, below_alloc (below_alloc (Below.refl _ _) _) _⟩
set_option maxRecDepth 100000 in
set_option maxHeartbeats 4000000 in
theorem impl_resetC (a x y s p pc sq cd t lo hi vl : Int) (cr : Bool) (nx : Int) (jm : Bool) (w : World) : Calls Try.prog 13 #[coreV a x y s p pc sq cd t lo hi vl cr nx jm] w fun e w' => e = .returned (coreV a x y s p pc sq cd 0 lo hi vl cr 3 false) ∧ Below w.heap.size w w' := by
  rw [coreV_mk, coreV_mk]
  go_enter Try.func13, Try.ntmps13
  go_wp2
  exact bodyPost_ret (results_cell_row rfl _ _ (w.heap.size + 1) _ _ _ _ rfl (blk_new2 w _ _) Try.underlying29 rfl icore_size) rfl ⟨rfl, below_alloc (below_alloc (Below.refl _ _) _) _⟩
set_option maxRecDepth 100000 in
set_option maxHeartbeats 4000000 in
theorem spec_fetches (a x y s p pc sq cd t lo hi vl : Int) (cr : Bool) (nx : Int) (jm : Bool) (w : World) : Calls Try.prog 15 #[coreV a x y s p pc sq cd t lo hi vl cr nx jm] w fun e w' => e = .returned (.bool (!jm && decide (t = 0))) ∧ Below w.heap.size w w' := by
  rw [coreV_mk]
  cases jm
  · go_enter Try.func15, Try.ntmps15
    go_wp2
    go_ret
    exact ⟨rfl, below_alloc (Below.refl _ _) _⟩
  · go_enter Try.func15, Try.ntmps15
    go_wp2
    go_ret
    exact ⟨rfl, below_alloc (Below.refl _ _) _⟩
set_option maxRecDepth 100000 in
set_option maxHeartbeats 4000000 in
theorem impl_fetches (a x y s p pc sq cd t lo hi vl : Int) (cr : Bool) (nx : Int) (jm : Bool) (w : World) : Calls Try.prog 16 #[coreV a x y s p pc sq cd t lo hi vl cr nx jm] w fun e w' => e = .returned (.bool (!jm && decide (t = 0))) ∧ Below w.heap.size w w' := by
  rw [coreV_mk]
  cases jm
  · go_enter Try.func16, Try.ntmps16
    go_wp2
    go_ret
    exact ⟨rfl, below_alloc (Below.refl _ _) _⟩
  · go_enter Try.func16, Try.ntmps16
    go_wp2
    go_ret
    exact ⟨rfl, below_alloc (Below.refl _ _) _⟩
end Go.Proofs.Ytfkllcbjakhbdaa
