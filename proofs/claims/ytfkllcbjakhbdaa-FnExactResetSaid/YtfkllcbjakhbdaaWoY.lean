/-
  Registers as the laws hand them on (chapter 9).
  Conditions: as each says; each walk leaves old memory as it was.
-/
import Derived.Test.YtfkllcbjakhbdaaWoA
import Derived.Test.YtfkllcbjakhbdaaRow
namespace Go.Proofs.Ytfkllcbjakhbdaa
open Go.RowKit
theorem lreg_size : (Try.prog.info? 23).map (·.size) = some 6 := by kernel_rfl
theorem to_regI (k : RegI) (w : World) : Calls Try.prog 32 #[regI k] w fun e w' => e = .returned (regI k) ∧ Below w.heap.size w w' := by
  obtain ⟨a, x, y, s, p, pc⟩ := k
  rw [regI_mk]
  go_enter Try.func32, Try.ntmps32
  go_wp2
  exact bodyPost_ret (v := .agg #[.int .i64 a, .int .i64 x, .int .i64 y, .int .i64 s, .int .i64 p, .int .i64 pc]) (by simp [results, Try.results32, go_sem]) rfl ⟨rfl, (((Below.refl _ _).alloc (Nat.le_refl _) _).alloc (by simp) _).alloc (by simp; omega) _⟩
theorem eq_regI (k : RegI) (w : World) : Calls Try.prog 37 #[regI k, regI k] w fun e w' => e = .returned (.bool true) ∧ Below w.heap.size w w' := by
  obtain ⟨a, x, y, s, p, pc⟩ := k
  rw [regI_mk]
  go_enter Try.func37, Try.ntmps37
  go_wp2
  go_ret
  exact ⟨rfl, below_alloc (below_alloc (Below.refl _ _) _) _⟩
end Go.Proofs.Ytfkllcbjakhbdaa
