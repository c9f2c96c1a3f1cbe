/-
  What the card lists of Go's library, at the call's beginning.
  Conditions: as each says.
-/
import Derived.Test.YtboeaeoefoabdaaDoorRpC
import Derived.Test.YtboeaeoefoabdaaDoorRows
import Derived.Stop.LaidErr
import Derived.Shelf.Vars
import Derived.HandedShaped
namespace Go.Proofs.YtboeaeoefoabdaaDoor
open Go.RowKit Go.Lib
theorem gESt : (Tryd.prog.globals[1]?).map (·.type) = some 60 := by kernel_rfl
theorem cells_err : Tryd.prog.cellsOf 84 = 1 := by kernel_rfl
theorem cells_str : Tryd.prog.cellsOf 9 = 1 := by kernel_rfl
theorem star_err : "*" ++ "errors.errorString" = "*errors.errorString" := by decide
theorem row_err (u : TypeId) (h : Tryd.prog.typeName? 3 u = some "*errors.errorString") : u = 82 :=
  typeName_ptr_named (nm := "errors.errorString") (by rw [star_err]; kernel_rfl) (by kernel_rfl) (by decide) u (by rw [star_err]; exact h)
theorem syntax_laid {r : List (String × DataW Unit)} {W : World} (h : laidMet Tryd.prog (("strconv.ErrSyntax", Rows.laid_strconv_ErrSyntax) :: r) W) : ∃ x, W.cell? ⟨1, 0, none⟩ = some (.iface 82 x) := by
  obtain ⟨_, _, hv1, -, -, -⟩ := laid_sentinel h gES gESt Tryd.underlying60 row_err Tryd.underlying82 Tryd.underlying84 rfl rfl Tryd.underlying9 cells_err cells_str
  exact ⟨_, err_cell hv1⟩
theorem maxlen_shaped {W : World} (h : W.ShapedOpen Tryd.prog) : ∃ m : Int, W.cell? ⟨0, 0, none⟩ = some (.int .i64 m) :=
  cell_of_shapedOpen_int (zero := #[.int .i64 0]) (t := 3) h (of_decide_eq_true (by kernel_rfl)) (by kernel_rfl) rfl (by kernel_rfl) (by kernel_rfl) Tryd.underlying3
end Go.Proofs.YtboeaeoefoabdaaDoor
