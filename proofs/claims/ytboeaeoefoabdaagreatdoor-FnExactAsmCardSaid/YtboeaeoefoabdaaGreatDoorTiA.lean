/-
  What the card lists of Go's library, at the call's beginning.
  Conditions: as each says.
-/
import Derived.Test.YtboeaeoefoabdaaGreatDoorRpC
import Derived.Test.YtboeaeoefoabdaaGreatDoorRows
import Derived.Stop.LaidErr
import Derived.Shelf.Vars
import Derived.HandedShaped
namespace Go.Proofs.YtboeaeoefoabdaaGreatDoor
open Go.RowKit Go.Lib
theorem gESt : (Tryz.prog.globals[2]?).map (·.type) = some 60 := by kernel_rfl
theorem cells_err : Tryz.prog.cellsOf 190 = 1 := by kernel_rfl
theorem cells_str : Tryz.prog.cellsOf 9 = 1 := by kernel_rfl
theorem star_err : "*" ++ "errors.errorString" = "*errors.errorString" := by decide
theorem row_err (u : TypeId) (h : Tryz.prog.typeName? 3 u = some "*errors.errorString") : u = 188 :=
  typeName_ptr_named (nm := "errors.errorString") (by rw [star_err]; kernel_rfl) (by kernel_rfl) (by decide) u (by rw [star_err]; exact h)
theorem syntax_laid {r : List (String × DataW Unit)} {W : World} (h : laidMet Tryz.prog (("strconv.ErrSyntax", Rows.laid_strconv_ErrSyntax) :: r) W) : ∃ x, W.cell? ⟨2, 0, none⟩ = some (.iface 188 x) := by
  obtain ⟨_, _, hv1, -, -, -⟩ := laid_sentinel h gES gESt Tryz.underlying60 row_err Tryz.underlying188 Tryz.underlying190 rfl rfl Tryz.underlying9 cells_err cells_str
  exact ⟨_, err_cell hv1⟩
theorem maxlen_shaped {W : World} (h : W.ShapedOpen Tryz.prog) : ∃ m : Int, W.cell? ⟨1, 0, none⟩ = some (.int .i64 m) :=
  cell_of_shapedOpen_int (zero := #[.int .i64 0]) (t := 3) h (of_decide_eq_true (by kernel_rfl)) (by kernel_rfl) rfl (by kernel_rfl) (by kernel_rfl) Tryz.underlying3
end Go.Proofs.YtboeaeoefoabdaaGreatDoor
