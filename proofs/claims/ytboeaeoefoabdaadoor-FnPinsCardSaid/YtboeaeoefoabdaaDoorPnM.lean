/-
  The law FnPins, as its card asks (chapter 12).
  Conditions: the card's own.
-/
import Derived.Test.YtboeaeoefoabdaaDoorPnL
import Derived.Test.YtboeaeoefoabdaaDoorTiA
namespace Go.Proofs.YtboeaeoefoabdaaDoor
open Go.RowKit Go.Lib
theorem pins_card {a b c d : String × DataW Unit} (A : Option Addr) (n cp : Nat) (W : World) (hrow : RowB W A n) (hL : laidMet Tryd.prog [a, b, c, d, ("strconv.ErrSyntax", Rows.laid_strconv_ErrSyntax)] W) (hsh : W.ShapedOpen Tryd.prog) :
    Calls Tryd.prog 3 #[.slice A n cp] W fun e w' => e = .returned (.bool true) ∧ Below W.heap.size W w' := by
  obtain ⟨m, hm⟩ := maxlen_shaped hsh
  obtain ⟨x, hx⟩ := syntax_laid hL.tail.tail.tail.tail
  exact pins_law A n cp W hrow m hm x hx
end Go.Proofs.YtboeaeoefoabdaaDoor
