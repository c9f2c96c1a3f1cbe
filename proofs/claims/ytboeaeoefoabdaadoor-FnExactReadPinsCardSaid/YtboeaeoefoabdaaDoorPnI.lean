/-
  The exact law of ReadPins, as its card asks (chapter 12).
  Conditions: the card's own.
-/
import Derived.Test.YtboeaeoefoabdaaDoorPnH
import Derived.Test.YtboeaeoefoabdaaDoorTiA
namespace Go.Proofs.YtboeaeoefoabdaaDoor
open Go.RowKit Go.Lib
theorem readPins_card {a b c d : String × DataW Unit} (s : ByteArray) (hs : s.size ≤ maxLen) (W : World) (hL : laidMet Tryd.prog [a, b, c, d, ("strconv.ErrSyntax", Rows.laid_strconv_ErrSyntax)] W) (hsh : W.ShapedOpen Tryd.prog) :
    Calls Tryd.prog 4 #[.string s] W fun e w' => e = .returned (.bool true) ∧ Below W.heap.size W w' := by
  obtain ⟨m, hm⟩ := maxlen_shaped hsh
  obtain ⟨x, hx⟩ := syntax_laid hL.tail.tail.tail.tail
  exact exact_readPins s hs W m hm x hx
end Go.Proofs.YtboeaeoefoabdaaDoor
