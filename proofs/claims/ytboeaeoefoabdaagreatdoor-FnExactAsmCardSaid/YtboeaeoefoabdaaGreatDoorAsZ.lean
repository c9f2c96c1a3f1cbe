/-
  The exact law of Asm, as its card asks (chapter 13).
  Conditions: the card's own.
-/
import Derived.Test.YtboeaeoefoabdaaGreatDoorAsY
import Derived.Test.YtboeaeoefoabdaaGreatDoorTiA
namespace Go.Proofs.YtboeaeoefoabdaaGreatDoor
open Go.RowKit Go.Lib
theorem asm_card {a b c d e f : String × DataW Unit} (s : ByteArray) (hs : s.size ≤ maxLen) (W : World) (hL : laidMet Tryz.prog [a, b, c, d, e, ("strconv.ErrSyntax", Rows.laid_strconv_ErrSyntax), f] W) (hsh : W.ShapedOpen Tryz.prog) :
    Calls Tryz.prog 7 #[.string s] W fun e w' => e = .returned (.bool true) ∧ Below W.heap.size W w' := by
  obtain ⟨m, hm⟩ := maxlen_shaped hsh
  obtain ⟨x, hx⟩ := syntax_laid hL.tail.tail.tail.tail.tail
  exact exact_asm s hs W m hm x hx
end Go.Proofs.YtboeaeoefoabdaaGreatDoor
