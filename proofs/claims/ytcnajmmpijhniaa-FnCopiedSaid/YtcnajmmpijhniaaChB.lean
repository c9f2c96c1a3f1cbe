/-
  The walks of spec.ChipOk, spec.Asks and spec.TickChip (chapter 6).
  Conditions: the numbers are those of their kind; each walk leaves old memory as it was.
-/
import Derived.Test.YtcnajmmpijhniaaChA
import Derived.Test.YtcnajmmpijhniaaRgC
import Derived.Test.YtcnajmmpijhniaaRow
namespace Go.Proofs.Ytcnajmmpijhniaa
open Go.RowKit
theorem spec_word (n : Int) (w : World) : Calls Try.prog 43 #[.int .i64 n] w fun e w' => e = .returned (.bool (isAd n)) ∧ w = w' := by
  have H := Lib.hid (spec_addr n)
  go_enter Try.func43, Try.ntmps43
  go_wp2_with (go_at_call 42; refine (H.out _).mono ?_; rintro e w' ⟨rfl, rfl⟩)
  go_ret
  exact ⟨rfl, rfl⟩
theorem chipV_mk (c1 l1 : Int) (v1 ag : Bool) (c2 o2 : Int) (v2 : Bool) (pt dr fl ms : Int) : chipV ⟨c1, l1, v1, ag, c2, o2, v2, pt, dr, fl, ms⟩ = .agg #[.int .i64 c1, .int .i64 l1, .bool v1, .bool ag, .int .i64 c2, .int .i64 o2, .bool v2, .int .i64 pt, .int .i64 dr, .int .i64 fl, .int .i64 ms] := rfl
def zeroC : Array Value := #[.int .i64 0, .int .i64 0, .bool false, .bool false, .int .i64 0, .int .i64 0, .bool false, .int .i64 0, .int .i64 0, .int .i64 0, .int .i64 0]
end Go.Proofs.Ytcnajmmpijhniaa
