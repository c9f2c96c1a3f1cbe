/-
  The walk of the law FnExactDecText: both DecText give the decimal digits, so the law returns true; old memory stays as it was.
  Conditions: the table of powers of ten of Go's library is as its initialiser lays it.
-/
import Derived.Test.YtmhlplaglnopfaaDoorDcB
import Derived.Test.YtmhlplaglnopfaaDoorLd
namespace Go.Proofs.YtmhlplaglnopfaaDoor
open Go.RowKit Go.Lib
theorem i64_of_wf {n : Int} (h : (Lit.int .i64 n).wf = true) : -9223372036854775808 ≤ n ∧ n ≤ 9223372036854775807 := by
  simpa [Lit.wf, IntKind.min, IntKind.max, IntKind.signed, IntKind.bits] using h
theorem impl_dec (n : Int) (h0 : -9223372036854775808 ≤ n) (h1 : n ≤ 9223372036854775807) (w : World) (htab : TabIs Tryd.prog w "internal/strconv.uint64pow10" .u64 pow10Tab) :
    Calls Tryd.prog 13 #[.int .i64 n] w fun e w' => e = .returned (.string ⟨(itoa n).toArray⟩) ∧ Below w.heap.size w w' := by
  go_enter Tryd.func13, Tryd.ntmps13
  go_wp2_with (go_at_call 36; refine (Tryd.strconv_Itoa n h0 h1 _ htab).mono ?_; rintro e w' ⟨rfl, q, os, rfl⟩)
  go_ret
  exact ⟨rfl, below_new _ _ _⟩
theorem dec_walk (n : Int) (wn : (Lit.int .i64 n).wf = true) (W : World) (hL : laidMet Tryd.prog Rows.fnExactDecTextRow.laid W) :
    Calls Tryd.prog 6 #[.int .i64 n] W fun e w' => e = .returned (.bool true) ∧ Below W.heap.size W w' := by
  obtain ⟨h0, h1⟩ := i64_of_wf wn
  have htab := tab10 hL
  clear wn hL
  go_enter Tryd.func6, Tryd.ntmps6
  go_wp2_with (first
    | (go_at_call 15; refine (spec_dec n h0 h1 _).mono ?_; rintro e w' ⟨rfl, rfl⟩)
    | (go_at_call 13; refine (impl_dec n h0 h1 _ htab).mono ?_; rintro e w' ⟨rfl, hb⟩))
  go_ret
  exact ⟨rfl, hb⟩
end Go.Proofs.YtmhlplaglnopfaaDoor
