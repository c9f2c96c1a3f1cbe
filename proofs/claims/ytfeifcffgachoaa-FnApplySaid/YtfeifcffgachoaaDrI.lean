/-
  The walk of the model's draw of a number.
  Conditions: the draw has at most 1048576 bytes.
-/
import Derived.Test.YtfeifcffgachoaaDrA
import Derived.Deep.RegionHeld3
namespace Go.Proofs.Ytfeifcffgachoaa
open Go.RowKit
set_option maxHeartbeats 1000000 in
theorem l01Int_any {B g n c : Nat} {A : Option Addr} {w : World} (h : Drawn B g n c A w) :
    Calls Try.prog 65 #[.pointer (some ⟨g, 0, none⟩)] w (DrawPost (-9223372036854775808) 9223372036854775807 g A n c w) := by
  have hy := l01Below_any h 100000 (by omega) (by omega)
  have H := Lib.hid h
  clear h
  go_enter Try.func65, Try.ntmps65
  go_wp2_with (go_at_call 62; refine hy.mono ?_; rintro e w1 ⟨x, rfl, h0, h1, hc, hg⟩; refine Hid.out ?_)
  have hP := pickInt_new (H.out.next hc hg) [.int .i64 0, .int .i64 1, .int .i64 (-1), .int .i64 255, .int .i64 256, .int .i64 65535, .int .i64 65536, .int .i64 999999999, .int .i64 9223372036854775807, .int .i64 (-9223372036854775808), .int .i64 x] (k := 11) rfl (by omega) (by omega)
    (by repeat (first | exact allI_nil | refine allI_cons ⟨by omega, by omega⟩ ?_))
  clear hy hc
  refine Lib.hid ?_
  go_wp2_with (go_at_call 61; refine hP.mono ?_; rintro e w2 ⟨y, rfl, y0, y1, hc2, hg2⟩)
  go_ret
  exact ⟨y, rfl, y0, y1, hc2, grown_trans hg hg2⟩
def IntPost (w : World) (e : Ending) (w' : World) : Prop := ∃ x : Int, e = .returned (.int .i64 x) ∧ I64 x ∧ Below w.heap.size w w'
theorem new_drawn {B n c : Nat} {A : Option Addr} {w w1 : World} (hB : B ≤ w.heap.size) (hcode : Code w B A n) (hc : Cur w1 w.heap.size A n c) (hb : Below w.heap.size w w1) : Drawn B w.heap.size n c A w1 :=
  ⟨Nat.le_trans hB hb.size, hB, hcode.below hB hb, hc⟩
end Go.Proofs.Ytfeifcffgachoaa
