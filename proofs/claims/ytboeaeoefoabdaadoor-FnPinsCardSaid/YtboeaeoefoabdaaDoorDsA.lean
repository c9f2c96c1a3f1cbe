/-
  The walks of the draws of the model for the reckoning (chapter 2): each draw returns numbers (and a bool), and leaves old memory as it was.
  Conditions: the draw has at most 1048576 bytes.
-/
import Derived.Test.YtboeaeoefoabdaaDoorDrI
import Derived.Test.YtboeaeoefoabdaaDoorAlA
namespace Go.Proofs.YtboeaeoefoabdaaDoor
open Go.RowKit
def AnyInt (g : Nat) (A : Option Addr) (n c : Nat) (w : World) (e : Ending) (w' : World) : Prop := DrawPost (-9223372036854775808) 9223372036854775807 g A n c w e w'
set_option maxHeartbeats 1000000 in
theorem l02Byte_any {B g n c : Nat} {A : Option Addr} {w : World} (h : Drawn B g n c A w) :
    Calls Tryd.prog 29 #[.pointer (some ⟨g, 0, none⟩)] w (DrawPost (-9223372036854775808) 9223372036854775807 g A n c w) := by
  have hy := l01Below_any h 256 (by omega) (by omega)
  have H := Lib.hid h
  clear h
  go_enter Tryd.func29, Tryd.ntmps29
  go_wp2_with (go_at_call 30; refine hy.mono ?_; rintro e w1 ⟨x, rfl, h0, h1, hc, hg⟩; refine Hid.out ?_)
  have hP := pickInt_new (H.out.next hc hg) [.int .i64 0, .int .i64 1, .int .i64 9, .int .i64 10, .int .i64 15, .int .i64 16, .int .i64 127, .int .i64 128, .int .i64 153, .int .i64 154, .int .i64 255, .int .i64 x] (k := 12) rfl (by omega) (by omega)
    (by repeat (first | exact allI_nil | refine allI_cons ⟨by omega, by omega⟩ ?_))
  clear hy hc
  refine Lib.hid ?_
  go_wp2_with (go_at_call 16; refine hP.mono ?_; rintro e w2 ⟨y, rfl, y0, y1, hc2, hg2⟩)
  go_ret
  exact ⟨y, rfl, y0, y1, hc2, grown_trans hg hg2⟩
def ThreePost (g : Nat) (A : Option Addr) (n c : Nat) (w : World) (e : Ending) (w' : World) : Prop :=
  ∃ p a b : Int, e = .returned (.tuple #[.int .i64 p, .int .i64 a, .int .i64 b]) ∧ I64 p ∧ I64 a ∧ I64 b ∧ Cur w' g A n c ∧ w.grownBy w' (some g)
/-- What a draw answers that asks for three numbers. -/
def DrawThree (w : World) (e : Ending) (w' : World) : Prop :=
  ∃ p a b : Int, e = .returned (.tuple #[.int .i64 p, .int .i64 a, .int .i64 b]) ∧ Below w.heap.size w w'
end Go.Proofs.YtboeaeoefoabdaaDoor
