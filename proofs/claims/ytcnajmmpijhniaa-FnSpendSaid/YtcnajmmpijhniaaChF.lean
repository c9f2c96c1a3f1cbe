/-
  The walks of the draws of chapter 6: a word, a chip, a chip a part of which may be out of its bounds, a register's number; old memory stays as it was.
  Conditions: the draw has at most 1048576 bytes.
-/
import Derived.Test.YtcnajmmpijhniaaDsA
import Derived.Test.YtcnajmmpijhniaaDrC
import Derived.Test.YtcnajmmpijhniaaChC
import Derived.Test.YtcnajmmpijhniaaBlk
namespace Go.Proofs.Ytcnajmmpijhniaa
open Go.RowKit
def AnyPost (g : Nat) (A : Option Addr) (n c : Nat) (w : World) : Ending → World → Prop := DrawPost (-9223372036854775808) 9223372036854775807 g A n c w
def ChipPost (g : Nat) (A : Option Addr) (n c : Nat) (w : World) (e : Ending) (w' : World) : Prop :=
  ∃ x : ChipI, x.fits ∧ e = .returned (chipV x) ∧ Cur w' g A n c ∧ w.grownBy w' (some g)
theorem l06Reg_any {B g n c : Nat} {A : Option Addr} {w : World} (h : Drawn B g n c A w) :
    Calls Try.prog 48 #[.pointer (some ⟨g, 0, none⟩)] w (AnyPost g A n c w) := by
  have hy := l01Once_any h 8 (by omega) (by omega)
  have H := Lib.hid h
  clear h
  go_enter Try.func48, Try.ntmps48
  go_wp2_with (go_at_call 36; refine hy.mono ?_; rintro e w1 ⟨on, rfl, hc, hg⟩; refine Hid.out ?_)
  have H1 := Lib.hid (H.out.next hc hg)
  have G := Lib.hid hg
  clear H hy hc hg
  cases on
  · have hP := l01Below_any H1.out 16 (by omega) (by omega)
    refine Lib.hid ?_
    go_wp2_with (go_at_call 37; refine hP.mono ?_; rintro e w2 ⟨x, rfl, x0, x1, hc, hg⟩)
    go_ret
    exact ⟨x, rfl, by omega, by omega, hc, grown_trans G.out hg⟩
  · have hP := pickInt_new H1.out [.int .i64 (-1), .int .i64 16, .int .i64 20, .int .i64 9223372036854775807] (k := 4) rfl (by omega) (by omega)
      (by repeat (first | exact allI_nil | refine allI_cons ⟨by omega, by omega⟩ ?_))
    refine Lib.hid ?_
    go_wp2_with (go_at_call 53; refine hP.mono ?_; rintro e w2 ⟨x, rfl, x0, x1, hc, hg⟩)
    go_ret
    exact ⟨x, rfl, x0, x1, hc, grown_trans G.out hg⟩
theorem fits_c1 {x : ChipI} (h : x.fits) {v : Int} (hv : i64I v) : ({ x with c1 := v } : ChipI).fits := ⟨hv, h.l1, h.c2, h.o2, h.pt, h.dr, h.fl, h.ms⟩
end Go.Proofs.Ytcnajmmpijhniaa
