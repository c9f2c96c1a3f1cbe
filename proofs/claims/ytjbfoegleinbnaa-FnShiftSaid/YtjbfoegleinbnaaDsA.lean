/-
  The walks of the draws of the model for the reckoning (chapter 2): each draw returns numbers (and a bool), and leaves old memory as it was.
  Conditions: the draw has at most 1048576 bytes.
-/
import Derived.Test.YtjbfoegleinbnaaDrI
import Derived.Test.YtjbfoegleinbnaaAlA
namespace Go.Proofs.Ytjbfoegleinbnaa
open Go.RowKit
def AnyInt (g : Nat) (A : Option Addr) (n c : Nat) (w : World) (e : Ending) (w' : World) : Prop := DrawPost (-9223372036854775808) 9223372036854775807 g A n c w e w'
set_option maxHeartbeats 1000000 in
theorem l02Byte_any {B g n c : Nat} {A : Option Addr} {w : World} (h : Drawn B g n c A w) :
    Calls Try.prog 72 #[.pointer (some ⟨g, 0, none⟩)] w (DrawPost (-9223372036854775808) 9223372036854775807 g A n c w) := by
  have hy := l01Below_any h 256 (by omega) (by omega)
  have H := Lib.hid h
  clear h
  go_enter Try.func72, Try.ntmps72
  go_wp2_with (go_at_call 92; refine hy.mono ?_; rintro e w1 ⟨x, rfl, h0, h1, hc, hg⟩; refine Hid.out ?_)
  have hP := pickInt_new (H.out.next hc hg) [.int .i64 0, .int .i64 1, .int .i64 9, .int .i64 10, .int .i64 15, .int .i64 16, .int .i64 127, .int .i64 128, .int .i64 153, .int .i64 154, .int .i64 255, .int .i64 x] (k := 12) rfl (by omega) (by omega)
    (by repeat (first | exact allI_nil | refine allI_cons ⟨by omega, by omega⟩ ?_))
  clear hy hc
  refine Lib.hid ?_
  go_wp2_with (go_at_call 85; refine hP.mono ?_; rintro e w2 ⟨y, rfl, y0, y1, hc2, hg2⟩)
  go_ret
  exact ⟨y, rfl, y0, y1, hc2, grown_trans hg hg2⟩
theorem l02Odd_any {B g n c : Nat} {A : Option Addr} {w : World} (h : Drawn B g n c A w) :
    Calls Try.prog 69 #[.pointer (some ⟨g, 0, none⟩)] w (DrawPost (-9223372036854775808) 9223372036854775807 g A n c w) := by
  have hy := l01Once_any h 12 (by omega) (by omega)
  have H := Lib.hid h
  clear h
  go_enter Try.func69, Try.ntmps69
  go_wp2_with (go_at_call 73; refine hy.mono ?_; rintro e w1 ⟨x, rfl, hc, hg⟩; refine Hid.out ?_)
  have hD := H.out.next hc hg
  have hI := l01Int_any hD
  have hB := l02Byte_any hD
  clear hy hc hD
  cases x
  · refine Lib.hid ?_
    go_wp2_with (go_at_call 72; refine hB.mono ?_; rintro e w2 ⟨y, rfl, y0, y1, hc2, hg2⟩)
    go_ret
    exact ⟨y, rfl, y0, y1, hc2, grown_trans hg hg2⟩
  · refine Lib.hid ?_
    go_wp2_with (go_at_call 98; refine hI.mono ?_; rintro e w2 ⟨y, rfl, y0, y1, hc2, hg2⟩)
    go_ret
    exact ⟨y, rfl, y0, y1, hc2, grown_trans hg hg2⟩
def ThreePost (g : Nat) (A : Option Addr) (n c : Nat) (w : World) (e : Ending) (w' : World) : Prop :=
  ∃ p a b : Int, e = .returned (.tuple #[.int .i64 p, .int .i64 a, .int .i64 b]) ∧ I64 p ∧ I64 a ∧ I64 b ∧ Cur w' g A n c ∧ w.grownBy w' (some g)
set_option maxHeartbeats 1000000 in
theorem l02Three_any {B g n c : Nat} {A : Option Addr} {w : World} (h : Drawn B g n c A w) :
    Calls Try.prog 87 #[.pointer (some ⟨g, 0, none⟩)] w (ThreePost g A n c w) := by
  have hy := l02Byte_any h
  have H := Lib.hid h
  have HW := Lib.hid spec_with
  clear h
  go_enter Try.func87, Try.ntmps87
  go_wp2_with (go_at_call 72; refine hy.mono ?_; rintro e w1 ⟨p, rfl, p0, p1, hc, hg⟩; refine Hid.out ?_)
  have hD := H.out.next hc hg
  have hO := l01Once_any hD 2 (by omega) (by omega)
  clear hy hc H
  have H := Lib.hid hD
  clear hD
  refine Lib.hid ?_
  go_wp2_with (go_at_call 73; refine hO.mono ?_; rintro e w2 ⟨x, rfl, hc, hg2⟩; refine Hid.out ?_)
  have hD := H.out.next hc hg2
  have hG2 := grown_trans hg hg2
  clear hO hc H hg hg2
  cases x
  · have hA := l02Odd_any hD
    have H := Lib.hid hD
    clear hD
    refine Lib.hid ?_
    go_wp2_with (go_at_call 69; refine hA.mono ?_; rintro e w3 ⟨a, rfl, a0, a1, hc, hg3⟩; refine Hid.out ?_)
    have hD := H.out.next hc hg3
    have hB := l02Odd_any hD
    clear hA hc H hD
    refine Lib.hid ?_
    go_wp2_with (go_at_call 69; refine hB.mono ?_; rintro e w4 ⟨b, rfl, b0, b1, hc, hg4⟩)
    go_ret3
    exact ⟨p, a, b, rfl, ⟨p0, p1⟩, ⟨a0, a1⟩, ⟨b0, b1⟩, hc, grown_trans (grown_trans hG2 hg3) hg4⟩
  · have hO := l01Once_any hD 2 (by omega) (by omega)
    have H := Lib.hid hD
    clear hD
    refine Lib.hid ?_
    go_wp2_with (go_at_call 73; refine hO.mono ?_; rintro e w3 ⟨on, rfl, hc, hg3⟩; refine Hid.out ?_)
    have hD := H.out.next hc hg3
    have hA := l02Odd_any hD
    have hG3 := grown_trans hG2 hg3
    have hb := wI_bd p 8 on
    clear hO hc H hg3 hG2
    have H := Lib.hid hD
    clear hD
    refine Lib.hid ?_
    go_wp2_with (first
      | (go_at_call 47; refine (HW.out _ _ _ _).mono ?_; rintro e w' ⟨rfl, rfl⟩)
      | (go_at_call 69; refine hA.mono ?_; rintro e w4 ⟨a, rfl, a0, a1, hc, hg4⟩; refine Hid.out ?_))
    have hD := H.out.next hc hg4
    have hB := l02Odd_any hD
    clear hA hc H hD
    refine Lib.hid ?_
    go_wp2_with (go_at_call 69; refine hB.mono ?_; rintro e w5 ⟨b, rfl, b0, b1, hc, hg5⟩)
    go_ret3
    exact ⟨_, a, b, rfl, ⟨by omega, by omega⟩, ⟨a0, a1⟩, ⟨b0, b1⟩, hc, grown_trans (grown_trans hG3 hg4) hg5⟩
/-- What a draw answers that asks for three numbers. -/
def DrawThree (w : World) (e : Ending) (w' : World) : Prop :=
  ∃ p a b : Int, e = .returned (.tuple #[.int .i64 p, .int .i64 a, .int .i64 b]) ∧ Below w.heap.size w w'
theorem drawAdd_any (B n c : Nat) (A : Option Addr) (w : World) (hB : B ≤ w.heap.size) (hcode : Code w B A n) :
    Calls Try.prog 51 #[.slice A n c] w (DrawThree w) := by
  have hN := l01New_any B n c A w hcode
  have HD := fun (w1 : World) hc hb => new_drawn (c := c) (w1 := w1) hB hcode hc hb
  clear hcode
  unfold NewPost at hN
  go_enter Try.func51, Try.ntmps51
  go_wp2_with (go_at_call 68; refine hN.mono ?_; rintro e w1 ⟨rfl, hc, hb⟩; refine Hid.out ?_)
  have hI := l02Three_any (HD w1 hc hb)
  clear hN HD hc
  refine Lib.hid ?_
  go_wp2_with (go_at_call 87; refine hI.mono ?_; rintro e w2 ⟨p, a, b, rfl, hp, ha, hb', hc2, hg2⟩)
  go_ret3
  exact ⟨p, a, b, rfl, hb.grown hg2 hb.size (fun k hk => by cases hk; exact Nat.le_refl _)⟩
theorem drawSub_any (B n c : Nat) (A : Option Addr) (w : World) (hB : B ≤ w.heap.size) (hcode : Code w B A n) :
    Calls Try.prog 54 #[.slice A n c] w (DrawThree w) := by
  have hN := l01New_any B n c A w hcode
  have HD := fun (w1 : World) hc hb => new_drawn (c := c) (w1 := w1) hB hcode hc hb
  clear hcode
  unfold NewPost at hN
  go_enter Try.func54, Try.ntmps54
  go_wp2_with (go_at_call 68; refine hN.mono ?_; rintro e w1 ⟨rfl, hc, hb⟩; refine Hid.out ?_)
  have hI := l02Three_any (HD w1 hc hb)
  clear hN HD hc
  refine Lib.hid ?_
  go_wp2_with (go_at_call 87; refine hI.mono ?_; rintro e w2 ⟨p, a, b, rfl, hp, ha, hb', hc2, hg2⟩)
  go_ret3
  exact ⟨p, a, b, rfl, hb.grown hg2 hb.size (fun k hk => by cases hk; exact Nat.le_refl _)⟩
theorem drawCompare_any (B n c : Nat) (A : Option Addr) (w : World) (hB : B ≤ w.heap.size) (hcode : Code w B A n) :
    Calls Try.prog 66 #[.slice A n c] w (DrawThree w) := by
  have hN := l01New_any B n c A w hcode
  have HD := fun (w1 : World) hc hb => new_drawn (c := c) (w1 := w1) hB hcode hc hb
  clear hcode
  unfold NewPost at hN
  go_enter Try.func66, Try.ntmps66
  go_wp2_with (go_at_call 68; refine hN.mono ?_; rintro e w1 ⟨rfl, hc, hb⟩; refine Hid.out ?_)
  have hI := l02Three_any (HD w1 hc hb)
  clear hN HD hc
  refine Lib.hid ?_
  go_wp2_with (go_at_call 87; refine hI.mono ?_; rintro e w2 ⟨p, a, b, rfl, hp, ha, hb', hc2, hg2⟩)
  go_ret3
  exact ⟨p, a, b, rfl, hb.grown hg2 hb.size (fun k hk => by cases hk; exact Nat.le_refl _)⟩
theorem drawBit_any (B n c : Nat) (A : Option Addr) (w : World) (hB : B ≤ w.heap.size) (hcode : Code w B A n) :
    Calls Try.prog 64 #[.slice A n c] w (DrawThree w) := by
  have hN := l01New_any B n c A w hcode
  have HD := fun (w1 : World) hc hb => new_drawn (c := c) (w1 := w1) hB hcode hc hb
  clear hcode
  unfold NewPost at hN
  go_enter Try.func64, Try.ntmps64
  go_wp2_with (go_at_call 68; refine hN.mono ?_; rintro e w1 ⟨rfl, hc, hb⟩; refine Hid.out ?_)
  have hI := l02Three_any (HD w1 hc hb)
  clear hN HD hc
  refine Lib.hid ?_
  go_wp2_with (go_at_call 87; refine hI.mono ?_; rintro e w2 ⟨p, a, b, rfl, hp, ha, hb', hc2, hg2⟩)
  go_ret3
  exact ⟨p, a, b, rfl, hb.grown hg2 hb.size (fun k hk => by cases hk; exact Nat.le_refl _)⟩
end Go.Proofs.Ytjbfoegleinbnaa
