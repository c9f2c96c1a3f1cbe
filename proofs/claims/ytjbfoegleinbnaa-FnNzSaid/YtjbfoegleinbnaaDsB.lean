/-
  The walks of the draws DrawWith, DrawNz, DrawShift of the model (chapter 2).
  Conditions: the draw has at most 1048576 bytes.
-/
import Derived.Test.YtjbfoegleinbnaaDsA
namespace Go.Proofs.Ytjbfoegleinbnaa
open Go.RowKit
def DrawTwo (w : World) (e : Ending) (w' : World) : Prop := ∃ p v : Int, e = .returned (.tuple #[.int .i64 p, .int .i64 v]) ∧ Below w.heap.size w w'
def DrawFlag (w : World) (e : Ending) (w' : World) : Prop := ∃ (p f : Int) (on : Bool), e = .returned (.tuple #[.int .i64 p, .int .i64 f, .bool on]) ∧ Below w.heap.size w w'
theorem drawNz_any (B n c : Nat) (A : Option Addr) (w : World) (hB : B ≤ w.heap.size) (hcode : Code w B A n) :
    Calls Try.prog 48 #[.slice A n c] w (DrawTwo w) := by
  have hN := l01New_any B n c A w hcode
  have HD := fun (w1 : World) hc hb => new_drawn (c := c) (w1 := w1) hB hcode hc hb
  clear hcode
  unfold NewPost at hN
  go_enter Try.func48, Try.ntmps48
  go_wp2_with (go_at_call 68; refine hN.mono ?_; rintro e w1 ⟨rfl, hc, hb⟩; refine Hid.out ?_)
  have hD := HD w1 hc hb
  have hP := l02Odd_any hD
  have H := Lib.hid hD
  clear hN HD hc hD
  refine Lib.hid ?_
  go_wp2_with (go_at_call 69; refine hP.mono ?_; rintro e w2 ⟨p, rfl, p0, p1, hc, hg2⟩; refine Hid.out ?_)
  have hD := H.out.next hc hg2
  have hb2 := hb.grown hg2 hb.size (fun k hk => by cases hk; exact Nat.le_refl _)
  clear hP hc H hb hg2
  have hV := l02Odd_any hD
  clear hD
  refine Lib.hid ?_
  go_wp2_with (go_at_call 69; refine hV.mono ?_; rintro e w3 ⟨v, rfl, v0, v1, hc, hg3⟩)
  go_ret2
  exact ⟨p, v, rfl, hb2.grown hg3 hb2.size (fun k hk => by cases hk; exact Nat.le_refl _)⟩
theorem drawShift_any (B n c : Nat) (A : Option Addr) (w : World) (hB : B ≤ w.heap.size) (hcode : Code w B A n) :
    Calls Try.prog 61 #[.slice A n c] w (DrawThree w) := by
  have hN := l01New_any B n c A w hcode
  have HD := fun (w1 : World) hc hb => new_drawn (c := c) (w1 := w1) hB hcode hc hb
  clear hcode
  unfold NewPost at hN
  go_enter Try.func61, Try.ntmps61
  go_wp2_with (go_at_call 68; refine hN.mono ?_; rintro e w1 ⟨rfl, hc, hb⟩; refine Hid.out ?_)
  have hD := HD w1 hc hb
  have hP := l02Odd_any hD
  have H := Lib.hid hD
  clear hN HD hc hD
  refine Lib.hid ?_
  go_wp2_with (go_at_call 69; refine hP.mono ?_; rintro e w2 ⟨p, rfl, p0, p1, hc, hg2⟩; refine Hid.out ?_)
  have hD := H.out.next hc hg2
  have hb2 := hb.grown hg2 hb.size (fun k hk => by cases hk; exact Nat.le_refl _)
  clear hP hc H hb hg2
  have hK := l01Below_any hD 6 (by omega) (by omega)
  have H := Lib.hid hD
  clear hD
  refine Lib.hid ?_
  go_wp2_with (go_at_call 92; refine hK.mono ?_; rintro e w3 ⟨x, rfl, x0, x1, hc, hg3⟩; refine Hid.out ?_)
  have hV := l02Odd_any (H.out.next hc hg3)
  have hb3 := hb2.grown hg3 hb2.size (fun k hk => by cases hk; exact Nat.le_refl _)
  clear hK H hc hg3 hb2
  refine Lib.hid ?_
  go_wp2_with (go_at_call 69; refine hV.mono ?_; rintro e w4 ⟨v, rfl, v0, v1, hc, hg4⟩)
  go_ret3
  exact ⟨p, _, v, rfl, hb3.grown hg4 hb3.size (fun k hk => by cases hk; exact Nat.le_refl _)⟩
theorem drawWith_any (B n c : Nat) (A : Option Addr) (w : World) (hB : B ≤ w.heap.size) (hcode : Code w B A n) :
    Calls Try.prog 45 #[.slice A n c] w (DrawFlag w) := by
  have hN := l01New_any B n c A w hcode
  have HD := fun (w1 : World) hc hb => new_drawn (c := c) (w1 := w1) hB hcode hc hb
  clear hcode
  unfold NewPost at hN
  go_enter Try.func45, Try.ntmps45
  go_wp2_with (go_at_call 68; refine hN.mono ?_; rintro e w1 ⟨rfl, hc, hb⟩; refine Hid.out ?_)
  have hD := HD w1 hc hb
  have hP := l02Odd_any hD
  have H := Lib.hid hD
  clear hN HD hc hD
  refine Lib.hid ?_
  go_wp2_with (go_at_call 69; refine hP.mono ?_; rintro e w2 ⟨p, rfl, p0, p1, hc, hg2⟩; refine Hid.out ?_)
  have hD := H.out.next hc hg2
  have hb2 := hb.grown hg2 hb.size (fun k hk => by cases hk; exact Nat.le_refl _)
  clear hP hc H hb hg2
  have hP := pickInt_new hD [.int .i64 1, .int .i64 2, .int .i64 4, .int .i64 8, .int .i64 16, .int .i64 32, .int .i64 64, .int .i64 128, .int .i64 0, .int .i64 255] (k := 10) rfl (by omega) (by omega)
    (by repeat (first | exact allI_nil | refine allI_cons ⟨by omega, by omega⟩ ?_))
  have H := Lib.hid hD
  clear hD
  refine Lib.hid ?_
  go_wp2_with (go_at_call 85; refine hP.mono ?_; rintro e w3 ⟨f, rfl, f0, f1, hc, hg3⟩; refine Hid.out ?_)
  have hO := l01Once_any (H.out.next hc hg3) 2 (by omega) (by omega)
  have hb3 := hb2.grown hg3 hb2.size (fun k hk => by cases hk; exact Nat.le_refl _)
  clear hP H hc hg3 hb2
  refine Lib.hid ?_
  go_wp2_with (go_at_call 73; refine hO.mono ?_; rintro e w4 ⟨on, rfl, hc, hg4⟩)
  go_ret3
  exact ⟨p, f, on, rfl, hb3.grown hg4 hb3.size (fun k hk => by cases hk; exact Nat.le_refl _)⟩
end Go.Proofs.Ytjbfoegleinbnaa
