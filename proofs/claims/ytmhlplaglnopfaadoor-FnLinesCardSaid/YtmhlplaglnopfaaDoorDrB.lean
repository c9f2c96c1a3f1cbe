/-
  The walks of the draws for the texts of the model (chapter 1): each draw returns, an int or a text of at most 1000 bytes, and leaves old memory as it was.
  Conditions: the draw has at most 1048576 bytes.
-/
import Derived.Test.YtmhlplaglnopfaaDoorDrA
import Derived.Test.YtmhlplaglnopfaaDoorDcB
import Derived.Deep.RegionHeld3
namespace Go.Proofs.YtmhlplaglnopfaaDoor
open Go.RowKit
set_option maxHeartbeats 1000000 in
theorem l01Int_any {B g n c : Nat} {A : Option Addr} {w : World} (h : Drawn B g n c A w) :
    Calls Tryd.prog 35 #[.pointer (some ⟨g, 0, none⟩)] w (DrawPost (-9223372036854775808) 9223372036854775807 g A n c w) := by
  have hy := l01Below_any h 100000 (by omega) (by omega)
  have H := Lib.hid h
  clear h
  go_enter Tryd.func35, Tryd.ntmps35
  go_wp2_with (go_at_call 39; refine hy.mono ?_; rintro e w1 ⟨x, rfl, h0, h1, hc, hg⟩; refine Hid.out ?_)
  have hP := pickInt_new (H.out.next hc hg) [.int .i64 0, .int .i64 1, .int .i64 (-1), .int .i64 255, .int .i64 256, .int .i64 65535, .int .i64 65536, .int .i64 999999999, .int .i64 9223372036854775807, .int .i64 (-9223372036854775808), .int .i64 x] (k := 11) rfl (by omega) (by omega)
    (by repeat (first | exact allI_nil | refine allI_cons ⟨by omega, by omega⟩ ?_))
  clear hy hc
  refine Lib.hid ?_
  go_wp2_with (go_at_call 42; refine hP.mono ?_; rintro e w2 ⟨y, rfl, y0, y1, hc2, hg2⟩)
  go_ret
  exact ⟨y, rfl, y0, y1, hc2, grown_trans hg hg2⟩
def IntPost (w : World) (e : Ending) (w' : World) : Prop := ∃ x : Int, e = .returned (.int .i64 x) ∧ I64 x ∧ Below w.heap.size w w'
def StrPost (w : World) (e : Ending) (w' : World) : Prop := ∃ s : ByteArray, e = .returned (.string s) ∧ s.size ≤ 1000 ∧ Below w.heap.size w w'
theorem new_drawn {B n c : Nat} {A : Option Addr} {w w1 : World} (hB : B ≤ w.heap.size) (hcode : Code w B A n) (hc : Cur w1 w.heap.size A n c) (hb : Below w.heap.size w w1) : Drawn B w.heap.size n c A w1 :=
  ⟨Nat.le_trans hB hb.size, hB, hcode.below hB hb, hc⟩
theorem drawDecText_any (B n c : Nat) (A : Option Addr) (w : World) (hB : B ≤ w.heap.size) (hcode : Code w B A n) :
    Calls Tryd.prog 12 #[.slice A n c] w (IntPost w) := by
  have hN := l01New_any B n c A w hcode
  have HD := fun (w1 : World) hc hb => new_drawn (c := c) (w1 := w1) hB hcode hc hb
  clear hcode
  unfold NewPost at hN
  go_enter Tryd.func12, Tryd.ntmps12
  go_wp2_with (go_at_call 34; refine hN.mono ?_; rintro e w1 ⟨rfl, hc, hb⟩; refine Hid.out ?_)
  have hI := l01Int_any (HD w1 hc hb)
  clear hN HD hc
  refine Lib.hid ?_
  go_wp2_with (go_at_call 35; refine hI.mono ?_; rintro e w2 ⟨x, rfl, x0, x1, hc2, hg2⟩)
  go_ret
  exact ⟨x, rfl, ⟨x0, x1⟩, hb.grown hg2 hb.size (fun k hk => by cases hk; exact Nat.le_refl _)⟩
theorem itoa_size (x : Nat) (h : x ≤ 9223372036854775807) : (⟨(Lib.itoa (x : Int)).toArray⟩ : ByteArray).size ≤ 1000 := by
  have := decDigits_le20 x (by omega)
  show (Lib.itoa (x : Int)).toArray.size ≤ 1000
  unfold Lib.itoa
  rw [if_neg (by omega)]
  simp; omega
set_option maxHeartbeats 1000000 in
theorem drawReadDec_any (B n c : Nat) (A : Option Addr) (w : World) (hB : B ≤ w.heap.size) (hcode : Code w B A n) :
    Calls Tryd.prog 14 #[.slice A n c] w (StrPost w) := by
  have hN := l01New_any B n c A w hcode
  have HD := fun (w1 : World) hc hb => new_drawn (c := c) (w1 := w1) hB hcode hc hb
  clear hcode
  unfold NewPost at hN
  go_enter Tryd.func14, Tryd.ntmps14
  go_wp2_with (go_at_call 34; refine hN.mono ?_; rintro e w1 ⟨rfl, hc, hb⟩; refine Hid.out ?_)
  have hD := HD w1 hc hb
  have hI := l01Once_any hD 2 (by omega) (by omega)
  have H := Lib.hid hD
  clear hN HD hc hD
  refine Lib.hid ?_
  go_wp2_with (go_at_call 37; refine hI.mono ?_; rintro e w2 ⟨x, rfl, hc2, hg2⟩; refine Hid.out ?_)
  have hD2 := H.out.next hc2 hg2
  have hb2 := hb.grown hg2 hb.size (fun k hk => by cases hk; exact Nat.le_refl _)
  clear hI H hc2 hg2 hb
  cases x
  · have hI := l01Below_any hD2 100000 (by omega) (by omega)
    clear hD2
    refine Lib.hid ?_
    go_wp2_with (go_at_call 39; refine hI.mono ?_; rintro e w3 ⟨x, rfl, x0, x1, hc3, hg3⟩; refine Hid.out ?_)
    obtain ⟨X, rfl⟩ : ∃ X : Nat, x = X := ⟨x.toNat, by omega⟩
    have hb3 := hb2.grown hg3 hb2.size (fun k hk => by cases hk; exact Nat.le_refl _)
    have hS := spec_dec (X : Int) (by omega) (by omega)
    have hz := itoa_size X (by omega)
    clear hI hb2 hg3 hc3
    refine Lib.hid ?_
    go_wp2_with (go_at_call 15; refine (hS _).mono ?_; rintro e w' ⟨rfl, rfl⟩)
    go_ret
    exact ⟨_, rfl, hz, hb3⟩
  · have hP := pick_new hD2 [.string ⟨#[]⟩, .string ⟨#[45, 49]⟩, .string ⟨#[48, 48]⟩, .string ⟨#[48, 49]⟩, .string ⟨#[49, 120]⟩, .string ⟨#[57, 57, 57, 57, 57, 57, 57, 57, 57]⟩, .string ⟨#[49, 48, 48, 48, 48, 48, 48, 48, 48, 48]⟩, .string ⟨#[49, 56, 52, 52, 54, 55, 52, 52, 48, 55, 51, 55, 48, 57, 53, 53, 49, 54, 49, 55]⟩] (k := 8) rfl (by omega) (by omega)
      (by repeat (first | exact allS_nil | refine allS_cons (by decide) ?_))
    clear hD2
    refine Lib.hid ?_
    go_wp2_with (go_at_call 38; refine hP.mono ?_; rintro e w3 ⟨s, rfl, hs, hc3, hg3⟩)
    go_ret
    exact ⟨s, rfl, by omega, hb2.grown hg3 hb2.size (fun k hk => by cases hk; exact Nat.le_refl _)⟩
end Go.Proofs.YtmhlplaglnopfaaDoor
