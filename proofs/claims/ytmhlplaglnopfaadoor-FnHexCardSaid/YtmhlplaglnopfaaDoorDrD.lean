/-
  The walks of DrawHexText and DrawReadHex of the model: two ints; a text of at most 1100 bytes; old memory stays as it was.
  Conditions: the draw has at most 1048576 bytes.
-/
import Derived.Test.YtmhlplaglnopfaaDoorDrC
import Derived.Test.YtmhlplaglnopfaaDoorHxB
namespace Go.Proofs.YtmhlplaglnopfaaDoor
open Go.RowKit
def TwoPost (w : World) (e : Ending) (w' : World) : Prop := ∃ x y : Int, e = .returned (.tuple #[.int .i64 x, .int .i64 y]) ∧ I64 x ∧ I64 y ∧ Below w.heap.size w w'
set_option maxHeartbeats 1000000 in
theorem drawHexText_any (B n c : Nat) (A : Option Addr) (w : World) (hB : B ≤ w.heap.size) (hcode : Code w B A n) :
    Calls Tryd.prog 18 #[.slice A n c] w (TwoPost w) := by
  have hN := l01New_any B n c A w hcode
  have HD := fun (w1 : World) hc hb => new_drawn (c := c) (w1 := w1) hB hcode hc hb
  clear hcode
  unfold NewPost at hN
  go_enter Tryd.func18, Tryd.ntmps18
  go_wp2_with (go_at_call 34; refine hN.mono ?_; rintro e w1 ⟨rfl, hc, hb⟩; refine Hid.out ?_)
  have hD := HD w1 hc hb
  have hI := l01Int_any hD
  have H := Lib.hid hD
  clear hN HD hc hD
  refine Lib.hid ?_
  go_wp2_with (go_at_call 35; refine hI.mono ?_; rintro e w2 ⟨x, rfl, x0, x1, hc2, hg2⟩; refine Hid.out ?_)
  have hD2 := H.out.next hc2 hg2
  have hb2 := hb.grown hg2 hb.size (fun k hk => by cases hk; exact Nat.le_refl _)
  have hP := pickInt_new hD2 [.int .i64 1, .int .i64 2, .int .i64 4, .int .i64 8, .int .i64 0, .int .i64 9, .int .i64 (-1)] (k := 7) rfl (by omega) (by omega)
    (by repeat (first | exact allI_nil | refine allI_cons ⟨by omega, by omega⟩ ?_))
  clear hI H hc2 hg2 hb hD2
  refine Lib.hid ?_
  go_wp2_with (go_at_call 42; refine hP.mono ?_; rintro e w3 ⟨y, rfl, y0, y1, hc3, hg3⟩)
  go_ret2
  exact ⟨x, y, rfl, ⟨x0, x1⟩, ⟨y0, y1⟩, hb2.grown hg3 hb2.size (fun k hk => by cases hk; exact Nat.le_refl _)⟩
def Str2Post (w : World) (e : Ending) (w' : World) : Prop := ∃ s : ByteArray, e = .returned (.string s) ∧ s.size ≤ 1100 ∧ Below w.heap.size w w'
theorem hexB_size (n : Int) (d : Nat) (h : d ≤ 8) : (⟨(hexl n d).toArray⟩ : ByteArray).size ≤ 1000 := by
  show (hexl n d).toArray.size ≤ 1000
  have := hexl_length n d
  simp; omega
set_option maxHeartbeats 1000000 in
theorem drawReadHex_any (B n c : Nat) (A : Option Addr) (w : World) (hB : B ≤ w.heap.size) (hcode : Code w B A n) :
    Calls Tryd.prog 20 #[.slice A n c] w (Str2Post w) := by
  have hN := l01New_any B n c A w hcode
  have HD := fun (w1 : World) hc hb => new_drawn (c := c) (w1 := w1) hB hcode hc hb
  clear hcode
  unfold NewPost at hN
  go_enter Tryd.func20, Tryd.ntmps20
  go_wp2_with (go_at_call 34; refine hN.mono ?_; rintro e w1 ⟨rfl, hc, hb⟩; refine Hid.out ?_)
  have hD := HD w1 hc hb
  have hI := l01Once_any hD 3 (by omega) (by omega)
  have H := Lib.hid hD
  clear hN HD hc hD
  refine Lib.hid ?_
  go_wp2_with (go_at_call 37; refine hI.mono ?_; rintro e w2 ⟨x, rfl, hc2, hg2⟩; refine Hid.out ?_)
  have hD2 := H.out.next hc2 hg2
  have hb2 := hb.grown hg2 hb.size (fun k hk => by cases hk; exact Nat.le_refl _)
  clear hI H hc2 hg2 hb
  cases x
  · have hI := l01Int_any hD2
    have H2 := Lib.hid hD2
    clear hD2
    refine Lib.hid ?_
    go_wp2_with (go_at_call 35; refine hI.mono ?_; rintro e w3 ⟨x, rfl, x0, x1, hc3, hg3⟩; refine Hid.out ?_)
    have hD3 := H2.out.next hc3 hg3
    have hb3 := hb2.grown hg3 hb2.size (fun k hk => by cases hk; exact Nat.le_refl _)
    have hI := l01Below_any hD3 7 (by omega) (by omega)
    have H3 := Lib.hid hD3
    clear H2 hb2 hc3 hg3 hD3 x0 x1
    refine Lib.hid ?_
    go_wp2_with (go_at_call 39; refine hI.mono ?_; rintro e w4 ⟨y, rfl, y0, y1, hc4, hg4⟩; refine Hid.out ?_)
    have hD4 := H3.out.next hc4 hg4
    have hb4 := hb3.grown hg4 hb3.size (fun k hk => by cases hk; exact Nat.le_refl _)
    obtain ⟨D, hD⟩ : ∃ D : Nat, 1 + y = D := ⟨(1 + y).toNat, by omega⟩
    have hS : ∀ w, Calls Tryd.prog 21 #[.int .i64 x, .int .i64 (1 + y)] w fun e w' => e = .returned (.string ⟨(hexl x D).toArray⟩) ∧ Below w.heap.size w w' := by
      intro w
      rw [hD]
      exact spec_hex x D (by omega) (by omega) w
    have hz := hexB_size x D (by omega)
    have H4 := Lib.hid hD4
    clear H3 hb3 hc4 hg4 hD4 hI hD
    refine Lib.hid ?_
    go_wp2_with (go_at_call 21; refine (hS _).mono ?_; rintro e w5 ⟨rfl, hb5⟩; refine Hid.out ?_)
    have hB5 := l01Bent_any (H4.out.below hb5) ⟨(hexl x D).toArray⟩ hz
    have hb5 := hb4.trans (hb5.mono hb4.size)
    unfold BentPost at hB5
    clear H4 hb4 hS hz
    refine Lib.hid ?_
    go_wp2_with (go_at_call 43; refine hB5.mono ?_; rintro e w6 ⟨s, rfl, hs, hc6, hg6⟩)
    go_ret
    exact ⟨s, rfl, hs, hb5.grown hg6 hb5.size (fun k hk => by cases hk; exact Nat.le_refl _)⟩
  · have hP := pick_new hD2 [.string ⟨#[]⟩, .string ⟨#[48]⟩, .string ⟨#[102, 102]⟩, .string ⟨#[70, 70, 70, 70, 70, 70, 70]⟩, .string ⟨#[70, 70, 70, 70, 70, 70, 70, 70]⟩, .string ⟨#[103]⟩, .string ⟨#[45, 49]⟩, .string ⟨#[48, 120, 49]⟩, .string ⟨#[97, 66, 99]⟩, .string ⟨#[70, 70, 70, 70, 70, 70, 70, 70, 70, 70, 70, 70, 70, 70, 70, 70, 70, 70, 70, 70]⟩] (k := 10) rfl (by omega) (by omega)
      (by repeat (first | exact allS_nil | refine allS_cons (by decide) ?_))
    clear hD2
    refine Lib.hid ?_
    go_wp2_with (go_at_call 38; refine hP.mono ?_; rintro e w3 ⟨s, rfl, hs, hc3, hg3⟩)
    go_ret
    exact ⟨s, rfl, by omega, hb2.grown hg3 hb2.size (fun k hk => by cases hk; exact Nat.le_refl _)⟩
end Go.Proofs.YtmhlplaglnopfaaDoor
