/-
  The walk of the law FnFlags: it returns true, whatever is drawn.
  Conditions: none.
-/
import Derived.Test.YtpddbhnkopnibaaDgC
import Derived.Test.YtpddbhnkopnibaaRgH
namespace Go.Proofs.Ytpddbhnkopnibaa
open Go.RowKit
theorem push_all : ∀ (p : BitVec 8) (b : Bool), w8 (w8 (w8 (w8 p 32 true) 16 b) 32 true) 16 false = w8 (w8 p 32 true) 16 false ∧ (w8 (w8 p 32 true) 16 b &&& 16 != 0) = b ∧ (w8 (w8 p 32 true) 16 b &&& 32 != 0) = true := by decide +kernel
theorem push_facts (p : Int) (b : Bool) : keptI (pushI p b) = keptI p ∧ tst (pushI p b) 16 = b ∧ tst (pushI p b) 32 = true := by
  obtain ⟨h1, h2, h3⟩ := push_all (B8 p) b
  unfold keptI pushI tst
  have e32 : B8 32 = 32 := by decide
  have e16 : B8 16 = 16 := by decide
  refine ⟨?_, ?_, ?_⟩
  · unfold wI
    simp only [B8_back, e32, e16, h1]
  · unfold wI
    simp only [B8_back, e32, e16, h2]
  · unfold wI
    simp only [B8_back, e32, e16, h3]
theorem rfl8_any (p : Int) : rfl8 (ftl p) = p % 256 := by
  rw [← ftl_mod]; exact rfl8_ftl (p % 256) (by omega) (by omega)
set_option maxRecDepth 100000 in
set_option maxHeartbeats 4000000 in
theorem flags_law (A : Option Addr) (n c : Nat) (W : World) (hrow : RowB W A n) :
    Calls Try.prog 3 #[.slice A n c] W fun e w' => e = .returned (.bool true) ∧ Below W.heap.size W w' := by
  have hm := hrow.1
  unfold maxLen at hm
  by_cases hbig : 1048576 < n
  · clear hrow
    go_enter Try.func3, Try.ntmps3
    go_wp2_with (go_in)
    go_ret
    exact ⟨rfl, Below.refl _ _⟩
  · have hcode := hrow.code (by omega)
    have HC := Lib.hid hcode
    have hD := drawFlagText_any W.heap.size n c A W (Nat.le_refl _) hcode
    unfold IntPost at hD
    clear hrow hcode
    go_enter Try.func3, Try.ntmps3
    go_wp2_with (first
      | (go_at_call 11; go_in)
      | (go_at_call 12; refine hD.mono ?_; rintro e w1 ⟨p, rfl, hp, hb1⟩; refine Hid.out ?_))
    clear hD
    have hF := fun w => impl_flagText p w
    refine Lib.hid ?_
    go_wp2_with (go_at_call 13; refine (hF _).mono ?_; rintro e w2 ⟨rfl, hb2⟩; refine Hid.out ?_)
    have hb2 := hb1.trans (hb2.mono hb1.size)
    have hD := drawReadFlags_any W.heap.size n c A w2 hb2.size (HC.out.below (Nat.le_refl _) hb2)
    unfold DrawStr at hD
    clear hF hb1
    refine Lib.hid ?_
    go_wp2_with (go_at_call 14; refine hD.mono ?_; rintro e w3 ⟨t, rfl, ht, hb3⟩; refine Hid.out ?_)
    have hb3 := hb2.trans (hb3.mono hb2.size)
    have hD := drawPushed_any W.heap.size n c A w3 hb3.size (HC.out.below (Nat.le_refl _) hb3)
    unfold DrawBool at hD
    clear hb2
    refine Lib.hid ?_
    go_wp2_with (go_at_call 15; refine hD.mono ?_; rintro e w4 ⟨v, b, rfl, hb4⟩; refine Hid.out ?_)
    have hb4 := hb3.trans (hb4.mono hb3.size)
    clear hD hb3 HC
    obtain ⟨f1, f2, f3⟩ := push_facts v b
    obtain ⟨q, hq⟩ : ∃ q, q = pushI v b := ⟨_, rfl⟩
    have h1 := Lib.hid (fun w => impl_pushed v b w)
    have h2 := Lib.hid (fun w => spec_pushed v b w)
    have h3 := Lib.hid (fun w => impl_pulled v w)
    have h4 := Lib.hid (fun w => spec_pulled v w)
    have h5 := fun w => impl_pulled (pushI v b) w
    rw [← hq] at h1 h2 h5 f1 f2 f3
    rw [f1] at h5
    have h5 := Lib.hid h5
    obtain ⟨r, hr⟩ : ∃ r, r = rfl8 t.data.toList := ⟨_, rfl⟩
    have h6 := Lib.hid (fun w => impl_readFlags t w (by unfold maxLen; omega))
    have h7 := Lib.hid (fun w => spec_readFlags t w)
    have h8 := fun w => impl_readFlags ⟨(ftl p).toArray⟩ w (by have := ftlB_size p; unfold maxLen; omega)
    have e8 : rfl8 (⟨(ftl p).toArray⟩ : ByteArray).data.toList = p % 256 := by show rfl8 (ftl p) = _; exact rfl8_any p
    rw [e8] at h8
    have h8 := Lib.hid h8
    rw [← hr] at h6 h7
    have h9 := Lib.hid (fun w => spec_flagText p w)
    have g1 := and_255 p
    have g2 := tst_i64 q 16 (by omega)
    have g3 := tst_i64 q 32 (by omega)
    rw [f2] at g2
    rw [f3] at g3
    clear hq f1 f2 f3 hr e8 ht hp
    refine Lib.hid ?_
    go_wp2_with (first
      | (go_at_call 16; refine (h1.out _).mono ?_; rintro e w' ⟨rfl, rfl⟩)
      | (go_at_call 17; refine (h9.out _).mono ?_; rintro e w5 ⟨rfl, hb5⟩; refine Hid.out ?_))
    have hb5 := hb4.trans (hb5.mono hb4.size)
    clear hb4
    refine Lib.hid ?_
    go_wp2_with (go_at_call 18; refine (h6.out _).mono ?_; rintro e w6 ⟨rfl, hb6⟩; refine Hid.out ?_)
    have hb6 := hb5.trans (hb6.mono hb5.size)
    clear hb5
    refine Lib.hid ?_
    go_wp2_with (go_at_call 19; refine (h7.out _).mono ?_; rintro e w7 ⟨rfl, hb7⟩; refine Hid.out ?_)
    have hb7 := hb6.trans (hb7.mono hb6.size)
    clear hb6
    refine Lib.hid ?_
    go_wp2_with (first
      | (go_at_call 20; refine (h2.out _).mono ?_; rintro e w' ⟨rfl, rfl⟩)
      | (go_at_call 21; refine (h3.out _).mono ?_; rintro e w' ⟨rfl, rfl⟩)
      | (go_at_call 22; refine (h4.out _).mono ?_; rintro e w' ⟨rfl, rfl⟩)
      | (go_at_call 18; refine (h8.out _).mono ?_; rintro e w8 ⟨rfl, hb8⟩; refine Hid.out ?_))
    have hb8 := hb7.trans (hb8.mono hb7.size)
    clear hb7
    refine Lib.hid ?_
    go_wp2_with (first
      | (go_at_call 21; (with_reducible refine (h5.out _).mono ?_); rintro e w' ⟨rfl, rfl⟩)
      | (go_at_call 21; (with_reducible refine (h3.out _).mono ?_); rintro e w' ⟨rfl, rfl⟩))
    go_ret
    exact ⟨rfl, hb8⟩
end Go.Proofs.Ytpddbhnkopnibaa
