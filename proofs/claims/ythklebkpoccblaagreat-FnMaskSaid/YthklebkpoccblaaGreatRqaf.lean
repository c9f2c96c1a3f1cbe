/-
  Texts put together by program: AlG, WoD, WoG, RgA, BvE, WrA, WoC.
  Conditions: as each theorem says.
-/
import Derived.Test.YthklebkpoccblaaGreatRqae
namespace Go.Proofs.YthklebkpoccblaaGreat
open Go.RowKit
def bitN (p a v : Int) : Int := wI (wI (wI p 128 (tst v 128)) 64 (tst v 64)) 2 (!tst a v)
theorem both_i64 (a v : Int) : (bits .and .i64 (bits .and .i64 a v) 255 == 0) = !tst a v := by
 rw [and255_0]
 unfold tst
 rw [B8_bits, show B8 255 = BitVec.allOnes 8 by decide, BitVec.and_allOnes]
 rfl
theorem spec_bit (p a v : Int) (w : World) : Calls Tryz.prog 100 #[.int .i64 p, .int .i64 a, .int .i64 v] w fun e w' => e = .returned (.int .i64 (bitN p a v)) ∧ w = w' := by
 have HW := Lib.hid spec_with
 have h1 := tst_i64 v 128 (by omega)
 have h2 := tst_i64 v 64 (by omega)
 have h3 := both_i64 a v
 go_enter Tryz.func100, Tryz.ntmps100
 go_wp2_with (go_at_call 53; refine (HW.out _ _ _ _).mono ?_; rintro e w' ⟨rfl, rfl⟩)
 go_ret
 exact ⟨rfl, rfl⟩
end Go.Proofs.YthklebkpoccblaaGreat
namespace Go.Proofs.YthklebkpoccblaaGreat
open Go.RowKit
def byteI (k : RegI) (n : ByteArray) (v : Int) : RegI := if n = ⟨#[76, 68, 65]⟩ then { k with a := v % 256, p := nzI k.p (v % 256) } else if n = ⟨#[76, 68, 88]⟩ then { k with x := v % 256, p := nzI k.p (v % 256) } else if n = ⟨#[76, 68, 89]⟩ then { k with y := v % 256, p := nzI k.p (v % 256) } else if n = ⟨#[65, 78, 68]⟩ then { k with a := bits .and .i64 k.a v % 256, p := nzI k.p (bits .and .i64 k.a v % 256) } else if n = ⟨#[79, 82, 65]⟩ then { k with a := bits .or .i64 k.a v % 256, p := nzI k.p (bits .or .i64 k.a v % 256) } else if n = ⟨#[69, 79, 82]⟩ then { k with a := bits .xor .i64 k.a v % 256, p := nzI k.p (bits .xor .i64 k.a v % 256) } else if n = ⟨#[65, 68, 67]⟩ then { k with p := addN k.p k.a v, a := addR k.p k.a v } else if n = ⟨#[83, 66, 67]⟩ then { k with p := subN k.p k.a v, a := subR k.p k.a v } else if n = ⟨#[67, 77, 80]⟩ then { k with p := cmpN k.p k.a v } else if n = ⟨#[67, 80, 88]⟩ then { k with p := cmpN k.p k.x v } else if n = ⟨#[67, 80, 89]⟩ then { k with p := cmpN k.p k.y v } else if n = ⟨#[66, 73, 84]⟩ then { k with p := bitN k.p k.a v } else k
def moveI (k : RegI) (n : ByteArray) : RegI := if n = ⟨#[84, 65, 88]⟩ then { k with x := k.a % 256, p := nzI k.p (k.a % 256) } else if n = ⟨#[84, 65, 89]⟩ then { k with y := k.a % 256, p := nzI k.p (k.a % 256) } else if n = ⟨#[84, 88, 65]⟩ then { k with a := k.x % 256, p := nzI k.p (k.x % 256) } else if n = ⟨#[84, 89, 65]⟩ then { k with a := k.y % 256, p := nzI k.p (k.y % 256) } else if n = ⟨#[84, 83, 88]⟩ then { k with x := k.s % 256, p := nzI k.p (k.s % 256) } else if n = ⟨#[84, 88, 83]⟩ then { k with s := k.x } else if n = ⟨#[73, 78, 88]⟩ then { k with x := (k.x + 1) % 256, p := nzI k.p ((k.x + 1) % 256) } else if n = ⟨#[73, 78, 89]⟩ then { k with y := (k.y + 1) % 256, p := nzI k.p ((k.y + 1) % 256) } else if n = ⟨#[68, 69, 88]⟩ then { k with x := (k.x - 1) % 256, p := nzI k.p ((k.x - 1) % 256) } else if n = ⟨#[68, 69, 89]⟩ then { k with y := (k.y - 1) % 256, p := nzI k.p ((k.y - 1) % 256) } else k
end Go.Proofs.YthklebkpoccblaaGreat
namespace Go.Proofs.YthklebkpoccblaaGreat
open Go.RowKit
def applyI (k : RegI) (n : ByteArray) (v : Int) : RegI × Int :=
 ({ moveI (byteI k n (v % 256)) n with p := (changeI (flagI (moveI (byteI k n (v % 256)) n).p n) n (v % 256)).1 }, (changeI (flagI (moveI (byteI k n (v % 256)) n).p n) n (v % 256)).2)
end Go.Proofs.YthklebkpoccblaaGreat
namespace Go.Proofs.YthklebkpoccblaaGreat
def isB (n : Int) : Bool := decide (0 ≤ n ∧ n ≤ 255)
def isAd (n : Int) : Bool := decide (0 ≤ n ∧ n ≤ 65535)
theorem isB_yes {n : Int} (h : isB n = true) : 0 ≤ n ∧ n ≤ 255 := of_decide_eq_true h
theorem isB_no {n : Int} (h : isB n = false) : n < 0 ∨ 255 < n := by have := of_decide_eq_false h; omega
theorem isAd_yes {n : Int} (h : isAd n = true) : 0 ≤ n ∧ n ≤ 65535 := of_decide_eq_true h
theorem isAd_no {n : Int} (h : isAd n = false) : n < 0 ∨ 65535 < n := by have := of_decide_eq_false h; omega
def keptI (p : Int) : Int := wI (wI p 32 true) 16 false
def keptB (p : Int) : Bool := tst p 32 && !tst p 16
theorem kept_all : ∀ b : BitVec 8, (b == w8 (w8 b 32 true) 16 false) = (b &&& 32 != 0 && !(b &&& 16 != 0)) := by decide +kernel
theorem kept_same (p : Int) (h0 : 0 ≤ p) (h1 : p < 256) : (p == keptI p) = keptB p := by
 have hb := wI_bd (wI p 32 true) 16 false
 have h := kept_all (B8 p)
 unfold keptB tst
 rw [show B8 32 = 32 by decide, show B8 16 = 16 by decide, ← h, Bool.eq_iff_iff, beq_iff_eq, beq_iff_eq]
 have e : B8 (keptI p) = w8 (w8 (B8 p) 32 true) 16 false := by
  unfold keptI
  rw [wI_B8, wI_B8, show B8 32 = 32 by decide, show B8 16 = 16 by decide]
 rw [← e]
 constructor
 ·intro h2; rw [← h2]
 ·intro h2; exact B8_inj ⟨h0, h1⟩ hb h2
def okR (a x y s p pc : Int) : Bool := isB a && isB x && isB y && isB s && isB p && keptB p && isAd pc
theorem spec_u (p : Int) : (bits .and .i64 p 32 != 0) = tst p 32 := tst_i64 p 32 (by omega)
theorem spec_b (p : Int) : (bits .and .i64 p 16 == 0) = !tst p 16 := by
 rw [← tst_i64 p 16 (by omega)]
 unfold bne
 rw [Bool.not_not]
end Go.Proofs.YthklebkpoccblaaGreat
namespace Go.Proofs.YthklebkpoccblaaGreat
theorem w8_in (P F : BitVec 8) (on : Bool) : w8 P F on &&& F = if on then F else 0 := by
 apply BitVec.eq_of_getLsbD_eq
 intro i hi
 rw [BitVec.getLsbD_and, w8_bit _ _ _ _ hi]
 cases on <;> cases h : F.getLsbD i <;> simp only [Bool.and_true, Bool.and_false, if_true, if_false, Bool.false_eq_true, h, BitVec.ofNat_eq_ofNat, BitVec.getLsbD_zero]
theorem w8_far (P F G : BitVec 8) (on : Bool) (hFG : F &&& G = 0) : w8 P F on &&& G = P &&& G := by
 apply BitVec.eq_of_getLsbD_eq
 intro i hi
 have h2 : (F.getLsbD i && G.getLsbD i) = false := by rw [← BitVec.getLsbD_and, hFG]; simp only [BitVec.ofNat_eq_ofNat, BitVec.getLsbD_zero]
 rw [BitVec.getLsbD_and, BitVec.getLsbD_and, w8_bit _ _ _ _ hi]
 cases hf : F.getLsbD i <;> cases hg : G.getLsbD i <;> rw [hf, hg] at h2 <;> first | exact absurd h2 (by decide) | simp only [Bool.and_true, Bool.and_false, if_true, if_false, Bool.false_eq_true]
theorem tst_same (p f : Int) (on : Bool) (hf : B8 f ≠ 0) : tst (wI p f on) f = on := by
 unfold tst
 rw [wI_B8, w8_in]
 cases on
 ·rfl
 ·simp only [if_true]; rw [bne_iff_ne]; exact hf
theorem tst_far (p f g : Int) (on : Bool) (h : B8 f &&& B8 g = 0) : tst (wI p f on) g = tst p g := by
 unfold tst
 rw [wI_B8, w8_far _ _ _ _ h]
/-! FnWith -/
/-! FnNz -/
/-! FnAdd -/
/-! FnSub -/
/-! FnShift -/
/-! FnBit -/
end Go.Proofs.YthklebkpoccblaaGreat
namespace Go.Proofs.YthklebkpoccblaaGreat
open Go.RowKit
theorem keptB_keptI (p : Int) : keptB (keptI p) = true := by
 unfold keptB keptI
 rw [tst_same _ 16 _ (by decide), tst_far _ 16 32 _ (by decide), tst_same _ 32 _ (by decide)]
 rfl
structure RegI.ok (k : RegI) : Prop where
 a : 0 ≤ k.a ∧ k.a ≤ 255
 x : 0 ≤ k.x ∧ k.x ≤ 255
 y : 0 ≤ k.y ∧ k.y ≤ 255
 s : 0 ≤ k.s ∧ k.s ≤ 255
 p : 0 ≤ k.p ∧ k.p < 256
 kp : keptB k.p = true
 pc : 0 ≤ k.pc ∧ k.pc ≤ 65535
end Go.Proofs.YthklebkpoccblaaGreat
namespace Go.Proofs.YthklebkpoccblaaGreat
open Go.RowKit
def shKI (n : ByteArray) : Int := if n = ⟨#[65, 83, 76]⟩ then 0 else if n = ⟨#[76, 83, 82]⟩ then 1 else if n = ⟨#[82, 79, 76]⟩ then 2 else if n = ⟨#[82, 79, 82]⟩ then 3 else -1
set_option maxRecDepth 100000 in
set_option maxHeartbeats 1000000 in
theorem spec_shiftK_ASL (w : World) : Calls Tryz.prog 102 #[.string ⟨#[65, 83, 76]⟩] w fun e w' => e = .returned (.int .i64 (shKI ⟨#[65, 83, 76]⟩)) ∧ w = w' := by
 have HV := Lib.hid (show shKI ⟨#[65, 83, 76]⟩ = 0 from rfl)
 go_enter Tryz.func102, Tryz.ntmps102
 go_wp2
 go_ret
 exact ⟨by rw [HV.out]; rfl, rfl⟩
set_option maxRecDepth 100000 in
set_option maxHeartbeats 1000000 in
theorem spec_shiftK_LSR (w : World) : Calls Tryz.prog 102 #[.string ⟨#[76, 83, 82]⟩] w fun e w' => e = .returned (.int .i64 (shKI ⟨#[76, 83, 82]⟩)) ∧ w = w' := by
 have HV := Lib.hid (show shKI ⟨#[76, 83, 82]⟩ = 1 from rfl)
 go_enter Tryz.func102, Tryz.ntmps102
 go_wp2
 go_ret
 exact ⟨by rw [HV.out]; rfl, rfl⟩
set_option maxRecDepth 100000 in
set_option maxHeartbeats 1000000 in
theorem spec_shiftK_ROL (w : World) : Calls Tryz.prog 102 #[.string ⟨#[82, 79, 76]⟩] w fun e w' => e = .returned (.int .i64 (shKI ⟨#[82, 79, 76]⟩)) ∧ w = w' := by
 have HV := Lib.hid (show shKI ⟨#[82, 79, 76]⟩ = 2 from rfl)
 go_enter Tryz.func102, Tryz.ntmps102
 go_wp2
 go_ret
 exact ⟨by rw [HV.out]; rfl, rfl⟩
set_option maxRecDepth 100000 in
set_option maxHeartbeats 1000000 in
theorem spec_shiftK_ROR (w : World) : Calls Tryz.prog 102 #[.string ⟨#[82, 79, 82]⟩] w fun e w' => e = .returned (.int .i64 (shKI ⟨#[82, 79, 82]⟩)) ∧ w = w' := by
 have HV := Lib.hid (show shKI ⟨#[82, 79, 82]⟩ = 3 from rfl)
 go_enter Tryz.func102, Tryz.ntmps102
 go_wp2
 go_ret
 exact ⟨by rw [HV.out]; rfl, rfl⟩
set_option maxRecDepth 100000 in
set_option maxHeartbeats 2000000 in
theorem spec_shiftK_other (n : ByteArray) (hASL : ¬ n = ⟨#[65, 83, 76]⟩) (hLSR : ¬ n = ⟨#[76, 83, 82]⟩) (hROL : ¬ n = ⟨#[82, 79, 76]⟩) (hROR : ¬ n = ⟨#[82, 79, 82]⟩) (w : World) : Calls Tryz.prog 102 #[.string n] w fun e w' => e = .returned (.int .i64 (shKI n)) ∧ w = w' := by
 have HV := Lib.hid (show shKI n = -1 from by unfold shKI; rw [if_neg hASL, if_neg hLSR, if_neg hROL, if_neg hROR])
 have nASL := ne_list [65, 83, 76] hASL
 have nLSR := ne_list [76, 83, 82] hLSR
 have nROL := ne_list [82, 79, 76] hROL
 have nROR := ne_list [82, 79, 82] hROR
 clear hASL hLSR hROL hROR
 go_enter Tryz.func102, Tryz.ntmps102
 go_wp2
 go_ret
 exact ⟨by rw [HV.out]; rfl, rfl⟩
theorem spec_shiftK (n : ByteArray) (w : World) : Calls Tryz.prog 102 #[.string n] w fun e w' => e = .returned (.int .i64 (shKI n)) ∧ w = w' := by
 by_cases hASL : n = ⟨#[65, 83, 76]⟩
 ·subst hASL; exact spec_shiftK_ASL w
 by_cases hLSR : n = ⟨#[76, 83, 82]⟩
 ·subst hLSR; exact spec_shiftK_LSR w
 by_cases hROL : n = ⟨#[82, 79, 76]⟩
 ·subst hROL; exact spec_shiftK_ROL w
 by_cases hROR : n = ⟨#[82, 79, 82]⟩
 ·subst hROR; exact spec_shiftK_ROR w
 exact spec_shiftK_other n hASL hLSR hROL hROR w
set_option maxRecDepth 100000 in
set_option maxHeartbeats 2000000 in
theorem spec_set_A (k : RegI) (v : Int) (w : World) : Calls Tryz.prog 96 #[regI k, .int .u8 65, .int .i64 v] w fun e w' => e = .returned (regI { k with a := v % 256, p := nzI k.p (v % 256) }) ∧ Below w.heap.size w w' := by
 obtain ⟨a, x, y, s, p, pc⟩ := k
 rw [regI_mk]
 have e0 := and_255 v
 have HN := Lib.hid (fun u w => spec_nz p u w)
 go_enter Tryz.func96, Tryz.ntmps96
 go_wp2_with (go_at_call 101; refine (HN.out _ _).mono ?_; rintro e w' ⟨rfl, rfl⟩)
 exact bodyPost_ret (results_cell_row rfl _ _ (w.heap.size + 1) _ _ _ _ rfl (blk_new2 w _ _) Tryz.underlying25 rfl reg_size) rfl ⟨rfl, below_alloc (below_alloc (Below.refl _ _) _) _⟩
set_option maxRecDepth 100000 in
set_option maxHeartbeats 2000000 in
theorem spec_set_X (k : RegI) (v : Int) (w : World) : Calls Tryz.prog 96 #[regI k, .int .u8 88, .int .i64 v] w fun e w' => e = .returned (regI { k with x := v % 256, p := nzI k.p (v % 256) }) ∧ Below w.heap.size w w' := by
 obtain ⟨a, x, y, s, p, pc⟩ := k
 rw [regI_mk]
 have e0 := and_255 v
 have HN := Lib.hid (fun u w => spec_nz p u w)
 go_enter Tryz.func96, Tryz.ntmps96
 go_wp2_with (go_at_call 101; refine (HN.out _ _).mono ?_; rintro e w' ⟨rfl, rfl⟩)
 exact bodyPost_ret (results_cell_row rfl _ _ (w.heap.size + 1) _ _ _ _ rfl (blk_new2 w _ _) Tryz.underlying25 rfl reg_size) rfl ⟨rfl, below_alloc (below_alloc (Below.refl _ _) _) _⟩
set_option maxRecDepth 100000 in
set_option maxHeartbeats 2000000 in
theorem spec_set_Y (k : RegI) (v : Int) (w : World) : Calls Tryz.prog 96 #[regI k, .int .u8 89, .int .i64 v] w fun e w' => e = .returned (regI { k with y := v % 256, p := nzI k.p (v % 256) }) ∧ Below w.heap.size w w' := by
 obtain ⟨a, x, y, s, p, pc⟩ := k
 rw [regI_mk]
 have e0 := and_255 v
 have HN := Lib.hid (fun u w => spec_nz p u w)
 go_enter Tryz.func96, Tryz.ntmps96
 go_wp2_with (go_at_call 101; refine (HN.out _ _).mono ?_; rintro e w' ⟨rfl, rfl⟩)
 exact bodyPost_ret (results_cell_row rfl _ _ (w.heap.size + 1) _ _ _ _ rfl (blk_new2 w _ _) Tryz.underlying25 rfl reg_size) rfl ⟨rfl, below_alloc (below_alloc (Below.refl _ _) _) _⟩
end Go.Proofs.YthklebkpoccblaaGreat
