/-
  Texts put together by program: AlA, WoA, AlH, BvC, BvD, ShA2, WoB, Row, AlB, AlE.
  Conditions: as each theorem says.
-/
import Derived.Laws.EntriesVeiled
import Derived.Laws.ResultCell
import Derived.Test.YthklebkpoccblaaGreatRqad
namespace Go.Proofs.YthklebkpoccblaaGreat
open Go.RowKit
theorem spec_with (p f : Int) (on : Bool) (w : World) :
  Calls Tryz.prog 53 #[.int .i64 p, .int .i64 f, .bool on] w fun e w' => e = .returned (.int .i64 (wI p f on)) ∧ w = w' := by
 cases on
 ·have H := Lib.hid (wI_spec_off p f)
  go_enter Tryz.func53, Tryz.ntmps53
  go_wp2
  go_ret
  exact ⟨by rw [H.out]; rfl, rfl⟩
 ·have H := Lib.hid (wI_spec_on p f)
  go_enter Tryz.func53, Tryz.ntmps53
  go_wp2
  go_ret
  exact ⟨by rw [H.out]; rfl, rfl⟩
theorem with_flag (p f : Int) (on : Bool) (w : World) :
  Calls Tryz.prog 126 #[.int .u8 p, .int .u8 f, .bool on] w fun e w' => e = .returned (.int .u8 (wI p f on)) ∧ w = w' := by
 cases on
 ·have H := Lib.hid (wI_u8_off p f)
  go_enter Tryz.func126, Tryz.ntmps126
  go_wp2
  go_ret
  exact ⟨by rw [H.out]; rfl, rfl⟩
 ·have H := Lib.hid (wI_u8_on p f)
  go_enter Tryz.func126, Tryz.ntmps126
  go_wp2
  go_ret
  exact ⟨by rw [H.out]; rfl, rfl⟩
theorem is_set (p f : Int) (w : World) :
  Calls Tryz.prog 198 #[.int .u8 p, .int .u8 f] w fun e w' => e = .returned (.bool (tst p f)) ∧ w = w' := by
 have H := Lib.hid (tst_u8 p f)
 go_enter Tryz.func198, Tryz.ntmps198
 go_wp2
 go_ret
 exact ⟨by rw [← H.out]; rfl, rfl⟩
theorem spec_nz (p v : Int) (w : World) :
  Calls Tryz.prog 101 #[.int .i64 p, .int .i64 v] w fun e w' => e = .returned (.int .i64 (nzI p v)) ∧ w = w' := by
 have hw := spec_with
 have HW := Lib.hid hw
 clear hw
 go_enter Tryz.func101, Tryz.ntmps101
 go_wp2_with (go_at_call 53; refine (HW.out _ _ _ _).mono ?_; rintro e w' ⟨rfl, rfl⟩)
 go_ret
 exact ⟨by unfold nzI; rw [← tst_i64 v 128 (by omega), ← and255_0]; rfl, rfl⟩
end Go.Proofs.YthklebkpoccblaaGreat
namespace Go.Proofs.YthklebkpoccblaaGreat
open Go.RowKit
structure RegI where
 a : Int
 x : Int
 y : Int
 s : Int
 p : Int
 pc : Int
def regC (k : RegI) : Array Value := #[.int .i64 k.a, .int .i64 k.x, .int .i64 k.y, .int .i64 k.s, .int .i64 k.p, .int .i64 k.pc]
def regI (k : RegI) : Value := .agg (regC k)
theorem regI_mk (a x y s p pc : Int) : regI ⟨a, x, y, s, p, pc⟩ = .agg #[.int .i64 a, .int .i64 x, .int .i64 y, .int .i64 s, .int .i64 p, .int .i64 pc] := rfl
theorem reg_size : (Tryz.prog.info? 25).map (·.size) = some 6 := by kernel_rfl
theorem w64_8 (n : Int) : wrap64 n % 256 = n % 256 := by unfold wrap64; omega
theorem tst_0 (p f : Int) (hf : 0 ≤ f ∧ f < 256) : (bits .and .i64 p f == 0) = !tst p f := by
 rw [← tst_i64 p f hf]
 unfold bne
 rw [Bool.not_not]
def takesI (n : ByteArray) (p : Int) : Bool := if n = ⟨#[66, 80, 76]⟩ then !tst p 128 else if n = ⟨#[66, 77, 73]⟩ then tst p 128 else if n = ⟨#[66, 86, 67]⟩ then !tst p 64 else if n = ⟨#[66, 86, 83]⟩ then tst p 64 else if n = ⟨#[66, 67, 67]⟩ then !tst p 1 else if n = ⟨#[66, 67, 83]⟩ then tst p 1 else if n = ⟨#[66, 78, 69]⟩ then !tst p 2 else if n = ⟨#[66, 69, 81]⟩ then tst p 2 else false
set_option maxRecDepth 100000 in
set_option maxHeartbeats 1000000 in
theorem spec_takes_BPL (p : Int) (w : World) : Calls Tryz.prog 105 #[.string ⟨#[66, 80, 76]⟩, .int .i64 p] w fun e w' => e = .returned (.bool (takesI ⟨#[66, 80, 76]⟩ p)) ∧ w = w' := by
 have HV := Lib.hid (show takesI ⟨#[66, 80, 76]⟩ p = !tst p 128 from rfl)
 have h1 := tst_i64 p 128 (by omega)
 have h0 := tst_0 p 128 (by omega)
 go_enter Tryz.func105, Tryz.ntmps105
 go_wp2
 go_ret
 exact ⟨by rw [HV.out]; first | rfl | simp [*], rfl⟩
set_option maxRecDepth 100000 in
set_option maxHeartbeats 1000000 in
theorem spec_takes_BMI (p : Int) (w : World) : Calls Tryz.prog 105 #[.string ⟨#[66, 77, 73]⟩, .int .i64 p] w fun e w' => e = .returned (.bool (takesI ⟨#[66, 77, 73]⟩ p)) ∧ w = w' := by
 have HV := Lib.hid (show takesI ⟨#[66, 77, 73]⟩ p = tst p 128 from rfl)
 have h1 := tst_i64 p 128 (by omega)
 have h0 := tst_0 p 128 (by omega)
 go_enter Tryz.func105, Tryz.ntmps105
 go_wp2
 go_ret
 exact ⟨by rw [HV.out]; first | rfl | simp [*], rfl⟩
set_option maxRecDepth 100000 in
set_option maxHeartbeats 1000000 in
theorem spec_takes_BVC (p : Int) (w : World) : Calls Tryz.prog 105 #[.string ⟨#[66, 86, 67]⟩, .int .i64 p] w fun e w' => e = .returned (.bool (takesI ⟨#[66, 86, 67]⟩ p)) ∧ w = w' := by
 have HV := Lib.hid (show takesI ⟨#[66, 86, 67]⟩ p = !tst p 64 from rfl)
 have h1 := tst_i64 p 64 (by omega)
 have h0 := tst_0 p 64 (by omega)
 go_enter Tryz.func105, Tryz.ntmps105
 go_wp2
 go_ret
 exact ⟨by rw [HV.out]; first | rfl | simp [*], rfl⟩
set_option maxRecDepth 100000 in
set_option maxHeartbeats 1000000 in
theorem spec_takes_BVS (p : Int) (w : World) : Calls Tryz.prog 105 #[.string ⟨#[66, 86, 83]⟩, .int .i64 p] w fun e w' => e = .returned (.bool (takesI ⟨#[66, 86, 83]⟩ p)) ∧ w = w' := by
 have HV := Lib.hid (show takesI ⟨#[66, 86, 83]⟩ p = tst p 64 from rfl)
 have h1 := tst_i64 p 64 (by omega)
 have h0 := tst_0 p 64 (by omega)
 go_enter Tryz.func105, Tryz.ntmps105
 go_wp2
 go_ret
 exact ⟨by rw [HV.out]; first | rfl | simp [*], rfl⟩
set_option maxRecDepth 100000 in
set_option maxHeartbeats 1000000 in
theorem spec_takes_BCC (p : Int) (w : World) : Calls Tryz.prog 105 #[.string ⟨#[66, 67, 67]⟩, .int .i64 p] w fun e w' => e = .returned (.bool (takesI ⟨#[66, 67, 67]⟩ p)) ∧ w = w' := by
 have HV := Lib.hid (show takesI ⟨#[66, 67, 67]⟩ p = !tst p 1 from rfl)
 have h1 := tst_i64 p 1 (by omega)
 have h0 := tst_0 p 1 (by omega)
 go_enter Tryz.func105, Tryz.ntmps105
 go_wp2
 go_ret
 exact ⟨by rw [HV.out]; first | rfl | simp [*], rfl⟩
set_option maxRecDepth 100000 in
set_option maxHeartbeats 1000000 in
theorem spec_takes_BCS (p : Int) (w : World) : Calls Tryz.prog 105 #[.string ⟨#[66, 67, 83]⟩, .int .i64 p] w fun e w' => e = .returned (.bool (takesI ⟨#[66, 67, 83]⟩ p)) ∧ w = w' := by
 have HV := Lib.hid (show takesI ⟨#[66, 67, 83]⟩ p = tst p 1 from rfl)
 have h1 := tst_i64 p 1 (by omega)
 have h0 := tst_0 p 1 (by omega)
 go_enter Tryz.func105, Tryz.ntmps105
 go_wp2
 go_ret
 exact ⟨by rw [HV.out]; first | rfl | simp [*], rfl⟩
set_option maxRecDepth 100000 in
set_option maxHeartbeats 1000000 in
theorem spec_takes_BNE (p : Int) (w : World) : Calls Tryz.prog 105 #[.string ⟨#[66, 78, 69]⟩, .int .i64 p] w fun e w' => e = .returned (.bool (takesI ⟨#[66, 78, 69]⟩ p)) ∧ w = w' := by
 have HV := Lib.hid (show takesI ⟨#[66, 78, 69]⟩ p = !tst p 2 from rfl)
 have h1 := tst_i64 p 2 (by omega)
 have h0 := tst_0 p 2 (by omega)
 go_enter Tryz.func105, Tryz.ntmps105
 go_wp2
 go_ret
 exact ⟨by rw [HV.out]; first | rfl | simp [*], rfl⟩
set_option maxRecDepth 100000 in
set_option maxHeartbeats 1000000 in
theorem spec_takes_BEQ (p : Int) (w : World) : Calls Tryz.prog 105 #[.string ⟨#[66, 69, 81]⟩, .int .i64 p] w fun e w' => e = .returned (.bool (takesI ⟨#[66, 69, 81]⟩ p)) ∧ w = w' := by
 have HV := Lib.hid (show takesI ⟨#[66, 69, 81]⟩ p = tst p 2 from rfl)
 have h1 := tst_i64 p 2 (by omega)
 have h0 := tst_0 p 2 (by omega)
 go_enter Tryz.func105, Tryz.ntmps105
 go_wp2
 go_ret
 exact ⟨by rw [HV.out]; first | rfl | simp [*], rfl⟩
set_option maxRecDepth 100000 in
set_option maxHeartbeats 2000000 in
theorem spec_takes_other (p : Int) (n : ByteArray) (hBPL : ¬ n = ⟨#[66, 80, 76]⟩) (hBMI : ¬ n = ⟨#[66, 77, 73]⟩) (hBVC : ¬ n = ⟨#[66, 86, 67]⟩) (hBVS : ¬ n = ⟨#[66, 86, 83]⟩) (hBCC : ¬ n = ⟨#[66, 67, 67]⟩) (hBCS : ¬ n = ⟨#[66, 67, 83]⟩) (hBNE : ¬ n = ⟨#[66, 78, 69]⟩) (hBEQ : ¬ n = ⟨#[66, 69, 81]⟩) (w : World) : Calls Tryz.prog 105 #[.string n, .int .i64 p] w fun e w' => e = .returned (.bool (takesI n p)) ∧ w = w' := by
 have HV := Lib.hid (show takesI n p = false from by unfold takesI; rw [if_neg hBPL, if_neg hBMI, if_neg hBVC, if_neg hBVS, if_neg hBCC, if_neg hBCS, if_neg hBNE, if_neg hBEQ])
 have nBPL := ne_list [66, 80, 76] hBPL
 have nBMI := ne_list [66, 77, 73] hBMI
 have nBVC := ne_list [66, 86, 67] hBVC
 have nBVS := ne_list [66, 86, 83] hBVS
 have nBCC := ne_list [66, 67, 67] hBCC
 have nBCS := ne_list [66, 67, 83] hBCS
 have nBNE := ne_list [66, 78, 69] hBNE
 have nBEQ := ne_list [66, 69, 81] hBEQ
 clear hBPL hBMI hBVC hBVS hBCC hBCS hBNE hBEQ
 go_enter Tryz.func105, Tryz.ntmps105
 go_wp2
 go_ret
 exact ⟨by rw [HV.out]; rfl, rfl⟩
theorem spec_takes (p : Int) (n : ByteArray) (w : World) : Calls Tryz.prog 105 #[.string n, .int .i64 p] w fun e w' => e = .returned (.bool (takesI n p)) ∧ w = w' := by
 by_cases hBPL : n = ⟨#[66, 80, 76]⟩
 ·subst hBPL; exact spec_takes_BPL p w
 by_cases hBMI : n = ⟨#[66, 77, 73]⟩
 ·subst hBMI; exact spec_takes_BMI p w
 by_cases hBVC : n = ⟨#[66, 86, 67]⟩
 ·subst hBVC; exact spec_takes_BVC p w
 by_cases hBVS : n = ⟨#[66, 86, 83]⟩
 ·subst hBVS; exact spec_takes_BVS p w
 by_cases hBCC : n = ⟨#[66, 67, 67]⟩
 ·subst hBCC; exact spec_takes_BCC p w
 by_cases hBCS : n = ⟨#[66, 67, 83]⟩
 ·subst hBCS; exact spec_takes_BCS p w
 by_cases hBNE : n = ⟨#[66, 78, 69]⟩
 ·subst hBNE; exact spec_takes_BNE p w
 by_cases hBEQ : n = ⟨#[66, 69, 81]⟩
 ·subst hBEQ; exact spec_takes_BEQ p w
 exact spec_takes_other p n hBPL hBMI hBVC hBVS hBCC hBCS hBNE hBEQ w
end Go.Proofs.YthklebkpoccblaaGreat
namespace Go.Proofs.YthklebkpoccblaaGreat
open Go.RowKit
theorem impl_with (p f : Int) (on : Bool) (w : World) :
  Calls Tryz.prog 160 #[.int .i64 p, .int .i64 f, .bool on] w fun e w' => e = .returned (.int .i64 (wI p f on)) ∧ w = w' := by
 have HW := Lib.hid with_flag
 have hb := wI_bd p f on
 go_enter Tryz.func160, Tryz.ntmps160
 go_wp2_with (go_at_call 126; refine (HW.out _ _ _ _).mono ?_; rintro e w' ⟨rfl, rfl⟩; rw [wI_mod, wI_mod'])
 go_ret
 exact ⟨rfl, rfl⟩
end Go.Proofs.YthklebkpoccblaaGreat
namespace Go.Proofs.YthklebkpoccblaaGreat
def sgs (a b r : Int) : Bool := (B8 a ^^^ B8 b) &&& (B8 a ^^^ B8 r) &&& 128 != 0
theorem sgs_i64 (a b r : Int) : (bits .and .i64 (bits .and .i64 (bits .xor .i64 a b) (bits .xor .i64 a r)) 128 != 0) = sgs a b r := by
 rw [tst_i64 _ 128 (by omega)]; unfold tst; rw [B8_bits, B8_bits, B8_bits]; rfl
theorem sgs_mod (a b r : Int) : sgs (a % 256) (b % 256) r = sgs a b r := by unfold sgs; rw [B8_mod, B8_mod]
def dI (p a b : Int) : Int := a % 256 - b % 256 + (cI p - 1)
def subN (p a b : Int) : Int := wI (wI (nzI p (dI p a b)) 1 (decide (0 ≤ dI p a b))) 64 (sgs a b (dI p a b))
def lowS (l : Int) : Int := if l < 0 then (l - 6) % 16 - 16 else l
def tI (p a b : Int) : Int := a % 256 / 16 * 16 - b % 256 / 16 * 16 + lowS (a % 16 - b % 16 + (cI p - 1))
def dnI (s : Int) : Int := if s < 0 then s - 96 else s
def subR (p a b : Int) : Int := if tst p 8 then dnI (tI p a b) % 256 else dI p a b % 256
theorem sub_close (p a b : Int) : wI (wI (nzI p (a % 256 - b % 256 + (cI p - 1))) 1 (decide (0 ≤ a % 256 - b % 256 + (cI p - 1)))) 64 (bits .and .i64 (bits .and .i64 (bits .xor .i64 (a % 256) (b % 256)) (bits .xor .i64 (a % 256) (a % 256 - b % 256 + (cI p - 1)))) 128 != 0) = subN p a b := by
 rw [sgs_i64, sgs_mod]; rfl
def cmpN (p a b : Int) : Int := wI (nzI p (a % 256 - b % 256)) 1 (decide (b % 256 ≤ a % 256))
end Go.Proofs.YthklebkpoccblaaGreat
namespace Go.Proofs.YthklebkpoccblaaGreat
theorem or1_all : ∀ v : Fin 256, bits .or .i64 ((v.val : Int) * 2 % 256) 1 = (v.val : Int) * 2 % 256 + 1 ∧ bits .or .i64 ((v.val : Int) / 2) 128 = (v.val : Int) / 2 + 128 ∧
  bits .or .u8 ((v.val : Int) * 2 % 256) 0 = (v.val : Int) * 2 % 256 ∧ bits .or .u8 ((v.val : Int) * 2 % 256) 1 = (v.val : Int) * 2 % 256 + 1 ∧
  bits .or .u8 ((v.val : Int) / 2) 0 = (v.val : Int) / 2 ∧ bits .or .u8 ((v.val : Int) / 2) 128 = (v.val : Int) / 2 + 128 := by decide +kernel
theorem or1 (v : Int) (h : 0 ≤ v ∧ v < 256) : bits .or .i64 (v * 2 % 256) 1 = v * 2 % 256 + 1 ∧ bits .or .i64 (v / 2) 128 = v / 2 + 128 ∧
  bits .or .u8 (v * 2 % 256) 0 = v * 2 % 256 ∧ bits .or .u8 (v * 2 % 256) 1 = v * 2 % 256 + 1 ∧
  bits .or .u8 (v / 2) 0 = v / 2 ∧ bits .or .u8 (v / 2) 128 = v / 2 + 128 := by
 obtain ⟨n, rfl⟩ : ∃ n : Nat, v = n := ⟨v.toNat, by omega⟩
 exact or1_all ⟨n, by omega⟩
theorem hi_bit_all : ∀ v : Fin 256, (bits .and .i64 (v.val : Int) 128 != 0) = decide (128 ≤ (v.val : Int)) ∧ (bits .and .i64 (v.val : Int) 1 != 0) = decide ((v.val : Int) % 2 = 1) ∧
  bits .and .u8 (v.val : Int) 1 = (v.val : Int) % 2 := by decide +kernel
theorem hi_bit (v : Int) (h : 0 ≤ v ∧ v < 256) : (bits .and .i64 v 128 != 0) = decide (128 ≤ v) ∧ (bits .and .i64 v 1 != 0) = decide (v % 2 = 1) ∧ bits .and .u8 v 1 = v % 2 := by
 obtain ⟨n, rfl⟩ : ∃ n : Nat, v = n := ⟨v.toNat, by omega⟩
 exact hi_bit_all ⟨n, by omega⟩
def shR (kind p v : Int) : Int :=
 if kind = 0 then v % 256 * 2 % 256 else if kind = 1 then v % 256 / 2 else if kind = 2 then v % 256 * 2 % 256 + cI p else if kind = 3 then v % 256 / 2 + 128 * cI p else v % 256
def shG (kind v : Int) : Bool := if kind = 0 ∨ kind = 2 then decide (128 ≤ v % 256) else decide (v % 2 = 1)
def shN (kind p v : Int) : Int := if 0 ≤ kind ∧ kind ≤ 3 then wI (nzI p (shR kind p v)) 1 (shG kind v) else p % 256
theorem shN_yes (kind p v : Int) (h : 0 ≤ kind ∧ kind ≤ 3) : shN kind p v = wI (nzI p (shR kind p v)) 1 (shG kind v) := by unfold shN; rw [if_pos h]
theorem shN_no (kind p v : Int) (h : ¬ (0 ≤ kind ∧ kind ≤ 3)) : shN kind p v = p % 256 ∧ shR kind p v = v % 256 := by
 unfold shN shR
 rw [if_neg h, if_neg (by omega), if_neg (by omega), if_neg (by omega), if_neg (by omega)]
 exact ⟨rfl, rfl⟩
theorem nz_c (p r : Int) (g : Bool) : nzI (wI p 1 g) r = wI (nzI p r) 1 g := by
 unfold nzI
 apply wI_eq
 simp only [wI_B8]
 rw [w8_swap (B8 p) (B8 1) (B8 128) _ _ (by decide), w8_swap _ (B8 1) (B8 2) _ _ (by decide)]
end Go.Proofs.YthklebkpoccblaaGreat
namespace Go.Proofs.YthklebkpoccblaaGreat
open Go.RowKit
def ShPost (kind p v : Int) (w : World) (e : Ending) (w' : World) : Prop := e = .returned (.tuple #[.int .i64 (shN kind p v), .int .i64 (shR kind p v)]) ∧ w = w'
theorem spec_shift_no (kind p v : Int) (h : ¬ (0 ≤ kind ∧ kind ≤ 3)) (w : World) : Calls Tryz.prog 103 #[.int .i64 p, .int .i64 kind, .int .i64 v] w (ShPost kind p v w) := by
 have H := Lib.hid (shN_no kind p v h)
 have hV := and_255 v
 have hP := and_255 p
 have h0 : ¬ kind = 0 := by omega
 have h1 : ¬ kind = 1 := by omega
 have h2 : ¬ kind = 2 := by omega
 have h3 : ¬ kind = 3 := by omega
 clear h
 go_enter Tryz.func103, Tryz.ntmps103
 go_wp2
 go_ret2
 exact ⟨by rw [H.out.1, H.out.2]; rfl, rfl⟩
theorem spec_shift_0_0 (p v : Int) (hc : cI p = 0) (w : World) : Calls Tryz.prog 103 #[.int .i64 p, .int .i64 0, .int .i64 v] w (ShPost 0 p v w) := by
 have hr : shR 0 p v = v % 256 * 2 % 256 := by unfold shR; simp
 have hn : shN 0 p v = nzI (wI p 1 (decide (128 ≤ v % 256))) (v % 256 * 2 % 256) := by rw [shN_yes 0 p v (by omega), hr, nz_c]; rfl
 have H := Lib.hid (And.intro hn hr)
 clear hn hr
 have HW := Lib.hid spec_with
 have HN := Lib.hid spec_nz
 have hC := and_1 p
 rw [hc] at hC
 have hV := and_255 v
 have hV2 := and_255 (v % 256 * 2)
 have ho := or1 (v % 256) (by omega)
 have ho1 := ho.1
 have ho2 := ho.2.1
 have hh := hi_bit (v % 256) (by omega)
 have hh1 := hh.1
 have hh2 := hh.2.1
 rw [show v % 256 % 2 = v % 2 by omega] at hh2
 clear ho hh hc
 go_enter Tryz.func103, Tryz.ntmps103
 go_wp2_with (first
  | (go_at_call 101; refine (HN.out _ _ _).mono ?_; rintro e w' ⟨rfl, rfl⟩)
  | (go_at_call 53; refine (HW.out _ _ _ _).mono ?_; rintro e w' ⟨rfl, rfl⟩))
 go_ret2
 exact ⟨by rw [H.out.1, H.out.2]; rfl, rfl⟩
theorem spec_shift_0_1 (p v : Int) (hc : cI p = 1) (w : World) : Calls Tryz.prog 103 #[.int .i64 p, .int .i64 0, .int .i64 v] w (ShPost 0 p v w) := by
 have hr : shR 0 p v = v % 256 * 2 % 256 := by unfold shR; simp
 have hn : shN 0 p v = nzI (wI p 1 (decide (128 ≤ v % 256))) (v % 256 * 2 % 256) := by rw [shN_yes 0 p v (by omega), hr, nz_c]; rfl
 have H := Lib.hid (And.intro hn hr)
 clear hn hr
 have HW := Lib.hid spec_with
 have HN := Lib.hid spec_nz
 have hC := and_1 p
 rw [hc] at hC
 have hV := and_255 v
 have hV2 := and_255 (v % 256 * 2)
 have ho := or1 (v % 256) (by omega)
 have ho1 := ho.1
 have ho2 := ho.2.1
 have hh := hi_bit (v % 256) (by omega)
 have hh1 := hh.1
 have hh2 := hh.2.1
 rw [show v % 256 % 2 = v % 2 by omega] at hh2
 clear ho hh hc
 go_enter Tryz.func103, Tryz.ntmps103
 go_wp2_with (first
  | (go_at_call 101; refine (HN.out _ _ _).mono ?_; rintro e w' ⟨rfl, rfl⟩)
  | (go_at_call 53; refine (HW.out _ _ _ _).mono ?_; rintro e w' ⟨rfl, rfl⟩))
 go_ret2
 exact ⟨by rw [H.out.1, H.out.2]; rfl, rfl⟩
theorem spec_shift_1_0 (p v : Int) (hc : cI p = 0) (w : World) : Calls Tryz.prog 103 #[.int .i64 p, .int .i64 1, .int .i64 v] w (ShPost 1 p v w) := by
 have hr : shR 1 p v = v % 256 / 2 := by unfold shR; simp
 have hn : shN 1 p v = nzI (wI p 1 (decide (v % 2 = 1))) (v % 256 / 2) := by rw [shN_yes 1 p v (by omega), hr, nz_c]; rfl
 have H := Lib.hid (And.intro hn hr)
 clear hn hr
 have HW := Lib.hid spec_with
 have HN := Lib.hid spec_nz
 have hC := and_1 p
 rw [hc] at hC
 have hV := and_255 v
 have hV2 := and_255 (v % 256 * 2)
 have ho := or1 (v % 256) (by omega)
 have ho1 := ho.1
 have ho2 := ho.2.1
 have hh := hi_bit (v % 256) (by omega)
 have hh1 := hh.1
 have hh2 := hh.2.1
 rw [show v % 256 % 2 = v % 2 by omega] at hh2
 clear ho hh hc
 go_enter Tryz.func103, Tryz.ntmps103
 go_wp2_with (first
  | (go_at_call 101; refine (HN.out _ _ _).mono ?_; rintro e w' ⟨rfl, rfl⟩)
  | (go_at_call 53; refine (HW.out _ _ _ _).mono ?_; rintro e w' ⟨rfl, rfl⟩))
 go_ret2
 exact ⟨by rw [H.out.1, H.out.2]; rfl, rfl⟩
theorem spec_shift_1_1 (p v : Int) (hc : cI p = 1) (w : World) : Calls Tryz.prog 103 #[.int .i64 p, .int .i64 1, .int .i64 v] w (ShPost 1 p v w) := by
 have hr : shR 1 p v = v % 256 / 2 := by unfold shR; simp
 have hn : shN 1 p v = nzI (wI p 1 (decide (v % 2 = 1))) (v % 256 / 2) := by rw [shN_yes 1 p v (by omega), hr, nz_c]; rfl
 have H := Lib.hid (And.intro hn hr)
 clear hn hr
 have HW := Lib.hid spec_with
 have HN := Lib.hid spec_nz
 have hC := and_1 p
 rw [hc] at hC
 have hV := and_255 v
 have hV2 := and_255 (v % 256 * 2)
 have ho := or1 (v % 256) (by omega)
 have ho1 := ho.1
 have ho2 := ho.2.1
 have hh := hi_bit (v % 256) (by omega)
 have hh1 := hh.1
 have hh2 := hh.2.1
 rw [show v % 256 % 2 = v % 2 by omega] at hh2
 clear ho hh hc
 go_enter Tryz.func103, Tryz.ntmps103
 go_wp2_with (first
  | (go_at_call 101; refine (HN.out _ _ _).mono ?_; rintro e w' ⟨rfl, rfl⟩)
  | (go_at_call 53; refine (HW.out _ _ _ _).mono ?_; rintro e w' ⟨rfl, rfl⟩))
 go_ret2
 exact ⟨by rw [H.out.1, H.out.2]; rfl, rfl⟩
theorem spec_shift_2_0 (p v : Int) (hc : cI p = 0) (w : World) : Calls Tryz.prog 103 #[.int .i64 p, .int .i64 2, .int .i64 v] w (ShPost 2 p v w) := by
 have hr : shR 2 p v = v % 256 * 2 % 256 := by unfold shR; simp [hc]
 have hn : shN 2 p v = nzI (wI p 1 (decide (128 ≤ v % 256))) (v % 256 * 2 % 256) := by rw [shN_yes 2 p v (by omega), hr, nz_c]; rfl
 have H := Lib.hid (And.intro hn hr)
 clear hn hr
 have HW := Lib.hid spec_with
 have HN := Lib.hid spec_nz
 have hC := and_1 p
 rw [hc] at hC
 have hV := and_255 v
 have hV2 := and_255 (v % 256 * 2)
 have ho := or1 (v % 256) (by omega)
 have ho1 := ho.1
 have ho2 := ho.2.1
 have hh := hi_bit (v % 256) (by omega)
 have hh1 := hh.1
 have hh2 := hh.2.1
 rw [show v % 256 % 2 = v % 2 by omega] at hh2
 clear ho hh hc
 go_enter Tryz.func103, Tryz.ntmps103
 go_wp2_with (first
  | (go_at_call 101; refine (HN.out _ _ _).mono ?_; rintro e w' ⟨rfl, rfl⟩)
  | (go_at_call 53; refine (HW.out _ _ _ _).mono ?_; rintro e w' ⟨rfl, rfl⟩))
 go_ret2
 exact ⟨by rw [H.out.1, H.out.2]; rfl, rfl⟩
theorem spec_shift_2_1 (p v : Int) (hc : cI p = 1) (w : World) : Calls Tryz.prog 103 #[.int .i64 p, .int .i64 2, .int .i64 v] w (ShPost 2 p v w) := by
 have hr : shR 2 p v = v % 256 * 2 % 256 + 1 := by unfold shR; simp [hc]
 have hn : shN 2 p v = nzI (wI p 1 (decide (128 ≤ v % 256))) (v % 256 * 2 % 256 + 1) := by rw [shN_yes 2 p v (by omega), hr, nz_c]; rfl
 have H := Lib.hid (And.intro hn hr)
 clear hn hr
 have HW := Lib.hid spec_with
 have HN := Lib.hid spec_nz
 have hC := and_1 p
 rw [hc] at hC
 have hV := and_255 v
 have hV2 := and_255 (v % 256 * 2)
 have ho := or1 (v % 256) (by omega)
 have ho1 := ho.1
 have ho2 := ho.2.1
 have hh := hi_bit (v % 256) (by omega)
 have hh1 := hh.1
 have hh2 := hh.2.1
 rw [show v % 256 % 2 = v % 2 by omega] at hh2
 clear ho hh hc
 go_enter Tryz.func103, Tryz.ntmps103
 go_wp2_with (first
  | (go_at_call 101; refine (HN.out _ _ _).mono ?_; rintro e w' ⟨rfl, rfl⟩)
  | (go_at_call 53; refine (HW.out _ _ _ _).mono ?_; rintro e w' ⟨rfl, rfl⟩))
 go_ret2
 exact ⟨by rw [H.out.1, H.out.2]; rfl, rfl⟩
theorem spec_shift_3_0 (p v : Int) (hc : cI p = 0) (w : World) : Calls Tryz.prog 103 #[.int .i64 p, .int .i64 3, .int .i64 v] w (ShPost 3 p v w) := by
 have hr : shR 3 p v = v % 256 / 2 := by unfold shR; simp [hc]
 have hn : shN 3 p v = nzI (wI p 1 (decide (v % 2 = 1))) (v % 256 / 2) := by rw [shN_yes 3 p v (by omega), hr, nz_c]; rfl
 have H := Lib.hid (And.intro hn hr)
 clear hn hr
 have HW := Lib.hid spec_with
 have HN := Lib.hid spec_nz
 have hC := and_1 p
 rw [hc] at hC
 have hV := and_255 v
 have hV2 := and_255 (v % 256 * 2)
 have ho := or1 (v % 256) (by omega)
 have ho1 := ho.1
 have ho2 := ho.2.1
 have hh := hi_bit (v % 256) (by omega)
 have hh1 := hh.1
 have hh2 := hh.2.1
 rw [show v % 256 % 2 = v % 2 by omega] at hh2
 clear ho hh hc
 go_enter Tryz.func103, Tryz.ntmps103
 go_wp2_with (first
  | (go_at_call 101; refine (HN.out _ _ _).mono ?_; rintro e w' ⟨rfl, rfl⟩)
  | (go_at_call 53; refine (HW.out _ _ _ _).mono ?_; rintro e w' ⟨rfl, rfl⟩))
 go_ret2
 exact ⟨by rw [H.out.1, H.out.2]; rfl, rfl⟩
theorem spec_shift_3_1 (p v : Int) (hc : cI p = 1) (w : World) : Calls Tryz.prog 103 #[.int .i64 p, .int .i64 3, .int .i64 v] w (ShPost 3 p v w) := by
 have hr : shR 3 p v = v % 256 / 2 + 128 := by unfold shR; simp [hc]
 have hn : shN 3 p v = nzI (wI p 1 (decide (v % 2 = 1))) (v % 256 / 2 + 128) := by rw [shN_yes 3 p v (by omega), hr, nz_c]; rfl
 have H := Lib.hid (And.intro hn hr)
 clear hn hr
 have HW := Lib.hid spec_with
 have HN := Lib.hid spec_nz
 have hC := and_1 p
 rw [hc] at hC
 have hV := and_255 v
 have hV2 := and_255 (v % 256 * 2)
 have ho := or1 (v % 256) (by omega)
 have ho1 := ho.1
 have ho2 := ho.2.1
 have hh := hi_bit (v % 256) (by omega)
 have hh1 := hh.1
 have hh2 := hh.2.1
 rw [show v % 256 % 2 = v % 2 by omega] at hh2
 clear ho hh hc
 go_enter Tryz.func103, Tryz.ntmps103
 go_wp2_with (first
  | (go_at_call 101; refine (HN.out _ _ _).mono ?_; rintro e w' ⟨rfl, rfl⟩)
  | (go_at_call 53; refine (HW.out _ _ _ _).mono ?_; rintro e w' ⟨rfl, rfl⟩))
 go_ret2
 exact ⟨by rw [H.out.1, H.out.2]; rfl, rfl⟩
theorem spec_shift (p kind v : Int) (w : World) : Calls Tryz.prog 103 #[.int .i64 p, .int .i64 kind, .int .i64 v] w (ShPost kind p v w) := by
 by_cases h : 0 ≤ kind ∧ kind ≤ 3
 ·have hc : cI p = 0 ∨ cI p = 1 := by have := cI_bd p; omega
  obtain rfl | rfl | rfl | rfl : kind = 0 ∨ kind = 1 ∨ kind = 2 ∨ kind = 3 := by omega
  ·exact hc.elim (fun h => spec_shift_0_0 p v h w) (fun h => spec_shift_0_1 p v h w)
  ·exact hc.elim (fun h => spec_shift_1_0 p v h w) (fun h => spec_shift_1_1 p v h w)
  ·exact hc.elim (fun h => spec_shift_2_0 p v h w) (fun h => spec_shift_2_1 p v h w)
  ·exact hc.elim (fun h => spec_shift_3_0 p v h w) (fun h => spec_shift_3_1 p v h w)
 ·exact spec_shift_no kind p v h w
end Go.Proofs.YthklebkpoccblaaGreat
namespace Go.Proofs.YthklebkpoccblaaGreat
open Go.RowKit
def flagI (p : Int) (n : ByteArray) : Int := if n = ⟨#[67, 76, 67]⟩ then wI p 1 false else if n = ⟨#[83, 69, 67]⟩ then wI p 1 true else if n = ⟨#[67, 76, 73]⟩ then wI p 4 false else if n = ⟨#[83, 69, 73]⟩ then wI p 4 true else if n = ⟨#[67, 76, 86]⟩ then wI p 64 false else if n = ⟨#[67, 76, 68]⟩ then wI p 8 false else if n = ⟨#[83, 69, 68]⟩ then wI p 8 true else p
def changeI (p : Int) (n : ByteArray) (v : Int) : Int × Int := if n = ⟨#[65, 83, 76]⟩ then (shN 0 p v, shR 0 p v) else if n = ⟨#[76, 83, 82]⟩ then (shN 1 p v, shR 1 p v) else if n = ⟨#[82, 79, 76]⟩ then (shN 2 p v, shR 2 p v) else if n = ⟨#[82, 79, 82]⟩ then (shN 3 p v, shR 3 p v) else if n = ⟨#[73, 78, 67]⟩ then (nzI p ((v + 1) % 256), (v + 1) % 256) else if n = ⟨#[68, 69, 67]⟩ then (nzI p ((v - 1) % 256), (v - 1) % 256) else (p, v)
end Go.Proofs.YthklebkpoccblaaGreat
namespace Go.Proofs.YthklebkpoccblaaGreat
open Go.RowKit
theorem row_set {w : World} {b i : Nat} {cs : Array Value} {t : TypeId} {v : Value} (h : w.heap[b]? = some (.cells cs t (0, 0))) : (w.setCell ⟨b, i, none⟩ v).heap[b]? = some (.cells (cs.setIfInBounds i v) t (0, 0)) := by
 rw [setCell_eq_setRow _ _ _ _ _ _ _ h]
 exact setRow_heap _ _ _ _ _ _ h
theorem row_far {w : World} {b c i : Nat} {x : Obj} {v : Value} (h : w.heap[b]? = some x) (hne : b ≠ c) : (w.setCell ⟨c, i, none⟩ v).heap[b]? = some x := (Below.heap_setCell w ⟨c, i, none⟩ v b hne).trans h
theorem row_row {w : World} {b c : Nat} {x : Obj} {cs : Array Value} (h : w.heap[b]? = some x) (hne : b ≠ c) : (w.setRow c cs).heap[b]? = some x := (setRow_other w c b cs hne).trans h
theorem below_row {B b : Nat} {w w1 : World} {cs : Array Value} (h : Below B w w1) (hb : B ≤ b) : Below B w (w1.setRow b cs) :=
 ⟨h.os, h.tape, h.output, by rw [setRow_size]; exact h.size, fun k hk => (setRow_other _ _ _ _ (by omega)).trans (h.block k hk)⟩
theorem below_put {B b i : Nat} {w w1 : World} {v : Value} (h : Below B w w1) (hb : B ≤ b) : Below B w (w1.setCell ⟨b, i, none⟩ v) := h.setCell hb v
theorem row_drew {w : World} {b : Nat} {x : Option Obj} (h : w.heap[b]? = x) : w.drew.heap[b]? = x := h
theorem cell_drew (w : World) (a : Addr) : w.drew.cell? a = w.cell? a := rfl
theorem far_step {w u : World} {b c i j : Nat} {v : Value} (h : w.cell? ⟨b, i, none⟩ = u.cell? ⟨b, i, none⟩) (hne : c ≠ b) : (w.setCell ⟨c, j, none⟩ v).cell? ⟨b, i, none⟩ = u.cell? ⟨b, i, none⟩ :=
 (World.cell?_setCell_other w ⟨c, j, none⟩ ⟨b, i, none⟩ v (fun e => hne (congrArg Addr.block e))).trans h
section
variable {P : Program} {ops : Array Oper} {rest : List Oper} {o : Oper} {a : Act} {w : World} {Q : Exit → Act → World → Prop}
theorem load_row (hgd : o.guard = none) (T : TypeId) (x : Operand) (ho : o.op = .load T x) (b : Nat) (hx : a.eval x = .pointer (some ⟨b, 0, none⟩)) (n : Nat) (d : TypeDesc) (hu : P.underlying T = some d) (hd : (match d with | .struct _ | .array _ _ => true | _ => false) = true) (hi : (P.info? T).map (·.size) = some n)
  {cs : Array Value} {t : TypeId} (hg : w.heap[b]? = some (.cells cs t (0, 0))) (hn : cs.size = n) (h : wpList P ops Q rest (a.put o.dst (.agg cs)) w) : wpList P ops Q (o :: rest) a w :=
 wpList_load_row hgd T x ho b hx t cs (0, 0) d hg hu hd (by rw [hi, hn]) h
theorem store_row (hgd : o.guard = none) (T : TypeId) (x y : Operand) (ho : o.op = .store T x y) (b : Nat) (cs : Array Value) (hx : a.eval x = .pointer (some ⟨b, 0, none⟩)) (hy : a.eval y = .agg cs) (n : Nat) (hi : (P.info? T).map (·.size) = some n)
  {old : Array Value} {t : TypeId} (hg : w.heap[b]? = some (.cells old t (0, 0))) (hn : cs.size = n) (ho2 : old.size = n) (h1 : cs.toList.all (·.oneCell') = true) (h : wpList P ops Q rest (a.put o.dst undef) (w.setRow b cs)) : wpList P ops Q (o :: rest) a w :=
 wpList_store_row hgd T x y ho b cs hx hy t old hg (by rw [hi, hn]) (by rw [hn, ho2]) (by rw [← Array.all_toList]; exact h1) h
end
theorem row_post {P : Program} {fn : Func} {R : Ending → World → Prop} {a : Act} {W : World} {p : Tmp} {T : TypeId} {g n : Nat} {cs old : Array Value} {t : TypeId} {d : TypeDesc} (hr : fn.results = #[.cell p T]) (hp : a.tmps.getD p undef = .pointer (some ⟨g, 0, none⟩))
  (hu : P.underlying T = some d) (hd : (match d with | .struct _ | .array _ _ => true | _ => false) = true) (hi : (P.info? T).map (·.size) = some n) (hn : cs.size = n) (hde : a.defers = [])
  (hg : W.heap[g]? = some (.cells old t (0, 0))) (hR : R (.returned (.agg cs)) (W.setRow g cs)) : bodyPost P fn R .ret a (W.setRow g cs) :=
 bodyPost_ret (results_cell_row hr _ _ g t cs (0, 0) d hp (setRow_heap _ _ _ _ _ _ hg) hu hd (by rw [hi, hn])) hde hR
theorem row_tmp_post {P : Program} {fn : Func} {R : Ending → World → Prop} {a : Act} {w : World} {p q : Tmp} {T : TypeId} {g n : Nat} {cs : Array Value} {t : TypeId} {d : TypeDesc} {v : Value} (hr : fn.results = #[.cell p T, .tmp q]) (hp : a.tmps.getD p undef = .pointer (some ⟨g, 0, none⟩)) (hv : a.tmps.getD q undef = v)
  (hu : P.underlying T = some d) (hd : (match d with | .struct _ | .array _ _ => true | _ => false) = true) (hi : (P.info? T).map (·.size) = some n) (hde : a.defers = [])
  (hg : w.heap[g]? = some (.cells cs t (0, 0))) (hn : cs.size = n) (hR : R (.returned (.tuple #[.agg cs, v])) w) : bodyPost P fn R .ret a w := by
 refine bodyPost_ret ?_ hde hR
 have hp' : a.tmps[p]?.getD undef = .pointer (some ⟨g, 0, none⟩) := by simpa using hp
 have hv' : a.tmps[q]?.getD undef = v := by simpa using hv
 simp [results, hr, hp', hv', asAddr, run_loadVar_row w g t T cs (0, 0) d hg hu hd (by rw [hi, hn])]
end Go.Proofs.YthklebkpoccblaaGreat
namespace Go.Proofs.YthklebkpoccblaaGreat
open Go.RowKit
def AddPost (k : IntKind) (n r : Int) (w : World) (e : Ending) (w' : World) : Prop := e = .returned (.tuple #[.int k n, .int k r]) ∧ w = w'
theorem spec_add_bin (p a b : Int) (ht : tst p 8 = false) (w : World) :
  Calls Tryz.prog 97 #[.int .i64 p, .int .i64 a, .int .i64 b] w (AddPost .i64 (addN p a b) (addR p a b) w) := by
 have HW := Lib.hid spec_with
 have HN := Lib.hid spec_nz
 have h8 := tst_i64 p 8 (by omega)
 rw [ht] at h8
 have hA := and_255 a
 have hB := and_255 b
 have hC := and_1 p
 have h0 := cI_bd p
 have hS := sg_i64 (a % 256) (b % 256) (a % 256 + b % 256 + cI p)
 rw [sg_mod] at hS
 have hR := and_255 (a % 256 + b % 256 + cI p)
 have H : Hid (addN p a b = wI (wI (nzI p (a % 256 + b % 256 + cI p)) 64 (sg a b (a % 256 + b % 256 + cI p))) 1 (decide (255 < a % 256 + b % 256 + cI p)) ∧ addR p a b = (a % 256 + b % 256 + cI p) % 256) :=
  Lib.hid (by unfold addN addR binN rI; rw [ht]; exact ⟨rfl, rfl⟩)
 go_enter Tryz.func97, Tryz.ntmps97
 go_wp2_with (first
  | (go_at_call 101; refine (HN.out _ _ _).mono ?_; rintro e w' ⟨rfl, rfl⟩)
  | (go_at_call 53; refine (HW.out _ _ _ _).mono ?_; rintro e w' ⟨rfl, rfl⟩))
 go_ret2
 unfold AddPost
 rw [H.out.1, H.out.2]
 exact ⟨rfl, rfl⟩
theorem spec_add_ten (p a b : Int) (ht : tst p 8 = true) (w : World) :
  Calls Tryz.prog 97 #[.int .i64 p, .int .i64 a, .int .i64 b] w (AddPost .i64 (addN p a b) (addR p a b) w) := by
 have HW := Lib.hid spec_with
 have HN := Lib.hid spec_nz
 have h8 := tst_i64 p 8 (by omega)
 rw [ht] at h8
 have hA := and_255 a
 have hB := and_255 b
 have hC := and_1 p
 have h0 := cI_bd p
 have hA1 := and_15 (a % 256)
 have hB1 := and_15 (b % 256)
 rw [show a % 256 % 16 = a % 16 by omega] at hA1
 rw [show b % 256 % 16 = b % 16 by omega] at hB1
 have hA2 := and_240 (a % 256)
 have hB2 := and_240 (b % 256)
 rw [Int.emod_emod] at hA2 hB2
 by_cases h9 : 9 < a % 16 + b % 16 + cI p
 ·have hl := and_15 (a % 16 + b % 16 + cI p + 6)
  have hs : sI p a b = a % 256 / 16 * 16 + b % 256 / 16 * 16 + ((a % 16 + b % 16 + cI p + 6) % 16 + 16) := by unfold sI lowI; rw [if_pos h9]
  by_cases h160 : 160 ≤ a % 256 / 16 * 16 + b % 256 / 16 * 16 + ((a % 16 + b % 16 + cI p + 6) % 16 + 16)
  ·have HX := Lib.hid (ten_close p a b _ (a % 256 / 16 * 16 + b % 256 / 16 * 16 + ((a % 16 + b % 16 + cI p + 6) % 16 + 16) + 96) ht hs (by unfold upI; rw [if_pos h160]))
   clear hs
   go_enter Tryz.func97, Tryz.ntmps97
   go_wp2_with (first
    | (go_at_call 101; refine (HN.out _ _ _).mono ?_; rintro e w' ⟨rfl, rfl⟩)
    | (go_at_call 53; refine (HW.out _ _ _ _).mono ?_; rintro e w' ⟨rfl, rfl⟩))
   go_ret2
   exact ⟨by rw [← HX.out.1, ← HX.out.2]; rfl, rfl⟩
  ·have HX := Lib.hid (ten_close p a b _ (a % 256 / 16 * 16 + b % 256 / 16 * 16 + ((a % 16 + b % 16 + cI p + 6) % 16 + 16)) ht hs (by unfold upI; rw [if_neg h160]))
   clear hs
   go_enter Tryz.func97, Tryz.ntmps97
   go_wp2_with (first
    | (go_at_call 101; refine (HN.out _ _ _).mono ?_; rintro e w' ⟨rfl, rfl⟩)
    | (go_at_call 53; refine (HW.out _ _ _ _).mono ?_; rintro e w' ⟨rfl, rfl⟩))
   go_ret2
   exact ⟨by rw [← HX.out.1, ← HX.out.2]; rfl, rfl⟩
 ·have hs : sI p a b = a % 256 / 16 * 16 + b % 256 / 16 * 16 + (a % 16 + b % 16 + cI p) := by unfold sI lowI; rw [if_neg h9]
  by_cases h160 : 160 ≤ a % 256 / 16 * 16 + b % 256 / 16 * 16 + (a % 16 + b % 16 + cI p)
  ·have HX := Lib.hid (ten_close p a b _ (a % 256 / 16 * 16 + b % 256 / 16 * 16 + (a % 16 + b % 16 + cI p) + 96) ht hs (by unfold upI; rw [if_pos h160]))
   clear hs
   go_enter Tryz.func97, Tryz.ntmps97
   go_wp2_with (first
    | (go_at_call 101; refine (HN.out _ _ _).mono ?_; rintro e w' ⟨rfl, rfl⟩)
    | (go_at_call 53; refine (HW.out _ _ _ _).mono ?_; rintro e w' ⟨rfl, rfl⟩))
   go_ret2
   exact ⟨by rw [← HX.out.1, ← HX.out.2]; rfl, rfl⟩
  ·have HX := Lib.hid (ten_close p a b _ (a % 256 / 16 * 16 + b % 256 / 16 * 16 + (a % 16 + b % 16 + cI p)) ht hs (by unfold upI; rw [if_neg h160]))
   clear hs
   go_enter Tryz.func97, Tryz.ntmps97
   go_wp2_with (first
    | (go_at_call 101; refine (HN.out _ _ _).mono ?_; rintro e w' ⟨rfl, rfl⟩)
    | (go_at_call 53; refine (HW.out _ _ _ _).mono ?_; rintro e w' ⟨rfl, rfl⟩))
   go_ret2
   exact ⟨by rw [← HX.out.1, ← HX.out.2]; rfl, rfl⟩
theorem spec_add (p a b : Int) (w : World) : Calls Tryz.prog 97 #[.int .i64 p, .int .i64 a, .int .i64 b] w (AddPost .i64 (addN p a b) (addR p a b) w) := by
 cases ht : tst p 8
 ·exact spec_add_bin p a b ht w
 ·exact spec_add_ten p a b ht w
end Go.Proofs.YthklebkpoccblaaGreat
namespace Go.Proofs.YthklebkpoccblaaGreat
open Go.RowKit
theorem spec_sub_bin (p a b : Int) (ht : tst p 8 = false) (w : World) :
  Calls Tryz.prog 98 #[.int .i64 p, .int .i64 a, .int .i64 b] w (AddPost .i64 (subN p a b) (subR p a b) w) := by
 have HW := Lib.hid spec_with
 have HN := Lib.hid spec_nz
 have h8 := tst_i64 p 8 (by omega)
 rw [ht] at h8
 have hA := and_255 a
 have hB := and_255 b
 have hC := and_1 p
 have h0 := cI_bd p
 have hR := and_255 (a % 256 - b % 256 + (cI p - 1))
 have H : Hid (subR p a b = (a % 256 - b % 256 + (cI p - 1)) % 256) := Lib.hid (by unfold subR; rw [ht]; rfl)
 have H2 := Lib.hid (sub_close p a b)
 go_enter Tryz.func98, Tryz.ntmps98
 go_wp2_with (first
  | (go_at_call 101; refine (HN.out _ _ _).mono ?_; rintro e w' ⟨rfl, rfl⟩)
  | (go_at_call 53; refine (HW.out _ _ _ _).mono ?_; rintro e w' ⟨rfl, rfl⟩))
 go_ret2
 exact ⟨by rw [H.out, ← H2.out]; rfl, rfl⟩
theorem spec_sub_ten (p a b : Int) (ht : tst p 8 = true) (w : World) :
  Calls Tryz.prog 98 #[.int .i64 p, .int .i64 a, .int .i64 b] w (AddPost .i64 (subN p a b) (subR p a b) w) := by
 have HW := Lib.hid spec_with
 have HN := Lib.hid spec_nz
 have h8 := tst_i64 p 8 (by omega)
 rw [ht] at h8
 have hA := and_255 a
 have hB := and_255 b
 have hC := and_1 p
 have h0 := cI_bd p
 have hA1 := and_15 (a % 256)
 have hB1 := and_15 (b % 256)
 rw [show a % 256 % 16 = a % 16 by omega] at hA1
 rw [show b % 256 % 16 = b % 16 by omega] at hB1
 have hA2 := and_240 (a % 256)
 have hB2 := and_240 (b % 256)
 rw [Int.emod_emod] at hA2 hB2
 have H2 := Lib.hid (sub_close p a b)
 by_cases h9 : a % 16 - b % 16 + (cI p - 1) < 0
 ·have hl := and_15 (a % 16 - b % 16 + (cI p - 1) - 6)
  have hs : tI p a b = a % 256 / 16 * 16 - b % 256 / 16 * 16 + ((a % 16 - b % 16 + (cI p - 1) - 6) % 16 - 16) := by unfold tI lowS; rw [if_pos h9]
  by_cases h0s : a % 256 / 16 * 16 - b % 256 / 16 * 16 + ((a % 16 - b % 16 + (cI p - 1) - 6) % 16 - 16) < 0
  ·have hu := and_255 (a % 256 / 16 * 16 - b % 256 / 16 * 16 + ((a % 16 - b % 16 + (cI p - 1) - 6) % 16 - 16) - 96)
   have HX : Hid (subR p a b = (a % 256 / 16 * 16 - b % 256 / 16 * 16 + ((a % 16 - b % 16 + (cI p - 1) - 6) % 16 - 16) - 96) % 256) := Lib.hid (by unfold subR dnI; rw [ht, hs, if_pos h0s]; rfl)
   clear hs
   go_enter Tryz.func98, Tryz.ntmps98
   go_wp2_with (first
    | (go_at_call 101; refine (HN.out _ _ _).mono ?_; rintro e w' ⟨rfl, rfl⟩)
    | (go_at_call 53; refine (HW.out _ _ _ _).mono ?_; rintro e w' ⟨rfl, rfl⟩))
   go_ret2
   exact ⟨by rw [HX.out, ← H2.out]; rfl, rfl⟩
  ·have hu := and_255 (a % 256 / 16 * 16 - b % 256 / 16 * 16 + ((a % 16 - b % 16 + (cI p - 1) - 6) % 16 - 16))
   have HX : Hid (subR p a b = (a % 256 / 16 * 16 - b % 256 / 16 * 16 + ((a % 16 - b % 16 + (cI p - 1) - 6) % 16 - 16)) % 256) := Lib.hid (by unfold subR dnI; rw [ht, hs, if_neg h0s]; rfl)
   clear hs
   go_enter Tryz.func98, Tryz.ntmps98
   go_wp2_with (first
    | (go_at_call 101; refine (HN.out _ _ _).mono ?_; rintro e w' ⟨rfl, rfl⟩)
    | (go_at_call 53; refine (HW.out _ _ _ _).mono ?_; rintro e w' ⟨rfl, rfl⟩))
   go_ret2
   exact ⟨by rw [HX.out, ← H2.out]; rfl, rfl⟩
 ·skip
  have hs : tI p a b = a % 256 / 16 * 16 - b % 256 / 16 * 16 + (a % 16 - b % 16 + (cI p - 1)) := by unfold tI lowS; rw [if_neg h9]
  by_cases h0s : a % 256 / 16 * 16 - b % 256 / 16 * 16 + (a % 16 - b % 16 + (cI p - 1)) < 0
  ·have hu := and_255 (a % 256 / 16 * 16 - b % 256 / 16 * 16 + (a % 16 - b % 16 + (cI p - 1)) - 96)
   have HX : Hid (subR p a b = (a % 256 / 16 * 16 - b % 256 / 16 * 16 + (a % 16 - b % 16 + (cI p - 1)) - 96) % 256) := Lib.hid (by unfold subR dnI; rw [ht, hs, if_pos h0s]; rfl)
   clear hs
   go_enter Tryz.func98, Tryz.ntmps98
   go_wp2_with (first
    | (go_at_call 101; refine (HN.out _ _ _).mono ?_; rintro e w' ⟨rfl, rfl⟩)
    | (go_at_call 53; refine (HW.out _ _ _ _).mono ?_; rintro e w' ⟨rfl, rfl⟩))
   go_ret2
   exact ⟨by rw [HX.out, ← H2.out]; rfl, rfl⟩
  ·have hu := and_255 (a % 256 / 16 * 16 - b % 256 / 16 * 16 + (a % 16 - b % 16 + (cI p - 1)))
   have HX : Hid (subR p a b = (a % 256 / 16 * 16 - b % 256 / 16 * 16 + (a % 16 - b % 16 + (cI p - 1))) % 256) := Lib.hid (by unfold subR dnI; rw [ht, hs, if_neg h0s]; rfl)
   clear hs
   go_enter Tryz.func98, Tryz.ntmps98
   go_wp2_with (first
    | (go_at_call 101; refine (HN.out _ _ _).mono ?_; rintro e w' ⟨rfl, rfl⟩)
    | (go_at_call 53; refine (HW.out _ _ _ _).mono ?_; rintro e w' ⟨rfl, rfl⟩))
   go_ret2
   exact ⟨by rw [HX.out, ← H2.out]; rfl, rfl⟩
theorem spec_sub (p a b : Int) (w : World) : Calls Tryz.prog 98 #[.int .i64 p, .int .i64 a, .int .i64 b] w (AddPost .i64 (subN p a b) (subR p a b) w) := by
 cases ht : tst p 8
 ·exact spec_sub_bin p a b ht w
 ·exact spec_sub_ten p a b ht w
theorem spec_compare (p a b : Int) (w : World) :
  Calls Tryz.prog 99 #[.int .i64 p, .int .i64 a, .int .i64 b] w fun e w' => e = .returned (.int .i64 (cmpN p a b)) ∧ w = w' := by
 have HW := Lib.hid spec_with
 have HN := Lib.hid spec_nz
 have hA := and_255 a
 have hB := and_255 b
 go_enter Tryz.func99, Tryz.ntmps99
 go_wp2_with (first
  | (go_at_call 101; refine (HN.out _ _ _).mono ?_; rintro e w' ⟨rfl, rfl⟩)
  | (go_at_call 53; refine (HW.out _ _ _ _).mono ?_; rintro e w' ⟨rfl, rfl⟩))
 go_ret
 exact ⟨rfl, rfl⟩
end Go.Proofs.YthklebkpoccblaaGreat
