/-
  Registers as values; which branches are taken (chapter 9).
  Conditions: as each says; each walk leaves old memory as it was.
-/
import Derived.Test.YtfeifcffgachoaaNeL
import Derived.Test.YtfeifcffgachoaaAlA
import Derived.Deep.QuietTactic
namespace Go.Proofs.Ytfeifcffgachoaa
open Go.RowKit
/-- The registers. -/
structure RegI where
  a : Int
  x : Int
  y : Int
  s : Int
  p : Int
  pc : Int
def regC (k : RegI) : Array Value := #[.int .i64 k.a, .int .i64 k.x, .int .i64 k.y, .int .i64 k.s, .int .i64 k.p, .int .i64 k.pc]
def regI (k : RegI) : Value := .agg (regC k)
theorem regI_mk (a x y s p pc : Int) : regI ⟨a, x, y, s, p, pc⟩ = .agg #[.int .i64 a, .int .i64 x, .int .i64 y, .int .i64 s, .int .i64 p, .int .i64 pc] := rfl
theorem reg_size : (Try.prog.info? 25).map (·.size) = some 6 := by kernel_rfl
theorem w64_8 (n : Int) : wrap64 n % 256 = n % 256 := by unfold wrap64; omega
theorem tst_0 (p f : Int) (hf : 0 ≤ f ∧ f < 256) : (bits .and .i64 p f == 0) = !tst p f := by
  rw [← tst_i64 p f hf]
  unfold bne
  rw [Bool.not_not]
/-- Which branches are taken. -/
def takesI (n : ByteArray) (p : Int) : Bool := if n = ⟨#[66, 80, 76]⟩ then !tst p 128 else if n = ⟨#[66, 77, 73]⟩ then tst p 128 else if n = ⟨#[66, 86, 67]⟩ then !tst p 64 else if n = ⟨#[66, 86, 83]⟩ then tst p 64 else if n = ⟨#[66, 67, 67]⟩ then !tst p 1 else if n = ⟨#[66, 67, 83]⟩ then tst p 1 else if n = ⟨#[66, 78, 69]⟩ then !tst p 2 else if n = ⟨#[66, 69, 81]⟩ then tst p 2 else false
set_option maxRecDepth 100000 in
set_option maxHeartbeats 1000000 in
theorem spec_takes_BPL (p : Int) (w : World) : Calls Try.prog 16 #[.string ⟨#[66, 80, 76]⟩, .int .i64 p] w fun e w' => e = .returned (.bool (takesI ⟨#[66, 80, 76]⟩ p)) ∧ w = w' := by
  have HV := Lib.hid (show takesI ⟨#[66, 80, 76]⟩ p = !tst p 128 from rfl)
  have h1 := tst_i64 p 128 (by omega)
  have h0 := tst_0 p 128 (by omega)
  go_enter Try.func16, Try.ntmps16
  go_wp2
  go_ret
  exact ⟨by rw [HV.out]; first | rfl | simp [*], rfl⟩
set_option maxRecDepth 100000 in
set_option maxHeartbeats 1000000 in
theorem spec_takes_BMI (p : Int) (w : World) : Calls Try.prog 16 #[.string ⟨#[66, 77, 73]⟩, .int .i64 p] w fun e w' => e = .returned (.bool (takesI ⟨#[66, 77, 73]⟩ p)) ∧ w = w' := by
  have HV := Lib.hid (show takesI ⟨#[66, 77, 73]⟩ p = tst p 128 from rfl)
  have h1 := tst_i64 p 128 (by omega)
  have h0 := tst_0 p 128 (by omega)
  go_enter Try.func16, Try.ntmps16
  go_wp2
  go_ret
  exact ⟨by rw [HV.out]; first | rfl | simp [*], rfl⟩
set_option maxRecDepth 100000 in
set_option maxHeartbeats 1000000 in
theorem spec_takes_BVC (p : Int) (w : World) : Calls Try.prog 16 #[.string ⟨#[66, 86, 67]⟩, .int .i64 p] w fun e w' => e = .returned (.bool (takesI ⟨#[66, 86, 67]⟩ p)) ∧ w = w' := by
  have HV := Lib.hid (show takesI ⟨#[66, 86, 67]⟩ p = !tst p 64 from rfl)
  have h1 := tst_i64 p 64 (by omega)
  have h0 := tst_0 p 64 (by omega)
  go_enter Try.func16, Try.ntmps16
  go_wp2
  go_ret
  exact ⟨by rw [HV.out]; first | rfl | simp [*], rfl⟩
set_option maxRecDepth 100000 in
set_option maxHeartbeats 1000000 in
theorem spec_takes_BVS (p : Int) (w : World) : Calls Try.prog 16 #[.string ⟨#[66, 86, 83]⟩, .int .i64 p] w fun e w' => e = .returned (.bool (takesI ⟨#[66, 86, 83]⟩ p)) ∧ w = w' := by
  have HV := Lib.hid (show takesI ⟨#[66, 86, 83]⟩ p = tst p 64 from rfl)
  have h1 := tst_i64 p 64 (by omega)
  have h0 := tst_0 p 64 (by omega)
  go_enter Try.func16, Try.ntmps16
  go_wp2
  go_ret
  exact ⟨by rw [HV.out]; first | rfl | simp [*], rfl⟩
set_option maxRecDepth 100000 in
set_option maxHeartbeats 1000000 in
theorem spec_takes_BCC (p : Int) (w : World) : Calls Try.prog 16 #[.string ⟨#[66, 67, 67]⟩, .int .i64 p] w fun e w' => e = .returned (.bool (takesI ⟨#[66, 67, 67]⟩ p)) ∧ w = w' := by
  have HV := Lib.hid (show takesI ⟨#[66, 67, 67]⟩ p = !tst p 1 from rfl)
  have h1 := tst_i64 p 1 (by omega)
  have h0 := tst_0 p 1 (by omega)
  go_enter Try.func16, Try.ntmps16
  go_wp2
  go_ret
  exact ⟨by rw [HV.out]; first | rfl | simp [*], rfl⟩
set_option maxRecDepth 100000 in
set_option maxHeartbeats 1000000 in
theorem spec_takes_BCS (p : Int) (w : World) : Calls Try.prog 16 #[.string ⟨#[66, 67, 83]⟩, .int .i64 p] w fun e w' => e = .returned (.bool (takesI ⟨#[66, 67, 83]⟩ p)) ∧ w = w' := by
  have HV := Lib.hid (show takesI ⟨#[66, 67, 83]⟩ p = tst p 1 from rfl)
  have h1 := tst_i64 p 1 (by omega)
  have h0 := tst_0 p 1 (by omega)
  go_enter Try.func16, Try.ntmps16
  go_wp2
  go_ret
  exact ⟨by rw [HV.out]; first | rfl | simp [*], rfl⟩
set_option maxRecDepth 100000 in
set_option maxHeartbeats 1000000 in
theorem spec_takes_BNE (p : Int) (w : World) : Calls Try.prog 16 #[.string ⟨#[66, 78, 69]⟩, .int .i64 p] w fun e w' => e = .returned (.bool (takesI ⟨#[66, 78, 69]⟩ p)) ∧ w = w' := by
  have HV := Lib.hid (show takesI ⟨#[66, 78, 69]⟩ p = !tst p 2 from rfl)
  have h1 := tst_i64 p 2 (by omega)
  have h0 := tst_0 p 2 (by omega)
  go_enter Try.func16, Try.ntmps16
  go_wp2
  go_ret
  exact ⟨by rw [HV.out]; first | rfl | simp [*], rfl⟩
set_option maxRecDepth 100000 in
set_option maxHeartbeats 1000000 in
theorem spec_takes_BEQ (p : Int) (w : World) : Calls Try.prog 16 #[.string ⟨#[66, 69, 81]⟩, .int .i64 p] w fun e w' => e = .returned (.bool (takesI ⟨#[66, 69, 81]⟩ p)) ∧ w = w' := by
  have HV := Lib.hid (show takesI ⟨#[66, 69, 81]⟩ p = tst p 2 from rfl)
  have h1 := tst_i64 p 2 (by omega)
  have h0 := tst_0 p 2 (by omega)
  go_enter Try.func16, Try.ntmps16
  go_wp2
  go_ret
  exact ⟨by rw [HV.out]; first | rfl | simp [*], rfl⟩
set_option maxRecDepth 100000 in
set_option maxHeartbeats 2000000 in
theorem spec_takes_other (p : Int) (n : ByteArray) (hBPL : ¬ n = ⟨#[66, 80, 76]⟩) (hBMI : ¬ n = ⟨#[66, 77, 73]⟩) (hBVC : ¬ n = ⟨#[66, 86, 67]⟩) (hBVS : ¬ n = ⟨#[66, 86, 83]⟩) (hBCC : ¬ n = ⟨#[66, 67, 67]⟩) (hBCS : ¬ n = ⟨#[66, 67, 83]⟩) (hBNE : ¬ n = ⟨#[66, 78, 69]⟩) (hBEQ : ¬ n = ⟨#[66, 69, 81]⟩) (w : World) : Calls Try.prog 16 #[.string n, .int .i64 p] w fun e w' => e = .returned (.bool (takesI n p)) ∧ w = w' := by
  have HV := Lib.hid (show takesI n p = false from by unfold takesI; rw [if_neg hBPL, if_neg hBMI, if_neg hBVC, if_neg hBVS, if_neg hBCC, if_neg hBCS, if_neg hBNE, if_neg hBEQ])
  have nBPL := ne_list [66, 80, 76] hBPL
  have nBMI := ne_list [66, 77, 73] hBMI
  have nBVC := ne_list [66, 86, 67] hBVC
  have nBVS := ne_list [66, 86, 83] hBVS
  have nBCC := ne_list [66, 67, 67] hBCC
  have nBCS := ne_list [66, 67, 83] hBCS
  have nBNE := ne_list [66, 78, 69] hBNE
  have nBEQ := ne_list [66, 69, 81] hBEQ
  clear hBPL hBMI hBVC hBVS hBCC hBCS hBNE hBEQ
  go_enter Try.func16, Try.ntmps16
  go_wp2
  go_ret
  exact ⟨by rw [HV.out]; rfl, rfl⟩
theorem spec_takes (p : Int) (n : ByteArray) (w : World) : Calls Try.prog 16 #[.string n, .int .i64 p] w fun e w' => e = .returned (.bool (takesI n p)) ∧ w = w' := by
  by_cases hBPL : n = ⟨#[66, 80, 76]⟩
  · subst hBPL; exact spec_takes_BPL p w
  by_cases hBMI : n = ⟨#[66, 77, 73]⟩
  · subst hBMI; exact spec_takes_BMI p w
  by_cases hBVC : n = ⟨#[66, 86, 67]⟩
  · subst hBVC; exact spec_takes_BVC p w
  by_cases hBVS : n = ⟨#[66, 86, 83]⟩
  · subst hBVS; exact spec_takes_BVS p w
  by_cases hBCC : n = ⟨#[66, 67, 67]⟩
  · subst hBCC; exact spec_takes_BCC p w
  by_cases hBCS : n = ⟨#[66, 67, 83]⟩
  · subst hBCS; exact spec_takes_BCS p w
  by_cases hBNE : n = ⟨#[66, 78, 69]⟩
  · subst hBNE; exact spec_takes_BNE p w
  by_cases hBEQ : n = ⟨#[66, 69, 81]⟩
  · subst hBEQ; exact spec_takes_BEQ p w
  exact spec_takes_other p n hBPL hBMI hBVC hBVS hBCC hBCS hBNE hBEQ w
set_option maxRecDepth 100000 in
set_option maxHeartbeats 1000000 in
theorem impl_takes_BPL (p : Int) (w : World) : Calls Try.prog 17 #[.string ⟨#[66, 80, 76]⟩, .int .i64 p] w fun e w' => e = .returned (.bool (takesI ⟨#[66, 80, 76]⟩ p)) ∧ w = w' := by
  have HV := Lib.hid (show takesI ⟨#[66, 80, 76]⟩ p = !tst p 128 from rfl)
  have HS := Lib.hid (fun w => is_set (p % 256) 128 w)
  rw [tst_mod] at HS
  go_enter Try.func17, Try.ntmps17
  go_wp2_with (go_at_call 44; refine (HS.out _).mono ?_; rintro e w' ⟨rfl, rfl⟩)
  go_ret
  exact ⟨by rw [HV.out]; first | rfl | simp [*], rfl⟩
set_option maxRecDepth 100000 in
set_option maxHeartbeats 1000000 in
theorem impl_takes_BMI (p : Int) (w : World) : Calls Try.prog 17 #[.string ⟨#[66, 77, 73]⟩, .int .i64 p] w fun e w' => e = .returned (.bool (takesI ⟨#[66, 77, 73]⟩ p)) ∧ w = w' := by
  have HV := Lib.hid (show takesI ⟨#[66, 77, 73]⟩ p = tst p 128 from rfl)
  have HS := Lib.hid (fun w => is_set (p % 256) 128 w)
  rw [tst_mod] at HS
  go_enter Try.func17, Try.ntmps17
  go_wp2_with (go_at_call 44; refine (HS.out _).mono ?_; rintro e w' ⟨rfl, rfl⟩)
  go_ret
  exact ⟨by rw [HV.out]; first | rfl | simp [*], rfl⟩
set_option maxRecDepth 100000 in
set_option maxHeartbeats 1000000 in
theorem impl_takes_BVC (p : Int) (w : World) : Calls Try.prog 17 #[.string ⟨#[66, 86, 67]⟩, .int .i64 p] w fun e w' => e = .returned (.bool (takesI ⟨#[66, 86, 67]⟩ p)) ∧ w = w' := by
  have HV := Lib.hid (show takesI ⟨#[66, 86, 67]⟩ p = !tst p 64 from rfl)
  have HS := Lib.hid (fun w => is_set (p % 256) 64 w)
  rw [tst_mod] at HS
  go_enter Try.func17, Try.ntmps17
  go_wp2_with (go_at_call 44; refine (HS.out _).mono ?_; rintro e w' ⟨rfl, rfl⟩)
  go_ret
  exact ⟨by rw [HV.out]; first | rfl | simp [*], rfl⟩
set_option maxRecDepth 100000 in
set_option maxHeartbeats 1000000 in
theorem impl_takes_BVS (p : Int) (w : World) : Calls Try.prog 17 #[.string ⟨#[66, 86, 83]⟩, .int .i64 p] w fun e w' => e = .returned (.bool (takesI ⟨#[66, 86, 83]⟩ p)) ∧ w = w' := by
  have HV := Lib.hid (show takesI ⟨#[66, 86, 83]⟩ p = tst p 64 from rfl)
  have HS := Lib.hid (fun w => is_set (p % 256) 64 w)
  rw [tst_mod] at HS
  go_enter Try.func17, Try.ntmps17
  go_wp2_with (go_at_call 44; refine (HS.out _).mono ?_; rintro e w' ⟨rfl, rfl⟩)
  go_ret
  exact ⟨by rw [HV.out]; first | rfl | simp [*], rfl⟩
set_option maxRecDepth 100000 in
set_option maxHeartbeats 1000000 in
theorem impl_takes_BCC (p : Int) (w : World) : Calls Try.prog 17 #[.string ⟨#[66, 67, 67]⟩, .int .i64 p] w fun e w' => e = .returned (.bool (takesI ⟨#[66, 67, 67]⟩ p)) ∧ w = w' := by
  have HV := Lib.hid (show takesI ⟨#[66, 67, 67]⟩ p = !tst p 1 from rfl)
  have HS := Lib.hid (fun w => is_set (p % 256) 1 w)
  rw [tst_mod] at HS
  go_enter Try.func17, Try.ntmps17
  go_wp2_with (go_at_call 44; refine (HS.out _).mono ?_; rintro e w' ⟨rfl, rfl⟩)
  go_ret
  exact ⟨by rw [HV.out]; first | rfl | simp [*], rfl⟩
set_option maxRecDepth 100000 in
set_option maxHeartbeats 1000000 in
theorem impl_takes_BCS (p : Int) (w : World) : Calls Try.prog 17 #[.string ⟨#[66, 67, 83]⟩, .int .i64 p] w fun e w' => e = .returned (.bool (takesI ⟨#[66, 67, 83]⟩ p)) ∧ w = w' := by
  have HV := Lib.hid (show takesI ⟨#[66, 67, 83]⟩ p = tst p 1 from rfl)
  have HS := Lib.hid (fun w => is_set (p % 256) 1 w)
  rw [tst_mod] at HS
  go_enter Try.func17, Try.ntmps17
  go_wp2_with (go_at_call 44; refine (HS.out _).mono ?_; rintro e w' ⟨rfl, rfl⟩)
  go_ret
  exact ⟨by rw [HV.out]; first | rfl | simp [*], rfl⟩
set_option maxRecDepth 100000 in
set_option maxHeartbeats 1000000 in
theorem impl_takes_BNE (p : Int) (w : World) : Calls Try.prog 17 #[.string ⟨#[66, 78, 69]⟩, .int .i64 p] w fun e w' => e = .returned (.bool (takesI ⟨#[66, 78, 69]⟩ p)) ∧ w = w' := by
  have HV := Lib.hid (show takesI ⟨#[66, 78, 69]⟩ p = !tst p 2 from rfl)
  have HS := Lib.hid (fun w => is_set (p % 256) 2 w)
  rw [tst_mod] at HS
  go_enter Try.func17, Try.ntmps17
  go_wp2_with (go_at_call 44; refine (HS.out _).mono ?_; rintro e w' ⟨rfl, rfl⟩)
  go_ret
  exact ⟨by rw [HV.out]; first | rfl | simp [*], rfl⟩
set_option maxRecDepth 100000 in
set_option maxHeartbeats 1000000 in
theorem impl_takes_BEQ (p : Int) (w : World) : Calls Try.prog 17 #[.string ⟨#[66, 69, 81]⟩, .int .i64 p] w fun e w' => e = .returned (.bool (takesI ⟨#[66, 69, 81]⟩ p)) ∧ w = w' := by
  have HV := Lib.hid (show takesI ⟨#[66, 69, 81]⟩ p = tst p 2 from rfl)
  have HS := Lib.hid (fun w => is_set (p % 256) 2 w)
  rw [tst_mod] at HS
  go_enter Try.func17, Try.ntmps17
  go_wp2_with (go_at_call 44; refine (HS.out _).mono ?_; rintro e w' ⟨rfl, rfl⟩)
  go_ret
  exact ⟨by rw [HV.out]; first | rfl | simp [*], rfl⟩
set_option maxRecDepth 100000 in
set_option maxHeartbeats 2000000 in
theorem impl_takes_other (p : Int) (n : ByteArray) (hBPL : ¬ n = ⟨#[66, 80, 76]⟩) (hBMI : ¬ n = ⟨#[66, 77, 73]⟩) (hBVC : ¬ n = ⟨#[66, 86, 67]⟩) (hBVS : ¬ n = ⟨#[66, 86, 83]⟩) (hBCC : ¬ n = ⟨#[66, 67, 67]⟩) (hBCS : ¬ n = ⟨#[66, 67, 83]⟩) (hBNE : ¬ n = ⟨#[66, 78, 69]⟩) (hBEQ : ¬ n = ⟨#[66, 69, 81]⟩) (w : World) : Calls Try.prog 17 #[.string n, .int .i64 p] w fun e w' => e = .returned (.bool (takesI n p)) ∧ w = w' := by
  have HV := Lib.hid (show takesI n p = false from by unfold takesI; rw [if_neg hBPL, if_neg hBMI, if_neg hBVC, if_neg hBVS, if_neg hBCC, if_neg hBCS, if_neg hBNE, if_neg hBEQ])
  have nBPL := ne_list [66, 80, 76] hBPL
  have nBMI := ne_list [66, 77, 73] hBMI
  have nBVC := ne_list [66, 86, 67] hBVC
  have nBVS := ne_list [66, 86, 83] hBVS
  have nBCC := ne_list [66, 67, 67] hBCC
  have nBCS := ne_list [66, 67, 83] hBCS
  have nBNE := ne_list [66, 78, 69] hBNE
  have nBEQ := ne_list [66, 69, 81] hBEQ
  clear hBPL hBMI hBVC hBVS hBCC hBCS hBNE hBEQ
  go_enter Try.func17, Try.ntmps17
  go_wp2
  go_ret
  exact ⟨by rw [HV.out]; rfl, rfl⟩
theorem impl_takes (p : Int) (n : ByteArray) (w : World) : Calls Try.prog 17 #[.string n, .int .i64 p] w fun e w' => e = .returned (.bool (takesI n p)) ∧ w = w' := by
  by_cases hBPL : n = ⟨#[66, 80, 76]⟩
  · subst hBPL; exact impl_takes_BPL p w
  by_cases hBMI : n = ⟨#[66, 77, 73]⟩
  · subst hBMI; exact impl_takes_BMI p w
  by_cases hBVC : n = ⟨#[66, 86, 67]⟩
  · subst hBVC; exact impl_takes_BVC p w
  by_cases hBVS : n = ⟨#[66, 86, 83]⟩
  · subst hBVS; exact impl_takes_BVS p w
  by_cases hBCC : n = ⟨#[66, 67, 67]⟩
  · subst hBCC; exact impl_takes_BCC p w
  by_cases hBCS : n = ⟨#[66, 67, 83]⟩
  · subst hBCS; exact impl_takes_BCS p w
  by_cases hBNE : n = ⟨#[66, 78, 69]⟩
  · subst hBNE; exact impl_takes_BNE p w
  by_cases hBEQ : n = ⟨#[66, 69, 81]⟩
  · subst hBEQ; exact impl_takes_BEQ p w
  exact impl_takes_other p n hBPL hBMI hBVC hBVS hBCC hBCS hBNE hBEQ w
end Go.Proofs.Ytfeifcffgachoaa
