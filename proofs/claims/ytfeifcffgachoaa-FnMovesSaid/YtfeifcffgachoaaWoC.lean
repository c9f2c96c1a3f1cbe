/-
  The kind of a shift, and a register that is set (chapter 9, the model).
  Conditions: as each says; each walk leaves old memory as it was.
-/
import Derived.Test.YtfeifcffgachoaaWoA
import Derived.Test.YtfeifcffgachoaaAlA
import Derived.Test.YtfeifcffgachoaaRow
namespace Go.Proofs.Ytfeifcffgachoaa
open Go.RowKit
/-- Which kind of shift. -/
def shKI (n : ByteArray) : Int := if n = ⟨#[65, 83, 76]⟩ then 0 else if n = ⟨#[76, 83, 82]⟩ then 1 else if n = ⟨#[82, 79, 76]⟩ then 2 else if n = ⟨#[82, 79, 82]⟩ then 3 else -1
set_option maxRecDepth 100000 in
set_option maxHeartbeats 1000000 in
theorem spec_shiftK_ASL (w : World) : Calls Try.prog 38 #[.string ⟨#[65, 83, 76]⟩] w fun e w' => e = .returned (.int .i64 (shKI ⟨#[65, 83, 76]⟩)) ∧ w = w' := by
  have HV := Lib.hid (show shKI ⟨#[65, 83, 76]⟩ = 0 from rfl)
  go_enter Try.func38, Try.ntmps38
  go_wp2
  go_ret
  exact ⟨by rw [HV.out]; rfl, rfl⟩
set_option maxRecDepth 100000 in
set_option maxHeartbeats 1000000 in
theorem spec_shiftK_LSR (w : World) : Calls Try.prog 38 #[.string ⟨#[76, 83, 82]⟩] w fun e w' => e = .returned (.int .i64 (shKI ⟨#[76, 83, 82]⟩)) ∧ w = w' := by
  have HV := Lib.hid (show shKI ⟨#[76, 83, 82]⟩ = 1 from rfl)
  go_enter Try.func38, Try.ntmps38
  go_wp2
  go_ret
  exact ⟨by rw [HV.out]; rfl, rfl⟩
set_option maxRecDepth 100000 in
set_option maxHeartbeats 1000000 in
theorem spec_shiftK_ROL (w : World) : Calls Try.prog 38 #[.string ⟨#[82, 79, 76]⟩] w fun e w' => e = .returned (.int .i64 (shKI ⟨#[82, 79, 76]⟩)) ∧ w = w' := by
  have HV := Lib.hid (show shKI ⟨#[82, 79, 76]⟩ = 2 from rfl)
  go_enter Try.func38, Try.ntmps38
  go_wp2
  go_ret
  exact ⟨by rw [HV.out]; rfl, rfl⟩
set_option maxRecDepth 100000 in
set_option maxHeartbeats 1000000 in
theorem spec_shiftK_ROR (w : World) : Calls Try.prog 38 #[.string ⟨#[82, 79, 82]⟩] w fun e w' => e = .returned (.int .i64 (shKI ⟨#[82, 79, 82]⟩)) ∧ w = w' := by
  have HV := Lib.hid (show shKI ⟨#[82, 79, 82]⟩ = 3 from rfl)
  go_enter Try.func38, Try.ntmps38
  go_wp2
  go_ret
  exact ⟨by rw [HV.out]; rfl, rfl⟩
set_option maxRecDepth 100000 in
set_option maxHeartbeats 2000000 in
theorem spec_shiftK_other (n : ByteArray) (hASL : ¬ n = ⟨#[65, 83, 76]⟩) (hLSR : ¬ n = ⟨#[76, 83, 82]⟩) (hROL : ¬ n = ⟨#[82, 79, 76]⟩) (hROR : ¬ n = ⟨#[82, 79, 82]⟩) (w : World) : Calls Try.prog 38 #[.string n] w fun e w' => e = .returned (.int .i64 (shKI n)) ∧ w = w' := by
  have HV := Lib.hid (show shKI n = -1 from by unfold shKI; rw [if_neg hASL, if_neg hLSR, if_neg hROL, if_neg hROR])
  have nASL := ne_list [65, 83, 76] hASL
  have nLSR := ne_list [76, 83, 82] hLSR
  have nROL := ne_list [82, 79, 76] hROL
  have nROR := ne_list [82, 79, 82] hROR
  clear hASL hLSR hROL hROR
  go_enter Try.func38, Try.ntmps38
  go_wp2
  go_ret
  exact ⟨by rw [HV.out]; rfl, rfl⟩
theorem spec_shiftK (n : ByteArray) (w : World) : Calls Try.prog 38 #[.string n] w fun e w' => e = .returned (.int .i64 (shKI n)) ∧ w = w' := by
  by_cases hASL : n = ⟨#[65, 83, 76]⟩
  · subst hASL; exact spec_shiftK_ASL w
  by_cases hLSR : n = ⟨#[76, 83, 82]⟩
  · subst hLSR; exact spec_shiftK_LSR w
  by_cases hROL : n = ⟨#[82, 79, 76]⟩
  · subst hROL; exact spec_shiftK_ROL w
  by_cases hROR : n = ⟨#[82, 79, 82]⟩
  · subst hROR; exact spec_shiftK_ROR w
  exact spec_shiftK_other n hASL hLSR hROL hROR w
/-- One of the registers is set (65, 88, 89: A, X, Y), with its notes. -/
def setR (k : RegI) (c v : Int) : RegI := if c = 65 then { k with a := v % 256, p := nzI k.p (v % 256) } else if c = 88 then { k with x := v % 256, p := nzI k.p (v % 256) } else if c = 89 then { k with y := v % 256, p := nzI k.p (v % 256) } else { k with p := nzI k.p (v % 256) }
set_option maxRecDepth 100000 in
set_option maxHeartbeats 2000000 in
theorem spec_set_A (k : RegI) (v : Int) (w : World) : Calls Try.prog 32 #[regI k, .int .u8 65, .int .i64 v] w fun e w' => e = .returned (regI { k with a := v % 256, p := nzI k.p (v % 256) }) ∧ Below w.heap.size w w' := by
  obtain ⟨a, x, y, s, p, pc⟩ := k
  rw [regI_mk]
  have e0 := and_255 v
  have HN := Lib.hid (fun u w => spec_nz p u w)
  go_enter Try.func32, Try.ntmps32
  go_wp2_with (go_at_call 37; refine (HN.out _ _).mono ?_; rintro e w' ⟨rfl, rfl⟩)
  exact bodyPost_ret (results_cell_row rfl _ _ (w.heap.size + 1) _ _ _ _ rfl (blk_new2 w _ _) Try.underlying25 rfl reg_size) rfl ⟨rfl, below_alloc (below_alloc (Below.refl _ _) _) _⟩
set_option maxRecDepth 100000 in
set_option maxHeartbeats 2000000 in
theorem spec_set_X (k : RegI) (v : Int) (w : World) : Calls Try.prog 32 #[regI k, .int .u8 88, .int .i64 v] w fun e w' => e = .returned (regI { k with x := v % 256, p := nzI k.p (v % 256) }) ∧ Below w.heap.size w w' := by
  obtain ⟨a, x, y, s, p, pc⟩ := k
  rw [regI_mk]
  have e0 := and_255 v
  have HN := Lib.hid (fun u w => spec_nz p u w)
  go_enter Try.func32, Try.ntmps32
  go_wp2_with (go_at_call 37; refine (HN.out _ _).mono ?_; rintro e w' ⟨rfl, rfl⟩)
  exact bodyPost_ret (results_cell_row rfl _ _ (w.heap.size + 1) _ _ _ _ rfl (blk_new2 w _ _) Try.underlying25 rfl reg_size) rfl ⟨rfl, below_alloc (below_alloc (Below.refl _ _) _) _⟩
set_option maxRecDepth 100000 in
set_option maxHeartbeats 2000000 in
theorem spec_set_Y (k : RegI) (v : Int) (w : World) : Calls Try.prog 32 #[regI k, .int .u8 89, .int .i64 v] w fun e w' => e = .returned (regI { k with y := v % 256, p := nzI k.p (v % 256) }) ∧ Below w.heap.size w w' := by
  obtain ⟨a, x, y, s, p, pc⟩ := k
  rw [regI_mk]
  have e0 := and_255 v
  have HN := Lib.hid (fun u w => spec_nz p u w)
  go_enter Try.func32, Try.ntmps32
  go_wp2_with (go_at_call 37; refine (HN.out _ _).mono ?_; rintro e w' ⟨rfl, rfl⟩)
  exact bodyPost_ret (results_cell_row rfl _ _ (w.heap.size + 1) _ _ _ _ rfl (blk_new2 w _ _) Try.underlying25 rfl reg_size) rfl ⟨rfl, below_alloc (below_alloc (Below.refl _ _) _) _⟩
end Go.Proofs.Ytfeifcffgachoaa
