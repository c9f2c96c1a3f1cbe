/-
  What an instruction does: one more, one less, shifts (chapter 9, the model).
  Conditions: as each says; each walk leaves old memory as it was.
-/
import Derived.Test.YtfeifcffgachoaaWoM
import Derived.Test.YtfeifcffgachoaaShA2
namespace Go.Proofs.Ytfeifcffgachoaa
open Go.RowKit
set_option maxRecDepth 100000 in
set_option maxHeartbeats 4000000 in
theorem spec_apply_INC (k : RegI) (v : Int) (w : World) : Calls Try.prog 12 #[regI k, .string ⟨#[73, 78, 67]⟩, .int .i64 v] w (ApplyPost k ⟨#[73, 78, 67]⟩ v w) := by
  unfold ApplyPost
  rw [show applyI k ⟨#[73, 78, 67]⟩ v = ({ k with p := nzI k.p ((v % 256 + 1) % 256) }, (v % 256 + 1) % 256) from rfl]
  have e0 := and_255 v
  have hV : 0 ≤ v % 256 ∧ v % 256 < 256 := by omega
  generalize v % 256 = V at *
  obtain ⟨a, x, y, s, p, pc⟩ := k
  simp only [regI_mk]
  have e1 := and_255 (V + 1)
  have e2 := nzI_mod' p (V + 1)
  have HS := Lib.hid (fun v w => spec_nz p v w)
  replace e2 := Lib.hid e2
  go_enter Try.func12, Try.ntmps12
  go_wp2_with (go_at_call 37; refine (HS.out _ _).mono ?_; rintro e w' ⟨rfl, rfl⟩)
  exact row_tmp_post rfl rfl rfl Try.underlying25 rfl reg_size rfl (blk_new2 w _ _) rfl ⟨by rw [e2.out]; rfl, below_alloc (below_alloc (Below.refl _ _) _) _⟩
set_option maxRecDepth 100000 in
set_option maxHeartbeats 4000000 in
theorem spec_apply_DEC (k : RegI) (v : Int) (w : World) : Calls Try.prog 12 #[regI k, .string ⟨#[68, 69, 67]⟩, .int .i64 v] w (ApplyPost k ⟨#[68, 69, 67]⟩ v w) := by
  unfold ApplyPost
  rw [show applyI k ⟨#[68, 69, 67]⟩ v = ({ k with p := nzI k.p ((v % 256 - 1) % 256) }, (v % 256 - 1) % 256) from rfl]
  have e0 := and_255 v
  have hV : 0 ≤ v % 256 ∧ v % 256 < 256 := by omega
  generalize v % 256 = V at *
  obtain ⟨a, x, y, s, p, pc⟩ := k
  simp only [regI_mk]
  have e1 := and_255 (V - 1)
  have e2 := nzI_mod' p (V - 1)
  have HS := Lib.hid (fun v w => spec_nz p v w)
  replace e2 := Lib.hid e2
  go_enter Try.func12, Try.ntmps12
  go_wp2_with (go_at_call 37; refine (HS.out _ _).mono ?_; rintro e w' ⟨rfl, rfl⟩)
  exact row_tmp_post rfl rfl rfl Try.underlying25 rfl reg_size rfl (blk_new2 w _ _) rfl ⟨by rw [e2.out]; rfl, below_alloc (below_alloc (Below.refl _ _) _) _⟩
set_option maxRecDepth 100000 in
set_option maxHeartbeats 4000000 in
theorem spec_apply_ASL (k : RegI) (v : Int) (w : World) : Calls Try.prog 12 #[regI k, .string ⟨#[65, 83, 76]⟩, .int .i64 v] w (ApplyPost k ⟨#[65, 83, 76]⟩ v w) := by
  unfold ApplyPost
  rw [show applyI k ⟨#[65, 83, 76]⟩ v = ({ k with p := shN 0 k.p (v % 256) }, shR 0 k.p (v % 256)) from rfl]
  have e0 := and_255 v
  have hV : 0 ≤ v % 256 ∧ v % 256 < 256 := by omega
  generalize v % 256 = V at *
  obtain ⟨a, x, y, s, p, pc⟩ := k
  simp only [regI_mk]
  have HK := fun w => spec_shiftK ⟨#[65, 83, 76]⟩ w
  rw [show shKI ⟨#[65, 83, 76]⟩ = 0 from rfl] at HK
  replace HK := Lib.hid HK
  have HS := Lib.hid (fun w => spec_shift p 0 V w)
  unfold ShPost at HS
  go_enter Try.func12, Try.ntmps12
  go_wp2_with (first
    | (go_at_call 38; refine (HK.out _).mono ?_; rintro e w' ⟨rfl, rfl⟩)
    | (go_at_call 39; refine (HS.out _).mono ?_; rintro e w' ⟨rfl, rfl⟩))
  exact row_tmp_post rfl rfl rfl Try.underlying25 rfl reg_size rfl (blk_new2 w _ _) rfl ⟨rfl, below_alloc (below_alloc (Below.refl _ _) _) _⟩
set_option maxRecDepth 100000 in
set_option maxHeartbeats 4000000 in
theorem spec_apply_LSR (k : RegI) (v : Int) (w : World) : Calls Try.prog 12 #[regI k, .string ⟨#[76, 83, 82]⟩, .int .i64 v] w (ApplyPost k ⟨#[76, 83, 82]⟩ v w) := by
  unfold ApplyPost
  rw [show applyI k ⟨#[76, 83, 82]⟩ v = ({ k with p := shN 1 k.p (v % 256) }, shR 1 k.p (v % 256)) from rfl]
  have e0 := and_255 v
  have hV : 0 ≤ v % 256 ∧ v % 256 < 256 := by omega
  generalize v % 256 = V at *
  obtain ⟨a, x, y, s, p, pc⟩ := k
  simp only [regI_mk]
  have HK := fun w => spec_shiftK ⟨#[76, 83, 82]⟩ w
  rw [show shKI ⟨#[76, 83, 82]⟩ = 1 from rfl] at HK
  replace HK := Lib.hid HK
  have HS := Lib.hid (fun w => spec_shift p 1 V w)
  unfold ShPost at HS
  go_enter Try.func12, Try.ntmps12
  go_wp2_with (first
    | (go_at_call 38; refine (HK.out _).mono ?_; rintro e w' ⟨rfl, rfl⟩)
    | (go_at_call 39; refine (HS.out _).mono ?_; rintro e w' ⟨rfl, rfl⟩))
  exact row_tmp_post rfl rfl rfl Try.underlying25 rfl reg_size rfl (blk_new2 w _ _) rfl ⟨rfl, below_alloc (below_alloc (Below.refl _ _) _) _⟩
set_option maxRecDepth 100000 in
set_option maxHeartbeats 4000000 in
theorem spec_apply_ROL (k : RegI) (v : Int) (w : World) : Calls Try.prog 12 #[regI k, .string ⟨#[82, 79, 76]⟩, .int .i64 v] w (ApplyPost k ⟨#[82, 79, 76]⟩ v w) := by
  unfold ApplyPost
  rw [show applyI k ⟨#[82, 79, 76]⟩ v = ({ k with p := shN 2 k.p (v % 256) }, shR 2 k.p (v % 256)) from rfl]
  have e0 := and_255 v
  have hV : 0 ≤ v % 256 ∧ v % 256 < 256 := by omega
  generalize v % 256 = V at *
  obtain ⟨a, x, y, s, p, pc⟩ := k
  simp only [regI_mk]
  have HK := fun w => spec_shiftK ⟨#[82, 79, 76]⟩ w
  rw [show shKI ⟨#[82, 79, 76]⟩ = 2 from rfl] at HK
  replace HK := Lib.hid HK
  have HS := Lib.hid (fun w => spec_shift p 2 V w)
  unfold ShPost at HS
  go_enter Try.func12, Try.ntmps12
  go_wp2_with (first
    | (go_at_call 38; refine (HK.out _).mono ?_; rintro e w' ⟨rfl, rfl⟩)
    | (go_at_call 39; refine (HS.out _).mono ?_; rintro e w' ⟨rfl, rfl⟩))
  exact row_tmp_post rfl rfl rfl Try.underlying25 rfl reg_size rfl (blk_new2 w _ _) rfl ⟨rfl, below_alloc (below_alloc (Below.refl _ _) _) _⟩
set_option maxRecDepth 100000 in
set_option maxHeartbeats 4000000 in
theorem spec_apply_ROR (k : RegI) (v : Int) (w : World) : Calls Try.prog 12 #[regI k, .string ⟨#[82, 79, 82]⟩, .int .i64 v] w (ApplyPost k ⟨#[82, 79, 82]⟩ v w) := by
  unfold ApplyPost
  rw [show applyI k ⟨#[82, 79, 82]⟩ v = ({ k with p := shN 3 k.p (v % 256) }, shR 3 k.p (v % 256)) from rfl]
  have e0 := and_255 v
  have hV : 0 ≤ v % 256 ∧ v % 256 < 256 := by omega
  generalize v % 256 = V at *
  obtain ⟨a, x, y, s, p, pc⟩ := k
  simp only [regI_mk]
  have HK := fun w => spec_shiftK ⟨#[82, 79, 82]⟩ w
  rw [show shKI ⟨#[82, 79, 82]⟩ = 3 from rfl] at HK
  replace HK := Lib.hid HK
  have HS := Lib.hid (fun w => spec_shift p 3 V w)
  unfold ShPost at HS
  go_enter Try.func12, Try.ntmps12
  go_wp2_with (first
    | (go_at_call 38; refine (HK.out _).mono ?_; rintro e w' ⟨rfl, rfl⟩)
    | (go_at_call 39; refine (HS.out _).mono ?_; rintro e w' ⟨rfl, rfl⟩))
  exact row_tmp_post rfl rfl rfl Try.underlying25 rfl reg_size rfl (blk_new2 w _ _) rfl ⟨rfl, below_alloc (below_alloc (Below.refl _ _) _) _⟩
end Go.Proofs.Ytfeifcffgachoaa
