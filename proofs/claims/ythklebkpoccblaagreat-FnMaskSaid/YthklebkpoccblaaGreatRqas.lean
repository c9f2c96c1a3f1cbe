/-
  Texts put together by program: WoP.
  Conditions: as each theorem says.
-/
import Derived.Test.YthklebkpoccblaaGreatRqag
import Derived.Test.YthklebkpoccblaaGreatRqar
namespace Go.Proofs.YthklebkpoccblaaGreat
open Go.RowKit
set_option maxRecDepth 100000 in
set_option maxHeartbeats 4000000 in
theorem spec_apply_other (k : RegI) (v : Int) (n : ByteArray) (hLDA : ¬ n = ⟨#[76, 68, 65]⟩) (hLDX : ¬ n = ⟨#[76, 68, 88]⟩) (hLDY : ¬ n = ⟨#[76, 68, 89]⟩) (hAND : ¬ n = ⟨#[65, 78, 68]⟩) (hORA : ¬ n = ⟨#[79, 82, 65]⟩) (hEOR : ¬ n = ⟨#[69, 79, 82]⟩) (hADC : ¬ n = ⟨#[65, 68, 67]⟩) (hSBC : ¬ n = ⟨#[83, 66, 67]⟩) (hCMP : ¬ n = ⟨#[67, 77, 80]⟩) (hCPX : ¬ n = ⟨#[67, 80, 88]⟩) (hCPY : ¬ n = ⟨#[67, 80, 89]⟩) (hBIT : ¬ n = ⟨#[66, 73, 84]⟩) (hASL : ¬ n = ⟨#[65, 83, 76]⟩) (hLSR : ¬ n = ⟨#[76, 83, 82]⟩) (hROL : ¬ n = ⟨#[82, 79, 76]⟩) (hROR : ¬ n = ⟨#[82, 79, 82]⟩) (hINC : ¬ n = ⟨#[73, 78, 67]⟩) (hDEC : ¬ n = ⟨#[68, 69, 67]⟩) (w : World) : Calls Tryz.prog 72 #[regI k, .string n, .int .i64 v] w (ApplyPost k n v w) := by
 unfold ApplyPost
 have HV : applyI k n v = (mvfI k n, v % 256) := by
  have h1 : byteI k n (v % 256) = k := by unfold byteI; rw [if_neg hLDA, if_neg hLDX, if_neg hLDY, if_neg hAND, if_neg hORA, if_neg hEOR, if_neg hADC, if_neg hSBC, if_neg hCMP, if_neg hCPX, if_neg hCPY, if_neg hBIT]
  have h2 : ∀ p, changeI p n (v % 256) = (p, v % 256) := fun p => by unfold changeI; rw [if_neg hASL, if_neg hLSR, if_neg hROL, if_neg hROR, if_neg hINC, if_neg hDEC]
  unfold applyI mvfI
  rw [h1, h2]
 rw [HV]
 clear HV
 have HK := fun w => spec_shiftK n w
 rw [show shKI n = -1 by unfold shKI; rw [if_neg hASL, if_neg hLSR, if_neg hROL, if_neg hROR]] at HK
 replace HK := Lib.hid HK
 have nLDA := ne_list [76, 68, 65] hLDA
 have nLDX := ne_list [76, 68, 88] hLDX
 have nLDY := ne_list [76, 68, 89] hLDY
 have nAND := ne_list [65, 78, 68] hAND
 have nORA := ne_list [79, 82, 65] hORA
 have nEOR := ne_list [69, 79, 82] hEOR
 have nADC := ne_list [65, 68, 67] hADC
 have nSBC := ne_list [83, 66, 67] hSBC
 have nCMP := ne_list [67, 77, 80] hCMP
 have nCPX := ne_list [67, 80, 88] hCPX
 have nCPY := ne_list [67, 80, 89] hCPY
 have nBIT := ne_list [66, 73, 84] hBIT
 have nINC := ne_list [73, 78, 67] hINC
 have nDEC := ne_list [68, 69, 67] hDEC
 clear hLDA hLDX hLDY hAND hORA hEOR hADC hSBC hCMP hCPX hCPY hBIT hASL hLSR hROL hROR hINC hDEC
 have HM := fun w => spec_move k n w
 unfold MovePost at HM
 generalize mvfI k n = d at *
 obtain ⟨a', x', y', s', p', pc'⟩ := d
 have e0 := and_255 v
 generalize v % 256 = V at *
 obtain ⟨a, x, y, s, p, pc⟩ := k
 simp only [regI_mk] at HM ⊢
 replace HM := Lib.hid HM
 have hi := Lib.hid reg_size
 go_enter Tryz.func72, Tryz.ntmps72
 go_wp2_with (first
  | (go_at_call 102; refine (HK.out _).mono ?_; rintro e w' ⟨rfl, rfl⟩)
  | (go_at_call 104; refine (HM.out _).mono ?_; rintro e w1 ⟨q, rfl, hb⟩; refine Hid.out ?_))
 have K1 := Lib.hid (blk_below (blk_new2 w _ _) hb)
 have B := Lib.hid (below_then (below_alloc (below_alloc (Below.refl w.heap.size w) _) _) hb)
 clear hb
 refine Lib.hid ?_
 go_wp2_with (refine store_row rfl 25 (.tmp 6) (.tmp 170) rfl (w.heap.size + 1) _ rfl rfl 6 hi.out (blk_old K1.out) rfl rfl (by rfl) ?_)
 exact row_tmp_post rfl rfl rfl Tryz.underlying25 rfl reg_size rfl (setRow_heap _ _ _ _ _ _ (blk_old K1.out)) rfl ⟨rfl, below_row (below_alloc B.out _) (by omega)⟩
theorem spec_apply (k : RegI) (n : ByteArray) (v : Int) (w : World) : Calls Tryz.prog 72 #[regI k, .string n, .int .i64 v] w (ApplyPost k n v w) := by
 by_cases hLDA : n = ⟨#[76, 68, 65]⟩
 ·subst hLDA; exact spec_apply_LDA k v w
 by_cases hLDX : n = ⟨#[76, 68, 88]⟩
 ·subst hLDX; exact spec_apply_LDX k v w
 by_cases hLDY : n = ⟨#[76, 68, 89]⟩
 ·subst hLDY; exact spec_apply_LDY k v w
 by_cases hAND : n = ⟨#[65, 78, 68]⟩
 ·subst hAND; exact spec_apply_AND k v w
 by_cases hORA : n = ⟨#[79, 82, 65]⟩
 ·subst hORA; exact spec_apply_ORA k v w
 by_cases hEOR : n = ⟨#[69, 79, 82]⟩
 ·subst hEOR; exact spec_apply_EOR k v w
 by_cases hADC : n = ⟨#[65, 68, 67]⟩
 ·subst hADC; exact spec_apply_ADC k v w
 by_cases hSBC : n = ⟨#[83, 66, 67]⟩
 ·subst hSBC; exact spec_apply_SBC k v w
 by_cases hCMP : n = ⟨#[67, 77, 80]⟩
 ·subst hCMP; exact spec_apply_CMP k v w
 by_cases hCPX : n = ⟨#[67, 80, 88]⟩
 ·subst hCPX; exact spec_apply_CPX k v w
 by_cases hCPY : n = ⟨#[67, 80, 89]⟩
 ·subst hCPY; exact spec_apply_CPY k v w
 by_cases hBIT : n = ⟨#[66, 73, 84]⟩
 ·subst hBIT; exact spec_apply_BIT k v w
 by_cases hASL : n = ⟨#[65, 83, 76]⟩
 ·subst hASL; exact spec_apply_ASL k v w
 by_cases hLSR : n = ⟨#[76, 83, 82]⟩
 ·subst hLSR; exact spec_apply_LSR k v w
 by_cases hROL : n = ⟨#[82, 79, 76]⟩
 ·subst hROL; exact spec_apply_ROL k v w
 by_cases hROR : n = ⟨#[82, 79, 82]⟩
 ·subst hROR; exact spec_apply_ROR k v w
 by_cases hINC : n = ⟨#[73, 78, 67]⟩
 ·subst hINC; exact spec_apply_INC k v w
 by_cases hDEC : n = ⟨#[68, 69, 67]⟩
 ·subst hDEC; exact spec_apply_DEC k v w
 exact spec_apply_other k v n hLDA hLDX hLDY hAND hORA hEOR hADC hSBC hCMP hCPX hCPY hBIT hASL hLSR hROL hROR hINC hDEC w
end Go.Proofs.YthklebkpoccblaaGreat
