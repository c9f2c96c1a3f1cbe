/-
  What an instruction does: by a byte (chapter 9, the model).
  Conditions: as each says; each walk leaves old memory as it was.
-/
import Derived.Test.YtfeifcffgachoaaWoM
namespace Go.Proofs.Ytfeifcffgachoaa
open Go.RowKit
set_option maxRecDepth 100000 in
set_option maxHeartbeats 4000000 in
theorem spec_apply_AND (k : RegI) (v : Int) (w : World) : Calls Try.prog 12 #[regI k, .string ⟨#[65, 78, 68]⟩, .int .i64 v] w (ApplyPost k ⟨#[65, 78, 68]⟩ v w) := by
  unfold ApplyPost
  rw [show applyI k ⟨#[65, 78, 68]⟩ v = ({ k with a := bits .and .i64 k.a (v % 256) % 256, p := nzI k.p (bits .and .i64 k.a (v % 256) % 256) }, v % 256) from rfl]
  have e0 := and_255 v
  have hV : 0 ≤ v % 256 ∧ v % 256 < 256 := by omega
  generalize v % 256 = V at *
  obtain ⟨a, x, y, s, p, pc⟩ := k
  simp only [regI_mk]
  have HS := fun v w => spec_set_A ⟨a, x, y, s, p, pc⟩ v w
  simp only [regI_mk] at HS
  replace HS := Lib.hid HS
  have hi := Lib.hid reg_size
  go_enter Try.func12, Try.ntmps12
  go_wp2_with (go_at_call 32; refine (HS.out _ _).mono ?_; rintro e w1 ⟨rfl, hb⟩; refine Hid.out ?_)
  have K1 := Lib.hid (blk_below (blk_new2 w _ _) hb)
  have B := Lib.hid (below_then (below_alloc (below_alloc (Below.refl w.heap.size w) _) _) hb)
  clear hb
  refine Lib.hid ?_
  go_wp2_with (refine store_row rfl 25 (.tmp 6) (.tmp 31) rfl (w.heap.size + 1) _ rfl rfl 6 hi.out K1.out rfl rfl (by rfl) ?_)
  exact row_tmp_post rfl rfl rfl Try.underlying25 rfl reg_size rfl (setRow_heap _ _ _ _ _ _ K1.out) rfl ⟨rfl, below_row B.out (by omega)⟩
set_option maxRecDepth 100000 in
set_option maxHeartbeats 4000000 in
theorem spec_apply_ORA (k : RegI) (v : Int) (w : World) : Calls Try.prog 12 #[regI k, .string ⟨#[79, 82, 65]⟩, .int .i64 v] w (ApplyPost k ⟨#[79, 82, 65]⟩ v w) := by
  unfold ApplyPost
  rw [show applyI k ⟨#[79, 82, 65]⟩ v = ({ k with a := bits .or .i64 k.a (v % 256) % 256, p := nzI k.p (bits .or .i64 k.a (v % 256) % 256) }, v % 256) from rfl]
  have e0 := and_255 v
  have hV : 0 ≤ v % 256 ∧ v % 256 < 256 := by omega
  generalize v % 256 = V at *
  obtain ⟨a, x, y, s, p, pc⟩ := k
  simp only [regI_mk]
  have HS := fun v w => spec_set_A ⟨a, x, y, s, p, pc⟩ v w
  simp only [regI_mk] at HS
  replace HS := Lib.hid HS
  have hi := Lib.hid reg_size
  go_enter Try.func12, Try.ntmps12
  go_wp2_with (go_at_call 32; refine (HS.out _ _).mono ?_; rintro e w1 ⟨rfl, hb⟩; refine Hid.out ?_)
  have K1 := Lib.hid (blk_below (blk_new2 w _ _) hb)
  have B := Lib.hid (below_then (below_alloc (below_alloc (Below.refl w.heap.size w) _) _) hb)
  clear hb
  refine Lib.hid ?_
  go_wp2_with (refine store_row rfl 25 (.tmp 6) (.tmp 40) rfl (w.heap.size + 1) _ rfl rfl 6 hi.out K1.out rfl rfl (by rfl) ?_)
  exact row_tmp_post rfl rfl rfl Try.underlying25 rfl reg_size rfl (setRow_heap _ _ _ _ _ _ K1.out) rfl ⟨rfl, below_row B.out (by omega)⟩
set_option maxRecDepth 100000 in
set_option maxHeartbeats 4000000 in
theorem spec_apply_EOR (k : RegI) (v : Int) (w : World) : Calls Try.prog 12 #[regI k, .string ⟨#[69, 79, 82]⟩, .int .i64 v] w (ApplyPost k ⟨#[69, 79, 82]⟩ v w) := by
  unfold ApplyPost
  rw [show applyI k ⟨#[69, 79, 82]⟩ v = ({ k with a := bits .xor .i64 k.a (v % 256) % 256, p := nzI k.p (bits .xor .i64 k.a (v % 256) % 256) }, v % 256) from rfl]
  have e0 := and_255 v
  have hV : 0 ≤ v % 256 ∧ v % 256 < 256 := by omega
  generalize v % 256 = V at *
  obtain ⟨a, x, y, s, p, pc⟩ := k
  simp only [regI_mk]
  have HS := fun v w => spec_set_A ⟨a, x, y, s, p, pc⟩ v w
  simp only [regI_mk] at HS
  replace HS := Lib.hid HS
  have hi := Lib.hid reg_size
  go_enter Try.func12, Try.ntmps12
  go_wp2_with (go_at_call 32; refine (HS.out _ _).mono ?_; rintro e w1 ⟨rfl, hb⟩; refine Hid.out ?_)
  have K1 := Lib.hid (blk_below (blk_new2 w _ _) hb)
  have B := Lib.hid (below_then (below_alloc (below_alloc (Below.refl w.heap.size w) _) _) hb)
  clear hb
  refine Lib.hid ?_
  go_wp2_with (refine store_row rfl 25 (.tmp 6) (.tmp 49) rfl (w.heap.size + 1) _ rfl rfl 6 hi.out K1.out rfl rfl (by rfl) ?_)
  exact row_tmp_post rfl rfl rfl Try.underlying25 rfl reg_size rfl (setRow_heap _ _ _ _ _ _ K1.out) rfl ⟨rfl, below_row B.out (by omega)⟩
set_option maxRecDepth 100000 in
set_option maxHeartbeats 4000000 in
theorem spec_apply_ADC (k : RegI) (v : Int) (w : World) : Calls Try.prog 12 #[regI k, .string ⟨#[65, 68, 67]⟩, .int .i64 v] w (ApplyPost k ⟨#[65, 68, 67]⟩ v w) := by
  unfold ApplyPost
  rw [show applyI k ⟨#[65, 68, 67]⟩ v = ({ k with p := addN k.p k.a (v % 256), a := addR k.p k.a (v % 256) }, v % 256) from rfl]
  have e0 := and_255 v
  have hV : 0 ≤ v % 256 ∧ v % 256 < 256 := by omega
  generalize v % 256 = V at *
  obtain ⟨a, x, y, s, p, pc⟩ := k
  simp only [regI_mk]
  have HS := Lib.hid (fun u v w => spec_add p u v w)
  unfold AddPost at HS
  go_enter Try.func12, Try.ntmps12
  go_wp2_with (go_at_call 33; refine (HS.out _ _ _).mono ?_; rintro e w' ⟨rfl, rfl⟩)
  exact row_tmp_post rfl rfl rfl Try.underlying25 rfl reg_size rfl (blk_new2 w _ _) rfl ⟨rfl, below_alloc (below_alloc (Below.refl _ _) _) _⟩
set_option maxRecDepth 100000 in
set_option maxHeartbeats 4000000 in
theorem spec_apply_SBC (k : RegI) (v : Int) (w : World) : Calls Try.prog 12 #[regI k, .string ⟨#[83, 66, 67]⟩, .int .i64 v] w (ApplyPost k ⟨#[83, 66, 67]⟩ v w) := by
  unfold ApplyPost
  rw [show applyI k ⟨#[83, 66, 67]⟩ v = ({ k with p := subN k.p k.a (v % 256), a := subR k.p k.a (v % 256) }, v % 256) from rfl]
  have e0 := and_255 v
  have hV : 0 ≤ v % 256 ∧ v % 256 < 256 := by omega
  generalize v % 256 = V at *
  obtain ⟨a, x, y, s, p, pc⟩ := k
  simp only [regI_mk]
  have HS := Lib.hid (fun u v w => spec_sub p u v w)
  unfold AddPost at HS
  go_enter Try.func12, Try.ntmps12
  go_wp2_with (go_at_call 34; refine (HS.out _ _ _).mono ?_; rintro e w' ⟨rfl, rfl⟩)
  exact row_tmp_post rfl rfl rfl Try.underlying25 rfl reg_size rfl (blk_new2 w _ _) rfl ⟨rfl, below_alloc (below_alloc (Below.refl _ _) _) _⟩
set_option maxRecDepth 100000 in
set_option maxHeartbeats 4000000 in
theorem spec_apply_CMP (k : RegI) (v : Int) (w : World) : Calls Try.prog 12 #[regI k, .string ⟨#[67, 77, 80]⟩, .int .i64 v] w (ApplyPost k ⟨#[67, 77, 80]⟩ v w) := by
  unfold ApplyPost
  rw [show applyI k ⟨#[67, 77, 80]⟩ v = ({ k with p := cmpN k.p k.a (v % 256) }, v % 256) from rfl]
  have e0 := and_255 v
  have hV : 0 ≤ v % 256 ∧ v % 256 < 256 := by omega
  generalize v % 256 = V at *
  obtain ⟨a, x, y, s, p, pc⟩ := k
  simp only [regI_mk]
  have HS := Lib.hid (fun u v w => spec_compare p u v w)
  go_enter Try.func12, Try.ntmps12
  go_wp2_with (go_at_call 35; refine (HS.out _ _ _).mono ?_; rintro e w' ⟨rfl, rfl⟩)
  exact row_tmp_post rfl rfl rfl Try.underlying25 rfl reg_size rfl (blk_new2 w _ _) rfl ⟨rfl, below_alloc (below_alloc (Below.refl _ _) _) _⟩
set_option maxRecDepth 100000 in
set_option maxHeartbeats 4000000 in
theorem spec_apply_CPX (k : RegI) (v : Int) (w : World) : Calls Try.prog 12 #[regI k, .string ⟨#[67, 80, 88]⟩, .int .i64 v] w (ApplyPost k ⟨#[67, 80, 88]⟩ v w) := by
  unfold ApplyPost
  rw [show applyI k ⟨#[67, 80, 88]⟩ v = ({ k with p := cmpN k.p k.x (v % 256) }, v % 256) from rfl]
  have e0 := and_255 v
  have hV : 0 ≤ v % 256 ∧ v % 256 < 256 := by omega
  generalize v % 256 = V at *
  obtain ⟨a, x, y, s, p, pc⟩ := k
  simp only [regI_mk]
  have HS := Lib.hid (fun u v w => spec_compare p u v w)
  go_enter Try.func12, Try.ntmps12
  go_wp2_with (go_at_call 35; refine (HS.out _ _ _).mono ?_; rintro e w' ⟨rfl, rfl⟩)
  exact row_tmp_post rfl rfl rfl Try.underlying25 rfl reg_size rfl (blk_new2 w _ _) rfl ⟨rfl, below_alloc (below_alloc (Below.refl _ _) _) _⟩
set_option maxRecDepth 100000 in
set_option maxHeartbeats 4000000 in
theorem spec_apply_CPY (k : RegI) (v : Int) (w : World) : Calls Try.prog 12 #[regI k, .string ⟨#[67, 80, 89]⟩, .int .i64 v] w (ApplyPost k ⟨#[67, 80, 89]⟩ v w) := by
  unfold ApplyPost
  rw [show applyI k ⟨#[67, 80, 89]⟩ v = ({ k with p := cmpN k.p k.y (v % 256) }, v % 256) from rfl]
  have e0 := and_255 v
  have hV : 0 ≤ v % 256 ∧ v % 256 < 256 := by omega
  generalize v % 256 = V at *
  obtain ⟨a, x, y, s, p, pc⟩ := k
  simp only [regI_mk]
  have HS := Lib.hid (fun u v w => spec_compare p u v w)
  go_enter Try.func12, Try.ntmps12
  go_wp2_with (go_at_call 35; refine (HS.out _ _ _).mono ?_; rintro e w' ⟨rfl, rfl⟩)
  exact row_tmp_post rfl rfl rfl Try.underlying25 rfl reg_size rfl (blk_new2 w _ _) rfl ⟨rfl, below_alloc (below_alloc (Below.refl _ _) _) _⟩
set_option maxRecDepth 100000 in
set_option maxHeartbeats 4000000 in
theorem spec_apply_BIT (k : RegI) (v : Int) (w : World) : Calls Try.prog 12 #[regI k, .string ⟨#[66, 73, 84]⟩, .int .i64 v] w (ApplyPost k ⟨#[66, 73, 84]⟩ v w) := by
  unfold ApplyPost
  rw [show applyI k ⟨#[66, 73, 84]⟩ v = ({ k with p := bitN k.p k.a (v % 256) }, v % 256) from rfl]
  have e0 := and_255 v
  have hV : 0 ≤ v % 256 ∧ v % 256 < 256 := by omega
  generalize v % 256 = V at *
  obtain ⟨a, x, y, s, p, pc⟩ := k
  simp only [regI_mk]
  have HS := Lib.hid (fun u v w => spec_bit p u v w)
  go_enter Try.func12, Try.ntmps12
  go_wp2_with (go_at_call 36; refine (HS.out _ _ _).mono ?_; rintro e w' ⟨rfl, rfl⟩)
  exact row_tmp_post rfl rfl rfl Try.underlying25 rfl reg_size rfl (blk_new2 w _ _) rfl ⟨rfl, below_alloc (below_alloc (Below.refl _ _) _) _⟩
end Go.Proofs.Ytfeifcffgachoaa
