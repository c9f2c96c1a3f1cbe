/-
  Texts put together by program: WoM.
  Conditions: as each theorem says.
-/
import Derived.Deep.RegionWith
import Derived.Test.YthklebkpoccblaaGreatRqaf
namespace Go.Proofs.YthklebkpoccblaaGreat
open Go.RowKit
def ApplyPost (k : RegI) (n : ByteArray) (v : Int) (w : World) (e : Ending) (w' : World) : Prop := e = .returned (.tuple #[regI (applyI k n v).1, .int .i64 (applyI k n v).2]) ∧ Below w.heap.size w w'
def zero6 : Obj := .cells #[.int .i64 0, .int .i64 0, .int .i64 0, .int .i64 0, .int .i64 0, .int .i64 0] 25
theorem cells6 {w : World} {b : Nat} {t : TypeId} {x0 x1 x2 x3 x4 x5 : Value} (h : w.heap[b]? = some (.cells #[x0, x1, x2, x3, x4, x5] t (0, 0))) :
  w.cell? ⟨b, 0, none⟩ = some x0 ∧ w.cell? ⟨b, 1, none⟩ = some x1 ∧ w.cell? ⟨b, 2, none⟩ = some x2 ∧ w.cell? ⟨b, 3, none⟩ = some x3 ∧ w.cell? ⟨b, 4, none⟩ = some x4 ∧ w.cell? ⟨b, 5, none⟩ = some x5 ∧ ∀ i, w.frozen? ⟨b, i, none⟩ = false :=
 ⟨cell_of_blk h rfl, cell_of_blk h rfl, cell_of_blk h rfl, cell_of_blk h rfl, cell_of_blk h rfl, cell_of_blk h rfl, fun _ => free_of_blk h⟩
theorem set6 {w : World} {b : Nat} (h : w.heap[b]? = some zero6) (x0 x1 x2 x3 x4 x5 : Value) :
  ((((((w.setCell ⟨b, 0, none⟩ x0).setCell ⟨b, 1, none⟩ x1).setCell ⟨b, 2, none⟩ x2).setCell ⟨b, 3, none⟩ x3).setCell ⟨b, 4, none⟩ x4).setCell ⟨b, 5, none⟩ x5).heap[b]? = some (.cells #[x0, x1, x2, x3, x4, x5] 25 (0, 0)) := by
 have e := row_set (i := 5) (v := x5) (row_set (i := 4) (v := x4) (row_set (i := 3) (v := x3) (row_set (i := 2) (v := x2) (row_set (i := 1) (v := x1) (row_set (i := 0) (v := x0) h)))))
 simp only [List.setIfInBounds_toArray, List.set_cons_zero, List.set_cons_succ] at e
 exact e
set_option maxRecDepth 100000 in
set_option maxHeartbeats 4000000 in
theorem spec_apply_LDA (k : RegI) (v : Int) (w : World) : Calls Tryz.prog 72 #[regI k, .string ⟨#[76, 68, 65]⟩, .int .i64 v] w (ApplyPost k ⟨#[76, 68, 65]⟩ v w) := by
 unfold ApplyPost
 rw [show applyI k ⟨#[76, 68, 65]⟩ v = ({ k with a := v % 256 % 256, p := nzI k.p (v % 256 % 256) }, v % 256) from rfl]
 have e0 := and_255 v
 have hV : 0 ≤ v % 256 ∧ v % 256 < 256 := by omega
 generalize v % 256 = V at *
 obtain ⟨a, x, y, s, p, pc⟩ := k
 simp only [regI_mk]
 have HS := fun v w => spec_set_A ⟨a, x, y, s, p, pc⟩ v w
 simp only [regI_mk] at HS
 replace HS := Lib.hid HS
 have hi := Lib.hid reg_size
 have K0 := blk_old (o := zero6) (blk_new w (.cells #[.int .i64 a, .int .i64 x, .int .i64 y, .int .i64 s, .int .i64 p, .int .i64 pc] 25))
 have K1 := Lib.hid (blk_new2 w (.cells #[.int .i64 a, .int .i64 x, .int .i64 y, .int .i64 s, .int .i64 p, .int .i64 pc] 25) zero6)
 have B := Lib.hid (below_alloc (below_alloc (Below.refl w.heap.size w) (.cells #[.int .i64 a, .int .i64 x, .int .i64 y, .int .i64 s, .int .i64 p, .int .i64 pc] 25)) zero6)
 generalize hw : (w.alloc (.cells #[.int .i64 a, .int .i64 x, .int .i64 y, .int .i64 s, .int .i64 p, .int .i64 pc] 25)).alloc zero6 = W at K0 K1 B
 unfold zero6 at hw
 replace hw := Lib.hid hw
 obtain ⟨a0, a1, a2, a3, a4, a5, az⟩ := cells6 K0
 go_enter Tryz.func72, Tryz.ntmps72
 go_wp2_with fail
 rw [hw.out]
 go_region_with (go_at_call 96; refine (HS.out _ _).mono ?_; rintro e w1 ⟨rfl, hb⟩; obtain ⟨b0, b1, b2, b3, b4, b5, bz⟩ := cells6 (blk_below (w := W.drew) K1.out hb))
 all_goals
  simp only [Exit.then]
  go_step
  go_step
  (try simp only [Exit.inBlock, Exit.then])
  have hgg := set6 (blk_below (w := W.drew) K1.out hb) (.int .i64 (V % 256)) (.int .i64 x) (.int .i64 y) (.int .i64 s) (.int .i64 (nzI p (V % 256))) (.int .i64 pc)
  refine row_tmp_post (cs := #[.int .i64 (V % 256), .int .i64 x, .int .i64 y, .int .i64 s, .int .i64 (nzI p (V % 256)), .int .i64 pc]) rfl rfl rfl Tryz.underlying25 rfl reg_size rfl hgg rfl ⟨rfl, ?_⟩
  repeat (first | apply below_put (hb := by omega) | exact below_then B.out.drew hb)
set_option maxRecDepth 100000 in
set_option maxHeartbeats 4000000 in
theorem spec_apply_LDX (k : RegI) (v : Int) (w : World) : Calls Tryz.prog 72 #[regI k, .string ⟨#[76, 68, 88]⟩, .int .i64 v] w (ApplyPost k ⟨#[76, 68, 88]⟩ v w) := by
 unfold ApplyPost
 rw [show applyI k ⟨#[76, 68, 88]⟩ v = ({ k with x := v % 256 % 256, p := nzI k.p (v % 256 % 256) }, v % 256) from rfl]
 have e0 := and_255 v
 have hV : 0 ≤ v % 256 ∧ v % 256 < 256 := by omega
 generalize v % 256 = V at *
 obtain ⟨a, x, y, s, p, pc⟩ := k
 simp only [regI_mk]
 have HS := fun v w => spec_set_X ⟨a, x, y, s, p, pc⟩ v w
 simp only [regI_mk] at HS
 replace HS := Lib.hid HS
 have hi := Lib.hid reg_size
 have K0 := blk_old (o := zero6) (blk_new w (.cells #[.int .i64 a, .int .i64 x, .int .i64 y, .int .i64 s, .int .i64 p, .int .i64 pc] 25))
 have K1 := Lib.hid (blk_new2 w (.cells #[.int .i64 a, .int .i64 x, .int .i64 y, .int .i64 s, .int .i64 p, .int .i64 pc] 25) zero6)
 have B := Lib.hid (below_alloc (below_alloc (Below.refl w.heap.size w) (.cells #[.int .i64 a, .int .i64 x, .int .i64 y, .int .i64 s, .int .i64 p, .int .i64 pc] 25)) zero6)
 generalize hw : (w.alloc (.cells #[.int .i64 a, .int .i64 x, .int .i64 y, .int .i64 s, .int .i64 p, .int .i64 pc] 25)).alloc zero6 = W at K0 K1 B
 unfold zero6 at hw
 replace hw := Lib.hid hw
 obtain ⟨a0, a1, a2, a3, a4, a5, az⟩ := cells6 K0
 go_enter Tryz.func72, Tryz.ntmps72
 go_wp2_with fail
 rw [hw.out]
 go_region_with (go_at_call 96; refine (HS.out _ _).mono ?_; rintro e w1 ⟨rfl, hb⟩; obtain ⟨b0, b1, b2, b3, b4, b5, bz⟩ := cells6 (blk_below (w := W.drew) K1.out hb))
 all_goals
  simp only [Exit.then]
  go_step
  go_step
  (try simp only [Exit.inBlock, Exit.then])
  have hgg := set6 (blk_below (w := W.drew) K1.out hb) (.int .i64 a) (.int .i64 (V % 256)) (.int .i64 y) (.int .i64 s) (.int .i64 (nzI p (V % 256))) (.int .i64 pc)
  refine row_tmp_post (cs := #[.int .i64 a, .int .i64 (V % 256), .int .i64 y, .int .i64 s, .int .i64 (nzI p (V % 256)), .int .i64 pc]) rfl rfl rfl Tryz.underlying25 rfl reg_size rfl hgg rfl ⟨rfl, ?_⟩
  repeat (first | apply below_put (hb := by omega) | exact below_then B.out.drew hb)
set_option maxRecDepth 100000 in
set_option maxHeartbeats 4000000 in
theorem spec_apply_LDY (k : RegI) (v : Int) (w : World) : Calls Tryz.prog 72 #[regI k, .string ⟨#[76, 68, 89]⟩, .int .i64 v] w (ApplyPost k ⟨#[76, 68, 89]⟩ v w) := by
 unfold ApplyPost
 rw [show applyI k ⟨#[76, 68, 89]⟩ v = ({ k with y := v % 256 % 256, p := nzI k.p (v % 256 % 256) }, v % 256) from rfl]
 have e0 := and_255 v
 have hV : 0 ≤ v % 256 ∧ v % 256 < 256 := by omega
 generalize v % 256 = V at *
 obtain ⟨a, x, y, s, p, pc⟩ := k
 simp only [regI_mk]
 have HS := fun v w => spec_set_Y ⟨a, x, y, s, p, pc⟩ v w
 simp only [regI_mk] at HS
 replace HS := Lib.hid HS
 have hi := Lib.hid reg_size
 have K0 := blk_old (o := zero6) (blk_new w (.cells #[.int .i64 a, .int .i64 x, .int .i64 y, .int .i64 s, .int .i64 p, .int .i64 pc] 25))
 have K1 := Lib.hid (blk_new2 w (.cells #[.int .i64 a, .int .i64 x, .int .i64 y, .int .i64 s, .int .i64 p, .int .i64 pc] 25) zero6)
 have B := Lib.hid (below_alloc (below_alloc (Below.refl w.heap.size w) (.cells #[.int .i64 a, .int .i64 x, .int .i64 y, .int .i64 s, .int .i64 p, .int .i64 pc] 25)) zero6)
 generalize hw : (w.alloc (.cells #[.int .i64 a, .int .i64 x, .int .i64 y, .int .i64 s, .int .i64 p, .int .i64 pc] 25)).alloc zero6 = W at K0 K1 B
 unfold zero6 at hw
 replace hw := Lib.hid hw
 obtain ⟨a0, a1, a2, a3, a4, a5, az⟩ := cells6 K0
 go_enter Tryz.func72, Tryz.ntmps72
 go_wp2_with fail
 rw [hw.out]
 go_region_with (go_at_call 96; refine (HS.out _ _).mono ?_; rintro e w1 ⟨rfl, hb⟩; obtain ⟨b0, b1, b2, b3, b4, b5, bz⟩ := cells6 (blk_below (w := W.drew) K1.out hb))
 all_goals
  simp only [Exit.then]
  go_step
  go_step
  (try simp only [Exit.inBlock, Exit.then])
  have hgg := set6 (blk_below (w := W.drew) K1.out hb) (.int .i64 a) (.int .i64 x) (.int .i64 (V % 256)) (.int .i64 s) (.int .i64 (nzI p (V % 256))) (.int .i64 pc)
  refine row_tmp_post (cs := #[.int .i64 a, .int .i64 x, .int .i64 (V % 256), .int .i64 s, .int .i64 (nzI p (V % 256)), .int .i64 pc]) rfl rfl rfl Tryz.underlying25 rfl reg_size rfl hgg rfl ⟨rfl, ?_⟩
  repeat (first | apply below_put (hb := by omega) | exact below_then B.out.drew hb)
set_option maxRecDepth 100000 in
set_option maxHeartbeats 4000000 in
theorem spec_apply_AND (k : RegI) (v : Int) (w : World) : Calls Tryz.prog 72 #[regI k, .string ⟨#[65, 78, 68]⟩, .int .i64 v] w (ApplyPost k ⟨#[65, 78, 68]⟩ v w) := by
 unfold ApplyPost
 rw [show applyI k ⟨#[65, 78, 68]⟩ v = ({ k with a := bits .and .i64 k.a (v % 256) % 256, p := nzI k.p (bits .and .i64 k.a (v % 256) % 256) }, v % 256) from rfl]
 have e0 := and_255 v
 have hV : 0 ≤ v % 256 ∧ v % 256 < 256 := by omega
 generalize v % 256 = V at *
 obtain ⟨a, x, y, s, p, pc⟩ := k
 simp only [regI_mk]
 have HS := fun v w => spec_set_A ⟨a, x, y, s, p, pc⟩ v w
 simp only [regI_mk] at HS
 replace HS := Lib.hid HS
 have hi := Lib.hid reg_size
 go_enter Tryz.func72, Tryz.ntmps72
 go_wp2_with (go_at_call 96; refine (HS.out _ _).mono ?_; rintro e w1 ⟨rfl, hb⟩; refine Hid.out ?_)
 have K1 := Lib.hid (blk_below (blk_new2 w _ _) hb)
 have B := Lib.hid (below_then (below_alloc (below_alloc (Below.refl w.heap.size w) _) _) hb)
 clear hb
 refine Lib.hid ?_
 go_wp2_with (refine store_row rfl 25 (.tmp 6) (.tmp 31) rfl (w.heap.size + 1) _ rfl rfl 6 hi.out K1.out rfl rfl (by rfl) ?_)
 exact row_tmp_post rfl rfl rfl Tryz.underlying25 rfl reg_size rfl (setRow_heap _ _ _ _ _ _ K1.out) rfl ⟨rfl, below_row B.out (by omega)⟩
set_option maxRecDepth 100000 in
set_option maxHeartbeats 4000000 in
theorem spec_apply_ORA (k : RegI) (v : Int) (w : World) : Calls Tryz.prog 72 #[regI k, .string ⟨#[79, 82, 65]⟩, .int .i64 v] w (ApplyPost k ⟨#[79, 82, 65]⟩ v w) := by
 unfold ApplyPost
 rw [show applyI k ⟨#[79, 82, 65]⟩ v = ({ k with a := bits .or .i64 k.a (v % 256) % 256, p := nzI k.p (bits .or .i64 k.a (v % 256) % 256) }, v % 256) from rfl]
 have e0 := and_255 v
 have hV : 0 ≤ v % 256 ∧ v % 256 < 256 := by omega
 generalize v % 256 = V at *
 obtain ⟨a, x, y, s, p, pc⟩ := k
 simp only [regI_mk]
 have HS := fun v w => spec_set_A ⟨a, x, y, s, p, pc⟩ v w
 simp only [regI_mk] at HS
 replace HS := Lib.hid HS
 have hi := Lib.hid reg_size
 go_enter Tryz.func72, Tryz.ntmps72
 go_wp2_with (go_at_call 96; refine (HS.out _ _).mono ?_; rintro e w1 ⟨rfl, hb⟩; refine Hid.out ?_)
 have K1 := Lib.hid (blk_below (blk_new2 w _ _) hb)
 have B := Lib.hid (below_then (below_alloc (below_alloc (Below.refl w.heap.size w) _) _) hb)
 clear hb
 refine Lib.hid ?_
 go_wp2_with (refine store_row rfl 25 (.tmp 6) (.tmp 40) rfl (w.heap.size + 1) _ rfl rfl 6 hi.out K1.out rfl rfl (by rfl) ?_)
 exact row_tmp_post rfl rfl rfl Tryz.underlying25 rfl reg_size rfl (setRow_heap _ _ _ _ _ _ K1.out) rfl ⟨rfl, below_row B.out (by omega)⟩
set_option maxRecDepth 100000 in
set_option maxHeartbeats 4000000 in
theorem spec_apply_EOR (k : RegI) (v : Int) (w : World) : Calls Tryz.prog 72 #[regI k, .string ⟨#[69, 79, 82]⟩, .int .i64 v] w (ApplyPost k ⟨#[69, 79, 82]⟩ v w) := by
 unfold ApplyPost
 rw [show applyI k ⟨#[69, 79, 82]⟩ v = ({ k with a := bits .xor .i64 k.a (v % 256) % 256, p := nzI k.p (bits .xor .i64 k.a (v % 256) % 256) }, v % 256) from rfl]
 have e0 := and_255 v
 have hV : 0 ≤ v % 256 ∧ v % 256 < 256 := by omega
 generalize v % 256 = V at *
 obtain ⟨a, x, y, s, p, pc⟩ := k
 simp only [regI_mk]
 have HS := fun v w => spec_set_A ⟨a, x, y, s, p, pc⟩ v w
 simp only [regI_mk] at HS
 replace HS := Lib.hid HS
 have hi := Lib.hid reg_size
 go_enter Tryz.func72, Tryz.ntmps72
 go_wp2_with (go_at_call 96; refine (HS.out _ _).mono ?_; rintro e w1 ⟨rfl, hb⟩; refine Hid.out ?_)
 have K1 := Lib.hid (blk_below (blk_new2 w _ _) hb)
 have B := Lib.hid (below_then (below_alloc (below_alloc (Below.refl w.heap.size w) _) _) hb)
 clear hb
 refine Lib.hid ?_
 go_wp2_with (refine store_row rfl 25 (.tmp 6) (.tmp 49) rfl (w.heap.size + 1) _ rfl rfl 6 hi.out K1.out rfl rfl (by rfl) ?_)
 exact row_tmp_post rfl rfl rfl Tryz.underlying25 rfl reg_size rfl (setRow_heap _ _ _ _ _ _ K1.out) rfl ⟨rfl, below_row B.out (by omega)⟩
set_option maxRecDepth 100000 in
set_option maxHeartbeats 4000000 in
theorem spec_apply_ADC (k : RegI) (v : Int) (w : World) : Calls Tryz.prog 72 #[regI k, .string ⟨#[65, 68, 67]⟩, .int .i64 v] w (ApplyPost k ⟨#[65, 68, 67]⟩ v w) := by
 unfold ApplyPost
 rw [show applyI k ⟨#[65, 68, 67]⟩ v = ({ k with p := addN k.p k.a (v % 256), a := addR k.p k.a (v % 256) }, v % 256) from rfl]
 have e0 := and_255 v
 have hV : 0 ≤ v % 256 ∧ v % 256 < 256 := by omega
 generalize v % 256 = V at *
 obtain ⟨a, x, y, s, p, pc⟩ := k
 simp only [regI_mk]
 have HS := Lib.hid (fun u v w => spec_add p u v w)
 unfold AddPost at HS
 go_enter Tryz.func72, Tryz.ntmps72
 go_wp2_with (go_at_call 97; refine (HS.out _ _ _).mono ?_; rintro e w' ⟨rfl, rfl⟩)
 exact row_tmp_post rfl rfl rfl Tryz.underlying25 rfl reg_size rfl (blk_new2 w _ _) rfl ⟨rfl, below_alloc (below_alloc (Below.refl _ _) _) _⟩
set_option maxRecDepth 100000 in
set_option maxHeartbeats 4000000 in
theorem spec_apply_SBC (k : RegI) (v : Int) (w : World) : Calls Tryz.prog 72 #[regI k, .string ⟨#[83, 66, 67]⟩, .int .i64 v] w (ApplyPost k ⟨#[83, 66, 67]⟩ v w) := by
 unfold ApplyPost
 rw [show applyI k ⟨#[83, 66, 67]⟩ v = ({ k with p := subN k.p k.a (v % 256), a := subR k.p k.a (v % 256) }, v % 256) from rfl]
 have e0 := and_255 v
 have hV : 0 ≤ v % 256 ∧ v % 256 < 256 := by omega
 generalize v % 256 = V at *
 obtain ⟨a, x, y, s, p, pc⟩ := k
 simp only [regI_mk]
 have HS := Lib.hid (fun u v w => spec_sub p u v w)
 unfold AddPost at HS
 go_enter Tryz.func72, Tryz.ntmps72
 go_wp2_with (go_at_call 98; refine (HS.out _ _ _).mono ?_; rintro e w' ⟨rfl, rfl⟩)
 exact row_tmp_post rfl rfl rfl Tryz.underlying25 rfl reg_size rfl (blk_new2 w _ _) rfl ⟨rfl, below_alloc (below_alloc (Below.refl _ _) _) _⟩
set_option maxRecDepth 100000 in
set_option maxHeartbeats 4000000 in
theorem spec_apply_CMP (k : RegI) (v : Int) (w : World) : Calls Tryz.prog 72 #[regI k, .string ⟨#[67, 77, 80]⟩, .int .i64 v] w (ApplyPost k ⟨#[67, 77, 80]⟩ v w) := by
 unfold ApplyPost
 rw [show applyI k ⟨#[67, 77, 80]⟩ v = ({ k with p := cmpN k.p k.a (v % 256) }, v % 256) from rfl]
 have e0 := and_255 v
 have hV : 0 ≤ v % 256 ∧ v % 256 < 256 := by omega
 generalize v % 256 = V at *
 obtain ⟨a, x, y, s, p, pc⟩ := k
 simp only [regI_mk]
 have HS := Lib.hid (fun u v w => spec_compare p u v w)
 go_enter Tryz.func72, Tryz.ntmps72
 go_wp2_with (go_at_call 99; refine (HS.out _ _ _).mono ?_; rintro e w' ⟨rfl, rfl⟩)
 exact row_tmp_post rfl rfl rfl Tryz.underlying25 rfl reg_size rfl (blk_new2 w _ _) rfl ⟨rfl, below_alloc (below_alloc (Below.refl _ _) _) _⟩
set_option maxRecDepth 100000 in
set_option maxHeartbeats 4000000 in
theorem spec_apply_CPX (k : RegI) (v : Int) (w : World) : Calls Tryz.prog 72 #[regI k, .string ⟨#[67, 80, 88]⟩, .int .i64 v] w (ApplyPost k ⟨#[67, 80, 88]⟩ v w) := by
 unfold ApplyPost
 rw [show applyI k ⟨#[67, 80, 88]⟩ v = ({ k with p := cmpN k.p k.x (v % 256) }, v % 256) from rfl]
 have e0 := and_255 v
 have hV : 0 ≤ v % 256 ∧ v % 256 < 256 := by omega
 generalize v % 256 = V at *
 obtain ⟨a, x, y, s, p, pc⟩ := k
 simp only [regI_mk]
 have HS := Lib.hid (fun u v w => spec_compare p u v w)
 go_enter Tryz.func72, Tryz.ntmps72
 go_wp2_with (go_at_call 99; refine (HS.out _ _ _).mono ?_; rintro e w' ⟨rfl, rfl⟩)
 exact row_tmp_post rfl rfl rfl Tryz.underlying25 rfl reg_size rfl (blk_new2 w _ _) rfl ⟨rfl, below_alloc (below_alloc (Below.refl _ _) _) _⟩
set_option maxRecDepth 100000 in
set_option maxHeartbeats 4000000 in
theorem spec_apply_CPY (k : RegI) (v : Int) (w : World) : Calls Tryz.prog 72 #[regI k, .string ⟨#[67, 80, 89]⟩, .int .i64 v] w (ApplyPost k ⟨#[67, 80, 89]⟩ v w) := by
 unfold ApplyPost
 rw [show applyI k ⟨#[67, 80, 89]⟩ v = ({ k with p := cmpN k.p k.y (v % 256) }, v % 256) from rfl]
 have e0 := and_255 v
 have hV : 0 ≤ v % 256 ∧ v % 256 < 256 := by omega
 generalize v % 256 = V at *
 obtain ⟨a, x, y, s, p, pc⟩ := k
 simp only [regI_mk]
 have HS := Lib.hid (fun u v w => spec_compare p u v w)
 go_enter Tryz.func72, Tryz.ntmps72
 go_wp2_with (go_at_call 99; refine (HS.out _ _ _).mono ?_; rintro e w' ⟨rfl, rfl⟩)
 exact row_tmp_post rfl rfl rfl Tryz.underlying25 rfl reg_size rfl (blk_new2 w _ _) rfl ⟨rfl, below_alloc (below_alloc (Below.refl _ _) _) _⟩
set_option maxRecDepth 100000 in
set_option maxHeartbeats 4000000 in
theorem spec_apply_BIT (k : RegI) (v : Int) (w : World) : Calls Tryz.prog 72 #[regI k, .string ⟨#[66, 73, 84]⟩, .int .i64 v] w (ApplyPost k ⟨#[66, 73, 84]⟩ v w) := by
 unfold ApplyPost
 rw [show applyI k ⟨#[66, 73, 84]⟩ v = ({ k with p := bitN k.p k.a (v % 256) }, v % 256) from rfl]
 have e0 := and_255 v
 have hV : 0 ≤ v % 256 ∧ v % 256 < 256 := by omega
 generalize v % 256 = V at *
 obtain ⟨a, x, y, s, p, pc⟩ := k
 simp only [regI_mk]
 have HS := Lib.hid (fun u v w => spec_bit p u v w)
 go_enter Tryz.func72, Tryz.ntmps72
 go_wp2_with (go_at_call 100; refine (HS.out _ _ _).mono ?_; rintro e w' ⟨rfl, rfl⟩)
 exact row_tmp_post rfl rfl rfl Tryz.underlying25 rfl reg_size rfl (blk_new2 w _ _) rfl ⟨rfl, below_alloc (below_alloc (Below.refl _ _) _) _⟩
set_option maxRecDepth 100000 in
set_option maxHeartbeats 4000000 in
theorem spec_apply_INC (k : RegI) (v : Int) (w : World) : Calls Tryz.prog 72 #[regI k, .string ⟨#[73, 78, 67]⟩, .int .i64 v] w (ApplyPost k ⟨#[73, 78, 67]⟩ v w) := by
 unfold ApplyPost
 rw [show applyI k ⟨#[73, 78, 67]⟩ v = ({ k with p := nzI k.p ((v % 256 + 1) % 256) }, (v % 256 + 1) % 256) from rfl]
 have e0 := and_255 v
 have hV : 0 ≤ v % 256 ∧ v % 256 < 256 := by omega
 generalize v % 256 = V at *
 obtain ⟨a, x, y, s, p, pc⟩ := k
 simp only [regI_mk]
 have e1 := and_255 (V + 1)
 have e2 := nzI_mod' p (V + 1)
 have HS := Lib.hid (fun v w => spec_nz p v w)
 replace e2 := Lib.hid e2
 go_enter Tryz.func72, Tryz.ntmps72
 go_wp2_with (go_at_call 101; refine (HS.out _ _).mono ?_; rintro e w' ⟨rfl, rfl⟩)
 exact row_tmp_post rfl rfl rfl Tryz.underlying25 rfl reg_size rfl (blk_new2 w _ _) rfl ⟨by rw [e2.out]; rfl, below_alloc (below_alloc (Below.refl _ _) _) _⟩
set_option maxRecDepth 100000 in
set_option maxHeartbeats 4000000 in
theorem spec_apply_DEC (k : RegI) (v : Int) (w : World) : Calls Tryz.prog 72 #[regI k, .string ⟨#[68, 69, 67]⟩, .int .i64 v] w (ApplyPost k ⟨#[68, 69, 67]⟩ v w) := by
 unfold ApplyPost
 rw [show applyI k ⟨#[68, 69, 67]⟩ v = ({ k with p := nzI k.p ((v % 256 - 1) % 256) }, (v % 256 - 1) % 256) from rfl]
 have e0 := and_255 v
 have hV : 0 ≤ v % 256 ∧ v % 256 < 256 := by omega
 generalize v % 256 = V at *
 obtain ⟨a, x, y, s, p, pc⟩ := k
 simp only [regI_mk]
 have e1 := and_255 (V - 1)
 have e2 := nzI_mod' p (V - 1)
 have HS := Lib.hid (fun v w => spec_nz p v w)
 replace e2 := Lib.hid e2
 go_enter Tryz.func72, Tryz.ntmps72
 go_wp2_with (go_at_call 101; refine (HS.out _ _).mono ?_; rintro e w' ⟨rfl, rfl⟩)
 exact row_tmp_post rfl rfl rfl Tryz.underlying25 rfl reg_size rfl (blk_new2 w _ _) rfl ⟨by rw [e2.out]; rfl, below_alloc (below_alloc (Below.refl _ _) _) _⟩
set_option maxRecDepth 100000 in
set_option maxHeartbeats 4000000 in
theorem spec_apply_ASL (k : RegI) (v : Int) (w : World) : Calls Tryz.prog 72 #[regI k, .string ⟨#[65, 83, 76]⟩, .int .i64 v] w (ApplyPost k ⟨#[65, 83, 76]⟩ v w) := by
 unfold ApplyPost
 rw [show applyI k ⟨#[65, 83, 76]⟩ v = ({ k with p := shN 0 k.p (v % 256) }, shR 0 k.p (v % 256)) from rfl]
 have e0 := and_255 v
 have hV : 0 ≤ v % 256 ∧ v % 256 < 256 := by omega
 generalize v % 256 = V at *
 obtain ⟨a, x, y, s, p, pc⟩ := k
 simp only [regI_mk]
 have HK := fun w => spec_shiftK ⟨#[65, 83, 76]⟩ w
 rw [show shKI ⟨#[65, 83, 76]⟩ = 0 from rfl] at HK
 replace HK := Lib.hid HK
 have HS := Lib.hid (fun w => spec_shift p 0 V w)
 unfold ShPost at HS
 go_enter Tryz.func72, Tryz.ntmps72
 go_wp2_with (first
  | (go_at_call 102; refine (HK.out _).mono ?_; rintro e w' ⟨rfl, rfl⟩)
  | (go_at_call 103; refine (HS.out _).mono ?_; rintro e w' ⟨rfl, rfl⟩))
 exact row_tmp_post rfl rfl rfl Tryz.underlying25 rfl reg_size rfl (blk_new2 w _ _) rfl ⟨rfl, below_alloc (below_alloc (Below.refl _ _) _) _⟩
set_option maxRecDepth 100000 in
set_option maxHeartbeats 4000000 in
theorem spec_apply_LSR (k : RegI) (v : Int) (w : World) : Calls Tryz.prog 72 #[regI k, .string ⟨#[76, 83, 82]⟩, .int .i64 v] w (ApplyPost k ⟨#[76, 83, 82]⟩ v w) := by
 unfold ApplyPost
 rw [show applyI k ⟨#[76, 83, 82]⟩ v = ({ k with p := shN 1 k.p (v % 256) }, shR 1 k.p (v % 256)) from rfl]
 have e0 := and_255 v
 have hV : 0 ≤ v % 256 ∧ v % 256 < 256 := by omega
 generalize v % 256 = V at *
 obtain ⟨a, x, y, s, p, pc⟩ := k
 simp only [regI_mk]
 have HK := fun w => spec_shiftK ⟨#[76, 83, 82]⟩ w
 rw [show shKI ⟨#[76, 83, 82]⟩ = 1 from rfl] at HK
 replace HK := Lib.hid HK
 have HS := Lib.hid (fun w => spec_shift p 1 V w)
 unfold ShPost at HS
 go_enter Tryz.func72, Tryz.ntmps72
 go_wp2_with (first
  | (go_at_call 102; refine (HK.out _).mono ?_; rintro e w' ⟨rfl, rfl⟩)
  | (go_at_call 103; refine (HS.out _).mono ?_; rintro e w' ⟨rfl, rfl⟩))
 exact row_tmp_post rfl rfl rfl Tryz.underlying25 rfl reg_size rfl (blk_new2 w _ _) rfl ⟨rfl, below_alloc (below_alloc (Below.refl _ _) _) _⟩
set_option maxRecDepth 100000 in
set_option maxHeartbeats 4000000 in
theorem spec_apply_ROL (k : RegI) (v : Int) (w : World) : Calls Tryz.prog 72 #[regI k, .string ⟨#[82, 79, 76]⟩, .int .i64 v] w (ApplyPost k ⟨#[82, 79, 76]⟩ v w) := by
 unfold ApplyPost
 rw [show applyI k ⟨#[82, 79, 76]⟩ v = ({ k with p := shN 2 k.p (v % 256) }, shR 2 k.p (v % 256)) from rfl]
 have e0 := and_255 v
 have hV : 0 ≤ v % 256 ∧ v % 256 < 256 := by omega
 generalize v % 256 = V at *
 obtain ⟨a, x, y, s, p, pc⟩ := k
 simp only [regI_mk]
 have HK := fun w => spec_shiftK ⟨#[82, 79, 76]⟩ w
 rw [show shKI ⟨#[82, 79, 76]⟩ = 2 from rfl] at HK
 replace HK := Lib.hid HK
 have HS := Lib.hid (fun w => spec_shift p 2 V w)
 unfold ShPost at HS
 go_enter Tryz.func72, Tryz.ntmps72
 go_wp2_with (first
  | (go_at_call 102; refine (HK.out _).mono ?_; rintro e w' ⟨rfl, rfl⟩)
  | (go_at_call 103; refine (HS.out _).mono ?_; rintro e w' ⟨rfl, rfl⟩))
 exact row_tmp_post rfl rfl rfl Tryz.underlying25 rfl reg_size rfl (blk_new2 w _ _) rfl ⟨rfl, below_alloc (below_alloc (Below.refl _ _) _) _⟩
set_option maxRecDepth 100000 in
set_option maxHeartbeats 4000000 in
theorem spec_apply_ROR (k : RegI) (v : Int) (w : World) : Calls Tryz.prog 72 #[regI k, .string ⟨#[82, 79, 82]⟩, .int .i64 v] w (ApplyPost k ⟨#[82, 79, 82]⟩ v w) := by
 unfold ApplyPost
 rw [show applyI k ⟨#[82, 79, 82]⟩ v = ({ k with p := shN 3 k.p (v % 256) }, shR 3 k.p (v % 256)) from rfl]
 have e0 := and_255 v
 have hV : 0 ≤ v % 256 ∧ v % 256 < 256 := by omega
 generalize v % 256 = V at *
 obtain ⟨a, x, y, s, p, pc⟩ := k
 simp only [regI_mk]
 have HK := fun w => spec_shiftK ⟨#[82, 79, 82]⟩ w
 rw [show shKI ⟨#[82, 79, 82]⟩ = 3 from rfl] at HK
 replace HK := Lib.hid HK
 have HS := Lib.hid (fun w => spec_shift p 3 V w)
 unfold ShPost at HS
 go_enter Tryz.func72, Tryz.ntmps72
 go_wp2_with (first
  | (go_at_call 102; refine (HK.out _).mono ?_; rintro e w' ⟨rfl, rfl⟩)
  | (go_at_call 103; refine (HS.out _).mono ?_; rintro e w' ⟨rfl, rfl⟩))
 exact row_tmp_post rfl rfl rfl Tryz.underlying25 rfl reg_size rfl (blk_new2 w _ _) rfl ⟨rfl, below_alloc (below_alloc (Below.refl _ _) _) _⟩
end Go.Proofs.YthklebkpoccblaaGreat
