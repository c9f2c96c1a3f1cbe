/-
  Texts put together by program: WoL.
  Conditions: as each theorem says.
-/
import Derived.Test.YthklebkpoccblaaGreatRqap
import Derived.Test.YthklebkpoccblaaGreatRqaq
namespace Go.Proofs.YthklebkpoccblaaGreat
open Go.RowKit
def mvfI (k : RegI) (n : ByteArray) : RegI := { moveI k n with p := flagI (moveI k n).p n }
def MovePost (k : RegI) (n : ByteArray) (w : World) (e : Ending) (w' : World) : Prop := ∃ q, e = .returned (.tuple #[regI (mvfI k n), .bool q]) ∧ Below w.heap.size w w'
set_option maxRecDepth 100000 in
set_option maxHeartbeats 4000000 in
theorem spec_move_TAX (k : RegI) (w : World) : Calls Tryz.prog 104 #[regI k, .string ⟨#[84, 65, 88]⟩] w (MovePost k ⟨#[84, 65, 88]⟩ w) := by
 unfold MovePost
 rw [show mvfI k ⟨#[84, 65, 88]⟩ = { k with x := k.a % 256, p := nzI k.p (k.a % 256) } from rfl]
 obtain ⟨a, x, y, s, p, pc⟩ := k
 simp only [regI_mk]
 have hi := Lib.hid reg_size
 have HS := fun v w => spec_set_X ⟨a, x, y, s, p, pc⟩ v w
 simp only [regI_mk] at HS
 replace HS := Lib.hid HS
 go_enter Tryz.func104, Tryz.ntmps104
 go_wp2_with (go_at_call 96; refine (HS.out _ _).mono ?_; rintro e w1 ⟨rfl, hb⟩; refine Hid.out ?_)
 have K1 := Lib.hid (blk_below (blk_new2 w _ _) hb)
 have B := Lib.hid (below_then (below_alloc (below_alloc (Below.refl w.heap.size w) _) _) hb)
 clear hb
 refine Lib.hid ?_
 go_wp2_with (refine store_row rfl 25 (.tmp 4) (.tmp 12) rfl (w.heap.size + 1) _ rfl rfl 6 hi.out K1.out rfl rfl (by rfl) ?_)
 exact row_tmp_post rfl rfl rfl Tryz.underlying25 rfl reg_size rfl (setRow_heap _ _ _ _ _ _ K1.out) rfl ⟨true, rfl, below_row B.out (by omega)⟩
set_option maxRecDepth 100000 in
set_option maxHeartbeats 4000000 in
theorem spec_move_TAY (k : RegI) (w : World) : Calls Tryz.prog 104 #[regI k, .string ⟨#[84, 65, 89]⟩] w (MovePost k ⟨#[84, 65, 89]⟩ w) := by
 unfold MovePost
 rw [show mvfI k ⟨#[84, 65, 89]⟩ = { k with y := k.a % 256, p := nzI k.p (k.a % 256) } from rfl]
 obtain ⟨a, x, y, s, p, pc⟩ := k
 simp only [regI_mk]
 have hi := Lib.hid reg_size
 have HS := fun v w => spec_set_Y ⟨a, x, y, s, p, pc⟩ v w
 simp only [regI_mk] at HS
 replace HS := Lib.hid HS
 go_enter Tryz.func104, Tryz.ntmps104
 go_wp2_with (go_at_call 96; refine (HS.out _ _).mono ?_; rintro e w1 ⟨rfl, hb⟩; refine Hid.out ?_)
 have K1 := Lib.hid (blk_below (blk_new2 w _ _) hb)
 have B := Lib.hid (below_then (below_alloc (below_alloc (Below.refl w.heap.size w) _) _) hb)
 clear hb
 refine Lib.hid ?_
 go_wp2_with (refine store_row rfl 25 (.tmp 4) (.tmp 18) rfl (w.heap.size + 1) _ rfl rfl 6 hi.out K1.out rfl rfl (by rfl) ?_)
 exact row_tmp_post rfl rfl rfl Tryz.underlying25 rfl reg_size rfl (setRow_heap _ _ _ _ _ _ K1.out) rfl ⟨true, rfl, below_row B.out (by omega)⟩
set_option maxRecDepth 100000 in
set_option maxHeartbeats 4000000 in
theorem spec_move_TXA (k : RegI) (w : World) : Calls Tryz.prog 104 #[regI k, .string ⟨#[84, 88, 65]⟩] w (MovePost k ⟨#[84, 88, 65]⟩ w) := by
 unfold MovePost
 rw [show mvfI k ⟨#[84, 88, 65]⟩ = { k with a := k.x % 256, p := nzI k.p (k.x % 256) } from rfl]
 obtain ⟨a, x, y, s, p, pc⟩ := k
 simp only [regI_mk]
 have hi := Lib.hid reg_size
 have HS := fun v w => spec_set_A ⟨a, x, y, s, p, pc⟩ v w
 simp only [regI_mk] at HS
 replace HS := Lib.hid HS
 go_enter Tryz.func104, Tryz.ntmps104
 go_wp2_with (go_at_call 96; refine (HS.out _ _).mono ?_; rintro e w1 ⟨rfl, hb⟩; refine Hid.out ?_)
 have K1 := Lib.hid (blk_below (blk_new2 w _ _) hb)
 have B := Lib.hid (below_then (below_alloc (below_alloc (Below.refl w.heap.size w) _) _) hb)
 clear hb
 refine Lib.hid ?_
 go_wp2_with (refine store_row rfl 25 (.tmp 4) (.tmp 24) rfl (w.heap.size + 1) _ rfl rfl 6 hi.out K1.out rfl rfl (by rfl) ?_)
 exact row_tmp_post rfl rfl rfl Tryz.underlying25 rfl reg_size rfl (setRow_heap _ _ _ _ _ _ K1.out) rfl ⟨true, rfl, below_row B.out (by omega)⟩
set_option maxRecDepth 100000 in
set_option maxHeartbeats 4000000 in
theorem spec_move_TYA (k : RegI) (w : World) : Calls Tryz.prog 104 #[regI k, .string ⟨#[84, 89, 65]⟩] w (MovePost k ⟨#[84, 89, 65]⟩ w) := by
 unfold MovePost
 rw [show mvfI k ⟨#[84, 89, 65]⟩ = { k with a := k.y % 256, p := nzI k.p (k.y % 256) } from rfl]
 obtain ⟨a, x, y, s, p, pc⟩ := k
 simp only [regI_mk]
 have hi := Lib.hid reg_size
 have HS := fun v w => spec_set_A ⟨a, x, y, s, p, pc⟩ v w
 simp only [regI_mk] at HS
 replace HS := Lib.hid HS
 go_enter Tryz.func104, Tryz.ntmps104
 go_wp2_with (go_at_call 96; refine (HS.out _ _).mono ?_; rintro e w1 ⟨rfl, hb⟩; refine Hid.out ?_)
 have K1 := Lib.hid (blk_below (blk_new2 w _ _) hb)
 have B := Lib.hid (below_then (below_alloc (below_alloc (Below.refl w.heap.size w) _) _) hb)
 clear hb
 refine Lib.hid ?_
 go_wp2_with (refine store_row rfl 25 (.tmp 4) (.tmp 30) rfl (w.heap.size + 1) _ rfl rfl 6 hi.out K1.out rfl rfl (by rfl) ?_)
 exact row_tmp_post rfl rfl rfl Tryz.underlying25 rfl reg_size rfl (setRow_heap _ _ _ _ _ _ K1.out) rfl ⟨true, rfl, below_row B.out (by omega)⟩
set_option maxRecDepth 100000 in
set_option maxHeartbeats 4000000 in
theorem spec_move_TSX (k : RegI) (w : World) : Calls Tryz.prog 104 #[regI k, .string ⟨#[84, 83, 88]⟩] w (MovePost k ⟨#[84, 83, 88]⟩ w) := by
 unfold MovePost
 rw [show mvfI k ⟨#[84, 83, 88]⟩ = { k with x := k.s % 256, p := nzI k.p (k.s % 256) } from rfl]
 obtain ⟨a, x, y, s, p, pc⟩ := k
 simp only [regI_mk]
 have hi := Lib.hid reg_size
 have HS := fun v w => spec_set_X ⟨a, x, y, s, p, pc⟩ v w
 simp only [regI_mk] at HS
 replace HS := Lib.hid HS
 go_enter Tryz.func104, Tryz.ntmps104
 go_wp2_with (go_at_call 96; refine (HS.out _ _).mono ?_; rintro e w1 ⟨rfl, hb⟩; refine Hid.out ?_)
 have K1 := Lib.hid (blk_below (blk_new2 w _ _) hb)
 have B := Lib.hid (below_then (below_alloc (below_alloc (Below.refl w.heap.size w) _) _) hb)
 clear hb
 refine Lib.hid ?_
 go_wp2_with (refine store_row rfl 25 (.tmp 4) (.tmp 36) rfl (w.heap.size + 1) _ rfl rfl 6 hi.out K1.out rfl rfl (by rfl) ?_)
 exact row_tmp_post rfl rfl rfl Tryz.underlying25 rfl reg_size rfl (setRow_heap _ _ _ _ _ _ K1.out) rfl ⟨true, rfl, below_row B.out (by omega)⟩
set_option maxRecDepth 100000 in
set_option maxHeartbeats 4000000 in
theorem spec_move_TXS (k : RegI) (w : World) : Calls Tryz.prog 104 #[regI k, .string ⟨#[84, 88, 83]⟩] w (MovePost k ⟨#[84, 88, 83]⟩ w) := by
 unfold MovePost
 rw [show mvfI k ⟨#[84, 88, 83]⟩ = { k with s := k.x } from rfl]
 obtain ⟨a, x, y, s, p, pc⟩ := k
 simp only [regI_mk]
 go_enter Tryz.func104, Tryz.ntmps104
 go_wp2
 exact row_tmp_post rfl rfl rfl Tryz.underlying25 rfl reg_size rfl (blk_new2 w _ _) rfl ⟨true, rfl, below_alloc (below_alloc (Below.refl _ _) _) _⟩
set_option maxRecDepth 100000 in
set_option maxHeartbeats 4000000 in
theorem spec_move_INX (k : RegI) (w : World) : Calls Tryz.prog 104 #[regI k, .string ⟨#[73, 78, 88]⟩] w (MovePost k ⟨#[73, 78, 88]⟩ w) := by
 unfold MovePost
 rw [show mvfI k ⟨#[73, 78, 88]⟩ = { k with x := (k.x + 1) % 256, p := nzI k.p ((k.x + 1) % 256) } from rfl]
 obtain ⟨a, x, y, s, p, pc⟩ := k
 simp only [regI_mk]
 have hi := Lib.hid reg_size
 have HS := fun v w => spec_set_X ⟨a, x, y, s, p, pc⟩ v w
 simp only [regI_mk] at HS
 replace HS := Lib.hid HS
 go_enter Tryz.func104, Tryz.ntmps104
 go_wp2_with (go_at_call 96; refine (HS.out _ _).mono ?_; rintro e w1 ⟨rfl, hb⟩; refine Hid.out ?_)
 have K1 := Lib.hid (blk_below (blk_new2 w _ _) hb)
 have B := Lib.hid (below_then (below_alloc (below_alloc (Below.refl w.heap.size w) _) _) hb)
 clear hb
 refine Lib.hid ?_
 go_wp2_with (refine store_row rfl 25 (.tmp 4) (.tmp 49) rfl (w.heap.size + 1) _ rfl rfl 6 hi.out K1.out rfl rfl (by rfl) ?_)
 exact row_tmp_post rfl rfl rfl Tryz.underlying25 rfl reg_size rfl (setRow_heap _ _ _ _ _ _ K1.out) rfl ⟨true, by simp [w64_8], below_row B.out (by omega)⟩
set_option maxRecDepth 100000 in
set_option maxHeartbeats 4000000 in
theorem spec_move_INY (k : RegI) (w : World) : Calls Tryz.prog 104 #[regI k, .string ⟨#[73, 78, 89]⟩] w (MovePost k ⟨#[73, 78, 89]⟩ w) := by
 unfold MovePost
 rw [show mvfI k ⟨#[73, 78, 89]⟩ = { k with y := (k.y + 1) % 256, p := nzI k.p ((k.y + 1) % 256) } from rfl]
 obtain ⟨a, x, y, s, p, pc⟩ := k
 simp only [regI_mk]
 have hi := Lib.hid reg_size
 have HS := fun v w => spec_set_Y ⟨a, x, y, s, p, pc⟩ v w
 simp only [regI_mk] at HS
 replace HS := Lib.hid HS
 go_enter Tryz.func104, Tryz.ntmps104
 go_wp2_with (go_at_call 96; refine (HS.out _ _).mono ?_; rintro e w1 ⟨rfl, hb⟩; refine Hid.out ?_)
 have K1 := Lib.hid (blk_below (blk_new2 w _ _) hb)
 have B := Lib.hid (below_then (below_alloc (below_alloc (Below.refl w.heap.size w) _) _) hb)
 clear hb
 refine Lib.hid ?_
 go_wp2_with (refine store_row rfl 25 (.tmp 4) (.tmp 56) rfl (w.heap.size + 1) _ rfl rfl 6 hi.out K1.out rfl rfl (by rfl) ?_)
 exact row_tmp_post rfl rfl rfl Tryz.underlying25 rfl reg_size rfl (setRow_heap _ _ _ _ _ _ K1.out) rfl ⟨true, by simp [w64_8], below_row B.out (by omega)⟩
set_option maxRecDepth 100000 in
set_option maxHeartbeats 4000000 in
theorem spec_move_DEX (k : RegI) (w : World) : Calls Tryz.prog 104 #[regI k, .string ⟨#[68, 69, 88]⟩] w (MovePost k ⟨#[68, 69, 88]⟩ w) := by
 unfold MovePost
 rw [show mvfI k ⟨#[68, 69, 88]⟩ = { k with x := (k.x - 1) % 256, p := nzI k.p ((k.x - 1) % 256) } from rfl]
 obtain ⟨a, x, y, s, p, pc⟩ := k
 simp only [regI_mk]
 have hi := Lib.hid reg_size
 have HS := fun v w => spec_set_X ⟨a, x, y, s, p, pc⟩ v w
 simp only [regI_mk] at HS
 replace HS := Lib.hid HS
 go_enter Tryz.func104, Tryz.ntmps104
 go_wp2_with (go_at_call 96; refine (HS.out _ _).mono ?_; rintro e w1 ⟨rfl, hb⟩; refine Hid.out ?_)
 have K1 := Lib.hid (blk_below (blk_new2 w _ _) hb)
 have B := Lib.hid (below_then (below_alloc (below_alloc (Below.refl w.heap.size w) _) _) hb)
 clear hb
 refine Lib.hid ?_
 go_wp2_with (refine store_row rfl 25 (.tmp 4) (.tmp 63) rfl (w.heap.size + 1) _ rfl rfl 6 hi.out K1.out rfl rfl (by rfl) ?_)
 exact row_tmp_post rfl rfl rfl Tryz.underlying25 rfl reg_size rfl (setRow_heap _ _ _ _ _ _ K1.out) rfl ⟨true, by simp [w64_8], below_row B.out (by omega)⟩
set_option maxRecDepth 100000 in
set_option maxHeartbeats 4000000 in
theorem spec_move_DEY (k : RegI) (w : World) : Calls Tryz.prog 104 #[regI k, .string ⟨#[68, 69, 89]⟩] w (MovePost k ⟨#[68, 69, 89]⟩ w) := by
 unfold MovePost
 rw [show mvfI k ⟨#[68, 69, 89]⟩ = { k with y := (k.y - 1) % 256, p := nzI k.p ((k.y - 1) % 256) } from rfl]
 obtain ⟨a, x, y, s, p, pc⟩ := k
 simp only [regI_mk]
 have hi := Lib.hid reg_size
 have HS := fun v w => spec_set_Y ⟨a, x, y, s, p, pc⟩ v w
 simp only [regI_mk] at HS
 replace HS := Lib.hid HS
 go_enter Tryz.func104, Tryz.ntmps104
 go_wp2_with (go_at_call 96; refine (HS.out _ _).mono ?_; rintro e w1 ⟨rfl, hb⟩; refine Hid.out ?_)
 have K1 := Lib.hid (blk_below (blk_new2 w _ _) hb)
 have B := Lib.hid (below_then (below_alloc (below_alloc (Below.refl w.heap.size w) _) _) hb)
 clear hb
 refine Lib.hid ?_
 go_wp2_with (refine store_row rfl 25 (.tmp 4) (.tmp 70) rfl (w.heap.size + 1) _ rfl rfl 6 hi.out K1.out rfl rfl (by rfl) ?_)
 exact row_tmp_post rfl rfl rfl Tryz.underlying25 rfl reg_size rfl (setRow_heap _ _ _ _ _ _ K1.out) rfl ⟨true, by simp [w64_8], below_row B.out (by omega)⟩
set_option maxRecDepth 100000 in
set_option maxHeartbeats 4000000 in
theorem spec_move_CLC (k : RegI) (w : World) : Calls Tryz.prog 104 #[regI k, .string ⟨#[67, 76, 67]⟩] w (MovePost k ⟨#[67, 76, 67]⟩ w) := by
 unfold MovePost
 rw [show mvfI k ⟨#[67, 76, 67]⟩ = { k with p := wI k.p 1 false } from rfl]
 have HS := fun w => spec_flag_CLC k w
 obtain ⟨a, x, y, s, p, pc⟩ := k
 simp only [regI_mk] at HS ⊢
 replace HS := Lib.hid HS
 have hi := Lib.hid reg_size
 go_enter Tryz.func104, Tryz.ntmps104
 go_wp2_with (go_at_call 125; refine (HS.out _).mono ?_; rintro e w1 ⟨rfl, hb⟩; refine Hid.out ?_)
 have K1 := Lib.hid (blk_below (blk_new2 w _ _) hb)
 have B := Lib.hid (below_then (below_alloc (below_alloc (Below.refl w.heap.size w) _) _) hb)
 clear hb
 refine Lib.hid ?_
 go_wp2_with (refine store_row rfl 25 (.tmp 4) (.tmp 74) rfl (w.heap.size + 1) _ rfl rfl 6 hi.out K1.out rfl rfl (by rfl) ?_)
 exact row_tmp_post rfl rfl rfl Tryz.underlying25 rfl reg_size rfl (setRow_heap _ _ _ _ _ _ K1.out) rfl ⟨true, rfl, below_row B.out (by omega)⟩
set_option maxRecDepth 100000 in
set_option maxHeartbeats 4000000 in
theorem spec_move_SEC (k : RegI) (w : World) : Calls Tryz.prog 104 #[regI k, .string ⟨#[83, 69, 67]⟩] w (MovePost k ⟨#[83, 69, 67]⟩ w) := by
 unfold MovePost
 rw [show mvfI k ⟨#[83, 69, 67]⟩ = { k with p := wI k.p 1 true } from rfl]
 have HS := fun w => spec_flag_SEC k w
 obtain ⟨a, x, y, s, p, pc⟩ := k
 simp only [regI_mk] at HS ⊢
 replace HS := Lib.hid HS
 have hi := Lib.hid reg_size
 go_enter Tryz.func104, Tryz.ntmps104
 go_wp2_with (go_at_call 125; refine (HS.out _).mono ?_; rintro e w1 ⟨rfl, hb⟩; refine Hid.out ?_)
 have K1 := Lib.hid (blk_below (blk_new2 w _ _) hb)
 have B := Lib.hid (below_then (below_alloc (below_alloc (Below.refl w.heap.size w) _) _) hb)
 clear hb
 refine Lib.hid ?_
 go_wp2_with (refine store_row rfl 25 (.tmp 4) (.tmp 74) rfl (w.heap.size + 1) _ rfl rfl 6 hi.out K1.out rfl rfl (by rfl) ?_)
 exact row_tmp_post rfl rfl rfl Tryz.underlying25 rfl reg_size rfl (setRow_heap _ _ _ _ _ _ K1.out) rfl ⟨true, rfl, below_row B.out (by omega)⟩
set_option maxRecDepth 100000 in
set_option maxHeartbeats 4000000 in
theorem spec_move_CLI (k : RegI) (w : World) : Calls Tryz.prog 104 #[regI k, .string ⟨#[67, 76, 73]⟩] w (MovePost k ⟨#[67, 76, 73]⟩ w) := by
 unfold MovePost
 rw [show mvfI k ⟨#[67, 76, 73]⟩ = { k with p := wI k.p 4 false } from rfl]
 have HS := fun w => spec_flag_CLI k w
 obtain ⟨a, x, y, s, p, pc⟩ := k
 simp only [regI_mk] at HS ⊢
 replace HS := Lib.hid HS
 have hi := Lib.hid reg_size
 go_enter Tryz.func104, Tryz.ntmps104
 go_wp2_with (go_at_call 125; refine (HS.out _).mono ?_; rintro e w1 ⟨rfl, hb⟩; refine Hid.out ?_)
 have K1 := Lib.hid (blk_below (blk_new2 w _ _) hb)
 have B := Lib.hid (below_then (below_alloc (below_alloc (Below.refl w.heap.size w) _) _) hb)
 clear hb
 refine Lib.hid ?_
 go_wp2_with (refine store_row rfl 25 (.tmp 4) (.tmp 74) rfl (w.heap.size + 1) _ rfl rfl 6 hi.out K1.out rfl rfl (by rfl) ?_)
 exact row_tmp_post rfl rfl rfl Tryz.underlying25 rfl reg_size rfl (setRow_heap _ _ _ _ _ _ K1.out) rfl ⟨true, rfl, below_row B.out (by omega)⟩
set_option maxRecDepth 100000 in
set_option maxHeartbeats 4000000 in
theorem spec_move_SEI (k : RegI) (w : World) : Calls Tryz.prog 104 #[regI k, .string ⟨#[83, 69, 73]⟩] w (MovePost k ⟨#[83, 69, 73]⟩ w) := by
 unfold MovePost
 rw [show mvfI k ⟨#[83, 69, 73]⟩ = { k with p := wI k.p 4 true } from rfl]
 have HS := fun w => spec_flag_SEI k w
 obtain ⟨a, x, y, s, p, pc⟩ := k
 simp only [regI_mk] at HS ⊢
 replace HS := Lib.hid HS
 have hi := Lib.hid reg_size
 go_enter Tryz.func104, Tryz.ntmps104
 go_wp2_with (go_at_call 125; refine (HS.out _).mono ?_; rintro e w1 ⟨rfl, hb⟩; refine Hid.out ?_)
 have K1 := Lib.hid (blk_below (blk_new2 w _ _) hb)
 have B := Lib.hid (below_then (below_alloc (below_alloc (Below.refl w.heap.size w) _) _) hb)
 clear hb
 refine Lib.hid ?_
 go_wp2_with (refine store_row rfl 25 (.tmp 4) (.tmp 74) rfl (w.heap.size + 1) _ rfl rfl 6 hi.out K1.out rfl rfl (by rfl) ?_)
 exact row_tmp_post rfl rfl rfl Tryz.underlying25 rfl reg_size rfl (setRow_heap _ _ _ _ _ _ K1.out) rfl ⟨true, rfl, below_row B.out (by omega)⟩
set_option maxRecDepth 100000 in
set_option maxHeartbeats 4000000 in
theorem spec_move_CLV (k : RegI) (w : World) : Calls Tryz.prog 104 #[regI k, .string ⟨#[67, 76, 86]⟩] w (MovePost k ⟨#[67, 76, 86]⟩ w) := by
 unfold MovePost
 rw [show mvfI k ⟨#[67, 76, 86]⟩ = { k with p := wI k.p 64 false } from rfl]
 have HS := fun w => spec_flag_CLV k w
 obtain ⟨a, x, y, s, p, pc⟩ := k
 simp only [regI_mk] at HS ⊢
 replace HS := Lib.hid HS
 have hi := Lib.hid reg_size
 go_enter Tryz.func104, Tryz.ntmps104
 go_wp2_with (go_at_call 125; refine (HS.out _).mono ?_; rintro e w1 ⟨rfl, hb⟩; refine Hid.out ?_)
 have K1 := Lib.hid (blk_below (blk_new2 w _ _) hb)
 have B := Lib.hid (below_then (below_alloc (below_alloc (Below.refl w.heap.size w) _) _) hb)
 clear hb
 refine Lib.hid ?_
 go_wp2_with (refine store_row rfl 25 (.tmp 4) (.tmp 74) rfl (w.heap.size + 1) _ rfl rfl 6 hi.out K1.out rfl rfl (by rfl) ?_)
 exact row_tmp_post rfl rfl rfl Tryz.underlying25 rfl reg_size rfl (setRow_heap _ _ _ _ _ _ K1.out) rfl ⟨true, rfl, below_row B.out (by omega)⟩
set_option maxRecDepth 100000 in
set_option maxHeartbeats 4000000 in
theorem spec_move_CLD (k : RegI) (w : World) : Calls Tryz.prog 104 #[regI k, .string ⟨#[67, 76, 68]⟩] w (MovePost k ⟨#[67, 76, 68]⟩ w) := by
 unfold MovePost
 rw [show mvfI k ⟨#[67, 76, 68]⟩ = { k with p := wI k.p 8 false } from rfl]
 have HS := fun w => spec_flag_CLD k w
 obtain ⟨a, x, y, s, p, pc⟩ := k
 simp only [regI_mk] at HS ⊢
 replace HS := Lib.hid HS
 have hi := Lib.hid reg_size
 go_enter Tryz.func104, Tryz.ntmps104
 go_wp2_with (go_at_call 125; refine (HS.out _).mono ?_; rintro e w1 ⟨rfl, hb⟩; refine Hid.out ?_)
 have K1 := Lib.hid (blk_below (blk_new2 w _ _) hb)
 have B := Lib.hid (below_then (below_alloc (below_alloc (Below.refl w.heap.size w) _) _) hb)
 clear hb
 refine Lib.hid ?_
 go_wp2_with (refine store_row rfl 25 (.tmp 4) (.tmp 74) rfl (w.heap.size + 1) _ rfl rfl 6 hi.out K1.out rfl rfl (by rfl) ?_)
 exact row_tmp_post rfl rfl rfl Tryz.underlying25 rfl reg_size rfl (setRow_heap _ _ _ _ _ _ K1.out) rfl ⟨true, rfl, below_row B.out (by omega)⟩
set_option maxRecDepth 100000 in
set_option maxHeartbeats 4000000 in
theorem spec_move_SED (k : RegI) (w : World) : Calls Tryz.prog 104 #[regI k, .string ⟨#[83, 69, 68]⟩] w (MovePost k ⟨#[83, 69, 68]⟩ w) := by
 unfold MovePost
 rw [show mvfI k ⟨#[83, 69, 68]⟩ = { k with p := wI k.p 8 true } from rfl]
 have HS := fun w => spec_flag_SED k w
 obtain ⟨a, x, y, s, p, pc⟩ := k
 simp only [regI_mk] at HS ⊢
 replace HS := Lib.hid HS
 have hi := Lib.hid reg_size
 go_enter Tryz.func104, Tryz.ntmps104
 go_wp2_with (go_at_call 125; refine (HS.out _).mono ?_; rintro e w1 ⟨rfl, hb⟩; refine Hid.out ?_)
 have K1 := Lib.hid (blk_below (blk_new2 w _ _) hb)
 have B := Lib.hid (below_then (below_alloc (below_alloc (Below.refl w.heap.size w) _) _) hb)
 clear hb
 refine Lib.hid ?_
 go_wp2_with (refine store_row rfl 25 (.tmp 4) (.tmp 74) rfl (w.heap.size + 1) _ rfl rfl 6 hi.out K1.out rfl rfl (by rfl) ?_)
 exact row_tmp_post rfl rfl rfl Tryz.underlying25 rfl reg_size rfl (setRow_heap _ _ _ _ _ _ K1.out) rfl ⟨true, rfl, below_row B.out (by omega)⟩
set_option maxRecDepth 100000 in
set_option maxHeartbeats 4000000 in
theorem spec_move_other (k : RegI) (n : ByteArray) (hTAX : ¬ n = ⟨#[84, 65, 88]⟩) (hTAY : ¬ n = ⟨#[84, 65, 89]⟩) (hTXA : ¬ n = ⟨#[84, 88, 65]⟩) (hTYA : ¬ n = ⟨#[84, 89, 65]⟩) (hTSX : ¬ n = ⟨#[84, 83, 88]⟩) (hTXS : ¬ n = ⟨#[84, 88, 83]⟩) (hINX : ¬ n = ⟨#[73, 78, 88]⟩) (hINY : ¬ n = ⟨#[73, 78, 89]⟩) (hDEX : ¬ n = ⟨#[68, 69, 88]⟩) (hDEY : ¬ n = ⟨#[68, 69, 89]⟩) (hCLC : ¬ n = ⟨#[67, 76, 67]⟩) (hSEC : ¬ n = ⟨#[83, 69, 67]⟩) (hCLI : ¬ n = ⟨#[67, 76, 73]⟩) (hSEI : ¬ n = ⟨#[83, 69, 73]⟩) (hCLV : ¬ n = ⟨#[67, 76, 86]⟩) (hCLD : ¬ n = ⟨#[67, 76, 68]⟩) (hSED : ¬ n = ⟨#[83, 69, 68]⟩) (w : World) : Calls Tryz.prog 104 #[regI k, .string n] w (MovePost k n w) := by
 unfold MovePost
 have HV : mvfI k n = k := by
  have h1 : moveI k n = k := by unfold moveI; rw [if_neg hTAX, if_neg hTAY, if_neg hTXA, if_neg hTYA, if_neg hTSX, if_neg hTXS, if_neg hINX, if_neg hINY, if_neg hDEX, if_neg hDEY]
  have h2 : flagI k.p n = k.p := by unfold flagI; rw [if_neg hCLC, if_neg hSEC, if_neg hCLI, if_neg hSEI, if_neg hCLV, if_neg hCLD, if_neg hSED]
  unfold mvfI
  rw [h1, h2]
 rw [HV]
 clear HV
 have HS := fun w => spec_flag_other k n hCLC hSEC hCLI hSEI hCLV hCLD hSED w
 have nTAX := ne_list [84, 65, 88] hTAX
 have nTAY := ne_list [84, 65, 89] hTAY
 have nTXA := ne_list [84, 88, 65] hTXA
 have nTYA := ne_list [84, 89, 65] hTYA
 have nTSX := ne_list [84, 83, 88] hTSX
 have nTXS := ne_list [84, 88, 83] hTXS
 have nINX := ne_list [73, 78, 88] hINX
 have nINY := ne_list [73, 78, 89] hINY
 have nDEX := ne_list [68, 69, 88] hDEX
 have nDEY := ne_list [68, 69, 89] hDEY
 clear hTAX hTAY hTXA hTYA hTSX hTXS hINX hINY hDEX hDEY hCLC hSEC hCLI hSEI hCLV hCLD hSED
 obtain ⟨a, x, y, s, p, pc⟩ := k
 simp only [regI_mk] at HS ⊢
 replace HS := Lib.hid HS
 have hi := Lib.hid reg_size
 go_enter Tryz.func104, Tryz.ntmps104
 go_wp2_with (go_at_call 125; refine (HS.out _).mono ?_; rintro e w1 ⟨rfl, hb⟩; refine Hid.out ?_)
 have K1 := Lib.hid (blk_below (blk_new2 w _ _) hb)
 have B := Lib.hid (below_then (below_alloc (below_alloc (Below.refl w.heap.size w) _) _) hb)
 clear hb
 refine Lib.hid ?_
 go_wp2_with (refine store_row rfl 25 (.tmp 4) (.tmp 74) rfl (w.heap.size + 1) _ rfl rfl 6 hi.out K1.out rfl rfl (by rfl) ?_)
 exact row_tmp_post rfl rfl rfl Tryz.underlying25 rfl reg_size rfl (setRow_heap _ _ _ _ _ _ K1.out) rfl ⟨false, rfl, below_row B.out (by omega)⟩
theorem spec_move (k : RegI) (n : ByteArray) (w : World) : Calls Tryz.prog 104 #[regI k, .string n] w (MovePost k n w) := by
 by_cases hTAX : n = ⟨#[84, 65, 88]⟩
 ·subst hTAX; exact spec_move_TAX k w
 by_cases hTAY : n = ⟨#[84, 65, 89]⟩
 ·subst hTAY; exact spec_move_TAY k w
 by_cases hTXA : n = ⟨#[84, 88, 65]⟩
 ·subst hTXA; exact spec_move_TXA k w
 by_cases hTYA : n = ⟨#[84, 89, 65]⟩
 ·subst hTYA; exact spec_move_TYA k w
 by_cases hTSX : n = ⟨#[84, 83, 88]⟩
 ·subst hTSX; exact spec_move_TSX k w
 by_cases hTXS : n = ⟨#[84, 88, 83]⟩
 ·subst hTXS; exact spec_move_TXS k w
 by_cases hINX : n = ⟨#[73, 78, 88]⟩
 ·subst hINX; exact spec_move_INX k w
 by_cases hINY : n = ⟨#[73, 78, 89]⟩
 ·subst hINY; exact spec_move_INY k w
 by_cases hDEX : n = ⟨#[68, 69, 88]⟩
 ·subst hDEX; exact spec_move_DEX k w
 by_cases hDEY : n = ⟨#[68, 69, 89]⟩
 ·subst hDEY; exact spec_move_DEY k w
 by_cases hCLC : n = ⟨#[67, 76, 67]⟩
 ·subst hCLC; exact spec_move_CLC k w
 by_cases hSEC : n = ⟨#[83, 69, 67]⟩
 ·subst hSEC; exact spec_move_SEC k w
 by_cases hCLI : n = ⟨#[67, 76, 73]⟩
 ·subst hCLI; exact spec_move_CLI k w
 by_cases hSEI : n = ⟨#[83, 69, 73]⟩
 ·subst hSEI; exact spec_move_SEI k w
 by_cases hCLV : n = ⟨#[67, 76, 86]⟩
 ·subst hCLV; exact spec_move_CLV k w
 by_cases hCLD : n = ⟨#[67, 76, 68]⟩
 ·subst hCLD; exact spec_move_CLD k w
 by_cases hSED : n = ⟨#[83, 69, 68]⟩
 ·subst hSED; exact spec_move_SED k w
 exact spec_move_other k n hTAX hTAY hTXA hTYA hTSX hTXS hINX hINY hDEX hDEY hCLC hSEC hCLI hSEI hCLV hCLD hSED w
end Go.Proofs.YthklebkpoccblaaGreat
