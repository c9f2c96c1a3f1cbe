/-
  Texts put together by program: AsB.
  Conditions: as each theorem says.
-/
import Derived.Test.YtboeaeoefoabdaaGreatDoorAmaf
namespace Go.Proofs.YtboeaeoefoabdaaGreatDoor
open Go.RowKit Go.Deep Go.WideShapes Go.ChangeShapes
theorem cat_run (c out : List UInt8) (h : c.length + out.length ≤ 1000) (w : World) :
  (Op.stringOp .add ⟨c.toArray⟩ ⟨out.toArray⟩).run Tryz.prog w = .ok (.string ⟨(c ++ out).toArray⟩) w := by
 rw [run_string_add_sum w _ _ (by show c.toArray.size + out.toArray.size ≤ _; simp; omega)]
 rw [ByteArray.mk_append_mk]
theorem hx2 (n : Int) (w : World) : Calls Tryz.prog 112 #[.int .i64 n, .int .i64 2] w fun e w' => e = .returned (.string ⟨(hexl n 2).toArray⟩) ∧ Below w.heap.size w w' := impl_hex n 2 (by omega) (by omega) w
theorem shx2 (n : Int) (w : World) : Calls Tryz.prog 45 #[.int .i64 n, .int .i64 2] w fun e w' => e = .returned (.string ⟨(hexl n 2).toArray⟩) ∧ Below w.heap.size w w' := spec_hex n 2 (by omega) (by omega) w
theorem joined2 (x y : List UInt8) (hx : x.length ≤ 1000) (hy : y.length ≤ 1000) (w : World) : Calls Tryz.prog 70 #[.slice (some ⟨w.heap.size, 0, none⟩) 2 2] (w.alloc (.cells #[.string ⟨x.toArray⟩, .string ⟨y.toArray⟩] 9)) fun e w' => e = .returned (.string ⟨(x ++ y).toArray⟩) ∧ Below (w.alloc (.cells #[.string ⟨x.toArray⟩, .string ⟨y.toArray⟩] 9)).heap.size (w.alloc (.cells #[.string ⟨x.toArray⟩, .string ⟨y.toArray⟩] 9)) w' := by
 have h := impl_joined [⟨x.toArray⟩, ⟨y.toArray⟩] (some ⟨w.heap.size, 0, none⟩) 2 (by simp [flatB]; omega) (by simp) (w.alloc (.cells #[.string ⟨x.toArray⟩, .string ⟨y.toArray⟩] 9)) (.inr ⟨w.heap.size, rfl, by simp, fun i hi => cell_of_blk (blk_new _ _) (by
  simp only [List.length_cons, List.length_nil] at hi
  match i, hi with
  | 0, _ => rfl
  | 1, _ => rfl)⟩)
 rw [show flatB [⟨x.toArray⟩, ⟨y.toArray⟩] = x ++ y by simp [flatB]] at h
 exact h
theorem joined3 (x y z : List UInt8) (hx : x.length ≤ 1000) (hy : y.length ≤ 1000) (hz : z.length ≤ 1000) (w : World) : Calls Tryz.prog 70 #[.slice (some ⟨w.heap.size, 0, none⟩) 3 3] (w.alloc (.cells #[.string ⟨x.toArray⟩, .string ⟨y.toArray⟩, .string ⟨z.toArray⟩] 9)) fun e w' => e = .returned (.string ⟨(x ++ (y ++ z)).toArray⟩) ∧ Below (w.alloc (.cells #[.string ⟨x.toArray⟩, .string ⟨y.toArray⟩, .string ⟨z.toArray⟩] 9)).heap.size (w.alloc (.cells #[.string ⟨x.toArray⟩, .string ⟨y.toArray⟩, .string ⟨z.toArray⟩] 9)) w' := by
 have h := impl_joined [⟨x.toArray⟩, ⟨y.toArray⟩, ⟨z.toArray⟩] (some ⟨w.heap.size, 0, none⟩) 3 (by simp [flatB]; omega) (by simp) (w.alloc (.cells #[.string ⟨x.toArray⟩, .string ⟨y.toArray⟩, .string ⟨z.toArray⟩] 9)) (.inr ⟨w.heap.size, rfl, by simp, fun i hi => cell_of_blk (blk_new _ _) (by
  simp only [List.length_cons, List.length_nil] at hi
  match i, hi with
  | 0, _ => rfl
  | 1, _ => rfl
  | 2, _ => rfl)⟩)
 rw [show flatB [⟨x.toArray⟩, ⟨y.toArray⟩, ⟨z.toArray⟩] = x ++ (y ++ z) by simp [flatB]] at h
 exact h
set_option maxRecDepth 100000 in
set_option maxHeartbeats 4000000 in
theorem operand_acc (lo hi : Int) (w : World) : Calls Tryz.prog 85 #[.string ⟨#[97, 99, 99]⟩, .int .i64 lo, .int .i64 hi] w fun e w' => e = .returned (.string ⟨(operG ⟨#[97, 99, 99]⟩ (hexl lo 2) (hexl hi 2)).toArray⟩) ∧ Below w.heap.size w w' := by
 have HR := Lib.hid (operG_acc (hexl lo 2) (hexl hi 2))
 have h1 := fun w => hx2 lo w
 have h2 := fun w => hx2 hi w
 have j1 := hexl_length lo 2
 have j2 := hexl_length hi 2
 generalize hexl lo 2 = l1 at *
 generalize hexl hi 2 = l2 at *
 replace h1 := Lib.hid h1
 replace h2 := Lib.hid h2
 have HJ := fun w => joined2 l2 l1 (by omega) (by omega) w
 clear j1 j2
 replace HJ := Lib.hid HJ
 go_enter Tryz.func85, Tryz.ntmps85
 go_wp2_with (first
  | (go_at_call 112; (with_reducible refine (h1.out _).mono ?_); rintro e w1 ⟨rfl, hb1⟩)
  | (go_at_call 112; (with_reducible refine (h2.out _).mono ?_); rintro e w2 ⟨rfl, hb2⟩)
  | (go_at_call 70; (with_reducible refine (HJ.out _).mono ?_); rintro e w3 ⟨rfl, hb3⟩))
 go_ret
 exact ⟨by rw [HR.out]; first | rfl | (rw [List.append_assoc]; rfl), below_then (below_alloc (below_then hb1 hb2) _) hb3⟩
set_option maxRecDepth 100000 in
set_option maxHeartbeats 4000000 in
theorem operand_imm (lo hi : Int) (w : World) : Calls Tryz.prog 85 #[.string ⟨#[105, 109, 109]⟩, .int .i64 lo, .int .i64 hi] w fun e w' => e = .returned (.string ⟨(operG ⟨#[105, 109, 109]⟩ (hexl lo 2) (hexl hi 2)).toArray⟩) ∧ Below w.heap.size w w' := by
 have HR := Lib.hid (operG_imm (hexl lo 2) (hexl hi 2))
 have h1 := fun w => hx2 lo w
 have h2 := fun w => hx2 hi w
 have j1 := hexl_length lo 2
 have j2 := hexl_length hi 2
 generalize hexl lo 2 = l1 at *
 generalize hexl hi 2 = l2 at *
 replace h1 := Lib.hid h1
 replace h2 := Lib.hid h2
 have HJ := fun w => joined2 l2 l1 (by omega) (by omega) w
 have HK := Lib.hid (fun w => joined2 [35, 36] l1 (by simp) (by omega) w)
 clear j1 j2
 replace HJ := Lib.hid HJ
 go_enter Tryz.func85, Tryz.ntmps85
 go_wp2_with (first
  | (go_at_call 112; (with_reducible refine (h1.out _).mono ?_); rintro e w1 ⟨rfl, hb1⟩)
  | (go_at_call 112; (with_reducible refine (h2.out _).mono ?_); rintro e w2 ⟨rfl, hb2⟩)
  | (go_at_call 70; (with_reducible refine (HJ.out _).mono ?_); rintro e w3 ⟨rfl, hb3⟩)
  | (go_at_call 70; (with_reducible refine (HK.out _).mono ?_); rintro e w4 ⟨rfl, hb4⟩))
 go_ret
 exact ⟨by rw [HR.out]; first | rfl | (rw [List.append_assoc]; rfl), below_then (below_alloc (below_then (below_alloc (below_then hb1 hb2) _) hb3) _) hb4⟩
set_option maxRecDepth 100000 in
set_option maxHeartbeats 4000000 in
theorem operand_zpg (lo hi : Int) (w : World) : Calls Tryz.prog 85 #[.string ⟨#[122, 112, 103]⟩, .int .i64 lo, .int .i64 hi] w fun e w' => e = .returned (.string ⟨(operG ⟨#[122, 112, 103]⟩ (hexl lo 2) (hexl hi 2)).toArray⟩) ∧ Below w.heap.size w w' := by
 have HR := Lib.hid (operG_zpg (hexl lo 2) (hexl hi 2))
 have h1 := fun w => hx2 lo w
 have h2 := fun w => hx2 hi w
 have j1 := hexl_length lo 2
 have j2 := hexl_length hi 2
 generalize hexl lo 2 = l1 at *
 generalize hexl hi 2 = l2 at *
 replace h1 := Lib.hid h1
 replace h2 := Lib.hid h2
 have HJ := fun w => joined2 l2 l1 (by omega) (by omega) w
 have HK := Lib.hid (fun w => joined2 [36] l1 (by simp) (by omega) w)
 clear j1 j2
 replace HJ := Lib.hid HJ
 go_enter Tryz.func85, Tryz.ntmps85
 go_wp2_with (first
  | (go_at_call 112; (with_reducible refine (h1.out _).mono ?_); rintro e w1 ⟨rfl, hb1⟩)
  | (go_at_call 112; (with_reducible refine (h2.out _).mono ?_); rintro e w2 ⟨rfl, hb2⟩)
  | (go_at_call 70; (with_reducible refine (HJ.out _).mono ?_); rintro e w3 ⟨rfl, hb3⟩)
  | (go_at_call 70; (with_reducible refine (HK.out _).mono ?_); rintro e w4 ⟨rfl, hb4⟩))
 go_ret
 exact ⟨by rw [HR.out]; first | rfl | (rw [List.append_assoc]; rfl), below_then (below_alloc (below_then (below_alloc (below_then hb1 hb2) _) hb3) _) hb4⟩
set_option maxRecDepth 100000 in
set_option maxHeartbeats 4000000 in
theorem operand_rel (lo hi : Int) (w : World) : Calls Tryz.prog 85 #[.string ⟨#[114, 101, 108]⟩, .int .i64 lo, .int .i64 hi] w fun e w' => e = .returned (.string ⟨(operG ⟨#[114, 101, 108]⟩ (hexl lo 2) (hexl hi 2)).toArray⟩) ∧ Below w.heap.size w w' := by
 have HR := Lib.hid (operG_rel (hexl lo 2) (hexl hi 2))
 have h1 := fun w => hx2 lo w
 have h2 := fun w => hx2 hi w
 have j1 := hexl_length lo 2
 have j2 := hexl_length hi 2
 generalize hexl lo 2 = l1 at *
 generalize hexl hi 2 = l2 at *
 replace h1 := Lib.hid h1
 replace h2 := Lib.hid h2
 have HJ := fun w => joined2 l2 l1 (by omega) (by omega) w
 have HK := Lib.hid (fun w => joined2 [36] l1 (by simp) (by omega) w)
 clear j1 j2
 replace HJ := Lib.hid HJ
 go_enter Tryz.func85, Tryz.ntmps85
 go_wp2_with (first
  | (go_at_call 112; (with_reducible refine (h1.out _).mono ?_); rintro e w1 ⟨rfl, hb1⟩)
  | (go_at_call 112; (with_reducible refine (h2.out _).mono ?_); rintro e w2 ⟨rfl, hb2⟩)
  | (go_at_call 70; (with_reducible refine (HJ.out _).mono ?_); rintro e w3 ⟨rfl, hb3⟩)
  | (go_at_call 70; (with_reducible refine (HK.out _).mono ?_); rintro e w4 ⟨rfl, hb4⟩))
 go_ret
 exact ⟨by rw [HR.out]; first | rfl | (rw [List.append_assoc]; rfl), below_then (below_alloc (below_then (below_alloc (below_then hb1 hb2) _) hb3) _) hb4⟩
set_option maxRecDepth 100000 in
set_option maxHeartbeats 4000000 in
theorem operand_zpx (lo hi : Int) (w : World) : Calls Tryz.prog 85 #[.string ⟨#[122, 112, 120]⟩, .int .i64 lo, .int .i64 hi] w fun e w' => e = .returned (.string ⟨(operG ⟨#[122, 112, 120]⟩ (hexl lo 2) (hexl hi 2)).toArray⟩) ∧ Below w.heap.size w w' := by
 have HR := Lib.hid (operG_zpx (hexl lo 2) (hexl hi 2))
 have h1 := fun w => hx2 lo w
 have h2 := fun w => hx2 hi w
 have j1 := hexl_length lo 2
 have j2 := hexl_length hi 2
 generalize hexl lo 2 = l1 at *
 generalize hexl hi 2 = l2 at *
 replace h1 := Lib.hid h1
 replace h2 := Lib.hid h2
 have HJ := fun w => joined2 l2 l1 (by omega) (by omega) w
 have HK := Lib.hid (fun w => joined3 [36] l1 [44, 88] (by simp) (by omega) (by simp) w)
 clear j1 j2
 replace HJ := Lib.hid HJ
 go_enter Tryz.func85, Tryz.ntmps85
 go_wp2_with (first
  | (go_at_call 112; (with_reducible refine (h1.out _).mono ?_); rintro e w1 ⟨rfl, hb1⟩)
  | (go_at_call 112; (with_reducible refine (h2.out _).mono ?_); rintro e w2 ⟨rfl, hb2⟩)
  | (go_at_call 70; (with_reducible refine (HJ.out _).mono ?_); rintro e w3 ⟨rfl, hb3⟩)
  | (go_at_call 70; (with_reducible refine (HK.out _).mono ?_); rintro e w4 ⟨rfl, hb4⟩))
 go_ret
 exact ⟨by rw [HR.out]; first | rfl | (rw [List.append_assoc]; rfl), below_then (below_alloc (below_then (below_alloc (below_then hb1 hb2) _) hb3) _) hb4⟩
set_option maxRecDepth 100000 in
set_option maxHeartbeats 4000000 in
theorem operand_zpy (lo hi : Int) (w : World) : Calls Tryz.prog 85 #[.string ⟨#[122, 112, 121]⟩, .int .i64 lo, .int .i64 hi] w fun e w' => e = .returned (.string ⟨(operG ⟨#[122, 112, 121]⟩ (hexl lo 2) (hexl hi 2)).toArray⟩) ∧ Below w.heap.size w w' := by
 have HR := Lib.hid (operG_zpy (hexl lo 2) (hexl hi 2))
 have h1 := fun w => hx2 lo w
 have h2 := fun w => hx2 hi w
 have j1 := hexl_length lo 2
 have j2 := hexl_length hi 2
 generalize hexl lo 2 = l1 at *
 generalize hexl hi 2 = l2 at *
 replace h1 := Lib.hid h1
 replace h2 := Lib.hid h2
 have HJ := fun w => joined2 l2 l1 (by omega) (by omega) w
 have HK := Lib.hid (fun w => joined3 [36] l1 [44, 89] (by simp) (by omega) (by simp) w)
 clear j1 j2
 replace HJ := Lib.hid HJ
 go_enter Tryz.func85, Tryz.ntmps85
 go_wp2_with (first
  | (go_at_call 112; (with_reducible refine (h1.out _).mono ?_); rintro e w1 ⟨rfl, hb1⟩)
  | (go_at_call 112; (with_reducible refine (h2.out _).mono ?_); rintro e w2 ⟨rfl, hb2⟩)
  | (go_at_call 70; (with_reducible refine (HJ.out _).mono ?_); rintro e w3 ⟨rfl, hb3⟩)
  | (go_at_call 70; (with_reducible refine (HK.out _).mono ?_); rintro e w4 ⟨rfl, hb4⟩))
 go_ret
 exact ⟨by rw [HR.out]; first | rfl | (rw [List.append_assoc]; rfl), below_then (below_alloc (below_then (below_alloc (below_then hb1 hb2) _) hb3) _) hb4⟩
set_option maxRecDepth 100000 in
set_option maxHeartbeats 4000000 in
theorem operand_abs (lo hi : Int) (w : World) : Calls Tryz.prog 85 #[.string ⟨#[97, 98, 115]⟩, .int .i64 lo, .int .i64 hi] w fun e w' => e = .returned (.string ⟨(operG ⟨#[97, 98, 115]⟩ (hexl lo 2) (hexl hi 2)).toArray⟩) ∧ Below w.heap.size w w' := by
 have HR := Lib.hid (operG_abs (hexl lo 2) (hexl hi 2))
 have h1 := fun w => hx2 lo w
 have h2 := fun w => hx2 hi w
 have j1 := hexl_length lo 2
 have j2 := hexl_length hi 2
 generalize hexl lo 2 = l1 at *
 generalize hexl hi 2 = l2 at *
 replace h1 := Lib.hid h1
 replace h2 := Lib.hid h2
 have HJ := fun w => joined2 l2 l1 (by omega) (by omega) w
 have HK := Lib.hid (fun w => joined2 [36] (l2 ++ l1) (by simp) (by simp; omega) w)
 clear j1 j2
 replace HJ := Lib.hid HJ
 go_enter Tryz.func85, Tryz.ntmps85
 go_wp2_with (first
  | (go_at_call 112; (with_reducible refine (h1.out _).mono ?_); rintro e w1 ⟨rfl, hb1⟩)
  | (go_at_call 112; (with_reducible refine (h2.out _).mono ?_); rintro e w2 ⟨rfl, hb2⟩)
  | (go_at_call 70; (with_reducible refine (HJ.out _).mono ?_); rintro e w3 ⟨rfl, hb3⟩)
  | (go_at_call 70; (with_reducible refine (HK.out _).mono ?_); rintro e w4 ⟨rfl, hb4⟩))
 go_ret
 exact ⟨by rw [HR.out]; first | rfl | (rw [List.append_assoc]; rfl), below_then (below_alloc (below_then (below_alloc (below_then hb1 hb2) _) hb3) _) hb4⟩
set_option maxRecDepth 100000 in
set_option maxHeartbeats 4000000 in
theorem operand_abx (lo hi : Int) (w : World) : Calls Tryz.prog 85 #[.string ⟨#[97, 98, 120]⟩, .int .i64 lo, .int .i64 hi] w fun e w' => e = .returned (.string ⟨(operG ⟨#[97, 98, 120]⟩ (hexl lo 2) (hexl hi 2)).toArray⟩) ∧ Below w.heap.size w w' := by
 have HR := Lib.hid (operG_abx (hexl lo 2) (hexl hi 2))
 have h1 := fun w => hx2 lo w
 have h2 := fun w => hx2 hi w
 have j1 := hexl_length lo 2
 have j2 := hexl_length hi 2
 generalize hexl lo 2 = l1 at *
 generalize hexl hi 2 = l2 at *
 replace h1 := Lib.hid h1
 replace h2 := Lib.hid h2
 have HJ := fun w => joined2 l2 l1 (by omega) (by omega) w
 have HK := Lib.hid (fun w => joined3 [36] (l2 ++ l1) [44, 88] (by simp) (by simp; omega) (by simp) w)
 clear j1 j2
 replace HJ := Lib.hid HJ
 go_enter Tryz.func85, Tryz.ntmps85
 go_wp2_with (first
  | (go_at_call 112; (with_reducible refine (h1.out _).mono ?_); rintro e w1 ⟨rfl, hb1⟩)
  | (go_at_call 112; (with_reducible refine (h2.out _).mono ?_); rintro e w2 ⟨rfl, hb2⟩)
  | (go_at_call 70; (with_reducible refine (HJ.out _).mono ?_); rintro e w3 ⟨rfl, hb3⟩)
  | (go_at_call 70; (with_reducible refine (HK.out _).mono ?_); rintro e w4 ⟨rfl, hb4⟩))
 go_ret
 exact ⟨by rw [HR.out]; first | rfl | (rw [List.append_assoc]; rfl), below_then (below_alloc (below_then (below_alloc (below_then hb1 hb2) _) hb3) _) hb4⟩
set_option maxRecDepth 100000 in
set_option maxHeartbeats 4000000 in
theorem operand_aby (lo hi : Int) (w : World) : Calls Tryz.prog 85 #[.string ⟨#[97, 98, 121]⟩, .int .i64 lo, .int .i64 hi] w fun e w' => e = .returned (.string ⟨(operG ⟨#[97, 98, 121]⟩ (hexl lo 2) (hexl hi 2)).toArray⟩) ∧ Below w.heap.size w w' := by
 have HR := Lib.hid (operG_aby (hexl lo 2) (hexl hi 2))
 have h1 := fun w => hx2 lo w
 have h2 := fun w => hx2 hi w
 have j1 := hexl_length lo 2
 have j2 := hexl_length hi 2
 generalize hexl lo 2 = l1 at *
 generalize hexl hi 2 = l2 at *
 replace h1 := Lib.hid h1
 replace h2 := Lib.hid h2
 have HJ := fun w => joined2 l2 l1 (by omega) (by omega) w
 have HK := Lib.hid (fun w => joined3 [36] (l2 ++ l1) [44, 89] (by simp) (by simp; omega) (by simp) w)
 clear j1 j2
 replace HJ := Lib.hid HJ
 go_enter Tryz.func85, Tryz.ntmps85
 go_wp2_with (first
  | (go_at_call 112; (with_reducible refine (h1.out _).mono ?_); rintro e w1 ⟨rfl, hb1⟩)
  | (go_at_call 112; (with_reducible refine (h2.out _).mono ?_); rintro e w2 ⟨rfl, hb2⟩)
  | (go_at_call 70; (with_reducible refine (HJ.out _).mono ?_); rintro e w3 ⟨rfl, hb3⟩)
  | (go_at_call 70; (with_reducible refine (HK.out _).mono ?_); rintro e w4 ⟨rfl, hb4⟩))
 go_ret
 exact ⟨by rw [HR.out]; first | rfl | (rw [List.append_assoc]; rfl), below_then (below_alloc (below_then (below_alloc (below_then hb1 hb2) _) hb3) _) hb4⟩
set_option maxRecDepth 100000 in
set_option maxHeartbeats 4000000 in
theorem operand_inx (lo hi : Int) (w : World) : Calls Tryz.prog 85 #[.string ⟨#[105, 110, 120]⟩, .int .i64 lo, .int .i64 hi] w fun e w' => e = .returned (.string ⟨(operG ⟨#[105, 110, 120]⟩ (hexl lo 2) (hexl hi 2)).toArray⟩) ∧ Below w.heap.size w w' := by
 have HR := Lib.hid (operG_inx (hexl lo 2) (hexl hi 2))
 have h1 := fun w => hx2 lo w
 have h2 := fun w => hx2 hi w
 have j1 := hexl_length lo 2
 have j2 := hexl_length hi 2
 generalize hexl lo 2 = l1 at *
 generalize hexl hi 2 = l2 at *
 replace h1 := Lib.hid h1
 replace h2 := Lib.hid h2
 have HJ := fun w => joined2 l2 l1 (by omega) (by omega) w
 have HK := Lib.hid (fun w => joined3 [40, 36] l1 [44, 88, 41] (by simp) (by omega) (by simp) w)
 clear j1 j2
 replace HJ := Lib.hid HJ
 go_enter Tryz.func85, Tryz.ntmps85
 go_wp2_with (first
  | (go_at_call 112; (with_reducible refine (h1.out _).mono ?_); rintro e w1 ⟨rfl, hb1⟩)
  | (go_at_call 112; (with_reducible refine (h2.out _).mono ?_); rintro e w2 ⟨rfl, hb2⟩)
  | (go_at_call 70; (with_reducible refine (HJ.out _).mono ?_); rintro e w3 ⟨rfl, hb3⟩)
  | (go_at_call 70; (with_reducible refine (HK.out _).mono ?_); rintro e w4 ⟨rfl, hb4⟩))
 go_ret
 exact ⟨by rw [HR.out]; first | rfl | (rw [List.append_assoc]; rfl), below_then (below_alloc (below_then (below_alloc (below_then hb1 hb2) _) hb3) _) hb4⟩
set_option maxRecDepth 100000 in
set_option maxHeartbeats 4000000 in
theorem operand_iny (lo hi : Int) (w : World) : Calls Tryz.prog 85 #[.string ⟨#[105, 110, 121]⟩, .int .i64 lo, .int .i64 hi] w fun e w' => e = .returned (.string ⟨(operG ⟨#[105, 110, 121]⟩ (hexl lo 2) (hexl hi 2)).toArray⟩) ∧ Below w.heap.size w w' := by
 have HR := Lib.hid (operG_iny (hexl lo 2) (hexl hi 2))
 have h1 := fun w => hx2 lo w
 have h2 := fun w => hx2 hi w
 have j1 := hexl_length lo 2
 have j2 := hexl_length hi 2
 generalize hexl lo 2 = l1 at *
 generalize hexl hi 2 = l2 at *
 replace h1 := Lib.hid h1
 replace h2 := Lib.hid h2
 have HJ := fun w => joined2 l2 l1 (by omega) (by omega) w
 have HK := Lib.hid (fun w => joined3 [40, 36] l1 [41, 44, 89] (by simp) (by omega) (by simp) w)
 clear j1 j2
 replace HJ := Lib.hid HJ
 go_enter Tryz.func85, Tryz.ntmps85
 go_wp2_with (first
  | (go_at_call 112; (with_reducible refine (h1.out _).mono ?_); rintro e w1 ⟨rfl, hb1⟩)
  | (go_at_call 112; (with_reducible refine (h2.out _).mono ?_); rintro e w2 ⟨rfl, hb2⟩)
  | (go_at_call 70; (with_reducible refine (HJ.out _).mono ?_); rintro e w3 ⟨rfl, hb3⟩)
  | (go_at_call 70; (with_reducible refine (HK.out _).mono ?_); rintro e w4 ⟨rfl, hb4⟩))
 go_ret
 exact ⟨by rw [HR.out]; first | rfl | (rw [List.append_assoc]; rfl), below_then (below_alloc (below_then (below_alloc (below_then hb1 hb2) _) hb3) _) hb4⟩
set_option maxRecDepth 100000 in
set_option maxHeartbeats 4000000 in
theorem operand_ind (lo hi : Int) (w : World) : Calls Tryz.prog 85 #[.string ⟨#[105, 110, 100]⟩, .int .i64 lo, .int .i64 hi] w fun e w' => e = .returned (.string ⟨(operG ⟨#[105, 110, 100]⟩ (hexl lo 2) (hexl hi 2)).toArray⟩) ∧ Below w.heap.size w w' := by
 have HR := Lib.hid (operG_ind (hexl lo 2) (hexl hi 2))
 have h1 := fun w => hx2 lo w
 have h2 := fun w => hx2 hi w
 have j1 := hexl_length lo 2
 have j2 := hexl_length hi 2
 generalize hexl lo 2 = l1 at *
 generalize hexl hi 2 = l2 at *
 replace h1 := Lib.hid h1
 replace h2 := Lib.hid h2
 have HJ := fun w => joined2 l2 l1 (by omega) (by omega) w
 have HK := Lib.hid (fun w => joined3 [40, 36] (l2 ++ l1) [41] (by simp) (by simp; omega) (by simp) w)
 clear j1 j2
 replace HJ := Lib.hid HJ
 go_enter Tryz.func85, Tryz.ntmps85
 go_wp2_with (first
  | (go_at_call 112; (with_reducible refine (h1.out _).mono ?_); rintro e w1 ⟨rfl, hb1⟩)
  | (go_at_call 112; (with_reducible refine (h2.out _).mono ?_); rintro e w2 ⟨rfl, hb2⟩)
  | (go_at_call 70; (with_reducible refine (HJ.out _).mono ?_); rintro e w3 ⟨rfl, hb3⟩)
  | (go_at_call 70; (with_reducible refine (HK.out _).mono ?_); rintro e w4 ⟨rfl, hb4⟩))
 go_ret
 exact ⟨by rw [HR.out]; first | rfl | (rw [List.append_assoc]; rfl), below_then (below_alloc (below_then (below_alloc (below_then hb1 hb2) _) hb3) _) hb4⟩
set_option maxRecDepth 100000 in
set_option maxHeartbeats 4000000 in
theorem operand_other (m : ByteArray) (hacc : ¬ m = ⟨#[97, 99, 99]⟩) (himm : ¬ m = ⟨#[105, 109, 109]⟩) (hzpg : ¬ m = ⟨#[122, 112, 103]⟩) (hrel : ¬ m = ⟨#[114, 101, 108]⟩) (hzpx : ¬ m = ⟨#[122, 112, 120]⟩) (hzpy : ¬ m = ⟨#[122, 112, 121]⟩) (habs : ¬ m = ⟨#[97, 98, 115]⟩) (habx : ¬ m = ⟨#[97, 98, 120]⟩) (haby : ¬ m = ⟨#[97, 98, 121]⟩) (hinx : ¬ m = ⟨#[105, 110, 120]⟩) (hiny : ¬ m = ⟨#[105, 110, 121]⟩) (hind : ¬ m = ⟨#[105, 110, 100]⟩) (lo hi : Int) (w : World) : Calls Tryz.prog 85 #[.string m, .int .i64 lo, .int .i64 hi] w fun e w' => e = .returned (.string ⟨(operG m (hexl lo 2) (hexl hi 2)).toArray⟩) ∧ Below w.heap.size w w' := by
 have HR := Lib.hid (operG_none m (hexl lo 2) (hexl hi 2) hacc himm hzpg hrel hzpx hzpy habs habx haby hinx hiny hind)
 have h1 := fun w => hx2 lo w
 have h2 := fun w => hx2 hi w
 have j1 := hexl_length lo 2
 have j2 := hexl_length hi 2
 generalize hexl lo 2 = l1 at *
 generalize hexl hi 2 = l2 at *
 replace h1 := Lib.hid h1
 replace h2 := Lib.hid h2
 have HJ := fun w => joined2 l2 l1 (by omega) (by omega) w
 have nacc := ne_list [97, 99, 99] hacc
 have nimm := ne_list [105, 109, 109] himm
 have nzpg := ne_list [122, 112, 103] hzpg
 have nrel := ne_list [114, 101, 108] hrel
 have nzpx := ne_list [122, 112, 120] hzpx
 have nzpy := ne_list [122, 112, 121] hzpy
 have nabs := ne_list [97, 98, 115] habs
 have nabx := ne_list [97, 98, 120] habx
 have naby := ne_list [97, 98, 121] haby
 have ninx := ne_list [105, 110, 120] hinx
 have niny := ne_list [105, 110, 121] hiny
 have nind := ne_list [105, 110, 100] hind
 clear j1 j2 hacc himm hzpg hrel hzpx hzpy habs habx haby hinx hiny hind
 replace HJ := Lib.hid HJ
 go_enter Tryz.func85, Tryz.ntmps85
 go_wp2_with (first
  | (go_at_call 112; (with_reducible refine (h1.out _).mono ?_); rintro e w1 ⟨rfl, hb1⟩)
  | (go_at_call 112; (with_reducible refine (h2.out _).mono ?_); rintro e w2 ⟨rfl, hb2⟩)
  | (go_at_call 70; (with_reducible refine (HJ.out _).mono ?_); rintro e w3 ⟨rfl, hb3⟩))
 go_ret
 exact ⟨by rw [HR.out]; rfl, below_then (below_alloc (below_then hb1 hb2) _) hb3⟩
theorem impl_operand (m : ByteArray) (lo hi : Int) (w : World) : Calls Tryz.prog 85 #[.string m, .int .i64 lo, .int .i64 hi] w fun e w' => e = .returned (.string ⟨(operG m (hexl lo 2) (hexl hi 2)).toArray⟩) ∧ Below w.heap.size w w' := by
 by_cases hacc : m = ⟨#[97, 99, 99]⟩
 ·subst hacc; exact operand_acc lo hi w
 by_cases himm : m = ⟨#[105, 109, 109]⟩
 ·subst himm; exact operand_imm lo hi w
 by_cases hzpg : m = ⟨#[122, 112, 103]⟩
 ·subst hzpg; exact operand_zpg lo hi w
 by_cases hrel : m = ⟨#[114, 101, 108]⟩
 ·subst hrel; exact operand_rel lo hi w
 by_cases hzpx : m = ⟨#[122, 112, 120]⟩
 ·subst hzpx; exact operand_zpx lo hi w
 by_cases hzpy : m = ⟨#[122, 112, 121]⟩
 ·subst hzpy; exact operand_zpy lo hi w
 by_cases habs : m = ⟨#[97, 98, 115]⟩
 ·subst habs; exact operand_abs lo hi w
 by_cases habx : m = ⟨#[97, 98, 120]⟩
 ·subst habx; exact operand_abx lo hi w
 by_cases haby : m = ⟨#[97, 98, 121]⟩
 ·subst haby; exact operand_aby lo hi w
 by_cases hinx : m = ⟨#[105, 110, 120]⟩
 ·subst hinx; exact operand_inx lo hi w
 by_cases hiny : m = ⟨#[105, 110, 121]⟩
 ·subst hiny; exact operand_iny lo hi w
 by_cases hind : m = ⟨#[105, 110, 100]⟩
 ·subst hind; exact operand_ind lo hi w
 exact operand_other m hacc himm hzpg hrel hzpx hzpy habs habx haby hinx hiny hind lo hi w
set_option maxRecDepth 100000 in
set_option maxHeartbeats 4000000 in
theorem impl_opTextI (N : List UInt8) (hN : N.length ≤ 3) (m : ByteArray) (lo hi : Int) (w : World) : Calls Tryz.prog 48 #[.agg #[.string ⟨N.toArray⟩, .string m], .int .i64 lo, .int .i64 hi] w fun e w' => e = .returned (.string ⟨(opG N m (hexl lo 2) (hexl hi 2)).toArray⟩) ∧ Below w.heap.size w w' := by
 have ho := fun w => impl_operand m lo hi w
 have hl := operG_length m (hexl lo 2) (hexl hi 2) (hexl_length _ _) (hexl_length _ _)
 have HG : Hid (opG N m (hexl lo 2) (hexl hi 2) = N ++ (if operG m (hexl lo 2) (hexl hi 2) = [] then [] else 32 :: operG m (hexl lo 2) (hexl hi 2))) := Lib.hid rfl
 generalize opG N m (hexl lo 2) (hexl hi 2) = G at *
 generalize operG m (hexl lo 2) (hexl hi 2) = O at *
 replace ho := Lib.hid ho
 have HK := Lib.hid (fun w => joined3 N [32] O (by omega) (by simp) (by omega) w)
 clear hl hN
 go_enter Tryz.func48, Tryz.ntmps48
 go_wp2_with (go_at_call 85; (with_reducible refine (ho.out _).mono ?_); rintro e w1 ⟨rfl, hb1⟩; refine Hid.out ?_)
 have g1 := blk_below (blk_new w (.cells #[.string ⟨N.toArray⟩, .string m] 41)) hb1
 have hw1 := Lib.hid (below_then (below_alloc (Below.refl w.heap.size w) _) hb1)
 have q0 := cell_of_blk (i := 0) (v := .string ⟨N.toArray⟩) g1 rfl
 clear g1 hb1
 refine Lib.hid ?_
 cases hE : O.isEmpty
 ·have hs : ¬ O = [] := fun h => by rw [h] at hE; cases hE
  have HG2 := HG.out
  rw [if_neg hs] at HG2
  replace HG2 := Lib.hid HG2
  clear hs HG
  go_wp2_with (go_at_call 70; (with_reducible refine (HK.out _).mono ?_); rintro e w2 ⟨rfl, hb2⟩)
  go_ret
  exact ⟨by rw [HG2.out]; rfl, below_then (below_alloc hw1.out _) hb2⟩
 ·have hs : O = [] := List.isEmpty_iff.1 hE
  have HG2 := HG.out
  rw [if_pos hs, List.append_nil] at HG2
  replace HG2 := Lib.hid HG2
  clear hs HG
  go_wp2
  go_ret
  exact ⟨by rw [HG2.out]; rfl, hw1.out⟩
theorem impl_opText (N m : ByteArray) (hN : N.size ≤ 3) (lo hi : Int) (w : World) : Calls Tryz.prog 48 #[.agg #[.string N, .string m], .int .i64 lo, .int .i64 hi] w fun e w' => e = .returned (.string ⟨(opT N m lo hi).toArray⟩) ∧ Below w.heap.size w w' := impl_opTextI N.data.toList (by simpa using hN) m lo hi w
set_option maxRecDepth 100000 in
set_option maxHeartbeats 4000000 in
theorem impl_OpText (n lo hi : Int) (w : World) : Calls Tryz.prog 19 #[.int .i64 n, .int .i64 lo, .int .i64 hi] w fun e w' => e = .returned (.string ⟨(opT (opOf n).1 (opOf n).2 lo hi).toArray⟩) ∧ Below w.heap.size w w' := by
 have HO := Lib.hid (fun w => impl_opOf n w)
 have hz := op_size3 n
 have HT := Lib.hid (fun w => impl_opText (opOf n).1 (opOf n).2 hz.1 lo hi w)
 clear hz
 generalize (opOf n).1 = a at *
 generalize (opOf n).2 = m at *
 go_enter Tryz.func19, Tryz.ntmps19
 go_wp2_with (first
  | (go_at_call 49; (with_reducible refine (HO.out _).mono ?_); rintro e w1 ⟨rfl, hb1⟩)
  | (go_at_call 48; (with_reducible refine (HT.out _).mono ?_); rintro e w2 ⟨rfl, hb2⟩))
 go_ret
 exact ⟨rfl, below_then hb1 hb2⟩
end Go.Proofs.YtboeaeoefoabdaaGreatDoor
