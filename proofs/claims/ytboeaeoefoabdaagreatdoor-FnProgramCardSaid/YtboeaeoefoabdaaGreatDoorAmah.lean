/-
  Texts put together by program: AsC.
  Conditions: as each theorem says.
-/
import Derived.Test.YtboeaeoefoabdaaGreatDoorAmag
namespace Go.Proofs.YtboeaeoefoabdaaGreatDoor
open Go.RowKit Go.Deep Go.WideShapes Go.ChangeShapes
set_option maxRecDepth 100000 in
set_option maxHeartbeats 4000000 in
theorem spec_op_acc (n lo hi : Int) (L : List UInt8) (hL : L.length ≤ 3) (h1 : (opOf n).1 = ⟨L.toArray⟩) (h2 : (opOf n).2 = ⟨#[97, 99, 99]⟩) (w : World) : Calls Tryz.prog 23 #[.int .i64 n, .int .i64 lo, .int .i64 hi] w fun e w' => e = .returned (.string ⟨(opG L ⟨#[97, 99, 99]⟩ (hexl lo 2) (hexl hi 2)).toArray⟩) ∧ Below w.heap.size w w' := by
 have HR := opG_acc L (hexl lo 2) (hexl hi 2)
 have HO := fun w => spec_opOf n w
 rw [h1, h2] at HO
 replace HO := Lib.hid HO
 have x1 := fun w => shx2 lo w
 have x2 := fun w => shx2 hi w
 have j1 := hexl_length lo 2
 have j2 := hexl_length hi 2
 generalize hexl lo 2 = l1 at *
 generalize hexl hi 2 = l2 at *
 replace x1 := Lib.hid x1
 replace x2 := Lib.hid x2
 have b1 : ∀ w, (Op.stringOp .add ⟨#[36]⟩ ⟨l1.toArray⟩).run Tryz.prog w = .ok (.string ⟨([36] ++ l1).toArray⟩) w := fun w => cat_run [36] l1 (by simp; omega) w
 have b2 : ∀ w, (Op.stringOp .add ⟨#[36]⟩ ⟨l2.toArray⟩).run Tryz.prog w = .ok (.string ⟨([36] ++ l2).toArray⟩) w := fun w => cat_run [36] l2 (by simp; omega) w
 obtain ⟨z1, e1⟩ : ∃ z : List UInt8, [36] ++ l1 = z := ⟨_, rfl⟩
 obtain ⟨y1, e2⟩ : ∃ z : List UInt8, [36] ++ l2 = z := ⟨_, rfl⟩
 rw [e1] at b1
 rw [e2] at b2
 have i1 : z1.length = 3 := by rw [← e1]; simp; omega
 have i2 : y1.length = 3 := by rw [← e2]; simp; omega
 have b3 : ∀ w, (Op.stringOp .add ⟨y1.toArray⟩ ⟨l1.toArray⟩).run Tryz.prog w = .ok (.string ⟨(y1 ++ l1).toArray⟩) w := fun w => cat_run y1 l1 (by omega) w
 obtain ⟨z2, e3⟩ : ∃ z : List UInt8, y1 ++ l1 = z := ⟨_, rfl⟩
 rw [e3] at b3
 have i3 : z2.length = 5 := by rw [← e3]; simp; omega
 have a1 : ∀ w, (Op.stringOp .add ⟨L.toArray⟩ ⟨#[32, 65]⟩).run Tryz.prog w = .ok (.string ⟨(L ++ ([32, 65] : List UInt8)).toArray⟩) w := fun w => cat_run L ([32, 65] : List UInt8) (by first | omega | (simp; omega)) w
 obtain ⟨t1, f1⟩ : ∃ t : List UInt8, L ++ ([32, 65] : List UInt8) = t := ⟨_, rfl⟩
 rw [f1] at a1
 have k1 : t1.length ≤ 10 := by rw [← f1, List.length_append]; first | omega | (simp; omega)
 have HF : Hid (opG L ⟨#[97, 99, 99]⟩ l1 l2 = t1) := Lib.hid (by rw [HR, ← f1] <;> simp)
 clear HR e1 e2 e3 i1 i2 i3 j1 j2 hL f1 k1
 go_enter Tryz.func23, Tryz.ntmps23
 go_wp2_with (first
  | (go_at_call 24; (with_reducible refine (HO.out _).mono ?_); rintro e w1 ⟨rfl, hb1⟩)
  | (go_at_call 45; (with_reducible refine (x1.out _).mono ?_); rintro e w2 ⟨rfl, hb2⟩; refine Hid.out ?_))
 have g2 := blk_below (blk_new w1 (.cells #[.string ⟨L.toArray⟩, .string ⟨#[97, 99, 99]⟩] 41)) hb2
 have hw2 := Lib.hid (below_then (below_alloc hb1 _) hb2)
 replace g2 := Lib.hid g2
 clear hb1 hb2
 refine Lib.hid ?_
 go_wp2_with (go_at_call 45; (with_reducible refine (x2.out _).mono ?_); rintro e w3 ⟨rfl, hb3⟩; refine Hid.out ?_)
 have g3 := blk_below g2.out hb3
 have hw3 := Lib.hid (below_then hw2.out hb3)
 replace g3 := Lib.hid g3
 clear hb3 g2 hw2
 refine Lib.hid ?_
 go_wp2_with (go_at_call 45; (with_reducible refine (x1.out _).mono ?_); rintro e w4 ⟨rfl, hb4⟩; refine Hid.out ?_)
 have g4 := blk_below g3.out hb4
 have hw4 := Lib.hid (below_then hw3.out hb4)
 have q0 := cell_of_blk (i := 0) (v := .string ⟨L.toArray⟩) g4 rfl
 have q1 := cell_of_blk (i := 1) (v := .string ⟨#[97, 99, 99]⟩) g4 rfl
 clear hb4 g3 g4 hw3
 refine Lib.hid ?_
 go_wp2
 go_ret
 exact ⟨by rw [HF.out]; rfl, hw4.out⟩
set_option maxRecDepth 100000 in
set_option maxHeartbeats 4000000 in
theorem spec_op_imm (n lo hi : Int) (L : List UInt8) (hL : L.length ≤ 3) (h1 : (opOf n).1 = ⟨L.toArray⟩) (h2 : (opOf n).2 = ⟨#[105, 109, 109]⟩) (w : World) : Calls Tryz.prog 23 #[.int .i64 n, .int .i64 lo, .int .i64 hi] w fun e w' => e = .returned (.string ⟨(opG L ⟨#[105, 109, 109]⟩ (hexl lo 2) (hexl hi 2)).toArray⟩) ∧ Below w.heap.size w w' := by
 have HR := opG_imm L (hexl lo 2) (hexl hi 2)
 have HO := fun w => spec_opOf n w
 rw [h1, h2] at HO
 replace HO := Lib.hid HO
 have x1 := fun w => shx2 lo w
 have x2 := fun w => shx2 hi w
 have j1 := hexl_length lo 2
 have j2 := hexl_length hi 2
 generalize hexl lo 2 = l1 at *
 generalize hexl hi 2 = l2 at *
 replace x1 := Lib.hid x1
 replace x2 := Lib.hid x2
 have b1 : ∀ w, (Op.stringOp .add ⟨#[36]⟩ ⟨l1.toArray⟩).run Tryz.prog w = .ok (.string ⟨([36] ++ l1).toArray⟩) w := fun w => cat_run [36] l1 (by simp; omega) w
 have b2 : ∀ w, (Op.stringOp .add ⟨#[36]⟩ ⟨l2.toArray⟩).run Tryz.prog w = .ok (.string ⟨([36] ++ l2).toArray⟩) w := fun w => cat_run [36] l2 (by simp; omega) w
 obtain ⟨z1, e1⟩ : ∃ z : List UInt8, [36] ++ l1 = z := ⟨_, rfl⟩
 obtain ⟨y1, e2⟩ : ∃ z : List UInt8, [36] ++ l2 = z := ⟨_, rfl⟩
 rw [e1] at b1
 rw [e2] at b2
 have i1 : z1.length = 3 := by rw [← e1]; simp; omega
 have i2 : y1.length = 3 := by rw [← e2]; simp; omega
 have b3 : ∀ w, (Op.stringOp .add ⟨y1.toArray⟩ ⟨l1.toArray⟩).run Tryz.prog w = .ok (.string ⟨(y1 ++ l1).toArray⟩) w := fun w => cat_run y1 l1 (by omega) w
 obtain ⟨z2, e3⟩ : ∃ z : List UInt8, y1 ++ l1 = z := ⟨_, rfl⟩
 rw [e3] at b3
 have i3 : z2.length = 5 := by rw [← e3]; simp; omega
 have a1 : ∀ w, (Op.stringOp .add ⟨L.toArray⟩ ⟨#[32, 35]⟩).run Tryz.prog w = .ok (.string ⟨(L ++ ([32, 35] : List UInt8)).toArray⟩) w := fun w => cat_run L ([32, 35] : List UInt8) (by first | omega | (simp; omega)) w
 obtain ⟨t1, f1⟩ : ∃ t : List UInt8, L ++ ([32, 35] : List UInt8) = t := ⟨_, rfl⟩
 rw [f1] at a1
 have k1 : t1.length ≤ 10 := by rw [← f1, List.length_append]; first | omega | (simp; omega)
 have a2 : ∀ w, (Op.stringOp .add ⟨t1.toArray⟩ ⟨z1.toArray⟩).run Tryz.prog w = .ok (.string ⟨(t1 ++ z1).toArray⟩) w := fun w => cat_run t1 z1 (by first | omega | (simp; omega)) w
 obtain ⟨t2, f2⟩ : ∃ t : List UInt8, t1 ++ z1 = t := ⟨_, rfl⟩
 rw [f2] at a2
 have k2 : t2.length ≤ 17 := by rw [← f2, List.length_append]; first | omega | (simp; omega)
 have HF : Hid (opG L ⟨#[105, 109, 109]⟩ l1 l2 = t2) := Lib.hid (by rw [HR, ← f2, ← f1, ← e1] <;> simp)
 clear HR e1 e2 e3 i1 i2 i3 j1 j2 hL f1 k1 f2 k2
 go_enter Tryz.func23, Tryz.ntmps23
 go_wp2_with (first
  | (go_at_call 24; (with_reducible refine (HO.out _).mono ?_); rintro e w1 ⟨rfl, hb1⟩)
  | (go_at_call 45; (with_reducible refine (x1.out _).mono ?_); rintro e w2 ⟨rfl, hb2⟩; refine Hid.out ?_))
 have g2 := blk_below (blk_new w1 (.cells #[.string ⟨L.toArray⟩, .string ⟨#[105, 109, 109]⟩] 41)) hb2
 have hw2 := Lib.hid (below_then (below_alloc hb1 _) hb2)
 replace g2 := Lib.hid g2
 clear hb1 hb2
 refine Lib.hid ?_
 go_wp2_with (go_at_call 45; (with_reducible refine (x2.out _).mono ?_); rintro e w3 ⟨rfl, hb3⟩; refine Hid.out ?_)
 have g3 := blk_below g2.out hb3
 have hw3 := Lib.hid (below_then hw2.out hb3)
 replace g3 := Lib.hid g3
 clear hb3 g2 hw2
 refine Lib.hid ?_
 go_wp2_with (go_at_call 45; (with_reducible refine (x1.out _).mono ?_); rintro e w4 ⟨rfl, hb4⟩; refine Hid.out ?_)
 have g4 := blk_below g3.out hb4
 have hw4 := Lib.hid (below_then hw3.out hb4)
 have q0 := cell_of_blk (i := 0) (v := .string ⟨L.toArray⟩) g4 rfl
 have q1 := cell_of_blk (i := 1) (v := .string ⟨#[105, 109, 109]⟩) g4 rfl
 clear hb4 g3 g4 hw3
 refine Lib.hid ?_
 go_wp2
 go_ret
 exact ⟨by rw [HF.out]; rfl, hw4.out⟩
set_option maxRecDepth 100000 in
set_option maxHeartbeats 4000000 in
theorem spec_op_zpg (n lo hi : Int) (L : List UInt8) (hL : L.length ≤ 3) (h1 : (opOf n).1 = ⟨L.toArray⟩) (h2 : (opOf n).2 = ⟨#[122, 112, 103]⟩) (w : World) : Calls Tryz.prog 23 #[.int .i64 n, .int .i64 lo, .int .i64 hi] w fun e w' => e = .returned (.string ⟨(opG L ⟨#[122, 112, 103]⟩ (hexl lo 2) (hexl hi 2)).toArray⟩) ∧ Below w.heap.size w w' := by
 have HR := opG_zpg L (hexl lo 2) (hexl hi 2)
 have HO := fun w => spec_opOf n w
 rw [h1, h2] at HO
 replace HO := Lib.hid HO
 have x1 := fun w => shx2 lo w
 have x2 := fun w => shx2 hi w
 have j1 := hexl_length lo 2
 have j2 := hexl_length hi 2
 generalize hexl lo 2 = l1 at *
 generalize hexl hi 2 = l2 at *
 replace x1 := Lib.hid x1
 replace x2 := Lib.hid x2
 have b1 : ∀ w, (Op.stringOp .add ⟨#[36]⟩ ⟨l1.toArray⟩).run Tryz.prog w = .ok (.string ⟨([36] ++ l1).toArray⟩) w := fun w => cat_run [36] l1 (by simp; omega) w
 have b2 : ∀ w, (Op.stringOp .add ⟨#[36]⟩ ⟨l2.toArray⟩).run Tryz.prog w = .ok (.string ⟨([36] ++ l2).toArray⟩) w := fun w => cat_run [36] l2 (by simp; omega) w
 obtain ⟨z1, e1⟩ : ∃ z : List UInt8, [36] ++ l1 = z := ⟨_, rfl⟩
 obtain ⟨y1, e2⟩ : ∃ z : List UInt8, [36] ++ l2 = z := ⟨_, rfl⟩
 rw [e1] at b1
 rw [e2] at b2
 have i1 : z1.length = 3 := by rw [← e1]; simp; omega
 have i2 : y1.length = 3 := by rw [← e2]; simp; omega
 have b3 : ∀ w, (Op.stringOp .add ⟨y1.toArray⟩ ⟨l1.toArray⟩).run Tryz.prog w = .ok (.string ⟨(y1 ++ l1).toArray⟩) w := fun w => cat_run y1 l1 (by omega) w
 obtain ⟨z2, e3⟩ : ∃ z : List UInt8, y1 ++ l1 = z := ⟨_, rfl⟩
 rw [e3] at b3
 have i3 : z2.length = 5 := by rw [← e3]; simp; omega
 have a1 : ∀ w, (Op.stringOp .add ⟨L.toArray⟩ ⟨#[32]⟩).run Tryz.prog w = .ok (.string ⟨(L ++ ([32] : List UInt8)).toArray⟩) w := fun w => cat_run L ([32] : List UInt8) (by first | omega | (simp; omega)) w
 obtain ⟨t1, f1⟩ : ∃ t : List UInt8, L ++ ([32] : List UInt8) = t := ⟨_, rfl⟩
 rw [f1] at a1
 have k1 : t1.length ≤ 10 := by rw [← f1, List.length_append]; first | omega | (simp; omega)
 have a2 : ∀ w, (Op.stringOp .add ⟨t1.toArray⟩ ⟨z1.toArray⟩).run Tryz.prog w = .ok (.string ⟨(t1 ++ z1).toArray⟩) w := fun w => cat_run t1 z1 (by first | omega | (simp; omega)) w
 obtain ⟨t2, f2⟩ : ∃ t : List UInt8, t1 ++ z1 = t := ⟨_, rfl⟩
 rw [f2] at a2
 have k2 : t2.length ≤ 17 := by rw [← f2, List.length_append]; first | omega | (simp; omega)
 have HF : Hid (opG L ⟨#[122, 112, 103]⟩ l1 l2 = t2) := Lib.hid (by rw [HR, ← f2, ← f1, ← e1] <;> simp)
 clear HR e1 e2 e3 i1 i2 i3 j1 j2 hL f1 k1 f2 k2
 go_enter Tryz.func23, Tryz.ntmps23
 go_wp2_with (first
  | (go_at_call 24; (with_reducible refine (HO.out _).mono ?_); rintro e w1 ⟨rfl, hb1⟩)
  | (go_at_call 45; (with_reducible refine (x1.out _).mono ?_); rintro e w2 ⟨rfl, hb2⟩; refine Hid.out ?_))
 have g2 := blk_below (blk_new w1 (.cells #[.string ⟨L.toArray⟩, .string ⟨#[122, 112, 103]⟩] 41)) hb2
 have hw2 := Lib.hid (below_then (below_alloc hb1 _) hb2)
 replace g2 := Lib.hid g2
 clear hb1 hb2
 refine Lib.hid ?_
 go_wp2_with (go_at_call 45; (with_reducible refine (x2.out _).mono ?_); rintro e w3 ⟨rfl, hb3⟩; refine Hid.out ?_)
 have g3 := blk_below g2.out hb3
 have hw3 := Lib.hid (below_then hw2.out hb3)
 replace g3 := Lib.hid g3
 clear hb3 g2 hw2
 refine Lib.hid ?_
 go_wp2_with (go_at_call 45; (with_reducible refine (x1.out _).mono ?_); rintro e w4 ⟨rfl, hb4⟩; refine Hid.out ?_)
 have g4 := blk_below g3.out hb4
 have hw4 := Lib.hid (below_then hw3.out hb4)
 have q0 := cell_of_blk (i := 0) (v := .string ⟨L.toArray⟩) g4 rfl
 have q1 := cell_of_blk (i := 1) (v := .string ⟨#[122, 112, 103]⟩) g4 rfl
 clear hb4 g3 g4 hw3
 refine Lib.hid ?_
 go_wp2
 go_ret
 exact ⟨by rw [HF.out]; rfl, hw4.out⟩
set_option maxRecDepth 100000 in
set_option maxHeartbeats 4000000 in
theorem spec_op_rel (n lo hi : Int) (L : List UInt8) (hL : L.length ≤ 3) (h1 : (opOf n).1 = ⟨L.toArray⟩) (h2 : (opOf n).2 = ⟨#[114, 101, 108]⟩) (w : World) : Calls Tryz.prog 23 #[.int .i64 n, .int .i64 lo, .int .i64 hi] w fun e w' => e = .returned (.string ⟨(opG L ⟨#[114, 101, 108]⟩ (hexl lo 2) (hexl hi 2)).toArray⟩) ∧ Below w.heap.size w w' := by
 have HR := opG_rel L (hexl lo 2) (hexl hi 2)
 have HO := fun w => spec_opOf n w
 rw [h1, h2] at HO
 replace HO := Lib.hid HO
 have x1 := fun w => shx2 lo w
 have x2 := fun w => shx2 hi w
 have j1 := hexl_length lo 2
 have j2 := hexl_length hi 2
 generalize hexl lo 2 = l1 at *
 generalize hexl hi 2 = l2 at *
 replace x1 := Lib.hid x1
 replace x2 := Lib.hid x2
 have b1 : ∀ w, (Op.stringOp .add ⟨#[36]⟩ ⟨l1.toArray⟩).run Tryz.prog w = .ok (.string ⟨([36] ++ l1).toArray⟩) w := fun w => cat_run [36] l1 (by simp; omega) w
 have b2 : ∀ w, (Op.stringOp .add ⟨#[36]⟩ ⟨l2.toArray⟩).run Tryz.prog w = .ok (.string ⟨([36] ++ l2).toArray⟩) w := fun w => cat_run [36] l2 (by simp; omega) w
 obtain ⟨z1, e1⟩ : ∃ z : List UInt8, [36] ++ l1 = z := ⟨_, rfl⟩
 obtain ⟨y1, e2⟩ : ∃ z : List UInt8, [36] ++ l2 = z := ⟨_, rfl⟩
 rw [e1] at b1
 rw [e2] at b2
 have i1 : z1.length = 3 := by rw [← e1]; simp; omega
 have i2 : y1.length = 3 := by rw [← e2]; simp; omega
 have b3 : ∀ w, (Op.stringOp .add ⟨y1.toArray⟩ ⟨l1.toArray⟩).run Tryz.prog w = .ok (.string ⟨(y1 ++ l1).toArray⟩) w := fun w => cat_run y1 l1 (by omega) w
 obtain ⟨z2, e3⟩ : ∃ z : List UInt8, y1 ++ l1 = z := ⟨_, rfl⟩
 rw [e3] at b3
 have i3 : z2.length = 5 := by rw [← e3]; simp; omega
 have a1 : ∀ w, (Op.stringOp .add ⟨L.toArray⟩ ⟨#[32]⟩).run Tryz.prog w = .ok (.string ⟨(L ++ ([32] : List UInt8)).toArray⟩) w := fun w => cat_run L ([32] : List UInt8) (by first | omega | (simp; omega)) w
 obtain ⟨t1, f1⟩ : ∃ t : List UInt8, L ++ ([32] : List UInt8) = t := ⟨_, rfl⟩
 rw [f1] at a1
 have k1 : t1.length ≤ 10 := by rw [← f1, List.length_append]; first | omega | (simp; omega)
 have a2 : ∀ w, (Op.stringOp .add ⟨t1.toArray⟩ ⟨z1.toArray⟩).run Tryz.prog w = .ok (.string ⟨(t1 ++ z1).toArray⟩) w := fun w => cat_run t1 z1 (by first | omega | (simp; omega)) w
 obtain ⟨t2, f2⟩ : ∃ t : List UInt8, t1 ++ z1 = t := ⟨_, rfl⟩
 rw [f2] at a2
 have k2 : t2.length ≤ 17 := by rw [← f2, List.length_append]; first | omega | (simp; omega)
 have HF : Hid (opG L ⟨#[114, 101, 108]⟩ l1 l2 = t2) := Lib.hid (by rw [HR, ← f2, ← f1, ← e1] <;> simp)
 clear HR e1 e2 e3 i1 i2 i3 j1 j2 hL f1 k1 f2 k2
 go_enter Tryz.func23, Tryz.ntmps23
 go_wp2_with (first
  | (go_at_call 24; (with_reducible refine (HO.out _).mono ?_); rintro e w1 ⟨rfl, hb1⟩)
  | (go_at_call 45; (with_reducible refine (x1.out _).mono ?_); rintro e w2 ⟨rfl, hb2⟩; refine Hid.out ?_))
 have g2 := blk_below (blk_new w1 (.cells #[.string ⟨L.toArray⟩, .string ⟨#[114, 101, 108]⟩] 41)) hb2
 have hw2 := Lib.hid (below_then (below_alloc hb1 _) hb2)
 replace g2 := Lib.hid g2
 clear hb1 hb2
 refine Lib.hid ?_
 go_wp2_with (go_at_call 45; (with_reducible refine (x2.out _).mono ?_); rintro e w3 ⟨rfl, hb3⟩; refine Hid.out ?_)
 have g3 := blk_below g2.out hb3
 have hw3 := Lib.hid (below_then hw2.out hb3)
 replace g3 := Lib.hid g3
 clear hb3 g2 hw2
 refine Lib.hid ?_
 go_wp2_with (go_at_call 45; (with_reducible refine (x1.out _).mono ?_); rintro e w4 ⟨rfl, hb4⟩; refine Hid.out ?_)
 have g4 := blk_below g3.out hb4
 have hw4 := Lib.hid (below_then hw3.out hb4)
 have q0 := cell_of_blk (i := 0) (v := .string ⟨L.toArray⟩) g4 rfl
 have q1 := cell_of_blk (i := 1) (v := .string ⟨#[114, 101, 108]⟩) g4 rfl
 clear hb4 g3 g4 hw3
 refine Lib.hid ?_
 go_wp2
 go_ret
 exact ⟨by rw [HF.out]; rfl, hw4.out⟩
set_option maxRecDepth 100000 in
set_option maxHeartbeats 4000000 in
theorem spec_op_zpx (n lo hi : Int) (L : List UInt8) (hL : L.length ≤ 3) (h1 : (opOf n).1 = ⟨L.toArray⟩) (h2 : (opOf n).2 = ⟨#[122, 112, 120]⟩) (w : World) : Calls Tryz.prog 23 #[.int .i64 n, .int .i64 lo, .int .i64 hi] w fun e w' => e = .returned (.string ⟨(opG L ⟨#[122, 112, 120]⟩ (hexl lo 2) (hexl hi 2)).toArray⟩) ∧ Below w.heap.size w w' := by
 have HR := opG_zpx L (hexl lo 2) (hexl hi 2)
 have HO := fun w => spec_opOf n w
 rw [h1, h2] at HO
 replace HO := Lib.hid HO
 have x1 := fun w => shx2 lo w
 have x2 := fun w => shx2 hi w
 have j1 := hexl_length lo 2
 have j2 := hexl_length hi 2
 generalize hexl lo 2 = l1 at *
 generalize hexl hi 2 = l2 at *
 replace x1 := Lib.hid x1
 replace x2 := Lib.hid x2
 have b1 : ∀ w, (Op.stringOp .add ⟨#[36]⟩ ⟨l1.toArray⟩).run Tryz.prog w = .ok (.string ⟨([36] ++ l1).toArray⟩) w := fun w => cat_run [36] l1 (by simp; omega) w
 have b2 : ∀ w, (Op.stringOp .add ⟨#[36]⟩ ⟨l2.toArray⟩).run Tryz.prog w = .ok (.string ⟨([36] ++ l2).toArray⟩) w := fun w => cat_run [36] l2 (by simp; omega) w
 obtain ⟨z1, e1⟩ : ∃ z : List UInt8, [36] ++ l1 = z := ⟨_, rfl⟩
 obtain ⟨y1, e2⟩ : ∃ z : List UInt8, [36] ++ l2 = z := ⟨_, rfl⟩
 rw [e1] at b1
 rw [e2] at b2
 have i1 : z1.length = 3 := by rw [← e1]; simp; omega
 have i2 : y1.length = 3 := by rw [← e2]; simp; omega
 have b3 : ∀ w, (Op.stringOp .add ⟨y1.toArray⟩ ⟨l1.toArray⟩).run Tryz.prog w = .ok (.string ⟨(y1 ++ l1).toArray⟩) w := fun w => cat_run y1 l1 (by omega) w
 obtain ⟨z2, e3⟩ : ∃ z : List UInt8, y1 ++ l1 = z := ⟨_, rfl⟩
 rw [e3] at b3
 have i3 : z2.length = 5 := by rw [← e3]; simp; omega
 have a1 : ∀ w, (Op.stringOp .add ⟨L.toArray⟩ ⟨#[32]⟩).run Tryz.prog w = .ok (.string ⟨(L ++ ([32] : List UInt8)).toArray⟩) w := fun w => cat_run L ([32] : List UInt8) (by first | omega | (simp; omega)) w
 obtain ⟨t1, f1⟩ : ∃ t : List UInt8, L ++ ([32] : List UInt8) = t := ⟨_, rfl⟩
 rw [f1] at a1
 have k1 : t1.length ≤ 10 := by rw [← f1, List.length_append]; first | omega | (simp; omega)
 have a2 : ∀ w, (Op.stringOp .add ⟨t1.toArray⟩ ⟨z1.toArray⟩).run Tryz.prog w = .ok (.string ⟨(t1 ++ z1).toArray⟩) w := fun w => cat_run t1 z1 (by first | omega | (simp; omega)) w
 obtain ⟨t2, f2⟩ : ∃ t : List UInt8, t1 ++ z1 = t := ⟨_, rfl⟩
 rw [f2] at a2
 have k2 : t2.length ≤ 17 := by rw [← f2, List.length_append]; first | omega | (simp; omega)
 have a3 : ∀ w, (Op.stringOp .add ⟨t2.toArray⟩ ⟨#[44, 88]⟩).run Tryz.prog w = .ok (.string ⟨(t2 ++ ([44, 88] : List UInt8)).toArray⟩) w := fun w => cat_run t2 ([44, 88] : List UInt8) (by first | omega | (simp; omega)) w
 obtain ⟨t3, f3⟩ : ∃ t : List UInt8, t2 ++ ([44, 88] : List UInt8) = t := ⟨_, rfl⟩
 rw [f3] at a3
 have k3 : t3.length ≤ 24 := by rw [← f3, List.length_append]; first | omega | (simp; omega)
 have HF : Hid (opG L ⟨#[122, 112, 120]⟩ l1 l2 = t3) := Lib.hid (by rw [HR, ← f3, ← f2, ← f1, ← e1] <;> simp)
 clear HR e1 e2 e3 i1 i2 i3 j1 j2 hL f1 k1 f2 k2 f3 k3
 go_enter Tryz.func23, Tryz.ntmps23
 go_wp2_with (first
  | (go_at_call 24; (with_reducible refine (HO.out _).mono ?_); rintro e w1 ⟨rfl, hb1⟩)
  | (go_at_call 45; (with_reducible refine (x1.out _).mono ?_); rintro e w2 ⟨rfl, hb2⟩; refine Hid.out ?_))
 have g2 := blk_below (blk_new w1 (.cells #[.string ⟨L.toArray⟩, .string ⟨#[122, 112, 120]⟩] 41)) hb2
 have hw2 := Lib.hid (below_then (below_alloc hb1 _) hb2)
 replace g2 := Lib.hid g2
 clear hb1 hb2
 refine Lib.hid ?_
 go_wp2_with (go_at_call 45; (with_reducible refine (x2.out _).mono ?_); rintro e w3 ⟨rfl, hb3⟩; refine Hid.out ?_)
 have g3 := blk_below g2.out hb3
 have hw3 := Lib.hid (below_then hw2.out hb3)
 replace g3 := Lib.hid g3
 clear hb3 g2 hw2
 refine Lib.hid ?_
 go_wp2_with (go_at_call 45; (with_reducible refine (x1.out _).mono ?_); rintro e w4 ⟨rfl, hb4⟩; refine Hid.out ?_)
 have g4 := blk_below g3.out hb4
 have hw4 := Lib.hid (below_then hw3.out hb4)
 have q0 := cell_of_blk (i := 0) (v := .string ⟨L.toArray⟩) g4 rfl
 have q1 := cell_of_blk (i := 1) (v := .string ⟨#[122, 112, 120]⟩) g4 rfl
 clear hb4 g3 g4 hw3
 refine Lib.hid ?_
 go_wp2
 go_ret
 exact ⟨by rw [HF.out]; rfl, hw4.out⟩
set_option maxRecDepth 100000 in
set_option maxHeartbeats 4000000 in
theorem spec_op_zpy (n lo hi : Int) (L : List UInt8) (hL : L.length ≤ 3) (h1 : (opOf n).1 = ⟨L.toArray⟩) (h2 : (opOf n).2 = ⟨#[122, 112, 121]⟩) (w : World) : Calls Tryz.prog 23 #[.int .i64 n, .int .i64 lo, .int .i64 hi] w fun e w' => e = .returned (.string ⟨(opG L ⟨#[122, 112, 121]⟩ (hexl lo 2) (hexl hi 2)).toArray⟩) ∧ Below w.heap.size w w' := by
 have HR := opG_zpy L (hexl lo 2) (hexl hi 2)
 have HO := fun w => spec_opOf n w
 rw [h1, h2] at HO
 replace HO := Lib.hid HO
 have x1 := fun w => shx2 lo w
 have x2 := fun w => shx2 hi w
 have j1 := hexl_length lo 2
 have j2 := hexl_length hi 2
 generalize hexl lo 2 = l1 at *
 generalize hexl hi 2 = l2 at *
 replace x1 := Lib.hid x1
 replace x2 := Lib.hid x2
 have b1 : ∀ w, (Op.stringOp .add ⟨#[36]⟩ ⟨l1.toArray⟩).run Tryz.prog w = .ok (.string ⟨([36] ++ l1).toArray⟩) w := fun w => cat_run [36] l1 (by simp; omega) w
 have b2 : ∀ w, (Op.stringOp .add ⟨#[36]⟩ ⟨l2.toArray⟩).run Tryz.prog w = .ok (.string ⟨([36] ++ l2).toArray⟩) w := fun w => cat_run [36] l2 (by simp; omega) w
 obtain ⟨z1, e1⟩ : ∃ z : List UInt8, [36] ++ l1 = z := ⟨_, rfl⟩
 obtain ⟨y1, e2⟩ : ∃ z : List UInt8, [36] ++ l2 = z := ⟨_, rfl⟩
 rw [e1] at b1
 rw [e2] at b2
 have i1 : z1.length = 3 := by rw [← e1]; simp; omega
 have i2 : y1.length = 3 := by rw [← e2]; simp; omega
 have b3 : ∀ w, (Op.stringOp .add ⟨y1.toArray⟩ ⟨l1.toArray⟩).run Tryz.prog w = .ok (.string ⟨(y1 ++ l1).toArray⟩) w := fun w => cat_run y1 l1 (by omega) w
 obtain ⟨z2, e3⟩ : ∃ z : List UInt8, y1 ++ l1 = z := ⟨_, rfl⟩
 rw [e3] at b3
 have i3 : z2.length = 5 := by rw [← e3]; simp; omega
 have a1 : ∀ w, (Op.stringOp .add ⟨L.toArray⟩ ⟨#[32]⟩).run Tryz.prog w = .ok (.string ⟨(L ++ ([32] : List UInt8)).toArray⟩) w := fun w => cat_run L ([32] : List UInt8) (by first | omega | (simp; omega)) w
 obtain ⟨t1, f1⟩ : ∃ t : List UInt8, L ++ ([32] : List UInt8) = t := ⟨_, rfl⟩
 rw [f1] at a1
 have k1 : t1.length ≤ 10 := by rw [← f1, List.length_append]; first | omega | (simp; omega)
 have a2 : ∀ w, (Op.stringOp .add ⟨t1.toArray⟩ ⟨z1.toArray⟩).run Tryz.prog w = .ok (.string ⟨(t1 ++ z1).toArray⟩) w := fun w => cat_run t1 z1 (by first | omega | (simp; omega)) w
 obtain ⟨t2, f2⟩ : ∃ t : List UInt8, t1 ++ z1 = t := ⟨_, rfl⟩
 rw [f2] at a2
 have k2 : t2.length ≤ 17 := by rw [← f2, List.length_append]; first | omega | (simp; omega)
 have a3 : ∀ w, (Op.stringOp .add ⟨t2.toArray⟩ ⟨#[44, 89]⟩).run Tryz.prog w = .ok (.string ⟨(t2 ++ ([44, 89] : List UInt8)).toArray⟩) w := fun w => cat_run t2 ([44, 89] : List UInt8) (by first | omega | (simp; omega)) w
 obtain ⟨t3, f3⟩ : ∃ t : List UInt8, t2 ++ ([44, 89] : List UInt8) = t := ⟨_, rfl⟩
 rw [f3] at a3
 have k3 : t3.length ≤ 24 := by rw [← f3, List.length_append]; first | omega | (simp; omega)
 have HF : Hid (opG L ⟨#[122, 112, 121]⟩ l1 l2 = t3) := Lib.hid (by rw [HR, ← f3, ← f2, ← f1, ← e1] <;> simp)
 clear HR e1 e2 e3 i1 i2 i3 j1 j2 hL f1 k1 f2 k2 f3 k3
 go_enter Tryz.func23, Tryz.ntmps23
 go_wp2_with (first
  | (go_at_call 24; (with_reducible refine (HO.out _).mono ?_); rintro e w1 ⟨rfl, hb1⟩)
  | (go_at_call 45; (with_reducible refine (x1.out _).mono ?_); rintro e w2 ⟨rfl, hb2⟩; refine Hid.out ?_))
 have g2 := blk_below (blk_new w1 (.cells #[.string ⟨L.toArray⟩, .string ⟨#[122, 112, 121]⟩] 41)) hb2
 have hw2 := Lib.hid (below_then (below_alloc hb1 _) hb2)
 replace g2 := Lib.hid g2
 clear hb1 hb2
 refine Lib.hid ?_
 go_wp2_with (go_at_call 45; (with_reducible refine (x2.out _).mono ?_); rintro e w3 ⟨rfl, hb3⟩; refine Hid.out ?_)
 have g3 := blk_below g2.out hb3
 have hw3 := Lib.hid (below_then hw2.out hb3)
 replace g3 := Lib.hid g3
 clear hb3 g2 hw2
 refine Lib.hid ?_
 go_wp2_with (go_at_call 45; (with_reducible refine (x1.out _).mono ?_); rintro e w4 ⟨rfl, hb4⟩; refine Hid.out ?_)
 have g4 := blk_below g3.out hb4
 have hw4 := Lib.hid (below_then hw3.out hb4)
 have q0 := cell_of_blk (i := 0) (v := .string ⟨L.toArray⟩) g4 rfl
 have q1 := cell_of_blk (i := 1) (v := .string ⟨#[122, 112, 121]⟩) g4 rfl
 clear hb4 g3 g4 hw3
 refine Lib.hid ?_
 go_wp2
 go_ret
 exact ⟨by rw [HF.out]; rfl, hw4.out⟩
set_option maxRecDepth 100000 in
set_option maxHeartbeats 4000000 in
theorem spec_op_abs (n lo hi : Int) (L : List UInt8) (hL : L.length ≤ 3) (h1 : (opOf n).1 = ⟨L.toArray⟩) (h2 : (opOf n).2 = ⟨#[97, 98, 115]⟩) (w : World) : Calls Tryz.prog 23 #[.int .i64 n, .int .i64 lo, .int .i64 hi] w fun e w' => e = .returned (.string ⟨(opG L ⟨#[97, 98, 115]⟩ (hexl lo 2) (hexl hi 2)).toArray⟩) ∧ Below w.heap.size w w' := by
 have HR := opG_abs L (hexl lo 2) (hexl hi 2)
 have HO := fun w => spec_opOf n w
 rw [h1, h2] at HO
 replace HO := Lib.hid HO
 have x1 := fun w => shx2 lo w
 have x2 := fun w => shx2 hi w
 have j1 := hexl_length lo 2
 have j2 := hexl_length hi 2
 generalize hexl lo 2 = l1 at *
 generalize hexl hi 2 = l2 at *
 replace x1 := Lib.hid x1
 replace x2 := Lib.hid x2
 have b1 : ∀ w, (Op.stringOp .add ⟨#[36]⟩ ⟨l1.toArray⟩).run Tryz.prog w = .ok (.string ⟨([36] ++ l1).toArray⟩) w := fun w => cat_run [36] l1 (by simp; omega) w
 have b2 : ∀ w, (Op.stringOp .add ⟨#[36]⟩ ⟨l2.toArray⟩).run Tryz.prog w = .ok (.string ⟨([36] ++ l2).toArray⟩) w := fun w => cat_run [36] l2 (by simp; omega) w
 obtain ⟨z1, e1⟩ : ∃ z : List UInt8, [36] ++ l1 = z := ⟨_, rfl⟩
 obtain ⟨y1, e2⟩ : ∃ z : List UInt8, [36] ++ l2 = z := ⟨_, rfl⟩
 rw [e1] at b1
 rw [e2] at b2
 have i1 : z1.length = 3 := by rw [← e1]; simp; omega
 have i2 : y1.length = 3 := by rw [← e2]; simp; omega
 have b3 : ∀ w, (Op.stringOp .add ⟨y1.toArray⟩ ⟨l1.toArray⟩).run Tryz.prog w = .ok (.string ⟨(y1 ++ l1).toArray⟩) w := fun w => cat_run y1 l1 (by omega) w
 obtain ⟨z2, e3⟩ : ∃ z : List UInt8, y1 ++ l1 = z := ⟨_, rfl⟩
 rw [e3] at b3
 have i3 : z2.length = 5 := by rw [← e3]; simp; omega
 have a1 : ∀ w, (Op.stringOp .add ⟨L.toArray⟩ ⟨#[32]⟩).run Tryz.prog w = .ok (.string ⟨(L ++ ([32] : List UInt8)).toArray⟩) w := fun w => cat_run L ([32] : List UInt8) (by first | omega | (simp; omega)) w
 obtain ⟨t1, f1⟩ : ∃ t : List UInt8, L ++ ([32] : List UInt8) = t := ⟨_, rfl⟩
 rw [f1] at a1
 have k1 : t1.length ≤ 10 := by rw [← f1, List.length_append]; first | omega | (simp; omega)
 have a2 : ∀ w, (Op.stringOp .add ⟨t1.toArray⟩ ⟨z2.toArray⟩).run Tryz.prog w = .ok (.string ⟨(t1 ++ z2).toArray⟩) w := fun w => cat_run t1 z2 (by first | omega | (simp; omega)) w
 obtain ⟨t2, f2⟩ : ∃ t : List UInt8, t1 ++ z2 = t := ⟨_, rfl⟩
 rw [f2] at a2
 have k2 : t2.length ≤ 17 := by rw [← f2, List.length_append]; first | omega | (simp; omega)
 have HF : Hid (opG L ⟨#[97, 98, 115]⟩ l1 l2 = t2) := Lib.hid (by rw [HR, ← f2, ← f1, ← e3, ← e2] <;> simp)
 clear HR e1 e2 e3 i1 i2 i3 j1 j2 hL f1 k1 f2 k2
 go_enter Tryz.func23, Tryz.ntmps23
 go_wp2_with (first
  | (go_at_call 24; (with_reducible refine (HO.out _).mono ?_); rintro e w1 ⟨rfl, hb1⟩)
  | (go_at_call 45; (with_reducible refine (x1.out _).mono ?_); rintro e w2 ⟨rfl, hb2⟩; refine Hid.out ?_))
 have g2 := blk_below (blk_new w1 (.cells #[.string ⟨L.toArray⟩, .string ⟨#[97, 98, 115]⟩] 41)) hb2
 have hw2 := Lib.hid (below_then (below_alloc hb1 _) hb2)
 replace g2 := Lib.hid g2
 clear hb1 hb2
 refine Lib.hid ?_
 go_wp2_with (go_at_call 45; (with_reducible refine (x2.out _).mono ?_); rintro e w3 ⟨rfl, hb3⟩; refine Hid.out ?_)
 have g3 := blk_below g2.out hb3
 have hw3 := Lib.hid (below_then hw2.out hb3)
 replace g3 := Lib.hid g3
 clear hb3 g2 hw2
 refine Lib.hid ?_
 go_wp2_with (go_at_call 45; (with_reducible refine (x1.out _).mono ?_); rintro e w4 ⟨rfl, hb4⟩; refine Hid.out ?_)
 have g4 := blk_below g3.out hb4
 have hw4 := Lib.hid (below_then hw3.out hb4)
 have q0 := cell_of_blk (i := 0) (v := .string ⟨L.toArray⟩) g4 rfl
 have q1 := cell_of_blk (i := 1) (v := .string ⟨#[97, 98, 115]⟩) g4 rfl
 clear hb4 g3 g4 hw3
 refine Lib.hid ?_
 go_wp2
 go_ret
 exact ⟨by rw [HF.out]; rfl, hw4.out⟩
set_option maxRecDepth 100000 in
set_option maxHeartbeats 4000000 in
theorem spec_op_abx (n lo hi : Int) (L : List UInt8) (hL : L.length ≤ 3) (h1 : (opOf n).1 = ⟨L.toArray⟩) (h2 : (opOf n).2 = ⟨#[97, 98, 120]⟩) (w : World) : Calls Tryz.prog 23 #[.int .i64 n, .int .i64 lo, .int .i64 hi] w fun e w' => e = .returned (.string ⟨(opG L ⟨#[97, 98, 120]⟩ (hexl lo 2) (hexl hi 2)).toArray⟩) ∧ Below w.heap.size w w' := by
 have HR := opG_abx L (hexl lo 2) (hexl hi 2)
 have HO := fun w => spec_opOf n w
 rw [h1, h2] at HO
 replace HO := Lib.hid HO
 have x1 := fun w => shx2 lo w
 have x2 := fun w => shx2 hi w
 have j1 := hexl_length lo 2
 have j2 := hexl_length hi 2
 generalize hexl lo 2 = l1 at *
 generalize hexl hi 2 = l2 at *
 replace x1 := Lib.hid x1
 replace x2 := Lib.hid x2
 have b1 : ∀ w, (Op.stringOp .add ⟨#[36]⟩ ⟨l1.toArray⟩).run Tryz.prog w = .ok (.string ⟨([36] ++ l1).toArray⟩) w := fun w => cat_run [36] l1 (by simp; omega) w
 have b2 : ∀ w, (Op.stringOp .add ⟨#[36]⟩ ⟨l2.toArray⟩).run Tryz.prog w = .ok (.string ⟨([36] ++ l2).toArray⟩) w := fun w => cat_run [36] l2 (by simp; omega) w
 obtain ⟨z1, e1⟩ : ∃ z : List UInt8, [36] ++ l1 = z := ⟨_, rfl⟩
 obtain ⟨y1, e2⟩ : ∃ z : List UInt8, [36] ++ l2 = z := ⟨_, rfl⟩
 rw [e1] at b1
 rw [e2] at b2
 have i1 : z1.length = 3 := by rw [← e1]; simp; omega
 have i2 : y1.length = 3 := by rw [← e2]; simp; omega
 have b3 : ∀ w, (Op.stringOp .add ⟨y1.toArray⟩ ⟨l1.toArray⟩).run Tryz.prog w = .ok (.string ⟨(y1 ++ l1).toArray⟩) w := fun w => cat_run y1 l1 (by omega) w
 obtain ⟨z2, e3⟩ : ∃ z : List UInt8, y1 ++ l1 = z := ⟨_, rfl⟩
 rw [e3] at b3
 have i3 : z2.length = 5 := by rw [← e3]; simp; omega
 have a1 : ∀ w, (Op.stringOp .add ⟨L.toArray⟩ ⟨#[32]⟩).run Tryz.prog w = .ok (.string ⟨(L ++ ([32] : List UInt8)).toArray⟩) w := fun w => cat_run L ([32] : List UInt8) (by first | omega | (simp; omega)) w
 obtain ⟨t1, f1⟩ : ∃ t : List UInt8, L ++ ([32] : List UInt8) = t := ⟨_, rfl⟩
 rw [f1] at a1
 have k1 : t1.length ≤ 10 := by rw [← f1, List.length_append]; first | omega | (simp; omega)
 have a2 : ∀ w, (Op.stringOp .add ⟨t1.toArray⟩ ⟨z2.toArray⟩).run Tryz.prog w = .ok (.string ⟨(t1 ++ z2).toArray⟩) w := fun w => cat_run t1 z2 (by first | omega | (simp; omega)) w
 obtain ⟨t2, f2⟩ : ∃ t : List UInt8, t1 ++ z2 = t := ⟨_, rfl⟩
 rw [f2] at a2
 have k2 : t2.length ≤ 17 := by rw [← f2, List.length_append]; first | omega | (simp; omega)
 have a3 : ∀ w, (Op.stringOp .add ⟨t2.toArray⟩ ⟨#[44, 88]⟩).run Tryz.prog w = .ok (.string ⟨(t2 ++ ([44, 88] : List UInt8)).toArray⟩) w := fun w => cat_run t2 ([44, 88] : List UInt8) (by first | omega | (simp; omega)) w
 obtain ⟨t3, f3⟩ : ∃ t : List UInt8, t2 ++ ([44, 88] : List UInt8) = t := ⟨_, rfl⟩
 rw [f3] at a3
 have k3 : t3.length ≤ 24 := by rw [← f3, List.length_append]; first | omega | (simp; omega)
 have HF : Hid (opG L ⟨#[97, 98, 120]⟩ l1 l2 = t3) := Lib.hid (by rw [HR, ← f3, ← f2, ← f1, ← e3, ← e2] <;> simp)
 clear HR e1 e2 e3 i1 i2 i3 j1 j2 hL f1 k1 f2 k2 f3 k3
 go_enter Tryz.func23, Tryz.ntmps23
 go_wp2_with (first
  | (go_at_call 24; (with_reducible refine (HO.out _).mono ?_); rintro e w1 ⟨rfl, hb1⟩)
  | (go_at_call 45; (with_reducible refine (x1.out _).mono ?_); rintro e w2 ⟨rfl, hb2⟩; refine Hid.out ?_))
 have g2 := blk_below (blk_new w1 (.cells #[.string ⟨L.toArray⟩, .string ⟨#[97, 98, 120]⟩] 41)) hb2
 have hw2 := Lib.hid (below_then (below_alloc hb1 _) hb2)
 replace g2 := Lib.hid g2
 clear hb1 hb2
 refine Lib.hid ?_
 go_wp2_with (go_at_call 45; (with_reducible refine (x2.out _).mono ?_); rintro e w3 ⟨rfl, hb3⟩; refine Hid.out ?_)
 have g3 := blk_below g2.out hb3
 have hw3 := Lib.hid (below_then hw2.out hb3)
 replace g3 := Lib.hid g3
 clear hb3 g2 hw2
 refine Lib.hid ?_
 go_wp2_with (go_at_call 45; (with_reducible refine (x1.out _).mono ?_); rintro e w4 ⟨rfl, hb4⟩; refine Hid.out ?_)
 have g4 := blk_below g3.out hb4
 have hw4 := Lib.hid (below_then hw3.out hb4)
 have q0 := cell_of_blk (i := 0) (v := .string ⟨L.toArray⟩) g4 rfl
 have q1 := cell_of_blk (i := 1) (v := .string ⟨#[97, 98, 120]⟩) g4 rfl
 clear hb4 g3 g4 hw3
 refine Lib.hid ?_
 go_wp2
 go_ret
 exact ⟨by rw [HF.out]; rfl, hw4.out⟩
set_option maxRecDepth 100000 in
set_option maxHeartbeats 4000000 in
theorem spec_op_aby (n lo hi : Int) (L : List UInt8) (hL : L.length ≤ 3) (h1 : (opOf n).1 = ⟨L.toArray⟩) (h2 : (opOf n).2 = ⟨#[97, 98, 121]⟩) (w : World) : Calls Tryz.prog 23 #[.int .i64 n, .int .i64 lo, .int .i64 hi] w fun e w' => e = .returned (.string ⟨(opG L ⟨#[97, 98, 121]⟩ (hexl lo 2) (hexl hi 2)).toArray⟩) ∧ Below w.heap.size w w' := by
 have HR := opG_aby L (hexl lo 2) (hexl hi 2)
 have HO := fun w => spec_opOf n w
 rw [h1, h2] at HO
 replace HO := Lib.hid HO
 have x1 := fun w => shx2 lo w
 have x2 := fun w => shx2 hi w
 have j1 := hexl_length lo 2
 have j2 := hexl_length hi 2
 generalize hexl lo 2 = l1 at *
 generalize hexl hi 2 = l2 at *
 replace x1 := Lib.hid x1
 replace x2 := Lib.hid x2
 have b1 : ∀ w, (Op.stringOp .add ⟨#[36]⟩ ⟨l1.toArray⟩).run Tryz.prog w = .ok (.string ⟨([36] ++ l1).toArray⟩) w := fun w => cat_run [36] l1 (by simp; omega) w
 have b2 : ∀ w, (Op.stringOp .add ⟨#[36]⟩ ⟨l2.toArray⟩).run Tryz.prog w = .ok (.string ⟨([36] ++ l2).toArray⟩) w := fun w => cat_run [36] l2 (by simp; omega) w
 obtain ⟨z1, e1⟩ : ∃ z : List UInt8, [36] ++ l1 = z := ⟨_, rfl⟩
 obtain ⟨y1, e2⟩ : ∃ z : List UInt8, [36] ++ l2 = z := ⟨_, rfl⟩
 rw [e1] at b1
 rw [e2] at b2
 have i1 : z1.length = 3 := by rw [← e1]; simp; omega
 have i2 : y1.length = 3 := by rw [← e2]; simp; omega
 have b3 : ∀ w, (Op.stringOp .add ⟨y1.toArray⟩ ⟨l1.toArray⟩).run Tryz.prog w = .ok (.string ⟨(y1 ++ l1).toArray⟩) w := fun w => cat_run y1 l1 (by omega) w
 obtain ⟨z2, e3⟩ : ∃ z : List UInt8, y1 ++ l1 = z := ⟨_, rfl⟩
 rw [e3] at b3
 have i3 : z2.length = 5 := by rw [← e3]; simp; omega
 have a1 : ∀ w, (Op.stringOp .add ⟨L.toArray⟩ ⟨#[32]⟩).run Tryz.prog w = .ok (.string ⟨(L ++ ([32] : List UInt8)).toArray⟩) w := fun w => cat_run L ([32] : List UInt8) (by first | omega | (simp; omega)) w
 obtain ⟨t1, f1⟩ : ∃ t : List UInt8, L ++ ([32] : List UInt8) = t := ⟨_, rfl⟩
 rw [f1] at a1
 have k1 : t1.length ≤ 10 := by rw [← f1, List.length_append]; first | omega | (simp; omega)
 have a2 : ∀ w, (Op.stringOp .add ⟨t1.toArray⟩ ⟨z2.toArray⟩).run Tryz.prog w = .ok (.string ⟨(t1 ++ z2).toArray⟩) w := fun w => cat_run t1 z2 (by first | omega | (simp; omega)) w
 obtain ⟨t2, f2⟩ : ∃ t : List UInt8, t1 ++ z2 = t := ⟨_, rfl⟩
 rw [f2] at a2
 have k2 : t2.length ≤ 17 := by rw [← f2, List.length_append]; first | omega | (simp; omega)
 have a3 : ∀ w, (Op.stringOp .add ⟨t2.toArray⟩ ⟨#[44, 89]⟩).run Tryz.prog w = .ok (.string ⟨(t2 ++ ([44, 89] : List UInt8)).toArray⟩) w := fun w => cat_run t2 ([44, 89] : List UInt8) (by first | omega | (simp; omega)) w
 obtain ⟨t3, f3⟩ : ∃ t : List UInt8, t2 ++ ([44, 89] : List UInt8) = t := ⟨_, rfl⟩
 rw [f3] at a3
 have k3 : t3.length ≤ 24 := by rw [← f3, List.length_append]; first | omega | (simp; omega)
 have HF : Hid (opG L ⟨#[97, 98, 121]⟩ l1 l2 = t3) := Lib.hid (by rw [HR, ← f3, ← f2, ← f1, ← e3, ← e2] <;> simp)
 clear HR e1 e2 e3 i1 i2 i3 j1 j2 hL f1 k1 f2 k2 f3 k3
 go_enter Tryz.func23, Tryz.ntmps23
 go_wp2_with (first
  | (go_at_call 24; (with_reducible refine (HO.out _).mono ?_); rintro e w1 ⟨rfl, hb1⟩)
  | (go_at_call 45; (with_reducible refine (x1.out _).mono ?_); rintro e w2 ⟨rfl, hb2⟩; refine Hid.out ?_))
 have g2 := blk_below (blk_new w1 (.cells #[.string ⟨L.toArray⟩, .string ⟨#[97, 98, 121]⟩] 41)) hb2
 have hw2 := Lib.hid (below_then (below_alloc hb1 _) hb2)
 replace g2 := Lib.hid g2
 clear hb1 hb2
 refine Lib.hid ?_
 go_wp2_with (go_at_call 45; (with_reducible refine (x2.out _).mono ?_); rintro e w3 ⟨rfl, hb3⟩; refine Hid.out ?_)
 have g3 := blk_below g2.out hb3
 have hw3 := Lib.hid (below_then hw2.out hb3)
 replace g3 := Lib.hid g3
 clear hb3 g2 hw2
 refine Lib.hid ?_
 go_wp2_with (go_at_call 45; (with_reducible refine (x1.out _).mono ?_); rintro e w4 ⟨rfl, hb4⟩; refine Hid.out ?_)
 have g4 := blk_below g3.out hb4
 have hw4 := Lib.hid (below_then hw3.out hb4)
 have q0 := cell_of_blk (i := 0) (v := .string ⟨L.toArray⟩) g4 rfl
 have q1 := cell_of_blk (i := 1) (v := .string ⟨#[97, 98, 121]⟩) g4 rfl
 clear hb4 g3 g4 hw3
 refine Lib.hid ?_
 go_wp2
 go_ret
 exact ⟨by rw [HF.out]; rfl, hw4.out⟩
set_option maxRecDepth 100000 in
set_option maxHeartbeats 4000000 in
theorem spec_op_inx (n lo hi : Int) (L : List UInt8) (hL : L.length ≤ 3) (h1 : (opOf n).1 = ⟨L.toArray⟩) (h2 : (opOf n).2 = ⟨#[105, 110, 120]⟩) (w : World) : Calls Tryz.prog 23 #[.int .i64 n, .int .i64 lo, .int .i64 hi] w fun e w' => e = .returned (.string ⟨(opG L ⟨#[105, 110, 120]⟩ (hexl lo 2) (hexl hi 2)).toArray⟩) ∧ Below w.heap.size w w' := by
 have HR := opG_inx L (hexl lo 2) (hexl hi 2)
 have HO := fun w => spec_opOf n w
 rw [h1, h2] at HO
 replace HO := Lib.hid HO
 have x1 := fun w => shx2 lo w
 have x2 := fun w => shx2 hi w
 have j1 := hexl_length lo 2
 have j2 := hexl_length hi 2
 generalize hexl lo 2 = l1 at *
 generalize hexl hi 2 = l2 at *
 replace x1 := Lib.hid x1
 replace x2 := Lib.hid x2
 have b1 : ∀ w, (Op.stringOp .add ⟨#[36]⟩ ⟨l1.toArray⟩).run Tryz.prog w = .ok (.string ⟨([36] ++ l1).toArray⟩) w := fun w => cat_run [36] l1 (by simp; omega) w
 have b2 : ∀ w, (Op.stringOp .add ⟨#[36]⟩ ⟨l2.toArray⟩).run Tryz.prog w = .ok (.string ⟨([36] ++ l2).toArray⟩) w := fun w => cat_run [36] l2 (by simp; omega) w
 obtain ⟨z1, e1⟩ : ∃ z : List UInt8, [36] ++ l1 = z := ⟨_, rfl⟩
 obtain ⟨y1, e2⟩ : ∃ z : List UInt8, [36] ++ l2 = z := ⟨_, rfl⟩
 rw [e1] at b1
 rw [e2] at b2
 have i1 : z1.length = 3 := by rw [← e1]; simp; omega
 have i2 : y1.length = 3 := by rw [← e2]; simp; omega
 have b3 : ∀ w, (Op.stringOp .add ⟨y1.toArray⟩ ⟨l1.toArray⟩).run Tryz.prog w = .ok (.string ⟨(y1 ++ l1).toArray⟩) w := fun w => cat_run y1 l1 (by omega) w
 obtain ⟨z2, e3⟩ : ∃ z : List UInt8, y1 ++ l1 = z := ⟨_, rfl⟩
 rw [e3] at b3
 have i3 : z2.length = 5 := by rw [← e3]; simp; omega
 have a1 : ∀ w, (Op.stringOp .add ⟨L.toArray⟩ ⟨#[32, 40]⟩).run Tryz.prog w = .ok (.string ⟨(L ++ ([32, 40] : List UInt8)).toArray⟩) w := fun w => cat_run L ([32, 40] : List UInt8) (by first | omega | (simp; omega)) w
 obtain ⟨t1, f1⟩ : ∃ t : List UInt8, L ++ ([32, 40] : List UInt8) = t := ⟨_, rfl⟩
 rw [f1] at a1
 have k1 : t1.length ≤ 10 := by rw [← f1, List.length_append]; first | omega | (simp; omega)
 have a2 : ∀ w, (Op.stringOp .add ⟨t1.toArray⟩ ⟨z1.toArray⟩).run Tryz.prog w = .ok (.string ⟨(t1 ++ z1).toArray⟩) w := fun w => cat_run t1 z1 (by first | omega | (simp; omega)) w
 obtain ⟨t2, f2⟩ : ∃ t : List UInt8, t1 ++ z1 = t := ⟨_, rfl⟩
 rw [f2] at a2
 have k2 : t2.length ≤ 17 := by rw [← f2, List.length_append]; first | omega | (simp; omega)
 have a3 : ∀ w, (Op.stringOp .add ⟨t2.toArray⟩ ⟨#[44, 88, 41]⟩).run Tryz.prog w = .ok (.string ⟨(t2 ++ ([44, 88, 41] : List UInt8)).toArray⟩) w := fun w => cat_run t2 ([44, 88, 41] : List UInt8) (by first | omega | (simp; omega)) w
 obtain ⟨t3, f3⟩ : ∃ t : List UInt8, t2 ++ ([44, 88, 41] : List UInt8) = t := ⟨_, rfl⟩
 rw [f3] at a3
 have k3 : t3.length ≤ 24 := by rw [← f3, List.length_append]; first | omega | (simp; omega)
 have HF : Hid (opG L ⟨#[105, 110, 120]⟩ l1 l2 = t3) := Lib.hid (by rw [HR, ← f3, ← f2, ← f1, ← e1] <;> simp)
 clear HR e1 e2 e3 i1 i2 i3 j1 j2 hL f1 k1 f2 k2 f3 k3
 go_enter Tryz.func23, Tryz.ntmps23
 go_wp2_with (first
  | (go_at_call 24; (with_reducible refine (HO.out _).mono ?_); rintro e w1 ⟨rfl, hb1⟩)
  | (go_at_call 45; (with_reducible refine (x1.out _).mono ?_); rintro e w2 ⟨rfl, hb2⟩; refine Hid.out ?_))
 have g2 := blk_below (blk_new w1 (.cells #[.string ⟨L.toArray⟩, .string ⟨#[105, 110, 120]⟩] 41)) hb2
 have hw2 := Lib.hid (below_then (below_alloc hb1 _) hb2)
 replace g2 := Lib.hid g2
 clear hb1 hb2
 refine Lib.hid ?_
 go_wp2_with (go_at_call 45; (with_reducible refine (x2.out _).mono ?_); rintro e w3 ⟨rfl, hb3⟩; refine Hid.out ?_)
 have g3 := blk_below g2.out hb3
 have hw3 := Lib.hid (below_then hw2.out hb3)
 replace g3 := Lib.hid g3
 clear hb3 g2 hw2
 refine Lib.hid ?_
 go_wp2_with (go_at_call 45; (with_reducible refine (x1.out _).mono ?_); rintro e w4 ⟨rfl, hb4⟩; refine Hid.out ?_)
 have g4 := blk_below g3.out hb4
 have hw4 := Lib.hid (below_then hw3.out hb4)
 have q0 := cell_of_blk (i := 0) (v := .string ⟨L.toArray⟩) g4 rfl
 have q1 := cell_of_blk (i := 1) (v := .string ⟨#[105, 110, 120]⟩) g4 rfl
 clear hb4 g3 g4 hw3
 refine Lib.hid ?_
 go_wp2
 go_ret
 exact ⟨by rw [HF.out]; rfl, hw4.out⟩
set_option maxRecDepth 100000 in
set_option maxHeartbeats 4000000 in
theorem spec_op_iny (n lo hi : Int) (L : List UInt8) (hL : L.length ≤ 3) (h1 : (opOf n).1 = ⟨L.toArray⟩) (h2 : (opOf n).2 = ⟨#[105, 110, 121]⟩) (w : World) : Calls Tryz.prog 23 #[.int .i64 n, .int .i64 lo, .int .i64 hi] w fun e w' => e = .returned (.string ⟨(opG L ⟨#[105, 110, 121]⟩ (hexl lo 2) (hexl hi 2)).toArray⟩) ∧ Below w.heap.size w w' := by
 have HR := opG_iny L (hexl lo 2) (hexl hi 2)
 have HO := fun w => spec_opOf n w
 rw [h1, h2] at HO
 replace HO := Lib.hid HO
 have x1 := fun w => shx2 lo w
 have x2 := fun w => shx2 hi w
 have j1 := hexl_length lo 2
 have j2 := hexl_length hi 2
 generalize hexl lo 2 = l1 at *
 generalize hexl hi 2 = l2 at *
 replace x1 := Lib.hid x1
 replace x2 := Lib.hid x2
 have b1 : ∀ w, (Op.stringOp .add ⟨#[36]⟩ ⟨l1.toArray⟩).run Tryz.prog w = .ok (.string ⟨([36] ++ l1).toArray⟩) w := fun w => cat_run [36] l1 (by simp; omega) w
 have b2 : ∀ w, (Op.stringOp .add ⟨#[36]⟩ ⟨l2.toArray⟩).run Tryz.prog w = .ok (.string ⟨([36] ++ l2).toArray⟩) w := fun w => cat_run [36] l2 (by simp; omega) w
 obtain ⟨z1, e1⟩ : ∃ z : List UInt8, [36] ++ l1 = z := ⟨_, rfl⟩
 obtain ⟨y1, e2⟩ : ∃ z : List UInt8, [36] ++ l2 = z := ⟨_, rfl⟩
 rw [e1] at b1
 rw [e2] at b2
 have i1 : z1.length = 3 := by rw [← e1]; simp; omega
 have i2 : y1.length = 3 := by rw [← e2]; simp; omega
 have b3 : ∀ w, (Op.stringOp .add ⟨y1.toArray⟩ ⟨l1.toArray⟩).run Tryz.prog w = .ok (.string ⟨(y1 ++ l1).toArray⟩) w := fun w => cat_run y1 l1 (by omega) w
 obtain ⟨z2, e3⟩ : ∃ z : List UInt8, y1 ++ l1 = z := ⟨_, rfl⟩
 rw [e3] at b3
 have i3 : z2.length = 5 := by rw [← e3]; simp; omega
 have a1 : ∀ w, (Op.stringOp .add ⟨L.toArray⟩ ⟨#[32, 40]⟩).run Tryz.prog w = .ok (.string ⟨(L ++ ([32, 40] : List UInt8)).toArray⟩) w := fun w => cat_run L ([32, 40] : List UInt8) (by first | omega | (simp; omega)) w
 obtain ⟨t1, f1⟩ : ∃ t : List UInt8, L ++ ([32, 40] : List UInt8) = t := ⟨_, rfl⟩
 rw [f1] at a1
 have k1 : t1.length ≤ 10 := by rw [← f1, List.length_append]; first | omega | (simp; omega)
 have a2 : ∀ w, (Op.stringOp .add ⟨t1.toArray⟩ ⟨z1.toArray⟩).run Tryz.prog w = .ok (.string ⟨(t1 ++ z1).toArray⟩) w := fun w => cat_run t1 z1 (by first | omega | (simp; omega)) w
 obtain ⟨t2, f2⟩ : ∃ t : List UInt8, t1 ++ z1 = t := ⟨_, rfl⟩
 rw [f2] at a2
 have k2 : t2.length ≤ 17 := by rw [← f2, List.length_append]; first | omega | (simp; omega)
 have a3 : ∀ w, (Op.stringOp .add ⟨t2.toArray⟩ ⟨#[41, 44, 89]⟩).run Tryz.prog w = .ok (.string ⟨(t2 ++ ([41, 44, 89] : List UInt8)).toArray⟩) w := fun w => cat_run t2 ([41, 44, 89] : List UInt8) (by first | omega | (simp; omega)) w
 obtain ⟨t3, f3⟩ : ∃ t : List UInt8, t2 ++ ([41, 44, 89] : List UInt8) = t := ⟨_, rfl⟩
 rw [f3] at a3
 have k3 : t3.length ≤ 24 := by rw [← f3, List.length_append]; first | omega | (simp; omega)
 have HF : Hid (opG L ⟨#[105, 110, 121]⟩ l1 l2 = t3) := Lib.hid (by rw [HR, ← f3, ← f2, ← f1, ← e1] <;> simp)
 clear HR e1 e2 e3 i1 i2 i3 j1 j2 hL f1 k1 f2 k2 f3 k3
 go_enter Tryz.func23, Tryz.ntmps23
 go_wp2_with (first
  | (go_at_call 24; (with_reducible refine (HO.out _).mono ?_); rintro e w1 ⟨rfl, hb1⟩)
  | (go_at_call 45; (with_reducible refine (x1.out _).mono ?_); rintro e w2 ⟨rfl, hb2⟩; refine Hid.out ?_))
 have g2 := blk_below (blk_new w1 (.cells #[.string ⟨L.toArray⟩, .string ⟨#[105, 110, 121]⟩] 41)) hb2
 have hw2 := Lib.hid (below_then (below_alloc hb1 _) hb2)
 replace g2 := Lib.hid g2
 clear hb1 hb2
 refine Lib.hid ?_
 go_wp2_with (go_at_call 45; (with_reducible refine (x2.out _).mono ?_); rintro e w3 ⟨rfl, hb3⟩; refine Hid.out ?_)
 have g3 := blk_below g2.out hb3
 have hw3 := Lib.hid (below_then hw2.out hb3)
 replace g3 := Lib.hid g3
 clear hb3 g2 hw2
 refine Lib.hid ?_
 go_wp2_with (go_at_call 45; (with_reducible refine (x1.out _).mono ?_); rintro e w4 ⟨rfl, hb4⟩; refine Hid.out ?_)
 have g4 := blk_below g3.out hb4
 have hw4 := Lib.hid (below_then hw3.out hb4)
 have q0 := cell_of_blk (i := 0) (v := .string ⟨L.toArray⟩) g4 rfl
 have q1 := cell_of_blk (i := 1) (v := .string ⟨#[105, 110, 121]⟩) g4 rfl
 clear hb4 g3 g4 hw3
 refine Lib.hid ?_
 go_wp2
 go_ret
 exact ⟨by rw [HF.out]; rfl, hw4.out⟩
set_option maxRecDepth 100000 in
set_option maxHeartbeats 4000000 in
theorem spec_op_ind (n lo hi : Int) (L : List UInt8) (hL : L.length ≤ 3) (h1 : (opOf n).1 = ⟨L.toArray⟩) (h2 : (opOf n).2 = ⟨#[105, 110, 100]⟩) (w : World) : Calls Tryz.prog 23 #[.int .i64 n, .int .i64 lo, .int .i64 hi] w fun e w' => e = .returned (.string ⟨(opG L ⟨#[105, 110, 100]⟩ (hexl lo 2) (hexl hi 2)).toArray⟩) ∧ Below w.heap.size w w' := by
 have HR := opG_ind L (hexl lo 2) (hexl hi 2)
 have HO := fun w => spec_opOf n w
 rw [h1, h2] at HO
 replace HO := Lib.hid HO
 have x1 := fun w => shx2 lo w
 have x2 := fun w => shx2 hi w
 have j1 := hexl_length lo 2
 have j2 := hexl_length hi 2
 generalize hexl lo 2 = l1 at *
 generalize hexl hi 2 = l2 at *
 replace x1 := Lib.hid x1
 replace x2 := Lib.hid x2
 have b1 : ∀ w, (Op.stringOp .add ⟨#[36]⟩ ⟨l1.toArray⟩).run Tryz.prog w = .ok (.string ⟨([36] ++ l1).toArray⟩) w := fun w => cat_run [36] l1 (by simp; omega) w
 have b2 : ∀ w, (Op.stringOp .add ⟨#[36]⟩ ⟨l2.toArray⟩).run Tryz.prog w = .ok (.string ⟨([36] ++ l2).toArray⟩) w := fun w => cat_run [36] l2 (by simp; omega) w
 obtain ⟨z1, e1⟩ : ∃ z : List UInt8, [36] ++ l1 = z := ⟨_, rfl⟩
 obtain ⟨y1, e2⟩ : ∃ z : List UInt8, [36] ++ l2 = z := ⟨_, rfl⟩
 rw [e1] at b1
 rw [e2] at b2
 have i1 : z1.length = 3 := by rw [← e1]; simp; omega
 have i2 : y1.length = 3 := by rw [← e2]; simp; omega
 have b3 : ∀ w, (Op.stringOp .add ⟨y1.toArray⟩ ⟨l1.toArray⟩).run Tryz.prog w = .ok (.string ⟨(y1 ++ l1).toArray⟩) w := fun w => cat_run y1 l1 (by omega) w
 obtain ⟨z2, e3⟩ : ∃ z : List UInt8, y1 ++ l1 = z := ⟨_, rfl⟩
 rw [e3] at b3
 have i3 : z2.length = 5 := by rw [← e3]; simp; omega
 have a1 : ∀ w, (Op.stringOp .add ⟨L.toArray⟩ ⟨#[32, 40]⟩).run Tryz.prog w = .ok (.string ⟨(L ++ ([32, 40] : List UInt8)).toArray⟩) w := fun w => cat_run L ([32, 40] : List UInt8) (by first | omega | (simp; omega)) w
 obtain ⟨t1, f1⟩ : ∃ t : List UInt8, L ++ ([32, 40] : List UInt8) = t := ⟨_, rfl⟩
 rw [f1] at a1
 have k1 : t1.length ≤ 10 := by rw [← f1, List.length_append]; first | omega | (simp; omega)
 have a2 : ∀ w, (Op.stringOp .add ⟨t1.toArray⟩ ⟨z2.toArray⟩).run Tryz.prog w = .ok (.string ⟨(t1 ++ z2).toArray⟩) w := fun w => cat_run t1 z2 (by first | omega | (simp; omega)) w
 obtain ⟨t2, f2⟩ : ∃ t : List UInt8, t1 ++ z2 = t := ⟨_, rfl⟩
 rw [f2] at a2
 have k2 : t2.length ≤ 17 := by rw [← f2, List.length_append]; first | omega | (simp; omega)
 have a3 : ∀ w, (Op.stringOp .add ⟨t2.toArray⟩ ⟨#[41]⟩).run Tryz.prog w = .ok (.string ⟨(t2 ++ ([41] : List UInt8)).toArray⟩) w := fun w => cat_run t2 ([41] : List UInt8) (by first | omega | (simp; omega)) w
 obtain ⟨t3, f3⟩ : ∃ t : List UInt8, t2 ++ ([41] : List UInt8) = t := ⟨_, rfl⟩
 rw [f3] at a3
 have k3 : t3.length ≤ 24 := by rw [← f3, List.length_append]; first | omega | (simp; omega)
 have HF : Hid (opG L ⟨#[105, 110, 100]⟩ l1 l2 = t3) := Lib.hid (by rw [HR, ← f3, ← f2, ← f1, ← e3, ← e2] <;> simp)
 clear HR e1 e2 e3 i1 i2 i3 j1 j2 hL f1 k1 f2 k2 f3 k3
 go_enter Tryz.func23, Tryz.ntmps23
 go_wp2_with (first
  | (go_at_call 24; (with_reducible refine (HO.out _).mono ?_); rintro e w1 ⟨rfl, hb1⟩)
  | (go_at_call 45; (with_reducible refine (x1.out _).mono ?_); rintro e w2 ⟨rfl, hb2⟩; refine Hid.out ?_))
 have g2 := blk_below (blk_new w1 (.cells #[.string ⟨L.toArray⟩, .string ⟨#[105, 110, 100]⟩] 41)) hb2
 have hw2 := Lib.hid (below_then (below_alloc hb1 _) hb2)
 replace g2 := Lib.hid g2
 clear hb1 hb2
 refine Lib.hid ?_
 go_wp2_with (go_at_call 45; (with_reducible refine (x2.out _).mono ?_); rintro e w3 ⟨rfl, hb3⟩; refine Hid.out ?_)
 have g3 := blk_below g2.out hb3
 have hw3 := Lib.hid (below_then hw2.out hb3)
 replace g3 := Lib.hid g3
 clear hb3 g2 hw2
 refine Lib.hid ?_
 go_wp2_with (go_at_call 45; (with_reducible refine (x1.out _).mono ?_); rintro e w4 ⟨rfl, hb4⟩; refine Hid.out ?_)
 have g4 := blk_below g3.out hb4
 have hw4 := Lib.hid (below_then hw3.out hb4)
 have q0 := cell_of_blk (i := 0) (v := .string ⟨L.toArray⟩) g4 rfl
 have q1 := cell_of_blk (i := 1) (v := .string ⟨#[105, 110, 100]⟩) g4 rfl
 clear hb4 g3 g4 hw3
 refine Lib.hid ?_
 go_wp2
 go_ret
 exact ⟨by rw [HF.out]; rfl, hw4.out⟩
set_option maxRecDepth 100000 in
set_option maxHeartbeats 4000000 in
theorem spec_op_other (n lo hi : Int) (L : List UInt8) (_ : L.length ≤ 3) (m : ByteArray) (hacc : ¬ m = ⟨#[97, 99, 99]⟩) (himm : ¬ m = ⟨#[105, 109, 109]⟩) (hzpg : ¬ m = ⟨#[122, 112, 103]⟩) (hrel : ¬ m = ⟨#[114, 101, 108]⟩) (hzpx : ¬ m = ⟨#[122, 112, 120]⟩) (hzpy : ¬ m = ⟨#[122, 112, 121]⟩) (habs : ¬ m = ⟨#[97, 98, 115]⟩) (habx : ¬ m = ⟨#[97, 98, 120]⟩) (haby : ¬ m = ⟨#[97, 98, 121]⟩) (hinx : ¬ m = ⟨#[105, 110, 120]⟩) (hiny : ¬ m = ⟨#[105, 110, 121]⟩) (hind : ¬ m = ⟨#[105, 110, 100]⟩) (h1 : (opOf n).1 = ⟨L.toArray⟩) (h2 : (opOf n).2 = m) (w : World) : Calls Tryz.prog 23 #[.int .i64 n, .int .i64 lo, .int .i64 hi] w fun e w' => e = .returned (.string ⟨(opG L m (hexl lo 2) (hexl hi 2)).toArray⟩) ∧ Below w.heap.size w w' := by
 have HR := opG_none L m (hexl lo 2) (hexl hi 2) (operG_none m _ _ hacc himm hzpg hrel hzpx hzpy habs habx haby hinx hiny hind)
 have HO := fun w => spec_opOf n w
 rw [h1, h2] at HO
 replace HO := Lib.hid HO
 have x1 := fun w => shx2 lo w
 have x2 := fun w => shx2 hi w
 have j1 := hexl_length lo 2
 have j2 := hexl_length hi 2
 generalize hexl lo 2 = l1 at *
 generalize hexl hi 2 = l2 at *
 replace x1 := Lib.hid x1
 replace x2 := Lib.hid x2
 have b1 : ∀ w, (Op.stringOp .add ⟨#[36]⟩ ⟨l1.toArray⟩).run Tryz.prog w = .ok (.string ⟨([36] ++ l1).toArray⟩) w := fun w => cat_run [36] l1 (by simp; omega) w
 have b2 : ∀ w, (Op.stringOp .add ⟨#[36]⟩ ⟨l2.toArray⟩).run Tryz.prog w = .ok (.string ⟨([36] ++ l2).toArray⟩) w := fun w => cat_run [36] l2 (by simp; omega) w
 obtain ⟨z1, e1⟩ : ∃ z : List UInt8, [36] ++ l1 = z := ⟨_, rfl⟩
 obtain ⟨y1, e2⟩ : ∃ z : List UInt8, [36] ++ l2 = z := ⟨_, rfl⟩
 rw [e1] at b1
 rw [e2] at b2
 have i1 : z1.length = 3 := by rw [← e1]; simp; omega
 have i2 : y1.length = 3 := by rw [← e2]; simp; omega
 have b3 : ∀ w, (Op.stringOp .add ⟨y1.toArray⟩ ⟨l1.toArray⟩).run Tryz.prog w = .ok (.string ⟨(y1 ++ l1).toArray⟩) w := fun w => cat_run y1 l1 (by omega) w
 obtain ⟨z2, e3⟩ : ∃ z : List UInt8, y1 ++ l1 = z := ⟨_, rfl⟩
 rw [e3] at b3
 have i3 : z2.length = 5 := by rw [← e3]; simp; omega
 have HF : Hid (opG L m l1 l2 = L) := Lib.hid HR
 have nacc := ne_list [97, 99, 99] hacc
 have nimm := ne_list [105, 109, 109] himm
 have nzpg := ne_list [122, 112, 103] hzpg
 have nrel := ne_list [114, 101, 108] hrel
 have nzpx := ne_list [122, 112, 120] hzpx
 have nzpy := ne_list [122, 112, 121] hzpy
 have nabs := ne_list [97, 98, 115] habs
 have nabx := ne_list [97, 98, 120] habx
 have naby := ne_list [97, 98, 121] haby
 have ninx := ne_list [105, 110, 120] hinx
 have niny := ne_list [105, 110, 121] hiny
 have nind := ne_list [105, 110, 100] hind
 clear hacc himm hzpg hrel hzpx hzpy habs habx haby hinx hiny hind
 clear HR e1 e2 e3 i1 i2 i3 j1 j2
 go_enter Tryz.func23, Tryz.ntmps23
 go_wp2_with (first
  | (go_at_call 24; (with_reducible refine (HO.out _).mono ?_); rintro e w1 ⟨rfl, hb1⟩)
  | (go_at_call 45; (with_reducible refine (x1.out _).mono ?_); rintro e w2 ⟨rfl, hb2⟩; refine Hid.out ?_))
 have g2 := blk_below (blk_new w1 (.cells #[.string ⟨L.toArray⟩, .string m] 41)) hb2
 have hw2 := Lib.hid (below_then (below_alloc hb1 _) hb2)
 replace g2 := Lib.hid g2
 clear hb1 hb2
 refine Lib.hid ?_
 go_wp2_with (go_at_call 45; (with_reducible refine (x2.out _).mono ?_); rintro e w3 ⟨rfl, hb3⟩; refine Hid.out ?_)
 have g3 := blk_below g2.out hb3
 have hw3 := Lib.hid (below_then hw2.out hb3)
 replace g3 := Lib.hid g3
 clear hb3 g2 hw2
 refine Lib.hid ?_
 go_wp2_with (go_at_call 45; (with_reducible refine (x1.out _).mono ?_); rintro e w4 ⟨rfl, hb4⟩; refine Hid.out ?_)
 have g4 := blk_below g3.out hb4
 have hw4 := Lib.hid (below_then hw3.out hb4)
 have q0 := cell_of_blk (i := 0) (v := .string ⟨L.toArray⟩) g4 rfl
 have q1 := cell_of_blk (i := 1) (v := .string m) g4 rfl
 clear hb4 g3 g4 hw3
 refine Lib.hid ?_
 go_wp2
 go_ret
 exact ⟨by rw [HF.out]; rfl, hw4.out⟩
theorem spec_OpText (n lo hi : Int) (w : World) : Calls Tryz.prog 23 #[.int .i64 n, .int .i64 lo, .int .i64 hi] w fun e w' => e = .returned (.string ⟨(opT (opOf n).1 (opOf n).2 lo hi).toArray⟩) ∧ Below w.heap.size w w' := by
 have hz := op_size3 n
 obtain ⟨L, hL⟩ : ∃ L : List UInt8, (opOf n).1.data.toList = L := ⟨_, rfl⟩
 have h1 : (opOf n).1 = ⟨L.toArray⟩ := by rw [← hL]
 have hl : L.length ≤ 3 := by rw [← hL]; simpa using hz.1
 unfold opT
 rw [hL]
 obtain ⟨m, hm⟩ : ∃ m, (opOf n).2 = m := ⟨_, rfl⟩
 rw [hm]
 by_cases hacc : m = ⟨#[97, 99, 99]⟩
 ·subst hacc; exact spec_op_acc n lo hi L hl h1 hm w
 by_cases himm : m = ⟨#[105, 109, 109]⟩
 ·subst himm; exact spec_op_imm n lo hi L hl h1 hm w
 by_cases hzpg : m = ⟨#[122, 112, 103]⟩
 ·subst hzpg; exact spec_op_zpg n lo hi L hl h1 hm w
 by_cases hrel : m = ⟨#[114, 101, 108]⟩
 ·subst hrel; exact spec_op_rel n lo hi L hl h1 hm w
 by_cases hzpx : m = ⟨#[122, 112, 120]⟩
 ·subst hzpx; exact spec_op_zpx n lo hi L hl h1 hm w
 by_cases hzpy : m = ⟨#[122, 112, 121]⟩
 ·subst hzpy; exact spec_op_zpy n lo hi L hl h1 hm w
 by_cases habs : m = ⟨#[97, 98, 115]⟩
 ·subst habs; exact spec_op_abs n lo hi L hl h1 hm w
 by_cases habx : m = ⟨#[97, 98, 120]⟩
 ·subst habx; exact spec_op_abx n lo hi L hl h1 hm w
 by_cases haby : m = ⟨#[97, 98, 121]⟩
 ·subst haby; exact spec_op_aby n lo hi L hl h1 hm w
 by_cases hinx : m = ⟨#[105, 110, 120]⟩
 ·subst hinx; exact spec_op_inx n lo hi L hl h1 hm w
 by_cases hiny : m = ⟨#[105, 110, 121]⟩
 ·subst hiny; exact spec_op_iny n lo hi L hl h1 hm w
 by_cases hind : m = ⟨#[105, 110, 100]⟩
 ·subst hind; exact spec_op_ind n lo hi L hl h1 hm w
 exact spec_op_other n lo hi L hl m hacc himm hzpg hrel hzpx hzpy habs habx haby hinx hiny hind h1 hm w
end Go.Proofs.YtboeaeoefoabdaaGreatDoor
