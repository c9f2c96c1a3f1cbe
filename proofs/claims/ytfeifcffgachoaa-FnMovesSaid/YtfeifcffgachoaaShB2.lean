/-
  Contract of impl.Shift (chapter 2).
  Conditions: none.
-/
import Derived.Test.YtfeifcffgachoaaShA2
import Derived.Laws.EntriesVeiled
import Derived.Deep.QuietTactic
import Derived.BigQuiet
namespace Go.Proofs.Ytfeifcffgachoaa
open Go.RowKit
def ShPostB (kind p v : Int) (w : World) (e : Ending) (w' : World) : Prop := e = .returned (.tuple #[.int .i64 (shN kind p v), .int .i64 (shR kind p v)]) ∧ Below w.heap.size w w'
def TwoPost (a b : Int) (w : World) (e : Ending) (w' : World) : Prop := e = .returned (.tuple #[.int .u8 a, .int .u8 b]) ∧ w = w'
theorem rotateLeft_0 (v : Int) (h : 0 ≤ v ∧ v < 256) (w : World) : Calls Try.prog 93 #[.int .u8 v, .int .u8 0] w (TwoPost (v * 2 % 256) (v / 128) w) := by
  have ho := or1 v h
  have ho1 := ho.2.2.1
  have ho2 := ho.2.2.2.1
  have ho3 := ho.2.2.2.2.1
  have ho4 := ho.2.2.2.2.2
  have hh := (hi_bit v h).2.2
  clear ho
  go_enter Try.func93, Try.ntmps93
  go_wp2
  go_ret2
  exact ⟨rfl, rfl⟩
theorem rotateLeft_1 (v : Int) (h : 0 ≤ v ∧ v < 256) (w : World) : Calls Try.prog 93 #[.int .u8 v, .int .u8 1] w (TwoPost (v * 2 % 256 + 1) (v / 128) w) := by
  have ho := or1 v h
  have ho1 := ho.2.2.1
  have ho2 := ho.2.2.2.1
  have ho3 := ho.2.2.2.2.1
  have ho4 := ho.2.2.2.2.2
  have hh := (hi_bit v h).2.2
  clear ho
  go_enter Try.func93, Try.ntmps93
  go_wp2
  go_ret2
  exact ⟨rfl, rfl⟩
theorem rotateRight_0 (v : Int) (h : 0 ≤ v ∧ v < 256) (w : World) : Calls Try.prog 94 #[.int .u8 v, .int .u8 0] w (TwoPost (v / 2) (v % 2) w) := by
  have ho := or1 v h
  have ho1 := ho.2.2.1
  have ho2 := ho.2.2.2.1
  have ho3 := ho.2.2.2.2.1
  have ho4 := ho.2.2.2.2.2
  have hh := (hi_bit v h).2.2
  clear ho
  go_enter Try.func94, Try.ntmps94
  go_wp2
  go_ret2
  exact ⟨rfl, rfl⟩
theorem rotateRight_1 (v : Int) (h : 0 ≤ v ∧ v < 256) (w : World) : Calls Try.prog 94 #[.int .u8 v, .int .u8 1] w (TwoPost (v / 2 + 128) (v % 2) w) := by
  have ho := or1 v h
  have ho1 := ho.2.2.1
  have ho2 := ho.2.2.2.1
  have ho3 := ho.2.2.2.2.1
  have ho4 := ho.2.2.2.2.2
  have hh := (hi_bit v h).2.2
  clear ho
  go_enter Try.func94, Try.ntmps94
  go_wp2
  go_ret2
  exact ⟨rfl, rfl⟩
theorem shiftLeft_any (v c : Int) (h : 0 ≤ v ∧ v < 256) (w : World) : Calls Try.prog 91 #[.int .u8 v, .int .u8 c] w (TwoPost (v * 2 % 256) (v / 128) w) := by
  have hr := rotateLeft_0 v h w
  go_enter Try.func91, Try.ntmps91
  go_wp2_with (go_at_call 93; refine hr.mono ?_; rintro e w' ⟨rfl, rfl⟩)
  go_ret2
  exact ⟨rfl, rfl⟩
theorem shiftRight_any (v c : Int) (h : 0 ≤ v ∧ v < 256) (w : World) : Calls Try.prog 92 #[.int .u8 v, .int .u8 c] w (TwoPost (v / 2) (v % 2) w) := by
  have hr := rotateRight_0 v h w
  go_enter Try.func92, Try.ntmps92
  go_wp2_with (go_at_call 94; refine hr.mono ?_; rintro e w' ⟨rfl, rfl⟩)
  go_ret2
  exact ⟨rfl, rfl⟩
theorem below_new (w : World) (o : Obj) : Below w.heap.size w (w.alloc o) := (Below.refl w.heap.size w).alloc (Nat.le_refl _) o
theorem below_new_drew (w : World) (o : Obj) (n : Nat) : Below w.heap.size w ((w.alloc o).drewN n) := by
  have h := (Below.refl w.heap.size w).alloc (Nat.le_refl _) o
  exact ⟨h.os, h.tape, h.output, h.size, h.block⟩
set_option maxHeartbeats 1000000 in
theorem impl_shift_0 (p v : Int) (w : World) : Calls Try.prog 72 #[.int .i64 p, .int .i64 0, .int .i64 v] w (ShPostB 0 p v w) := by
  have hr : shR 0 p v = v % 256 * 2 % 256 := by unfold shR; simp
  have hn : shN 0 p v = wI (nzI p (v % 256 * 2 % 256)) 1 (v % 256 / 128 != 0) := by
    rw [shN_yes 0 p v (by omega), hr]
    unfold shG
    congr 1
    rw [Bool.eq_iff_iff]
    simp
    omega
  have H := Lib.hid (And.intro hn hr)
  clear hn hr
  have hC := fun w => carry_of (p % 256) w
  rw [cI_mod] at hC
  have HC := Lib.hid hC
  have HN := Lib.hid with_nz
  have HW := Lib.hid with_flag
  have HX := Lib.hid (fun w => shiftLeft_any (v % 256) (cI p) (by omega) w)
  have b1 := wI_bd (nzI p (v % 256 * 2 % 256)) 1 (v % 256 / 128 != 0)
  clear hC
  go_enter Try.func72, Try.ntmps72
  go_wp2
  go_quiet (first
    | exact (HC.out _).mono fun _ _ ⟨he, hw⟩ => ⟨he, _, hw.symm⟩
    | exact (HX.out _).mono fun _ _ ⟨he, hw⟩ => ⟨he, _, hw.symm⟩)
  go_wp2_with (first
    | (go_at_call 89; refine (HN.out _ _ (by omega) _).mono ?_; rintro e w' ⟨rfl, rfl⟩; rw [nzI_mod])
    | (go_at_call 90; refine (HW.out _ _ _ _).mono ?_; rintro e w' ⟨rfl, rfl⟩))
  go_ret2
  exact ⟨by rw [H.out.1, H.out.2]; rfl, below_new_drew w _ nq⟩
set_option maxHeartbeats 1000000 in
theorem impl_shift_1 (p v : Int) (w : World) : Calls Try.prog 72 #[.int .i64 p, .int .i64 1, .int .i64 v] w (ShPostB 1 p v w) := by
  have hr : shR 1 p v = v % 256 / 2 := by unfold shR; simp
  have hn : shN 1 p v = wI (nzI p (v % 256 / 2)) 1 (v % 2 != 0) := by
    rw [shN_yes 1 p v (by omega), hr]
    unfold shG
    congr 1
    rw [Bool.eq_iff_iff]
    simp
    try omega
  have H := Lib.hid (And.intro hn hr)
  clear hn hr
  have hC := fun w => carry_of (p % 256) w
  rw [cI_mod] at hC
  have HC := Lib.hid hC
  have HN := Lib.hid with_nz
  have HW := Lib.hid with_flag
  have HX := Lib.hid (fun w => shiftRight_any (v % 256) (cI p) (by omega) w)
  have b1 := wI_bd (nzI p (v % 256 / 2)) 1 (v % 2 != 0)
  clear hC
  go_enter Try.func72, Try.ntmps72
  go_wp2
  go_quiet (first
    | exact (HC.out _).mono fun _ _ ⟨he, hw⟩ => ⟨he, _, hw.symm⟩
    | exact (HX.out _).mono fun _ _ ⟨he, hw⟩ => ⟨he, _, hw.symm⟩)
  go_wp2_with (first
    | (go_at_call 89; refine (HN.out _ _ (by omega) _).mono ?_; rintro e w' ⟨rfl, rfl⟩; rw [nzI_mod])
    | (go_at_call 90; refine (HW.out _ _ _ _).mono ?_; rintro e w' ⟨rfl, rfl⟩))
  go_ret2
  exact ⟨by rw [H.out.1, H.out.2]; rfl, below_new_drew w _ nq⟩
set_option maxHeartbeats 1000000 in
theorem impl_shift_2_0 (p v : Int) (hc : cI p = 0) (w : World) : Calls Try.prog 72 #[.int .i64 p, .int .i64 2, .int .i64 v] w (ShPostB 2 p v w) := by
  have hr : shR 2 p v = v % 256 * 2 % 256 := by unfold shR; simp [hc]
  have hn : shN 2 p v = wI (nzI p (v % 256 * 2 % 256)) 1 (v % 256 / 128 != 0) := by
    rw [shN_yes 2 p v (by omega), hr]
    unfold shG
    congr 1
    rw [Bool.eq_iff_iff]
    simp
    omega
  have H := Lib.hid (And.intro hn hr)
  clear hn hr
  have hC := fun w => carry_of (p % 256) w
  rw [cI_mod, hc] at hC
  have HC := Lib.hid hC
  have HN := Lib.hid with_nz
  have HW := Lib.hid with_flag
  have HX := Lib.hid (fun w => rotateLeft_0 (v % 256) (by omega) w)
  have b1 := wI_bd (nzI p (v % 256 * 2 % 256)) 1 (v % 256 / 128 != 0)
  clear hC
  go_enter Try.func72, Try.ntmps72
  go_wp2
  go_quiet (first
    | exact (HC.out _).mono fun _ _ ⟨he, hw⟩ => ⟨he, _, hw.symm⟩
    | exact (HX.out _).mono fun _ _ ⟨he, hw⟩ => ⟨he, _, hw.symm⟩)
  go_wp2_with (first
    | (go_at_call 89; refine (HN.out _ _ (by omega) _).mono ?_; rintro e w' ⟨rfl, rfl⟩; rw [nzI_mod])
    | (go_at_call 90; refine (HW.out _ _ _ _).mono ?_; rintro e w' ⟨rfl, rfl⟩))
  go_ret2
  exact ⟨by rw [H.out.1, H.out.2]; rfl, below_new_drew w _ nq⟩
set_option maxHeartbeats 1000000 in
theorem impl_shift_2_1 (p v : Int) (hc : cI p = 1) (w : World) : Calls Try.prog 72 #[.int .i64 p, .int .i64 2, .int .i64 v] w (ShPostB 2 p v w) := by
  have hr : shR 2 p v = v % 256 * 2 % 256 + 1 := by unfold shR; simp [hc]
  have hn : shN 2 p v = wI (nzI p (v % 256 * 2 % 256 + 1)) 1 (v % 256 / 128 != 0) := by
    rw [shN_yes 2 p v (by omega), hr]
    unfold shG
    congr 1
    rw [Bool.eq_iff_iff]
    simp
    omega
  have H := Lib.hid (And.intro hn hr)
  clear hn hr
  have hC := fun w => carry_of (p % 256) w
  rw [cI_mod, hc] at hC
  have HC := Lib.hid hC
  have HN := Lib.hid with_nz
  have HW := Lib.hid with_flag
  have HX := Lib.hid (fun w => rotateLeft_1 (v % 256) (by omega) w)
  have b1 := wI_bd (nzI p (v % 256 * 2 % 256 + 1)) 1 (v % 256 / 128 != 0)
  clear hC
  go_enter Try.func72, Try.ntmps72
  go_wp2
  go_quiet (first
    | exact (HC.out _).mono fun _ _ ⟨he, hw⟩ => ⟨he, _, hw.symm⟩
    | exact (HX.out _).mono fun _ _ ⟨he, hw⟩ => ⟨he, _, hw.symm⟩)
  go_wp2_with (first
    | (go_at_call 89; refine (HN.out _ _ (by omega) _).mono ?_; rintro e w' ⟨rfl, rfl⟩; rw [nzI_mod])
    | (go_at_call 90; refine (HW.out _ _ _ _).mono ?_; rintro e w' ⟨rfl, rfl⟩))
  go_ret2
  exact ⟨by rw [H.out.1, H.out.2]; rfl, below_new_drew w _ nq⟩
set_option maxHeartbeats 1000000 in
theorem impl_shift_3_0 (p v : Int) (hc : cI p = 0) (w : World) : Calls Try.prog 72 #[.int .i64 p, .int .i64 3, .int .i64 v] w (ShPostB 3 p v w) := by
  have hr : shR 3 p v = v % 256 / 2 := by unfold shR; simp [hc]
  have hn : shN 3 p v = wI (nzI p (v % 256 / 2)) 1 (v % 2 != 0) := by
    rw [shN_yes 3 p v (by omega), hr]
    unfold shG
    congr 1
    rw [Bool.eq_iff_iff]
    simp
    try omega
  have H := Lib.hid (And.intro hn hr)
  clear hn hr
  have hC := fun w => carry_of (p % 256) w
  rw [cI_mod, hc] at hC
  have HC := Lib.hid hC
  have HN := Lib.hid with_nz
  have HW := Lib.hid with_flag
  have HX := Lib.hid (fun w => rotateRight_0 (v % 256) (by omega) w)
  have b1 := wI_bd (nzI p (v % 256 / 2)) 1 (v % 2 != 0)
  clear hC
  go_enter Try.func72, Try.ntmps72
  go_wp2
  go_quiet (first
    | exact (HC.out _).mono fun _ _ ⟨he, hw⟩ => ⟨he, _, hw.symm⟩
    | exact (HX.out _).mono fun _ _ ⟨he, hw⟩ => ⟨he, _, hw.symm⟩)
  go_wp2_with (first
    | (go_at_call 89; refine (HN.out _ _ (by omega) _).mono ?_; rintro e w' ⟨rfl, rfl⟩; rw [nzI_mod])
    | (go_at_call 90; refine (HW.out _ _ _ _).mono ?_; rintro e w' ⟨rfl, rfl⟩))
  go_ret2
  exact ⟨by rw [H.out.1, H.out.2]; rfl, below_new_drew w _ nq⟩
set_option maxHeartbeats 1000000 in
theorem impl_shift_3_1 (p v : Int) (hc : cI p = 1) (w : World) : Calls Try.prog 72 #[.int .i64 p, .int .i64 3, .int .i64 v] w (ShPostB 3 p v w) := by
  have hr : shR 3 p v = v % 256 / 2 + 128 := by unfold shR; simp [hc]
  have hn : shN 3 p v = wI (nzI p (v % 256 / 2 + 128)) 1 (v % 2 != 0) := by
    rw [shN_yes 3 p v (by omega), hr]
    unfold shG
    congr 1
    rw [Bool.eq_iff_iff]
    simp
    try omega
  have H := Lib.hid (And.intro hn hr)
  clear hn hr
  have hC := fun w => carry_of (p % 256) w
  rw [cI_mod, hc] at hC
  have HC := Lib.hid hC
  have HN := Lib.hid with_nz
  have HW := Lib.hid with_flag
  have HX := Lib.hid (fun w => rotateRight_1 (v % 256) (by omega) w)
  have b1 := wI_bd (nzI p (v % 256 / 2 + 128)) 1 (v % 2 != 0)
  clear hC
  go_enter Try.func72, Try.ntmps72
  go_wp2
  go_quiet (first
    | exact (HC.out _).mono fun _ _ ⟨he, hw⟩ => ⟨he, _, hw.symm⟩
    | exact (HX.out _).mono fun _ _ ⟨he, hw⟩ => ⟨he, _, hw.symm⟩)
  go_wp2_with (first
    | (go_at_call 89; refine (HN.out _ _ (by omega) _).mono ?_; rintro e w' ⟨rfl, rfl⟩; rw [nzI_mod])
    | (go_at_call 90; refine (HW.out _ _ _ _).mono ?_; rintro e w' ⟨rfl, rfl⟩))
  go_ret2
  exact ⟨by rw [H.out.1, H.out.2]; rfl, below_new_drew w _ nq⟩
theorem impl_shift_no (kind p v : Int) (h : ¬ (0 ≤ kind ∧ kind ≤ 3)) (w : World) : Calls Try.prog 72 #[.int .i64 p, .int .i64 kind, .int .i64 v] w (ShPostB kind p v w) := by
  have H := Lib.hid (shN_no kind p v h)
  by_cases h0 : kind < 0
  · clear h
    go_enter Try.func72, Try.ntmps72
    go_wp2
    go_ret2
    exact ⟨by rw [H.out.1, H.out.2]; rfl, below_new w _⟩
  · have h4 : 4 ≤ kind := by omega
    clear h
    go_enter Try.func72, Try.ntmps72
    go_wp2
    go_ret2
    exact ⟨by rw [H.out.1, H.out.2]; rfl, below_new w _⟩
theorem impl_shift (p kind v : Int) (w : World) : Calls Try.prog 72 #[.int .i64 p, .int .i64 kind, .int .i64 v] w (ShPostB kind p v w) := by
  by_cases h : 0 ≤ kind ∧ kind ≤ 3
  · have hc : cI p = 0 ∨ cI p = 1 := by have := cI_bd p; omega
    obtain rfl | rfl | rfl | rfl : kind = 0 ∨ kind = 1 ∨ kind = 2 ∨ kind = 3 := by omega
    · exact impl_shift_0 p v w
    · exact impl_shift_1 p v w
    · exact hc.elim (fun h => impl_shift_2_0 p v h w) (fun h => impl_shift_2_1 p v h w)
    · exact hc.elim (fun h => impl_shift_3_0 p v h w) (fun h => impl_shift_3_1 p v h w)
  · exact impl_shift_no kind p v h w
end Go.Proofs.Ytfeifcffgachoaa
