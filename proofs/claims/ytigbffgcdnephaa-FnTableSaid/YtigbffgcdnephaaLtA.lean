/-
  The walk of the law FnTable: it returns true, whatever is drawn.
  Conditions: none.
-/
import Derived.Test.YtigbffgcdnephaaTbG
import Derived.Test.YtigbffgcdnephaaTbI
namespace Go.Proofs.Ytigbffgcdnephaa
open Go.RowKit
theorem jam_list : jamN.toList = [74, 65, 77] := by rw [ByteArray.toList_eq]; rfl
set_option maxRecDepth 100000 in
set_option maxHeartbeats 4000000 in
theorem table_law (A : Option Addr) (n c : Nat) (W : World) (hrow : RowB W A n) :
    Calls Try.prog 3 #[.slice A n c] W fun e w' => e = .returned (.bool true) ∧ Below W.heap.size W w' := by
  have hm := hrow.1
  unfold maxLen at hm
  by_cases hbig : 1048576 < n
  · clear hrow
    go_enter Try.func3, Try.ntmps3
    go_wp2_with (go_in)
    go_ret
    exact ⟨rfl, Below.refl _ _⟩
  · have hcode := hrow.code (by omega)
    have HC := Lib.hid hcode
    have hD := drawOpOf_any W.heap.size n c A W (Nat.le_refl _) hcode
    unfold IntPost at hD
    clear hrow hcode
    go_enter Try.func3, Try.ntmps3
    go_wp2_with (first
      | (go_at_call 9; go_in)
      | (go_at_call 10; refine hD.mono ?_; rintro e w1 ⟨x, rfl, hx, hb1⟩; refine Hid.out ?_))
    clear hD
    have ho := fun w => impl_opOf x w
    have H1 := Lib.hid (fun w => spec_opOf x w)
    have HK := Lib.hid (op_back x)
    have H2 := Lib.hid (fun w => impl_codeOf (opOf x).1 (opOf x).2 (by have := (op_size3 x).1; unfold maxLen; omega) w)
    generalize (opOf x).1 = a at *
    generalize (opOf x).2 = b at *
    generalize codeOf a b = K at *
    refine Lib.hid ?_
    go_wp2_with (go_at_call 11; refine (ho _).mono ?_; rintro e w2 ⟨rfl, hb2⟩; refine Hid.out ?_)
    have hb2 := below_then hb1 hb2
    have T := Lib.hid (twoAt_new w2 a b 26)
    have L : w2.heap.size < (w2.alloc (.cells #[.string a, .string b] 26)).heap.size := by simp
    have L := Lib.hid L
    have B := Lib.hid (below_alloc hb2 (.cells #[.string a, .string b] 26))
    have hD := drawCodeOf_any W.heap.size n c A _ B.out.size (HC.out.below (Nat.le_refl _) B.out)
    unfold DrawTexts at hD
    clear ho hb1 hb2
    refine Lib.hid ?_
    go_wp2_with (go_at_call 12; refine hD.mono ?_; rintro e w3 ⟨u, v, rfl, hu, hv, hb3⟩; refine Hid.out ?_)
    have T := Lib.hid (T.out.below L.out hb3)
    have L := Lib.hid (Nat.lt_of_lt_of_le L.out hb3.size)
    have B := Lib.hid (below_then B.out hb3)
    have H3 := Lib.hid (fun w => impl_codeOf u v (by unfold maxLen; omega) w)
    clear hD hb3 HC hu hv
    have H4 := Lib.hid (fun w => spec_codeOf u v w)
    have H5 := Lib.hid (code_there u v)
    have H6 := Lib.hid (fun w => impl_opOf (codeOf u v) w)
    have hk := code_bd u v
    generalize codeOf u v = k at *
    refine Lib.hid ?_
    go_wp2_with (go_at_call 13; refine (H3.out _).mono ?_; rintro e w4 ⟨rfl, hb4⟩; refine Hid.out ?_)
    have T := Lib.hid (T.out.below L.out hb4)
    have L := Lib.hid (Nat.lt_of_lt_of_le L.out hb4.size)
    have B := Lib.hid (below_then B.out hb4)
    clear hb4
    obtain ⟨t0, t1⟩ := T.out
    refine Lib.hid ?_
    go_wp2_with (fail)
    have hst : (Try.prog.info? 26).map (·.size) = some 2 := op_size
    have hHd := op_held T.out L.out B.out
    unfold OpHeld at hHd
    go_region_held3 (fun w' => w'.cell? ⟨w2.heap.size, 0, none⟩ = some (.string a) ∧ w'.cell? ⟨w2.heap.size, 1, none⟩ = some (.string b) ∧ w2.heap.size < w'.heap.size ∧ Below W.heap.size W w')
      (first | exact hHd | exact op_keep (by assumption) hbq | go_keep)
      (first
        | (go_at_call 14; (with_reducible refine (H1.out _).mono ?_); rintro e wq ⟨rfl, hbq⟩)
        | (go_at_call 15; (with_reducible refine (H4.out _).mono ?_); rintro e wq ⟨rfl, rfl⟩))
    rename_i hH
    obtain ⟨q0, q1, q2, q3⟩ := hH
    clear t0 t1 hHd H4 H1 T L B hbq
    have T : Hid (TwoAt wq w2.heap.size a b) := Lib.hid ⟨q0, q1⟩
    have L := Lib.hid q2
    have B := Lib.hid q3
    clear q0 q1 q2 q3
    by_cases hk0 : 0 ≤ k
    · have h5 := H5.out hk0
      rw [h5] at H6
      clear h5
      go_wp2_with (go_at_call 11; refine (H6.out _).mono ?_; rintro e w5 ⟨rfl, hb5⟩; refine Hid.out ?_)
      have T := Lib.hid (T.out.below L.out hb5)
      have L := Lib.hid (Nat.lt_of_lt_of_le L.out hb5.size)
      have B := Lib.hid (below_then B.out hb5)
      clear hb5
      obtain ⟨t0, t1⟩ := T.out
      refine Lib.hid ?_
      go_wp2_with (go_at_call 13; refine (H2.out _).mono ?_; rintro e w6 ⟨rfl, hb6⟩; refine Hid.out ?_)
      clear t0 t1
      have T := Lib.hid (T.out.below L.out hb6)
      have BF := Lib.hid (below_then B.out hb6)
      clear hb6
      obtain ⟨t0, t1⟩ := T.out
      have hand := i64_and255 x
      rcases HK.out with ⟨rfl, rfl, rfl⟩ | ⟨hj, rfl⟩
      · unfold jamN at t0
        unfold impM at t1
        refine Lib.hid ?_
        go_wp2
        go_ret
        exact ⟨rfl, BF.out⟩
      · have hj2 := eq_no hj
        rw [jam_list] at hj2
        refine Lib.hid ?_
        go_wp2
        go_ret
        exact ⟨rfl, BF.out⟩
    · obtain ⟨t0, t1⟩ := T.out
      go_wp2_with (go_at_call 13; refine (H2.out _).mono ?_; rintro e w6 ⟨rfl, hb6⟩; refine Hid.out ?_)
      clear t0 t1
      have T := Lib.hid (T.out.below L.out hb6)
      have BF := Lib.hid (below_then B.out hb6)
      clear hb6
      obtain ⟨t0, t1⟩ := T.out
      have hand := i64_and255 x
      rcases HK.out with ⟨rfl, rfl, rfl⟩ | ⟨hj, rfl⟩
      · unfold jamN at t0
        unfold impM at t1
        refine Lib.hid ?_
        go_wp2
        go_ret
        exact ⟨rfl, BF.out⟩
      · have hj2 := eq_no hj
        rw [jam_list] at hj2
        refine Lib.hid ?_
        go_wp2
        go_ret
        exact ⟨rfl, BF.out⟩
end Go.Proofs.Ytigbffgcdnephaa
