/-
  The walk of the law FnModes: it returns true, whatever is drawn.
  Conditions: none.
-/
import Derived.Test.YtfkllcbjakhbdaaLtA
namespace Go.Proofs.Ytfkllcbjakhbdaa
open Go.RowKit
/-- How many of the first bytes are instructions. -/
def opCnt : Nat → Nat
  | 0 => 0
  | k + 1 => opCnt k + (if (opOf (k : Int)).1 = jamN then 0 else 1)
theorem opCnt_all : opCnt 256 = 151 := by decide +kernel
theorem opCnt_le (k : Nat) : opCnt k ≤ k := by
  induction k with
  | zero => exact Nat.le_refl _
  | succ k ih => unfold opCnt; split <;> omega
theorem mode_all : ∀ m : Fin 256, 1 ≤ modeSz (opOf (m.val : Int)).2 ∧ modeSz (opOf (m.val : Int)).2 ≤ 3 := by decide +kernel
theorem mode_ok (k : Nat) (h : k < 256) : 1 ≤ modeSz (opOf (k : Int)).2 ∧ modeSz (opOf (k : Int)).2 ≤ 3 := mode_all ⟨k, h⟩
set_option maxRecDepth 100000 in
set_option maxHeartbeats 4000000 in
theorem modes_law (A : Option Addr) (n c : Nat) (W : World) (hrow : RowB W A n) :
    Calls Try.prog 6 #[.slice A n c] W fun e w' => e = .returned (.bool true) ∧ Below W.heap.size W w' := by
  have hm := hrow.1
  unfold maxLen at hm
  by_cases hbig : 1048576 < n
  · clear hrow
    go_enter Try.func6, Try.ntmps6
    go_wp2_with (go_in)
    go_ret
    exact ⟨rfl, Below.refl _ _⟩
  · have hcode := hrow.code (by omega)
    have HC := Lib.hid hcode
    have hD := drawModeSize_any W.heap.size n c A W (Nat.le_refl _) hcode
    unfold DrawText1 at hD
    clear hrow hcode
    go_enter Try.func6, Try.ntmps6
    go_wp2_with (first
      | (go_at_call 17; go_in)
      | (go_at_call 18; refine hD.mono ?_; rintro e w1 ⟨m, rfl, hm1, hb1⟩; refine Hid.out ?_))
    have hD := drawKindOf_any W.heap.size n c A w1 hb1.size (HC.out.below (Nat.le_refl _) hb1)
    unfold DrawOp at hD
    clear HC
    refine Lib.hid ?_
    go_wp2_with (go_at_call 19; refine hD.mono ?_; rintro e w2 ⟨a, b, rfl, ha, hb, hb2⟩; refine Hid.out ?_)
    have hb2 := below_then hb1 hb2
    have T := Lib.hid (twoAt_new w2 a b 38)
    have L : w2.heap.size < (w2.alloc (.cells #[.string a, .string b] 38)).heap.size := by simp
    have L := Lib.hid L
    have B := Lib.hid (below_alloc hb2 (.cells #[.string a, .string b] 38))
    have H1 := Lib.hid (fun w => impl_kindOf a b (by unfold maxLen; omega) w)
    clear hD hb1 hb2 hm1 ha hb
    have H2 := Lib.hid (fun w => spec_kindOf a b w)
    have H3 := Lib.hid (fun w => impl_modeSize m w)
    have H4 := Lib.hid (fun w => spec_modeSize m w)
    unfold opV at H1 H2
    have hk' := kind_bd a b
    generalize kindI a b = K at *
    generalize modeSz m = M at *
    refine Lib.hid ?_
    go_wp2_with (go_at_call 20; refine (H1.out _).mono ?_; rintro e w3 ⟨rfl, hb3⟩; refine Hid.out ?_)
    have T := Lib.hid (T.out.below L.out hb3)
    have L := Lib.hid (Nat.lt_of_lt_of_le L.out hb3.size)
    have B := Lib.hid (below_then B.out hb3)
    clear hb3
    refine Lib.hid ?_
    go_wp2_with (go_at_call 21; refine (H3.out _).mono ?_; rintro e w4 ⟨rfl, hb4⟩; refine Hid.out ?_)
    have T := Lib.hid (T.out.below L.out hb4)
    have L := Lib.hid (Nat.lt_of_lt_of_le L.out hb4.size)
    have B := Lib.hid (below_then B.out hb4)
    clear hb4
    refine Lib.hid ?_
    go_wp2_with (go_at_call 22; refine (H4.out _).mono ?_; rintro e w5 ⟨rfl, hb5⟩; refine Hid.out ?_)
    have T := Lib.hid (T.out.below L.out hb5)
    have L := Lib.hid (Nat.lt_of_lt_of_le L.out hb5.size)
    have B := Lib.hid (below_then B.out hb5)
    clear hb5
    obtain ⟨t0, t1⟩ := T.out
    refine Lib.hid ?_
    go_wp2_with (go_at_call 23; refine (H2.out _).mono ?_; rintro e w6 ⟨rfl, hb6⟩; refine Hid.out ?_)
    have B6 := Lib.hid (below_then B.out hb6)
    clear hb6 t0 t1
    have H5 := Lib.hid impl_opOf
    have H6 := Lib.hid impl_modeSize
    clear H1 H2 H3 H4 T L B
    have hc := Lib.hid opCnt_le
    refine Lib.hid ?_
    go_wp2_with (fail)
    go_loopw [6, 7] (fun v6 v7 wr => ∃ k : Nat, k ≤ 256 ∧ v7 = .int .i64 (k : Int) ∧ v6 = .int .i64 (opCnt k : Int) ∧ Below W.heap.size W wr) (fun _ v7 _ => 256 - (intOf v7).toNat)
    case atStart => exact ⟨0, by omega, rfl, rfl, B6.out⟩
    case round =>
      obtain ⟨k, hk, rfl, rfl, hb⟩ := hrel
      by_cases hlt : k < 256
      · have HB := Lib.hid hb
        obtain ⟨m1, m3⟩ := mode_ok k hlt
        have hcl := hc.out k
        have hstep : opCnt (k + 1) = opCnt k + (if (opOf (k : Int)).1 = jamN then 0 else 1) := rfl
        have ho := fun w => H5.out (k : Int) w
        have hz := fun w => H6.out (opOf (k : Int)).2 w
        generalize (opOf (k : Int)).1 = a at *
        generalize (opOf (k : Int)).2 = b at *
        generalize modeSz b = M at *
        have HZ := Lib.hid hz
        have HS := Lib.hid hstep
        clear hb hz hstep
        generalize opCnt k = q at *
        go_wp2_with (go_at_call 24; refine (ho _).mono ?_; rintro e wa ⟨rfl, hba⟩; refine Hid.out ?_)
        have T := twoAt_new wa a b 38
        have hB2 := below_alloc (below_then HB.out hba) (.cells #[.string a, .string b] 38)
        have HB2 := Lib.hid hB2
        clear ho hba hB2
        by_cases hj : a = jamN
        · have HS := Lib.hid (HS.out.trans (by rw [if_pos hj]))
          subst hj
          unfold jamN
          refine Lib.hid ?_
          go_wp2_with (go_at_call 21; refine (HZ.out _).mono ?_; rintro e wb ⟨rfl, hbb⟩)
          go_roundw
          case rel => exact ⟨k + 1, by omega, by go_num, by rw [HS.out]; rfl, below_then HB2.out hbb⟩
          case measure => simp [intOf]; omega
        · have HS := Lib.hid (HS.out.trans (by rw [if_neg hj]))
          have hj2 := eq_no hj
          rw [jam_list] at hj2
          clear hj
          refine Lib.hid ?_
          go_wp2_with (go_at_call 21; refine (HZ.out _).mono ?_; rintro e wb ⟨rfl, hbb⟩)
          go_roundw
          case rel => exact ⟨k + 1, by omega, by go_num, by rw [HS.out]; rfl, below_then HB2.out hbb⟩
          case measure => simp [intOf]; omega
      · obtain rfl : k = 256 := by omega
        have e := opCnt_all
        rw [e]
        obtain ⟨k0, k3⟩ := hk'
        go_wp2
        go_ret
        exact ⟨rfl, hb⟩
end Go.Proofs.Ytfkllcbjakhbdaa
