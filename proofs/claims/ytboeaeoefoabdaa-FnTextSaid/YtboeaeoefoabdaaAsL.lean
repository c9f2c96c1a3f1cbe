/-
  The walk of the law FnText: it returns true, whatever is drawn (chapter 13).
  Conditions: none; old memory stays as it was.
-/
import Derived.Test.YtboeaeoefoabdaaAsX
import Derived.Test.YtboeaeoefoabdaaAsT
import Derived.Test.YtboeaeoefoabdaaAtA
import Derived.Test.YtboeaeoefoabdaaDrA
namespace Go.Proofs.Ytboeaeoefoabdaa
open Go.RowKit Go.Deep Go.WideShapes Go.ChangeShapes
theorem field_nm (a b : ByteArray) (W : World) : (Instr.field 27 (.agg #[.string a, .string b]) 0).run Try.prog W = .ok (.string a) W := by kernel_rfl
theorem jam_listT : jamN.toList = [74, 65, 77] := by rw [ByteArray.toList_eq]; rfl
theorem big_no (n c : Nat) (A : Option Addr) (h : n ≤ 1048576) (w : World) : Calls Try.prog 5 #[.slice A n c] w fun e w' => e = .returned (.bool false) ∧ w = w' := by
  have h2 : ¬ (1048576 : Int) < (n : Int) := by omega
  go_enter Try.func5, Try.ntmps5
  go_wp2
  go_ret
  exact ⟨rfl, rfl⟩
set_option maxRecDepth 100000 in
set_option maxHeartbeats 4000000 in
theorem text_law (A : Option Addr) (n c : Nat) (W : World) (hrow : RowB W A n) :
    Calls Try.prog 3 #[.slice A n c] W fun e w' => e = .returned (.bool true) ∧ Below W.heap.size W w' := by
  have hm := hrow.1
  unfold maxLen at hm
  by_cases hbig : 1048576 < n
  · clear hrow
    go_enter Try.func3, Try.ntmps3
    go_wp2_with (go_in)
    go_ret
    exact ⟨rfl, Below.refl _ _⟩
  · have hcode := hrow.code (by omega)
    have K0 := Lib.hid (at_lit (c := c) hcode 0 0 rfl (by omega))
    have K1 := Lib.hid (at_lit (c := c) hcode 1 1 rfl (by omega))
    have K2 := Lib.hid (at_lit (c := c) hcode 2 2 rfl (by omega))
    have K3 := Lib.hid (at_lit (c := c) hcode 3 3 rfl (by omega))
    have HBig := Lib.hid (big_no n c A (by omega) W)
    clear hrow hcode
    go_enter Try.func3, Try.ntmps3
    go_wp2_with (first
      | (go_at_call 5; refine HBig.out.mono ?_; rintro e w1 ⟨rfl, rfl⟩)
      | (go_at_call 6; (with_reducible refine K0.out.mono ?_); rintro e w1 ⟨x, rfl, x0, x1, rfl⟩)
      | (go_at_call 6; (with_reducible refine K1.out.mono ?_); rintro e w1 ⟨y, rfl, y0, y1, rfl⟩)
      | (go_at_call 6; (with_reducible refine K2.out.mono ?_); rintro e w1 ⟨lo, rfl, l0, l1, rfl⟩)
      | (go_at_call 6; (with_reducible refine K3.out.mono ?_); rintro e w1 ⟨hi, rfl, h0, h1, rfl⟩; refine Hid.out ?_))
    clear K0 K1 K2 K3 HBig
    have HS0 := text_same x y lo hi x0 (by omega) y0 (by omega)
    have ix := fun w => impl_OpText x lo hi w
    have iy := fun w => impl_OpText y lo hi w
    have sx := fun w => spec_OpText x lo hi w
    have sy := fun w => spec_OpText y lo hi w
    have ox := fun w => spec_opOf x w
    have oy := fun w => spec_opOf y w
    have HS : Hid ((⟨(opT (opOf x).1 (opOf x).2 lo hi).toArray⟩ : ByteArray) = ⟨(opT (opOf y).1 (opOf y).2 lo hi).toArray⟩ ↔ (x = y ∨ ((opOf x).1 = jamN ∧ (opOf y).1 = jamN))) := Lib.hid (by
      rw [← HS0]
      constructor
      · intro h
        have := congrArg (fun b : ByteArray => b.data.toList) h
        simpa using this
      · intro h; rw [h])
    clear HS0
    generalize (⟨(opT (opOf x).1 (opOf x).2 lo hi).toArray⟩ : ByteArray) = T1 at *
    generalize (⟨(opT (opOf y).1 (opOf y).2 lo hi).toArray⟩ : ByteArray) = T2 at *
    generalize (opOf x).1 = a1 at *
    generalize (opOf x).2 = m1 at *
    generalize (opOf y).1 = a2 at *
    generalize (opOf y).2 = m2 at *
    replace ix := Lib.hid ix
    replace iy := Lib.hid iy
    replace sx := Lib.hid sx
    replace sy := Lib.hid sy
    replace ox := Lib.hid ox
    replace oy := Lib.hid oy
    clear x0 x1 y0 y1 l0 l1 h0 h1
    refine Lib.hid ?_
    go_wp2_with (first
      | (go_at_call 7; (with_reducible refine (ix.out _).mono ?_); rintro e w1 ⟨rfl, hb1⟩)
      | (go_at_call 7; (with_reducible refine (iy.out _).mono ?_); rintro e w2 ⟨rfl, hb2⟩)
      | (go_at_call 8; (with_reducible refine (sx.out _).mono ?_); rintro e w3 ⟨rfl, hb3⟩)
      | (go_at_call 8; (with_reducible refine (sy.out _).mono ?_); rintro e w4 ⟨rfl, hb4⟩; refine Hid.out ?_))
    have B4 := Lib.hid (below_then (below_then (below_then hb1 hb2) hb3) hb4)
    clear hb1 hb2 hb3 hb4 ix iy sx sy
    by_cases hxy : x = y
    · have ht := HS.out.2 (.inl hxy)
      subst ht
      subst hxy
      clear HS ox oy
      refine Lib.hid ?_
      go_wp2
      go_ret
      exact ⟨rfl, B4.out⟩
    · have hne : (x == y) = false := by simpa using hxy
      have fa := fun w => field_nm a1 m1 w
      have fb := fun w => field_nm a2 m2 w
      by_cases ja : a1 = jamN
      · by_cases jb : a2 = jamN
        · have ht := HS.out.2 (.inr ⟨ja, jb⟩)
          subst ht
          subst ja
          subst jb
          have hj := jam_listT
          clear HS
          refine Lib.hid ?_
          go_wp2_with (first
            | (go_at_call 9; (with_reducible refine (ox.out _).mono ?_); rintro e w5 ⟨rfl, hb5⟩)
            | (go_at_call 9; (with_reducible refine (oy.out _).mono ?_); rintro e w6 ⟨rfl, hb6⟩))
          go_ret
          exact ⟨rfl, below_then (below_then B4.out hb5) hb6⟩
        · have ht := eq_no (fun h => (HS.out.1 h).elim hxy fun h => jb h.2)
          subst ja
          have hj := jam_listT
          have hk := eq_no jb
          rw [jam_listT] at hk
          clear HS
          refine Lib.hid ?_
          go_wp2_with (first
            | (go_at_call 9; (with_reducible refine (ox.out _).mono ?_); rintro e w5 ⟨rfl, hb5⟩)
            | (go_at_call 9; (with_reducible refine (oy.out _).mono ?_); rintro e w6 ⟨rfl, hb6⟩))
          go_ret
          exact ⟨rfl, below_then (below_then B4.out hb5) hb6⟩
      · have ht := eq_no (fun h => (HS.out.1 h).elim hxy fun h => ja h.1)
        have hk := eq_no ja
        rw [jam_listT] at hk
        clear HS oy
        refine Lib.hid ?_
        go_wp2_with (first
            | (go_at_call 9; (with_reducible refine (ox.out _).mono ?_); rintro e w5 ⟨rfl, hb5⟩))
        go_ret
        exact ⟨rfl, below_then B4.out hb5⟩
end Go.Proofs.Ytboeaeoefoabdaa
