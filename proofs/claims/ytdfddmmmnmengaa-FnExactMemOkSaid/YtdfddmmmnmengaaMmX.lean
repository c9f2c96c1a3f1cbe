/-
  The walks of the five exact laws of chapter 5: the program's functions answer as the model's.
  Conditions: none; each walk leaves old memory as it was.
-/
import Derived.Test.YtdfddmmmnmengaaMmI
namespace Go.Proofs.Ytdfddmmmnmengaa
open Go.RowKit
theorem sz_mem (a : ByteArray) (ha : a.size ≤ maxLen) (b : ByteArray) (hb : b.size ≤ maxLen) (w : World) :
    Calls Try.prog 4 #[.agg #[.string a, .string b], .int .i64 1048576] w fun e w' => e = .returned (.int .i64 (if 1048576 < a.size + b.size then -1 else 1048576 - (a.size : Int) - (b.size : Int))) ∧ Below w.heap.size w w' := by
  unfold maxLen at ha hb
  by_cases h1 : 1048576 < a.size
  · rw [if_pos (by omega)]
    go_enter Try.func4, Try.ntmps4
    go_wp2
    go_ret
    exact ⟨rfl, below_alloc (Below.refl _ _) _⟩
  by_cases h2 : 1048576 < a.size + b.size
  · rw [if_pos h2]
    go_enter Try.func4, Try.ntmps4
    go_wp2
    go_ret
    exact ⟨rfl, below_alloc (Below.refl _ _) _⟩
  · rw [if_neg h2]
    go_enter Try.func4, Try.ntmps4
    go_wp2
    go_ret
    exact ⟨rfl, below_alloc (Below.refl _ _) _⟩
theorem to_mem (a b : ByteArray) (w : World) : Calls Try.prog 6 #[.agg #[.string a, .string b]] w fun e w' => e = .returned (.agg #[.string a, .string b]) ∧ Below w.heap.size w w' := by
  go_enter Try.func6, Try.ntmps6
  go_wp2
  exact bodyPost_ret (v := .agg #[.string a, .string b]) (by simp [results, Try.results6, go_sem]) rfl ⟨rfl, (((Below.refl _ _).alloc (Nat.le_refl _) _).alloc (by simp) _).alloc (by simp; omega) _⟩
set_option maxHeartbeats 2000000 in
theorem exact_memOk (r : ByteArray) (hr : r.size ≤ maxLen) (o : ByteArray) (ho : o.size ≤ maxLen) (w : World) :
    Calls Try.prog 3 #[.agg #[.string r, .string o]] w fun e w' => e = .returned (.bool true) ∧ Below w.heap.size w w' := by
  have HZ := Lib.hid (fun w => sz_mem r hr o ho w)
  unfold maxLen at hr ho
  have HT := Lib.hid (fun w => to_mem r o w)
  obtain ⟨z, hz⟩ : ∃ z : Int, z = if 1048576 < r.size + o.size then -1 else 1048576 - (r.size : Int) - (o.size : Int) := ⟨_, rfl⟩
  rw [← hz] at HZ
  by_cases hneg : z < 0
  · clear hz
    go_enter Try.func3, Try.ntmps3
    go_wp2_with (go_at_call 4; refine (HZ.out _).mono ?_; rintro e w1 ⟨rfl, hb1⟩)
    go_ret
    exact ⟨rfl, below_then (below_alloc (Below.refl _ _) _) hb1⟩
  have hsum : ¬ 1048576 < r.size + o.size := by intro h; rw [if_pos h] at hz; omega
  clear hz
  have HS := Lib.hid (fun w => spec_memOk r o w)
  have HI := Lib.hid (fun w => impl_memOk r o w)
  unfold memV at *
  generalize decide (OkM r o) = K at *
  go_enter Try.func3, Try.ntmps3
  go_wp2_with (go_at_call 4; refine (HZ.out _).mono ?_; rintro e w1 ⟨rfl, hb1⟩; refine Hid.out ?_)
  have T := Lib.hid ((twoAt_new w r o 23).below (by simp) hb1)
  have L : w.heap.size < w1.heap.size := by have := hb1.size; simp at this; omega
  have L := Lib.hid L
  have B := Lib.hid (below_then (below_alloc (Below.refl w.heap.size w) (.cells #[.string r, .string o] 23)) hb1)
  clear hb1
  obtain ⟨k0, k1⟩ := T.out
  refine Lib.hid ?_
  go_wp2_with (go_at_call 6; refine (HT.out _).mono ?_; rintro e w2 ⟨rfl, hb2⟩; refine Hid.out ?_)
  clear k0 k1
  have T := Lib.hid (T.out.below L.out hb2)
  have L := Lib.hid (Nat.lt_of_lt_of_le L.out hb2.size)
  have B := Lib.hid (below_then B.out hb2)
  clear hb2
  refine Lib.hid ?_
  go_wp2_with (go_at_call 5; refine (HS.out _).mono ?_; rintro e w3 ⟨rfl, hb3⟩; refine Hid.out ?_)
  have T := Lib.hid (T.out.below L.out hb3)
  have L := Lib.hid (Nat.lt_of_lt_of_le L.out hb3.size)
  have B := Lib.hid (below_then B.out hb3)
  clear hb3
  obtain ⟨k0, k1⟩ := T.out
  refine Lib.hid ?_
  go_wp2_with (go_at_call 6; refine (HT.out _).mono ?_; rintro e w4 ⟨rfl, hb4⟩; refine Hid.out ?_)
  clear k0 k1
  have B := Lib.hid (below_then B.out hb4)
  clear hb4
  refine Lib.hid ?_
  go_wp2_with (go_at_call 7; refine (HI.out _).mono ?_; rintro e w5 ⟨rfl, hb5⟩)
  go_ret
  exact ⟨rfl, below_then B.out hb5⟩
end Go.Proofs.Ytdfddmmmnmengaa
