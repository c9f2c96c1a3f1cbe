/-
  The walks of the four exact laws of chapter 4: the program's functions answer as the model's.
  Conditions: none; each walk leaves old memory as it was.
-/
import Derived.Test.YtigbffgcdnephaaTbI
namespace Go.Proofs.Ytigbffgcdnephaa
open Go.RowKit
theorem eq_op (a b : ByteArray) (w : World) : Calls Try.prog 22 #[.agg #[.string a, .string b], .agg #[.string a, .string b]] w fun e w' => e = .returned (.bool true) ∧ Below w.heap.size w w' := by
  go_enter Try.func22, Try.ntmps22
  go_wp2
  go_ret
  exact ⟨rfl, below_alloc (below_alloc (Below.refl _ _) _) _⟩
theorem exact_opOf (n : Int) (W : World) :
    Calls Try.prog 5 #[.int .i64 n] W fun e w' => e = .returned (.bool true) ∧ Below W.heap.size W w' := by
  have h1 := Lib.hid (spec_opOf n)
  have h2 := Lib.hid (impl_opOf n)
  generalize (opOf n).1 = a at *
  generalize (opOf n).2 = b at *
  have h3 := Lib.hid (eq_op a b)
  go_enter Try.func5, Try.ntmps5
  go_wp2_with (go_at_call 14; refine (h1.out _).mono ?_; rintro e w1 ⟨rfl, hb1⟩; refine Hid.out ?_)
  have T := Lib.hid (twoAt_new w1 a b 26)
  have hL : w1.heap.size < (w1.alloc (.cells #[.string a, .string b] 26)).heap.size := by simp
  have L := Lib.hid hL
  have B := Lib.hid (below_alloc hb1 (.cells #[.string a, .string b] 26))
  clear hL hb1
  refine Lib.hid ?_
  go_wp2_with (go_at_call 11; refine (h2.out _).mono ?_; rintro e w2 ⟨rfl, hb2⟩; refine Hid.out ?_)
  have T := T.out.below L.out hb2
  have L := Nat.lt_of_lt_of_le L.out hb2.size
  have B := Lib.hid (below_then B.out hb2)
  obtain ⟨k0, k1⟩ := T
  clear hb2
  refine Lib.hid ?_
  go_wp2_with (go_at_call 22; refine (h3.out _).mono ?_; rintro e w3 ⟨rfl, hb3⟩)
  go_ret
  exact ⟨rfl, below_then (below_alloc B.out _) hb3⟩
theorem exact_codeOf (a : ByteArray) (ha : a.size ≤ maxLen) (b : ByteArray) (hb : b.size ≤ maxLen) (W : World) :
    Calls Try.prog 6 #[.string a, .string b] W fun e w' => e = .returned (.bool true) ∧ Below W.heap.size W w' := by
  unfold maxLen at ha hb
  have h1 := Lib.hid (spec_codeOf a b)
  have h2 := Lib.hid (impl_codeOf a b ha)
  generalize codeOf a b = k at *
  by_cases ga : 1048576 < a.size
  · go_enter Try.func6, Try.ntmps6
    go_wp2
    go_ret
    exact ⟨rfl, Below.refl _ _⟩
  by_cases gb : 1048576 < b.size
  · go_enter Try.func6, Try.ntmps6
    go_wp2
    go_ret
    exact ⟨rfl, Below.refl _ _⟩
  go_enter Try.func6, Try.ntmps6
  go_wp2_with (first
    | (go_at_call 15; refine (h1.out _).mono ?_; rintro e w1 ⟨rfl, rfl⟩)
    | (go_at_call 13; refine (h2.out _).mono ?_; rintro e w2 ⟨rfl, hb2⟩))
  go_ret
  exact ⟨rfl, hb2⟩
theorem exact_modeSize (m : ByteArray) (hm : m.size ≤ maxLen) (W : World) :
    Calls Try.prog 7 #[.string m] W fun e w' => e = .returned (.bool true) ∧ Below W.heap.size W w' := by
  unfold maxLen at hm
  have h1 := Lib.hid (spec_modeSize m)
  have h2 := Lib.hid (impl_modeSize m)
  generalize modeSz m = k at *
  by_cases ga : 1048576 < m.size
  · go_enter Try.func7, Try.ntmps7
    go_wp2
    go_ret
    exact ⟨rfl, Below.refl _ _⟩
  go_enter Try.func7, Try.ntmps7
  go_wp2_with (first
    | (go_at_call 20; refine (h1.out _).mono ?_; rintro e w1 ⟨rfl, hb1⟩)
    | (go_at_call 19; refine (h2.out _).mono ?_; rintro e w2 ⟨rfl, hb2⟩))
  go_ret
  exact ⟨rfl, below_then hb1 hb2⟩
theorem sz_op (a : ByteArray) (ha : a.size ≤ maxLen) (b : ByteArray) (hb : b.size ≤ maxLen) (w : World) :
    Calls Try.prog 23 #[.agg #[.string a, .string b], .int .i64 1048576] w fun e w' => e = .returned (.int .i64 (if 1048576 < a.size + b.size then -1 else 1048576 - (a.size : Int) - (b.size : Int))) ∧ Below w.heap.size w w' := by
  unfold maxLen at ha hb
  by_cases h1 : 1048576 < a.size
  · rw [if_pos (by omega)]
    go_enter Try.func23, Try.ntmps23
    go_wp2
    go_ret
    exact ⟨rfl, below_alloc (Below.refl _ _) _⟩
  by_cases h2 : 1048576 < a.size + b.size
  · rw [if_pos h2]
    go_enter Try.func23, Try.ntmps23
    go_wp2
    go_ret
    exact ⟨rfl, below_alloc (Below.refl _ _) _⟩
  · rw [if_neg h2]
    go_enter Try.func23, Try.ntmps23
    go_wp2
    go_ret
    exact ⟨rfl, below_alloc (Below.refl _ _) _⟩
theorem to_op (a b : ByteArray) (w : World) : Calls Try.prog 24 #[.agg #[.string a, .string b]] w fun e w' => e = .returned (.agg #[.string a, .string b]) ∧ Below w.heap.size w w' := by
  go_enter Try.func24, Try.ntmps24
  go_wp2
  exact bodyPost_ret (v := .agg #[.string a, .string b]) (by simp [results, Try.results24, go_sem]) rfl ⟨rfl, (((Below.refl _ _).alloc (Nat.le_refl _) _).alloc (by simp) _).alloc (by simp; omega) _⟩
set_option maxHeartbeats 1000000 in
theorem exact_kindOf (a : ByteArray) (ha : a.size ≤ maxLen) (b : ByteArray) (hb : b.size ≤ maxLen) (w : World) :
    Calls Try.prog 8 #[.agg #[.string a, .string b]] w fun e w' => e = .returned (.bool true) ∧ Below w.heap.size w w' := by
  have HZ := Lib.hid (fun w => sz_op a ha b hb w)
  unfold maxLen at ha hb
  have HT := Lib.hid (fun w => to_op a b w)
  have HS := Lib.hid (fun w => spec_kindOf a b w)
  have HI := Lib.hid (fun w => impl_kindOf a b ha w)
  unfold opV at *
  generalize kindI a b = K at *
  obtain ⟨z, hz⟩ : ∃ z : Int, z = if 1048576 < a.size + b.size then -1 else 1048576 - (a.size : Int) - (b.size : Int) := ⟨_, rfl⟩
  rw [← hz] at HZ
  by_cases hneg : z < 0
  · clear hz
    go_enter Try.func8, Try.ntmps8
    go_wp2_with (go_at_call 23; refine (HZ.out _).mono ?_; rintro e w1 ⟨rfl, hb1⟩)
    go_ret
    exact ⟨rfl, below_then (below_alloc (Below.refl _ _) _) hb1⟩
  clear hz
  go_enter Try.func8, Try.ntmps8
  go_wp2_with (go_at_call 23; refine (HZ.out _).mono ?_; rintro e w1 ⟨rfl, hb1⟩; refine Hid.out ?_)
  have T := Lib.hid ((twoAt_new w a b 39).below (by simp) hb1)
  have L : w.heap.size < w1.heap.size := by have := hb1.size; simp at this; omega
  have L := Lib.hid L
  have B := Lib.hid (below_then (below_alloc (Below.refl w.heap.size w) (.cells #[.string a, .string b] 39)) hb1)
  clear hb1
  obtain ⟨k0, k1⟩ := T.out
  refine Lib.hid ?_
  go_wp2_with (go_at_call 24; refine (HT.out _).mono ?_; rintro e w2 ⟨rfl, hb2⟩; refine Hid.out ?_)
  clear k0 k1
  have T := Lib.hid (T.out.below L.out hb2)
  have L := Lib.hid (Nat.lt_of_lt_of_le L.out hb2.size)
  have B := Lib.hid (below_then B.out hb2)
  clear hb2
  refine Lib.hid ?_
  go_wp2_with (go_at_call 21; refine (HS.out _).mono ?_; rintro e w3 ⟨rfl, hb3⟩; refine Hid.out ?_)
  have T := Lib.hid (T.out.below L.out hb3)
  have L := Lib.hid (Nat.lt_of_lt_of_le L.out hb3.size)
  have B := Lib.hid (below_then B.out hb3)
  clear hb3
  obtain ⟨k0, k1⟩ := T.out
  refine Lib.hid ?_
  go_wp2_with (go_at_call 24; refine (HT.out _).mono ?_; rintro e w4 ⟨rfl, hb4⟩; refine Hid.out ?_)
  clear k0 k1
  have B := Lib.hid (below_then B.out hb4)
  clear hb4
  refine Lib.hid ?_
  go_wp2_with (go_at_call 18; refine (HI.out _).mono ?_; rintro e w5 ⟨rfl, hb5⟩)
  go_ret
  exact ⟨rfl, below_then B.out hb5⟩
end Go.Proofs.Ytigbffgcdnephaa
