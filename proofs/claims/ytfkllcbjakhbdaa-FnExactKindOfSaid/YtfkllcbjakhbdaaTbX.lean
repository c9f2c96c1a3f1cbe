/-
  The walks of the four exact laws of chapter 4: the program's functions answer as the model's.
  Conditions: none; each walk leaves old memory as it was.
-/
import Derived.Test.YtfkllcbjakhbdaaTbI
namespace Go.Proofs.Ytfkllcbjakhbdaa
open Go.RowKit
theorem sz_op (a : ByteArray) (ha : a.size ≤ maxLen) (b : ByteArray) (hb : b.size ≤ maxLen) (w : World) :
    Calls Try.prog 25 #[.agg #[.string a, .string b], .int .i64 1048576] w fun e w' => e = .returned (.int .i64 (if 1048576 < a.size + b.size then -1 else 1048576 - (a.size : Int) - (b.size : Int))) ∧ Below w.heap.size w w' := by
  unfold maxLen at ha hb
  by_cases h1 : 1048576 < a.size
  · rw [if_pos (by omega)]
    go_enter Try.func25, Try.ntmps25
    go_wp2
    go_ret
    exact ⟨rfl, below_alloc (Below.refl _ _) _⟩
  by_cases h2 : 1048576 < a.size + b.size
  · rw [if_pos h2]
    go_enter Try.func25, Try.ntmps25
    go_wp2
    go_ret
    exact ⟨rfl, below_alloc (Below.refl _ _) _⟩
  · rw [if_neg h2]
    go_enter Try.func25, Try.ntmps25
    go_wp2
    go_ret
    exact ⟨rfl, below_alloc (Below.refl _ _) _⟩
theorem to_op (a b : ByteArray) (w : World) : Calls Try.prog 26 #[.agg #[.string a, .string b]] w fun e w' => e = .returned (.agg #[.string a, .string b]) ∧ Below w.heap.size w w' := by
  go_enter Try.func26, Try.ntmps26
  go_wp2
  exact bodyPost_ret (v := .agg #[.string a, .string b]) (by simp [results, Try.results26, go_sem]) rfl ⟨rfl, (((Below.refl _ _).alloc (Nat.le_refl _) _).alloc (by simp) _).alloc (by simp; omega) _⟩
set_option maxHeartbeats 1000000 in
theorem exact_kindOf (a : ByteArray) (ha : a.size ≤ maxLen) (b : ByteArray) (hb : b.size ≤ maxLen) (w : World) :
    Calls Try.prog 7 #[.agg #[.string a, .string b]] w fun e w' => e = .returned (.bool true) ∧ Below w.heap.size w w' := by
  have HZ := Lib.hid (fun w => sz_op a ha b hb w)
  unfold maxLen at ha hb
  have HT := Lib.hid (fun w => to_op a b w)
  have HS := Lib.hid (fun w => spec_kindOf a b w)
  have HI := Lib.hid (fun w => impl_kindOf a b ha w)
  unfold opV at *
  generalize kindI a b = K at *
  obtain ⟨z, hz⟩ : ∃ z : Int, z = if 1048576 < a.size + b.size then -1 else 1048576 - (a.size : Int) - (b.size : Int) := ⟨_, rfl⟩
  rw [← hz] at HZ
  by_cases hneg : z < 0
  · clear hz
    go_enter Try.func7, Try.ntmps7
    go_wp2_with (go_at_call 25; refine (HZ.out _).mono ?_; rintro e w1 ⟨rfl, hb1⟩)
    go_ret
    exact ⟨rfl, below_then (below_alloc (Below.refl _ _) _) hb1⟩
  clear hz
  go_enter Try.func7, Try.ntmps7
  go_wp2_with (go_at_call 25; refine (HZ.out _).mono ?_; rintro e w1 ⟨rfl, hb1⟩; refine Hid.out ?_)
  have T := Lib.hid ((twoAt_new w a b 43).below (by simp) hb1)
  have L : w.heap.size < w1.heap.size := by have := hb1.size; simp at this; omega
  have L := Lib.hid L
  have B := Lib.hid (below_then (below_alloc (Below.refl w.heap.size w) (.cells #[.string a, .string b] 43)) hb1)
  clear hb1
  obtain ⟨k0, k1⟩ := T.out
  refine Lib.hid ?_
  go_wp2_with (go_at_call 26; refine (HT.out _).mono ?_; rintro e w2 ⟨rfl, hb2⟩; refine Hid.out ?_)
  clear k0 k1
  have T := Lib.hid (T.out.below L.out hb2)
  have L := Lib.hid (Nat.lt_of_lt_of_le L.out hb2.size)
  have B := Lib.hid (below_then B.out hb2)
  clear hb2
  refine Lib.hid ?_
  go_wp2_with (go_at_call 23; refine (HS.out _).mono ?_; rintro e w3 ⟨rfl, hb3⟩; refine Hid.out ?_)
  have T := Lib.hid (T.out.below L.out hb3)
  have L := Lib.hid (Nat.lt_of_lt_of_le L.out hb3.size)
  have B := Lib.hid (below_then B.out hb3)
  clear hb3
  obtain ⟨k0, k1⟩ := T.out
  refine Lib.hid ?_
  go_wp2_with (go_at_call 26; refine (HT.out _).mono ?_; rintro e w4 ⟨rfl, hb4⟩; refine Hid.out ?_)
  clear k0 k1
  have B := Lib.hid (below_then B.out hb4)
  clear hb4
  refine Lib.hid ?_
  go_wp2_with (go_at_call 20; refine (HI.out _).mono ?_; rintro e w5 ⟨rfl, hb5⟩)
  go_ret
  exact ⟨rfl, below_then B.out hb5⟩
end Go.Proofs.Ytfkllcbjakhbdaa
