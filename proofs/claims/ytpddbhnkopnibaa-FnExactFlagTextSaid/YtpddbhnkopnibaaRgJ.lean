/-
  The walks of the exact laws of chapter 3: each returns true.
  Conditions: none.
-/
import Derived.Test.YtpddbhnkopnibaaRgI
import Derived.Test.YtpddbhnkopnibaaRgH
namespace Go.Proofs.Ytpddbhnkopnibaa
open Go.RowKit
set_option maxHeartbeats 1000000 in
theorem to_regs (a x y s p pc : Int) (w : World) : Calls Try.prog 30 #[regsV a x y s p pc] w fun e w' => e = .returned (regsV a x y s p pc) ∧ Below w.heap.size w w' := by
  unfold regsV
  go_enter Try.func30, Try.ntmps30
  go_wp2
  exact bodyPost_ret (v := .agg #[.int .i64 a, .int .i64 x, .int .i64 y, .int .i64 s, .int .i64 p, .int .i64 pc]) (by simp [results, Try.results30, go_sem]) rfl ⟨rfl, (((Below.refl _ _).alloc (Nat.le_refl _) _).alloc (by simp) _).alloc (by simp; omega) _⟩
theorem exact_pushed (p : Int) (b : Bool) (w : World) : Calls Try.prog 6 #[.int .i64 p, .bool b] w fun e w' => e = .returned (.bool true) ∧ Below w.heap.size w w' := by
  have HS := Lib.hid (fun w => spec_pushed p b w)
  have HI := Lib.hid (fun w => impl_pushed p b w)
  go_enter Try.func6, Try.ntmps6
  go_wp2_with (first
    | (go_at_call 20; refine (HS.out _).mono ?_; rintro e w' ⟨rfl, rfl⟩)
    | (go_at_call 16; refine (HI.out _).mono ?_; rintro e w' ⟨rfl, rfl⟩))
  go_ret
  exact ⟨rfl, Below.refl _ _⟩
theorem exact_pulled (p : Int) (w : World) : Calls Try.prog 7 #[.int .i64 p] w fun e w' => e = .returned (.bool true) ∧ Below w.heap.size w w' := by
  have HS := Lib.hid (fun w => spec_pulled p w)
  have HI := Lib.hid (fun w => impl_pulled p w)
  go_enter Try.func7, Try.ntmps7
  go_wp2_with (first
    | (go_at_call 22; refine (HS.out _).mono ?_; rintro e w' ⟨rfl, rfl⟩)
    | (go_at_call 21; refine (HI.out _).mono ?_; rintro e w' ⟨rfl, rfl⟩))
  go_ret
  exact ⟨rfl, Below.refl _ _⟩
theorem exact_flagText (p : Int) (w : World) : Calls Try.prog 8 #[.int .i64 p] w fun e w' => e = .returned (.bool true) ∧ Below w.heap.size w w' := by
  have HS := Lib.hid (fun w => spec_flagText p w)
  have HI := Lib.hid (fun w => impl_flagText p w)
  go_enter Try.func8, Try.ntmps8
  go_wp2_with (first
    | (go_at_call 17; refine (HS.out _).mono ?_; rintro e w1 ⟨rfl, hb1⟩)
    | (go_at_call 13; refine (HI.out _).mono ?_; rintro e w2 ⟨rfl, hb2⟩))
  go_ret
  exact ⟨rfl, hb1.trans (hb2.mono hb1.size)⟩
theorem exact_readFlags (s : ByteArray) (hs : s.size ≤ maxLen) (w : World) : Calls Try.prog 9 #[.string s] w fun e w' => e = .returned (.bool true) ∧ Below w.heap.size w w' := by
  have HS := Lib.hid (fun w => spec_readFlags s w)
  have HI := Lib.hid (fun w => impl_readFlags s w hs)
  unfold maxLen at hs
  by_cases hbig : 1048576 < s.size
  · go_enter Try.func9, Try.ntmps9
    go_wp2
    go_ret
    exact ⟨rfl, Below.refl _ _⟩
  · go_enter Try.func9, Try.ntmps9
    go_wp2_with (first
      | (go_at_call 19; refine (HS.out _).mono ?_; rintro e w1 ⟨rfl, hb1⟩)
      | (go_at_call 18; refine (HI.out _).mono ?_; rintro e w2 ⟨rfl, hb2⟩))
    go_ret
    exact ⟨rfl, hb1.trans (hb2.mono hb1.size)⟩
set_option maxHeartbeats 1000000 in
theorem exact_regsOk (a x y s p pc : Int) (w : World) : Calls Try.prog 5 #[regsV a x y s p pc] w fun e w' => e = .returned (.bool true) ∧ Below w.heap.size w w' := by
  have HT := Lib.hid (fun w => to_regs a x y s p pc w)
  have HS := Lib.hid (fun w => spec_regsOk a x y s p pc w)
  have HI := Lib.hid (fun w => impl_regsOk a x y s p pc w)
  unfold regsV at *
  go_enter Try.func5, Try.ntmps5
  go_wp2_with (go_at_call 30; refine (HT.out _).mono ?_; rintro e w1 ⟨rfl, hb1⟩; refine Hid.out ?_)
  have hs1 := (six_new w a x y s p pc 40).below (by simp) hb1
  have hB1 : w.heap.size < w1.heap.size := by have := hb1.size; simp at this; omega
  have hw1 : Below w.heap.size w w1 := ((Below.refl _ _).alloc (Nat.le_refl _) _).trans (hb1.mono (by simp))
  have HX := Lib.hid hs1
  clear hb1 hs1
  refine Lib.hid ?_
  go_wp2_with (go_at_call 27; refine (HS.out _).mono ?_; rintro e w2 ⟨rfl, hb2⟩; refine Hid.out ?_)
  obtain ⟨g0, g1, g2, g3, g4, g5⟩ := HX.out.below hB1 hb2
  have hw2 : Below w.heap.size w w2 := hw1.trans (hb2.mono hw1.size)
  clear hw1 hb2 HX
  refine Lib.hid ?_
  go_wp2_with (go_at_call 30; refine (HT.out _).mono ?_; rintro e w3 ⟨rfl, hb3⟩; refine Hid.out ?_)
  have hw3 : Below w.heap.size w w3 := hw2.trans (hb3.mono hw2.size)
  clear hw2 hb3 g0 g1 g2 g3 g4 g5
  refine Lib.hid ?_
  go_wp2_with (go_at_call 25; refine (HI.out _).mono ?_; rintro e w4 ⟨rfl, hb4⟩)
  go_ret
  exact ⟨rfl, hw3.trans (hb4.mono hw3.size)⟩
set_option maxHeartbeats 1000000 in
theorem exact_regsText (a x y s p pc : Int) (w : World) : Calls Try.prog 10 #[regsV a x y s p pc] w fun e w' => e = .returned (.bool true) ∧ Below w.heap.size w w' := by
  have HT := Lib.hid (fun w => to_regs a x y s p pc w)
  have HS := Lib.hid (fun w => spec_regsText a x y s p pc w)
  have HI := Lib.hid (fun w => impl_regsText a x y s p pc w)
  unfold regsV at *
  go_enter Try.func10, Try.ntmps10
  go_wp2_with (go_at_call 30; refine (HT.out _).mono ?_; rintro e w1 ⟨rfl, hb1⟩; refine Hid.out ?_)
  have hs1 := (six_new w a x y s p pc 40).below (by simp) hb1
  have hB1 : w.heap.size < w1.heap.size := by have := hb1.size; simp at this; omega
  have hw1 : Below w.heap.size w w1 := ((Below.refl _ _).alloc (Nat.le_refl _) _).trans (hb1.mono (by simp))
  have HX := Lib.hid hs1
  clear hb1 hs1
  refine Lib.hid ?_
  go_wp2_with (go_at_call 26; refine (HS.out _).mono ?_; rintro e w2 ⟨rfl, hb2⟩; refine Hid.out ?_)
  obtain ⟨g0, g1, g2, g3, g4, g5⟩ := HX.out.below hB1 hb2
  have hw2 : Below w.heap.size w w2 := hw1.trans (hb2.mono hw1.size)
  clear hw1 hb2 HX
  refine Lib.hid ?_
  go_wp2_with (go_at_call 30; refine (HT.out _).mono ?_; rintro e w3 ⟨rfl, hb3⟩; refine Hid.out ?_)
  have hw3 : Below w.heap.size w w3 := hw2.trans (hb3.mono hw2.size)
  clear hw2 hb3 g0 g1 g2 g3 g4 g5
  refine Lib.hid ?_
  go_wp2_with (go_at_call 24; refine (HI.out _).mono ?_; rintro e w4 ⟨rfl, hb4⟩)
  go_ret
  exact ⟨rfl, hw3.trans (hb4.mono hw3.size)⟩
end Go.Proofs.Ytpddbhnkopnibaa
