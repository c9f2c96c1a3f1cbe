/-
  The walks of the exact laws of CoreOk, Reset and Fetches (chapter 10).
  Conditions: as each says; each walk leaves old memory as it was.
-/
import Derived.Test.YtfkllcbjakhbdaaCrB
import Derived.Test.YtfkllcbjakhbdaaCrC
namespace Go.Proofs.Ytfkllcbjakhbdaa
open Go.RowKit
set_option maxRecDepth 100000 in
set_option maxHeartbeats 4000000 in
theorem law_coreOk (a x y s p pc sq cd t lo hi vl : Int) (cr : Bool) (nx : Int) (jm : Bool) (W : World) : Calls Try.prog 3 #[.agg #[.int .i64 a, .int .i64 x, .int .i64 y, .int .i64 s, .int .i64 p, .int .i64 pc, .int .i64 sq, .int .i64 cd, .int .i64 t, .int .i64 lo, .int .i64 hi, .int .i64 vl, .bool cr, .int .i64 nx, .bool jm]] W fun e w' => e = .returned (.bool true) ∧ Below W.heap.size W w' := by
  have hl := Lib.hid lcore_size
  have HT := fun w => to_core a x y s p pc sq cd t lo hi vl cr nx jm w
  have HS := fun w => spec_coreOk a x y s p pc sq cd t lo hi vl cr nx jm w
  have HI := fun w => impl_coreOk a x y s p pc sq cd t lo hi vl cr nx jm w
  generalize okCo a x y s p pc sq cd t lo hi vl nx = d at *
  simp only [coreV_mk] at HT HS HI
  replace HT := Lib.hid HT
  replace HS := Lib.hid HS
  replace HI := Lib.hid HI
  go_enter Try.func3, Try.ntmps3
  have K := Lib.hid (blk_new W (.cells #[.int .i64 a, .int .i64 x, .int .i64 y, .int .i64 s, .int .i64 p, .int .i64 pc, .int .i64 sq, .int .i64 cd, .int .i64 t, .int .i64 lo, .int .i64 hi, .int .i64 vl, .bool cr, .int .i64 nx, .bool jm] 25))
  go_wp2_with (first | (refine load_row rfl 25 (.tmp 1) rfl W.heap.size rfl 15 _ Try.underlying25 rfl hl.out K.out rfl ?_) | (go_at_call 10; refine (HT.out _).mono ?_; rintro e w1 ⟨rfl, hb1⟩; refine Hid.out ?_))
  have K := Lib.hid (blk_below K.out hb1)
  have B := Lib.hid (below_then ((Below.refl W.heap.size W).alloc (Nat.le_refl _) _) hb1)
  clear hb1
  refine Lib.hid ?_
  go_wp2_with (go_at_call 9; refine (HS.out _).mono ?_; rintro e w2 ⟨rfl, hb2⟩; refine Hid.out ?_)
  have K := Lib.hid (blk_below K.out hb2)
  have B := Lib.hid (below_then B.out hb2)
  clear hb2
  refine Lib.hid ?_
  go_wp2_with (first
    | (refine load_row rfl 25 (.tmp 1) rfl W.heap.size rfl 15 _ Try.underlying25 rfl hl.out K.out rfl ?_)
    | (go_at_call 10; refine (HT.out _).mono ?_; rintro e w3 ⟨rfl, hb3⟩; refine Hid.out ?_))
  have B := Lib.hid (below_then B.out hb3)
  clear hb3 K
  refine Lib.hid ?_
  go_wp2_with (go_at_call 11; refine (HI.out _).mono ?_; rintro e w4 ⟨rfl, hb4⟩; refine Hid.out ?_)
  have B := Lib.hid (below_then B.out hb4)
  clear hb4
  refine Lib.hid ?_
  go_wp2
  go_ret
  exact ⟨rfl, B.out⟩
set_option maxRecDepth 100000 in
set_option maxHeartbeats 4000000 in
theorem law_fetches (a x y s p pc sq cd t lo hi vl : Int) (cr : Bool) (nx : Int) (jm : Bool) (W : World) : Calls Try.prog 5 #[.agg #[.int .i64 a, .int .i64 x, .int .i64 y, .int .i64 s, .int .i64 p, .int .i64 pc, .int .i64 sq, .int .i64 cd, .int .i64 t, .int .i64 lo, .int .i64 hi, .int .i64 vl, .bool cr, .int .i64 nx, .bool jm]] W fun e w' => e = .returned (.bool true) ∧ Below W.heap.size W w' := by
  have hl := Lib.hid lcore_size
  have HT := fun w => to_core a x y s p pc sq cd t lo hi vl cr nx jm w
  have HS := fun w => spec_fetches a x y s p pc sq cd t lo hi vl cr nx jm w
  have HI := fun w => impl_fetches a x y s p pc sq cd t lo hi vl cr nx jm w
  generalize (!jm && decide (t = 0)) = d at *
  simp only [coreV_mk] at HT HS HI
  replace HT := Lib.hid HT
  replace HS := Lib.hid HS
  replace HI := Lib.hid HI
  go_enter Try.func5, Try.ntmps5
  have K := Lib.hid (blk_new W (.cells #[.int .i64 a, .int .i64 x, .int .i64 y, .int .i64 s, .int .i64 p, .int .i64 pc, .int .i64 sq, .int .i64 cd, .int .i64 t, .int .i64 lo, .int .i64 hi, .int .i64 vl, .bool cr, .int .i64 nx, .bool jm] 25))
  go_wp2_with (first | (refine load_row rfl 25 (.tmp 1) rfl W.heap.size rfl 15 _ Try.underlying25 rfl hl.out K.out rfl ?_) | (go_at_call 10; refine (HT.out _).mono ?_; rintro e w1 ⟨rfl, hb1⟩; refine Hid.out ?_))
  have K := Lib.hid (blk_below K.out hb1)
  have B := Lib.hid (below_then ((Below.refl W.heap.size W).alloc (Nat.le_refl _) _) hb1)
  clear hb1
  refine Lib.hid ?_
  go_wp2_with (go_at_call 15; refine (HS.out _).mono ?_; rintro e w2 ⟨rfl, hb2⟩; refine Hid.out ?_)
  have K := Lib.hid (blk_below K.out hb2)
  have B := Lib.hid (below_then B.out hb2)
  clear hb2
  refine Lib.hid ?_
  go_wp2_with (first
    | (refine load_row rfl 25 (.tmp 1) rfl W.heap.size rfl 15 _ Try.underlying25 rfl hl.out K.out rfl ?_)
    | (go_at_call 10; refine (HT.out _).mono ?_; rintro e w3 ⟨rfl, hb3⟩; refine Hid.out ?_))
  have B := Lib.hid (below_then B.out hb3)
  clear hb3 K
  refine Lib.hid ?_
  go_wp2_with (go_at_call 16; refine (HI.out _).mono ?_; rintro e w4 ⟨rfl, hb4⟩; refine Hid.out ?_)
  have B := Lib.hid (below_then B.out hb4)
  clear hb4
  refine Lib.hid ?_
  go_wp2
  go_ret
  exact ⟨rfl, B.out⟩
set_option maxRecDepth 100000 in
set_option maxHeartbeats 4000000 in
theorem law_resetC (a x y s p pc sq cd t lo hi vl : Int) (cr : Bool) (nx : Int) (jm : Bool) (W : World) : Calls Try.prog 4 #[.agg #[.int .i64 a, .int .i64 x, .int .i64 y, .int .i64 s, .int .i64 p, .int .i64 pc, .int .i64 sq, .int .i64 cd, .int .i64 t, .int .i64 lo, .int .i64 hi, .int .i64 vl, .bool cr, .int .i64 nx, .bool jm]] W fun e w' => e = .returned (.bool true) ∧ Below W.heap.size W w' := by
  have hl := Lib.hid lcore_size
  have hsz := Lib.hid icore_size
  have HT := fun w => to_core a x y s p pc sq cd t lo hi vl cr nx jm w
  have HS := fun w => spec_resetC a x y s p pc sq cd t lo hi vl cr nx jm w
  have HI := fun w => impl_resetC a x y s p pc sq cd t lo hi vl cr nx jm w
  have HE := fun w => eq_core a x y s p pc sq cd 0 lo hi vl cr 3 false w
  simp only [coreV_mk] at HT HS HI HE
  replace HT := Lib.hid HT
  replace HS := Lib.hid HS
  replace HI := Lib.hid HI
  replace HE := Lib.hid HE
  go_enter Try.func4, Try.ntmps4
  have K := Lib.hid (blk_new W (.cells #[.int .i64 a, .int .i64 x, .int .i64 y, .int .i64 s, .int .i64 p, .int .i64 pc, .int .i64 sq, .int .i64 cd, .int .i64 t, .int .i64 lo, .int .i64 hi, .int .i64 vl, .bool cr, .int .i64 nx, .bool jm] 25))
  go_wp2_with (first | (refine load_row rfl 25 (.tmp 1) rfl W.heap.size rfl 15 _ Try.underlying25 rfl hl.out K.out rfl ?_) | (go_at_call 10; refine (HT.out _).mono ?_; rintro e w1 ⟨rfl, hb1⟩; refine Hid.out ?_))
  have K := Lib.hid (blk_below K.out hb1)
  have B := Lib.hid (below_then ((Below.refl W.heap.size W).alloc (Nat.le_refl _) _) hb1)
  clear hb1
  refine Lib.hid ?_
  go_wp2_with (go_at_call 12; refine (HS.out _).mono ?_; rintro e w2 ⟨rfl, hb2⟩; refine Hid.out ?_)
  have K := Lib.hid (blk_below K.out hb2)
  have B := Lib.hid (below_then B.out hb2)
  clear hb2
  refine Lib.hid ?_
  go_wp2_with (first
    | (refine load_row rfl 25 (.tmp 1) rfl W.heap.size rfl 15 _ Try.underlying25 rfl hl.out (blk_old K.out) rfl ?_)
    | (go_at_call 10; refine (HT.out _).mono ?_; rintro e w3 ⟨rfl, hb3⟩; refine Hid.out ?_))
  have K0 := Lib.hid (blk_below (blk_new w2 (.cells #[.int .i64 a, .int .i64 x, .int .i64 y, .int .i64 s, .int .i64 p, .int .i64 pc, .int .i64 sq, .int .i64 cd, .int .i64 0, .int .i64 lo, .int .i64 hi, .int .i64 vl, .bool cr, .int .i64 3, .bool false] 29)) hb3)
  have B := Lib.hid (below_then (below_alloc B.out _) hb3)
  clear hb3 K
  refine Lib.hid ?_
  go_wp2_with (go_at_call 13; refine (HI.out _).mono ?_; rintro e w4 ⟨rfl, hb4⟩; refine Hid.out ?_)
  have B := Lib.hid (below_then B.out hb4)
  have K0 := Lib.hid (blk_below K0.out hb4)
  clear hb4
  refine Lib.hid ?_
  go_wp2_with (first
    | (refine load_row rfl 29 (.tmp 4) rfl w4.heap.size rfl 15 _ Try.underlying29 rfl hsz.out (blk_new _ _) rfl ?_)
    | (refine load_row rfl 29 (.tmp 3) rfl w2.heap.size rfl 15 _ Try.underlying29 rfl hsz.out (blk_old K0.out) rfl ?_)
    | (go_at_call 14; refine (HE.out _).mono ?_; rintro e w5 ⟨rfl, hb5⟩))
  go_ret
  exact ⟨rfl, below_then (below_alloc B.out _) hb5⟩
end Go.Proofs.Ytfkllcbjakhbdaa
