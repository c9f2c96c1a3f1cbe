/-
  The walk of the exact law of BoardOk (chapter 11).
  Conditions: as each says; each walk leaves old memory as it was.
-/
import Derived.Test.YtgpcmekcdgboeaaBdC
namespace Go.Proofs.Ytgpcmekcdgboeaa
open Go.RowKit
set_option maxRecDepth 100000 in
set_option maxHeartbeats 4000000 in
theorem exact_boardOk (b : BrdI) (hf : b.c.fits) (hr : b.r.size ≤ maxLen) (ho : b.o.size ≤ maxLen) (w : World) : Calls Try.prog 3 #[.agg (brdC b)] w fun e w' => e = .returned (.bool true) ∧ Below w.heap.size w w' := by
  have hl := Lib.hid lboard_size
  have HZ := fun w => sz_board b hr ho w
  have HT := fun w => to_board b w
  have HS := fun w => spec_boardOk b hf w
  have HI := fun w => impl_boardOk b hf w
  generalize okBd b = K at *
  unfold maxLen at hr ho
  obtain ⟨z, hz⟩ : ∃ z : Int, z = if 1048576 < b.r.size + b.o.size then -1 else 1048576 - (b.r.size : Int) - (b.o.size : Int) := ⟨_, rfl⟩
  rw [← hz] at HZ
  clear hz hf hr ho
  replace HZ := Lib.hid HZ
  replace HT := Lib.hid HT
  replace HS := Lib.hid HS
  replace HI := Lib.hid HI
  have Z := Lib.hid (blk_new w (.cells (brdC b) 35))
  have B := Lib.hid (below_alloc (Below.refl w.heap.size w) (.cells (brdC b) 35))
  go_enter Try.func3, Try.ntmps3
  go_wp2_with (first
    | (refine load_row rfl 35 (.tmp 1) rfl w.heap.size rfl 40 _ Try.underlying35 rfl hl.out Z.out rfl ?_)
    | (go_at_call 5; refine (HZ.out _).mono ?_; rintro e w1 ⟨rfl, hb⟩; refine Hid.out ?_))
  have Z := Lib.hid (blk_below Z.out hb)
  have B := Lib.hid (below_then B.out hb)
  clear hb
  by_cases hneg : z < 0
  · refine Lib.hid ?_
    go_wp2
    go_ret
    exact ⟨rfl, B.out⟩
  refine Lib.hid ?_
  go_wp2_with (first
    | (refine load_row rfl 35 (.tmp 1) rfl w.heap.size rfl 40 _ Try.underlying35 rfl hl.out Z.out rfl ?_)
    | (go_at_call 7; refine (HT.out _).mono ?_; rintro e w2 ⟨rfl, hb⟩; refine Hid.out ?_))
  have Z := Lib.hid (blk_below Z.out hb)
  have B := Lib.hid (below_then B.out hb)
  clear hb
  refine Lib.hid ?_
  go_wp2_with (go_at_call 6; refine (HS.out _).mono ?_; rintro e w3 ⟨rfl, hb⟩; refine Hid.out ?_)
  have Z := Lib.hid (blk_below Z.out hb)
  have B := Lib.hid (below_then B.out hb)
  clear hb
  refine Lib.hid ?_
  go_wp2_with (first
    | (refine load_row rfl 35 (.tmp 1) rfl w.heap.size rfl 40 _ Try.underlying35 rfl hl.out Z.out rfl ?_)
    | (go_at_call 7; refine (HT.out _).mono ?_; rintro e w4 ⟨rfl, hb⟩; refine Hid.out ?_))
  have Z := Lib.hid (blk_below Z.out hb)
  have B := Lib.hid (below_then B.out hb)
  clear hb
  refine Lib.hid ?_
  go_wp2_with (go_at_call 8; refine (HI.out _).mono ?_; rintro e w5 ⟨rfl, hb⟩; refine Hid.out ?_)
  have Z := Lib.hid (blk_below Z.out hb)
  have B := Lib.hid (below_then B.out hb)
  clear hb
  refine Lib.hid ?_
  go_wp2
  go_ret
  exact ⟨rfl, B.out⟩
theorem law_boardOk (a0 : Int) (a1 : Int) (a2 : Int) (a3 : Int) (a4 : Int) (a5 : Int) (a6 : Int) (a7 : Int) (a8 : Int) (a9 : Int) (a10 : Int) (a11 : Int) (a12 : Bool) (a13 : Int) (a14 : Bool) (a15 : ByteArray) (h15 : a15.size ≤ maxLen) (a16 : ByteArray) (h16 : a16.size ≤ maxLen) (a17 : Int) (h17 : -9223372036854775808 ≤ a17 ∧ a17 ≤ 9223372036854775807) (a18 : Int) (h18 : -9223372036854775808 ≤ a18 ∧ a18 ≤ 9223372036854775807) (a19 : Bool) (a20 : Bool) (a21 : Int) (h21 : -9223372036854775808 ≤ a21 ∧ a21 ≤ 9223372036854775807) (a22 : Int) (h22 : -9223372036854775808 ≤ a22 ∧ a22 ≤ 9223372036854775807) (a23 : Bool) (a24 : Int) (h24 : -9223372036854775808 ≤ a24 ∧ a24 ≤ 9223372036854775807) (a25 : Int) (h25 : -9223372036854775808 ≤ a25 ∧ a25 ≤ 9223372036854775807) (a26 : Int) (h26 : -9223372036854775808 ≤ a26 ∧ a26 ≤ 9223372036854775807) (a27 : Int) (h27 : -9223372036854775808 ≤ a27 ∧ a27 ≤ 9223372036854775807) (a28 : Bool) (a29 : Bool) (a30 : Bool) (a31 : Int) (a32 : Int) (a33 : Int) (a34 : Int) (a35 : Int) (a36 : Int) (a37 : Int) (a38 : Int) (a39 : Int) (W : World) : Calls Try.prog 3 #[.agg #[.int .i64 a0, .int .i64 a1, .int .i64 a2, .int .i64 a3, .int .i64 a4, .int .i64 a5, .int .i64 a6, .int .i64 a7, .int .i64 a8, .int .i64 a9, .int .i64 a10, .int .i64 a11, .bool a12, .int .i64 a13, .bool a14, .string a15, .string a16, .int .i64 a17, .int .i64 a18, .bool a19, .bool a20, .int .i64 a21, .int .i64 a22, .bool a23, .int .i64 a24, .int .i64 a25, .int .i64 a26, .int .i64 a27, .bool a28, .bool a29, .bool a30, .int .i64 a31, .int .i64 a32, .int .i64 a33, .int .i64 a34, .int .i64 a35, .int .i64 a36, .int .i64 a37, .int .i64 a38, .int .i64 a39]] W fun e w' => e = .returned (.bool true) ∧ Below W.heap.size W w' :=
  exact_boardOk ⟨⟨a0, a1, a2, a3, a4, a5, a6, a7, a8, a9, a10, a11, a12, a13, a14⟩, a15, a16, ⟨a17, a18, a19, a20, a21, a22, a23, a24, a25, a26, a27⟩, a28, a29, a30, ⟨a31, a32, a33, a34, a35, a36, a37⟩, a38, a39⟩ ⟨h17, h18, h21, h22, h24, h25, h26, h27⟩ h15 h16 W
end Go.Proofs.Ytgpcmekcdgboeaa
