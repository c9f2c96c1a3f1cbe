/-
  The exact laws of PinsText and TickText (chapter 12).
  Conditions: none; old memory stays as it was.
-/
import Derived.Test.YtmfhdafpmfhbeaaPnC
namespace Go.Proofs.Ytmfhdafpmfhbeaa
open Go.RowKit Go.Deep Go.WideShapes Go.ChangeShapes
set_option maxRecDepth 100000 in
set_option maxHeartbeats 4000000 in
theorem to_pins (n i t r : Bool) (p : Int) (w : World) : Calls Try.prog 6 #[.agg #[.bool n, .bool i, .bool t, .bool r, .int .i64 p]] w fun e w' => e = .returned (.agg #[.bool n, .bool i, .bool t, .bool r, .int .i64 p]) ∧ Below w.heap.size w w' := by
  go_enter Try.func6, Try.ntmps6
  go_wp2
  exact bodyPost_ret (v := .agg #[.bool n, .bool i, .bool t, .bool r, .int .i64 p]) (by simp [results, Try.results6, go_sem]) rfl ⟨rfl, (((Below.refl _ _).alloc (Nat.le_refl _) _).alloc (by simp) _).alloc (by simp; omega) _⟩
set_option maxRecDepth 100000 in
set_option maxHeartbeats 4000000 in
theorem to_tick (a d : Int) (wr f : Bool) (o : Int) (n i : Bool) (w : World) : Calls Try.prog 9 #[.agg #[.int .i64 a, .int .i64 d, .bool wr, .bool f, .int .i64 o, .bool n, .bool i]] w fun e w' => e = .returned (.agg #[.int .i64 a, .int .i64 d, .bool wr, .bool f, .int .i64 o, .bool n, .bool i]) ∧ Below w.heap.size w w' := by
  go_enter Try.func9, Try.ntmps9
  go_wp2
  exact bodyPost_ret (v := .agg #[.int .i64 a, .int .i64 d, .bool wr, .bool f, .int .i64 o, .bool n, .bool i]) (by simp [results, Try.results9, go_sem]) rfl ⟨rfl, (((Below.refl _ _).alloc (Nat.le_refl _) _).alloc (by simp) _).alloc (by simp; omega) _⟩
set_option maxRecDepth 100000 in
set_option maxHeartbeats 4000000 in
theorem exact_pinsText (n i t r : Bool) (p : Int) (w : World) : Calls Try.prog 3 #[.agg #[.bool n, .bool i, .bool t, .bool r, .int .i64 p]] w fun e w' => e = .returned (.bool true) ∧ Below w.heap.size w w' := by
  have HT := Lib.hid (fun w => to_pins n i t r p w)
  have hs := fun w => spec_pinsText n i t r p w
  have hi := fun w => impl_pinsText n i t r p w
  unfold pinsV at hs hi
  generalize pinT n i t r p = T at hs hi
  replace hs := Lib.hid hs
  replace hi := Lib.hid hi
  go_enter Try.func3, Try.ntmps3
  go_wp2_with (go_at_call 6; refine (HT.out _).mono ?_; rintro e w1 ⟨rfl, hb1⟩; refine Hid.out ?_)
  have g1 := blk_below (blk_new w (Obj.cells #[.bool n, .bool i, .bool t, .bool r, .int .i64 p] 23)) hb1
  have hw1 : Below w.heap.size w w1 := below_then (below_alloc (Below.refl _ _) _) hb1
  clear hb1
  replace g1 := Lib.hid g1
  refine Lib.hid ?_
  go_wp2_with (go_at_call 5; refine (hs.out _).mono ?_; rintro e w2 ⟨rfl, hb2⟩; refine Hid.out ?_)
  have g2 := blk_below g1.out hb2
  have hw2 := below_then hw1 hb2
  clear hb2 g1 hw1
  have q0 := cell_of_blk (i := 0) (v := .bool n) g2 rfl
  have q1 := cell_of_blk (i := 1) (v := .bool i) g2 rfl
  have q2 := cell_of_blk (i := 2) (v := .bool t) g2 rfl
  have q3 := cell_of_blk (i := 3) (v := .bool r) g2 rfl
  have q4 := cell_of_blk (i := 4) (v := .int .i64 p) g2 rfl
  replace g2 := Lib.hid g2
  refine Lib.hid ?_
  go_wp2_with (go_at_call 6; refine (HT.out _).mono ?_; rintro e w3 ⟨rfl, hb3⟩; refine Hid.out ?_)
  have hw3 := below_then hw2 hb3
  clear hb3 hw2 g2 q0 q1 q2 q3 q4
  refine Lib.hid ?_
  go_wp2_with (go_at_call 7; refine (hi.out _).mono ?_; rintro e w4 ⟨rfl, hb4⟩)
  go_ret
  exact ⟨rfl, below_then hw3 hb4⟩
set_option maxRecDepth 100000 in
set_option maxHeartbeats 4000000 in
theorem exact_tickText (a d : Int) (wr f : Bool) (o : Int) (n i : Bool) (w : World) : Calls Try.prog 4 #[.agg #[.int .i64 a, .int .i64 d, .bool wr, .bool f, .int .i64 o, .bool n, .bool i]] w fun e w' => e = .returned (.bool true) ∧ Below w.heap.size w w' := by
  have HT := Lib.hid (fun w => to_tick a d wr f o n i w)
  have hs := fun w => spec_tickText a d wr f o n i w
  have hi := fun w => impl_tickText a d wr f o n i w
  unfold tickV tickC at hs hi
  generalize tickL a d wr f o n i = T at hs hi
  replace hs := Lib.hid hs
  replace hi := Lib.hid hi
  go_enter Try.func4, Try.ntmps4
  go_wp2_with (go_at_call 9; refine (HT.out _).mono ?_; rintro e w1 ⟨rfl, hb1⟩; refine Hid.out ?_)
  have g1 := blk_below (blk_new w (Obj.cells #[.int .i64 a, .int .i64 d, .bool wr, .bool f, .int .i64 o, .bool n, .bool i] 29)) hb1
  have hw1 : Below w.heap.size w w1 := below_then (below_alloc (Below.refl _ _) _) hb1
  clear hb1
  replace g1 := Lib.hid g1
  refine Lib.hid ?_
  go_wp2_with (go_at_call 8; refine (hs.out _).mono ?_; rintro e w2 ⟨rfl, hb2⟩; refine Hid.out ?_)
  have g2 := blk_below g1.out hb2
  have hw2 := below_then hw1 hb2
  clear hb2 g1 hw1
  have q0 := cell_of_blk (i := 0) (v := .int .i64 a) g2 rfl
  have q1 := cell_of_blk (i := 1) (v := .int .i64 d) g2 rfl
  have q2 := cell_of_blk (i := 2) (v := .bool wr) g2 rfl
  have q3 := cell_of_blk (i := 3) (v := .bool f) g2 rfl
  have q4 := cell_of_blk (i := 4) (v := .int .i64 o) g2 rfl
  have q5 := cell_of_blk (i := 5) (v := .bool n) g2 rfl
  have q6 := cell_of_blk (i := 6) (v := .bool i) g2 rfl
  replace g2 := Lib.hid g2
  refine Lib.hid ?_
  go_wp2_with (go_at_call 9; refine (HT.out _).mono ?_; rintro e w3 ⟨rfl, hb3⟩; refine Hid.out ?_)
  have hw3 := below_then hw2 hb3
  clear hb3 hw2 g2 q0 q1 q2 q3 q4 q5 q6
  refine Lib.hid ?_
  go_wp2_with (go_at_call 10; refine (hi.out _).mono ?_; rintro e w4 ⟨rfl, hb4⟩)
  go_ret
  exact ⟨rfl, below_then hw3 hb4⟩
end Go.Proofs.Ytmfhdafpmfhbeaa
