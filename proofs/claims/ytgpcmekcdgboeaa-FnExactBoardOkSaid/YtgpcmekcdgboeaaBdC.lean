/-
  The laws' own readings of a board (chapter 11).
  Conditions: as each says; each walk leaves old memory as it was.
-/
import Derived.Test.YtgpcmekcdgboeaaBdA
import Derived.Test.YtgpcmekcdgboeaaBdT
import Derived.Test.YtgpcmekcdgboeaaCrC
namespace Go.Proofs.Ytgpcmekcdgboeaa
open Go.RowKit
def zBrd : BrdI := ⟨⟨0, 0, 0, 0, 0, 0, 0, 0, 0, 0, 0, 0, false, 0, false⟩, ⟨#[]⟩, ⟨#[]⟩, ⟨0, 0, false, false, 0, 0, false, 0, 0, 0, 0⟩, false, false, false, ⟨0, 0, 0, 0, 0, 0, 0⟩, 0, 0⟩
theorem iboard_size : (Try.prog.info? 46).map (·.size) = some 40 := by kernel_rfl
theorem lboard_size : (Try.prog.info? 35).map (·.size) = some 40 := by kernel_rfl
set_option maxRecDepth 100000 in
set_option maxHeartbeats 4000000 in
theorem to_board (b : BrdI) (w : World) : Calls Try.prog 7 #[.agg (brdC b)] w fun e w' => e = .returned (.agg (brdC b)) ∧ Below w.heap.size w w' := by
  have h0 : ∀ w, Calls Try.prog 20 #[.agg (corC b.q)] w fun e w' => e = .returned (.agg (corC b.q)) ∧ Below w.heap.size w w' := fun w => to_core b.q.a b.q.x b.q.y b.q.s b.q.p b.q.pc b.q.sq b.q.cd b.q.t b.q.lo b.q.hi b.q.vl b.q.cr b.q.nx b.q.jm w
  have h1 : ∀ w, Calls Try.prog 11 #[.agg (memC b.r b.o)] w fun e w' => e = .returned (.agg (memC b.r b.o)) ∧ Below w.heap.size w w' := fun w => to_mem b.r b.o w
  have h2 : ∀ w, Calls Try.prog 21 #[.agg (chipC b.c)] w fun e w' => e = .returned (.agg (chipC b.c)) ∧ Below w.heap.size w w' := fun w => to_chip b.c w
  have h3 : ∀ w, Calls Try.prog 22 #[.agg (wireC b.wn b.we b.wi)] w fun e w' => e = .returned (.agg (wireC b.wn b.we b.wi)) ∧ Below w.heap.size w w' := fun w => to_wires b.wn b.we b.wi w
  have h4 : ∀ w, Calls Try.prog 23 #[.agg (keepC b.k)] w fun e w' => e = .returned (.agg (keepC b.k)) ∧ Below w.heap.size w w' := fun w => to_keep b.k w
  replace h0 := Lib.hid h0
  replace h1 := Lib.hid h1
  replace h2 := Lib.hid h2
  replace h3 := Lib.hid h3
  replace h4 := Lib.hid h4
  have hsz := Lib.hid iboard_size
  go_enter Try.func7, Try.ntmps7
  have Z0 := Lib.hid (blk_old (o := .cells (brdC zBrd) 46) (blk_old (o := .cells (brdC zBrd) 46) (blk_new w (.cells (brdC b) 35))))
  have Z1 := Lib.hid (blk_old (o := .cells (brdC zBrd) 46) (blk_new2 w (.cells (brdC b) 35) (.cells (brdC zBrd) 46)))
  have Z2 := blk_new2 (w.alloc (.cells (brdC b) 35)) (.cells (brdC zBrd) 46) (.cells (brdC zBrd) 46)
  rw [alloc_size] at Z2
  have Z2 := Lib.hid Z2
  have B := Lib.hid (below_alloc (below_alloc (below_alloc (Below.refl w.heap.size w) (.cells (brdC b) 35)) (.cells (brdC zBrd) 46)) (.cells (brdC zBrd) 46))
  go_wp2_with (first
    | (refine load_part (by rfl) 25 (.tmp 4) rfl w.heap.size 0 rfl (corC b.q) _ Try.underlying25 rfl (by kernel_rfl) Z0.out (part_core _) ?_)
    | (go_at_call 20; refine (h0.out _).mono ?_; rintro e w1 ⟨rfl, hb⟩; refine Hid.out ?_))
  have Z0 := Lib.hid (blk_below Z0.out hb)
  have Z1 := Lib.hid (blk_below Z1.out hb)
  have Z2 := Lib.hid (blk_below Z2.out hb)
  have B := Lib.hid (below_then B.out hb)
  clear hb
  refine Lib.hid ?_
  go_wp2_with (refine store_part (by rfl) 40 (.tmp 7) (.tmp 6) rfl (w.heap.size + 1 + 1) 0 (corC b.q) (brdC ⟨b.q, zBrd.r, zBrd.o, zBrd.c, zBrd.wn, zBrd.we, zBrd.wi, zBrd.k, zBrd.op, zBrd.nw⟩) rfl rfl (by kernel_rfl) Z2.out (Nat.le_of_ble_eq_true rfl) rfl rfl ?_; refine Hid.out ?_)
  have Z0 := Lib.hid (row_row (cs := (brdC ⟨b.q, zBrd.r, zBrd.o, zBrd.c, zBrd.wn, zBrd.we, zBrd.wi, zBrd.k, zBrd.op, zBrd.nw⟩)) Z0.out (show w.heap.size ≠ w.heap.size + 1 + 1 by omega))
  have Z1 := Lib.hid (row_row (cs := (brdC ⟨b.q, zBrd.r, zBrd.o, zBrd.c, zBrd.wn, zBrd.we, zBrd.wi, zBrd.k, zBrd.op, zBrd.nw⟩)) Z1.out (show w.heap.size + 1 ≠ w.heap.size + 1 + 1 by omega))
  have Z2 := Lib.hid (setRow_heap _ _ _ (brdC ⟨b.q, zBrd.r, zBrd.o, zBrd.c, zBrd.wn, zBrd.we, zBrd.wi, zBrd.k, zBrd.op, zBrd.nw⟩) _ _ Z2.out)
  have B := Lib.hid (below_row (cs := (brdC ⟨b.q, zBrd.r, zBrd.o, zBrd.c, zBrd.wn, zBrd.we, zBrd.wi, zBrd.k, zBrd.op, zBrd.nw⟩)) B.out (show w.heap.size ≤ w.heap.size + 1 + 1 by omega))
  generalize World.setRow _ (w.heap.size + 1 + 1) (brdC ⟨b.q, zBrd.r, zBrd.o, zBrd.c, zBrd.wn, zBrd.we, zBrd.wi, zBrd.k, zBrd.op, zBrd.nw⟩) = w2 at Z0 Z1 Z2 B ⊢
  clear h0
  refine Lib.hid ?_
  go_wp2_with (first
    | (refine load_part (by rfl) 27 (.tmp 8) rfl w.heap.size 15 rfl (memC b.r b.o) _ Try.underlying27 rfl (by kernel_rfl) Z0.out (part_mem _) ?_)
    | (go_at_call 11; refine (h1.out _).mono ?_; rintro e w1 ⟨rfl, hb⟩; refine Hid.out ?_))
  have Z0 := Lib.hid (blk_below Z0.out hb)
  have Z1 := Lib.hid (blk_below Z1.out hb)
  have Z2 := Lib.hid (blk_below Z2.out hb)
  have B := Lib.hid (below_then B.out hb)
  clear hb
  refine Lib.hid ?_
  go_wp2_with (refine store_part (by rfl) 41 (.tmp 11) (.tmp 10) rfl (w.heap.size + 1 + 1) 15 (memC b.r b.o) (brdC ⟨b.q, b.r, b.o, zBrd.c, zBrd.wn, zBrd.we, zBrd.wi, zBrd.k, zBrd.op, zBrd.nw⟩) rfl rfl (by kernel_rfl) Z2.out (Nat.le_of_ble_eq_true rfl) rfl rfl ?_; refine Hid.out ?_)
  have Z0 := Lib.hid (row_row (cs := (brdC ⟨b.q, b.r, b.o, zBrd.c, zBrd.wn, zBrd.we, zBrd.wi, zBrd.k, zBrd.op, zBrd.nw⟩)) Z0.out (show w.heap.size ≠ w.heap.size + 1 + 1 by omega))
  have Z1 := Lib.hid (row_row (cs := (brdC ⟨b.q, b.r, b.o, zBrd.c, zBrd.wn, zBrd.we, zBrd.wi, zBrd.k, zBrd.op, zBrd.nw⟩)) Z1.out (show w.heap.size + 1 ≠ w.heap.size + 1 + 1 by omega))
  have Z2 := Lib.hid (setRow_heap _ _ _ (brdC ⟨b.q, b.r, b.o, zBrd.c, zBrd.wn, zBrd.we, zBrd.wi, zBrd.k, zBrd.op, zBrd.nw⟩) _ _ Z2.out)
  have B := Lib.hid (below_row (cs := (brdC ⟨b.q, b.r, b.o, zBrd.c, zBrd.wn, zBrd.we, zBrd.wi, zBrd.k, zBrd.op, zBrd.nw⟩)) B.out (show w.heap.size ≤ w.heap.size + 1 + 1 by omega))
  generalize World.setRow _ (w.heap.size + 1 + 1) (brdC ⟨b.q, b.r, b.o, zBrd.c, zBrd.wn, zBrd.we, zBrd.wi, zBrd.k, zBrd.op, zBrd.nw⟩) = w2 at Z0 Z1 Z2 B ⊢
  clear h1
  refine Lib.hid ?_
  go_wp2_with (first
    | (refine load_part (by rfl) 29 (.tmp 12) rfl w.heap.size 17 rfl (chipC b.c) _ Try.underlying29 rfl (by kernel_rfl) Z0.out (part_chip _) ?_)
    | (go_at_call 21; refine (h2.out _).mono ?_; rintro e w1 ⟨rfl, hb⟩; refine Hid.out ?_))
  have Z0 := Lib.hid (blk_below Z0.out hb)
  have Z1 := Lib.hid (blk_below Z1.out hb)
  have Z2 := Lib.hid (blk_below Z2.out hb)
  have B := Lib.hid (below_then B.out hb)
  clear hb
  refine Lib.hid ?_
  go_wp2_with (refine store_part (by rfl) 42 (.tmp 15) (.tmp 14) rfl (w.heap.size + 1 + 1) 17 (chipC b.c) (brdC ⟨b.q, b.r, b.o, b.c, zBrd.wn, zBrd.we, zBrd.wi, zBrd.k, zBrd.op, zBrd.nw⟩) rfl rfl (by kernel_rfl) Z2.out (Nat.le_of_ble_eq_true rfl) rfl rfl ?_; refine Hid.out ?_)
  have Z0 := Lib.hid (row_row (cs := (brdC ⟨b.q, b.r, b.o, b.c, zBrd.wn, zBrd.we, zBrd.wi, zBrd.k, zBrd.op, zBrd.nw⟩)) Z0.out (show w.heap.size ≠ w.heap.size + 1 + 1 by omega))
  have Z1 := Lib.hid (row_row (cs := (brdC ⟨b.q, b.r, b.o, b.c, zBrd.wn, zBrd.we, zBrd.wi, zBrd.k, zBrd.op, zBrd.nw⟩)) Z1.out (show w.heap.size + 1 ≠ w.heap.size + 1 + 1 by omega))
  have Z2 := Lib.hid (setRow_heap _ _ _ (brdC ⟨b.q, b.r, b.o, b.c, zBrd.wn, zBrd.we, zBrd.wi, zBrd.k, zBrd.op, zBrd.nw⟩) _ _ Z2.out)
  have B := Lib.hid (below_row (cs := (brdC ⟨b.q, b.r, b.o, b.c, zBrd.wn, zBrd.we, zBrd.wi, zBrd.k, zBrd.op, zBrd.nw⟩)) B.out (show w.heap.size ≤ w.heap.size + 1 + 1 by omega))
  generalize World.setRow _ (w.heap.size + 1 + 1) (brdC ⟨b.q, b.r, b.o, b.c, zBrd.wn, zBrd.we, zBrd.wi, zBrd.k, zBrd.op, zBrd.nw⟩) = w2 at Z0 Z1 Z2 B ⊢
  clear h2
  refine Lib.hid ?_
  go_wp2_with (first
    | (refine load_part (by rfl) 31 (.tmp 16) rfl w.heap.size 28 rfl (wireC b.wn b.we b.wi) _ Try.underlying31 rfl (by kernel_rfl) Z0.out (part_wires _) ?_)
    | (go_at_call 22; refine (h3.out _).mono ?_; rintro e w1 ⟨rfl, hb⟩; refine Hid.out ?_))
  have Z0 := Lib.hid (blk_below Z0.out hb)
  have Z1 := Lib.hid (blk_below Z1.out hb)
  have Z2 := Lib.hid (blk_below Z2.out hb)
  have B := Lib.hid (below_then B.out hb)
  clear hb
  refine Lib.hid ?_
  go_wp2_with (refine store_part (by rfl) 43 (.tmp 19) (.tmp 18) rfl (w.heap.size + 1 + 1) 28 (wireC b.wn b.we b.wi) (brdC ⟨b.q, b.r, b.o, b.c, b.wn, b.we, b.wi, zBrd.k, zBrd.op, zBrd.nw⟩) rfl rfl (by kernel_rfl) Z2.out (Nat.le_of_ble_eq_true rfl) rfl rfl ?_; refine Hid.out ?_)
  have Z0 := Lib.hid (row_row (cs := (brdC ⟨b.q, b.r, b.o, b.c, b.wn, b.we, b.wi, zBrd.k, zBrd.op, zBrd.nw⟩)) Z0.out (show w.heap.size ≠ w.heap.size + 1 + 1 by omega))
  have Z1 := Lib.hid (row_row (cs := (brdC ⟨b.q, b.r, b.o, b.c, b.wn, b.we, b.wi, zBrd.k, zBrd.op, zBrd.nw⟩)) Z1.out (show w.heap.size + 1 ≠ w.heap.size + 1 + 1 by omega))
  have Z2 := Lib.hid (setRow_heap _ _ _ (brdC ⟨b.q, b.r, b.o, b.c, b.wn, b.we, b.wi, zBrd.k, zBrd.op, zBrd.nw⟩) _ _ Z2.out)
  have B := Lib.hid (below_row (cs := (brdC ⟨b.q, b.r, b.o, b.c, b.wn, b.we, b.wi, zBrd.k, zBrd.op, zBrd.nw⟩)) B.out (show w.heap.size ≤ w.heap.size + 1 + 1 by omega))
  generalize World.setRow _ (w.heap.size + 1 + 1) (brdC ⟨b.q, b.r, b.o, b.c, b.wn, b.we, b.wi, zBrd.k, zBrd.op, zBrd.nw⟩) = w2 at Z0 Z1 Z2 B ⊢
  clear h3
  refine Lib.hid ?_
  go_wp2_with (first
    | (refine load_part (by rfl) 33 (.tmp 20) rfl w.heap.size 31 rfl (keepC b.k) _ Try.underlying33 rfl (by kernel_rfl) Z0.out (part_keep _) ?_)
    | (go_at_call 23; refine (h4.out _).mono ?_; rintro e w1 ⟨rfl, hb⟩; refine Hid.out ?_))
  have Z0 := Lib.hid (blk_below Z0.out hb)
  have Z1 := Lib.hid (blk_below Z1.out hb)
  have Z2 := Lib.hid (blk_below Z2.out hb)
  have B := Lib.hid (below_then B.out hb)
  clear hb
  refine Lib.hid ?_
  go_wp2_with (refine store_part (by rfl) 44 (.tmp 23) (.tmp 22) rfl (w.heap.size + 1 + 1) 31 (keepC b.k) (brdC ⟨b.q, b.r, b.o, b.c, b.wn, b.we, b.wi, b.k, zBrd.op, zBrd.nw⟩) rfl rfl (by kernel_rfl) Z2.out (Nat.le_of_ble_eq_true rfl) rfl rfl ?_; refine Hid.out ?_)
  have Z0 := Lib.hid (row_row (cs := (brdC ⟨b.q, b.r, b.o, b.c, b.wn, b.we, b.wi, b.k, zBrd.op, zBrd.nw⟩)) Z0.out (show w.heap.size ≠ w.heap.size + 1 + 1 by omega))
  have Z1 := Lib.hid (row_row (cs := (brdC ⟨b.q, b.r, b.o, b.c, b.wn, b.we, b.wi, b.k, zBrd.op, zBrd.nw⟩)) Z1.out (show w.heap.size + 1 ≠ w.heap.size + 1 + 1 by omega))
  have Z2 := Lib.hid (setRow_heap _ _ _ (brdC ⟨b.q, b.r, b.o, b.c, b.wn, b.we, b.wi, b.k, zBrd.op, zBrd.nw⟩) _ _ Z2.out)
  have B := Lib.hid (below_row (cs := (brdC ⟨b.q, b.r, b.o, b.c, b.wn, b.we, b.wi, b.k, zBrd.op, zBrd.nw⟩)) B.out (show w.heap.size ≤ w.heap.size + 1 + 1 by omega))
  generalize World.setRow _ (w.heap.size + 1 + 1) (brdC ⟨b.q, b.r, b.o, b.c, b.wn, b.we, b.wi, b.k, zBrd.op, zBrd.nw⟩) = w2 at Z0 Z1 Z2 B ⊢
  clear h4
  have c38 := cell_of_blk (i := 38) (v := .int .i64 b.op) Z0.out rfl
  have c39 := cell_of_blk (i := 39) (v := .int .i64 b.nw) Z0.out rfl
  have z38 := cell_of_blk (i := 38) (v := .int .i64 0) Z2.out rfl
  have z39 := cell_of_blk (i := 39) (v := .int .i64 0) Z2.out rfl
  have f2 := fun i => free_of_blk (i := i) Z2.out
  refine Lib.hid ?_
  go_upto_region 9 with fail
  have Y2 := row_set (i := 39) (v := .int .i64 b.nw) (row_set (i := 38) (v := .int .i64 b.op) Z2.out)
  have Y2 := Lib.hid (show _ = some (Obj.cells (brdC b) 46 (0, 0)) from Y2)
  have Y1 := Lib.hid (row_far (i := 39) (v := .int .i64 b.nw) (row_far (i := 38) (v := .int .i64 b.op) Z1.out (show w.heap.size + 1 ≠ w.heap.size + 1 + 1 by omega)) (show w.heap.size + 1 ≠ w.heap.size + 1 + 1 by omega))
  have B := Lib.hid (below_put (i := 39) (v := .int .i64 b.nw) (below_put (i := 38) (v := .int .i64 b.op) B.out (show w.heap.size ≤ w.heap.size + 1 + 1 by omega)) (show w.heap.size ≤ w.heap.size + 1 + 1 by omega))
  generalize hWW : World.setCell _ ⟨w.heap.size + 1 + 1, 39, none⟩ (.int .i64 b.nw) = w3 at Y1 Y2 B ⊢
  clear hWW c38 c39 z38 z39 f2 Z0 Z1 Z2
  go_wp2_with (first | (refine load_row rfl 46 (.tmp 3) rfl (w.heap.size + 1 + 1) rfl 40 _ Try.underlying46 rfl hsz.out Y2.out rfl ?_) | (refine store_row rfl 46 (.tmp 2) (.tmp 30) rfl (w.heap.size + 1) (brdC b) rfl rfl 40 hsz.out Y1.out rfl rfl (by rfl) ?_))
  exact row_post rfl rfl Try.underlying46 rfl iboard_size rfl rfl Y1.out ⟨rfl, below_row B.out (by omega)⟩
set_option maxRecDepth 100000 in
set_option maxHeartbeats 4000000 in
theorem eq_board (b : BrdI) (w : World) : Calls Try.prog 13 #[.agg (brdC b), .agg (brdC b)] w fun e w' => e = .returned (.bool true) ∧ Below w.heap.size w w' := by
  have h0 : ∀ w, Calls Try.prog 32 #[.agg (corC b.q), .agg (corC b.q)] w fun e w' => e = .returned (.bool true) ∧ Below w.heap.size w w' := fun w => eq_core b.q.a b.q.x b.q.y b.q.s b.q.p b.q.pc b.q.sq b.q.cd b.q.t b.q.lo b.q.hi b.q.vl b.q.cr b.q.nx b.q.jm w
  have h1 : ∀ w, Calls Try.prog 33 #[.agg (memC b.r b.o), .agg (memC b.r b.o)] w fun e w' => e = .returned (.bool true) ∧ Below w.heap.size w w' := fun w => eq_mem b.r b.o w
  have h2 : ∀ w, Calls Try.prog 34 #[.agg (chipC b.c), .agg (chipC b.c)] w fun e w' => e = .returned (.bool true) ∧ Below w.heap.size w w' := fun w => eq_chip b.c w
  have h3 : ∀ w, Calls Try.prog 35 #[.agg (wireC b.wn b.we b.wi), .agg (wireC b.wn b.we b.wi)] w fun e w' => e = .returned (.bool true) ∧ Below w.heap.size w w' := fun w => eq_wires b.wn b.we b.wi w
  have h4 : ∀ w, Calls Try.prog 36 #[.agg (keepC b.k), .agg (keepC b.k)] w fun e w' => e = .returned (.bool true) ∧ Below w.heap.size w w' := fun w => eq_keep b.k w
  replace h0 := Lib.hid h0
  replace h1 := Lib.hid h1
  replace h2 := Lib.hid h2
  replace h3 := Lib.hid h3
  replace h4 := Lib.hid h4
  go_enter Try.func13, Try.ntmps13
  have Z0 := Lib.hid (blk_old (o := .cells (brdC b) 46) (blk_new w (.cells (brdC b) 46)))
  have Z1 := Lib.hid (blk_new2 w (.cells (brdC b) 46) (.cells (brdC b) 46))
  have B := Lib.hid (below_alloc (below_alloc (Below.refl w.heap.size w) (.cells (brdC b) 46)) (.cells (brdC b) 46))
  go_wp2_with (first
    | (refine load_part (by rfl) 40 (.tmp 5) rfl w.heap.size 0 rfl (corC b.q) _ Try.underlying40 rfl (by kernel_rfl) Z0.out (part_core _) ?_)
    | (refine load_part (by rfl) 40 (.tmp 7) rfl (w.heap.size + 1) 0 rfl (corC b.q) _ Try.underlying40 rfl (by kernel_rfl) Z1.out (part_core _) ?_)
    | (go_at_call 32; refine (h0.out _).mono ?_; rintro e w1 ⟨rfl, hb⟩; refine Hid.out ?_))
  have Z0 := Lib.hid (blk_below Z0.out hb)
  have Z1 := Lib.hid (blk_below Z1.out hb)
  have B := Lib.hid (below_then B.out hb)
  clear hb
  refine Lib.hid ?_
  go_wp2_with (first
    | (refine load_part (by rfl) 41 (.tmp 11) rfl w.heap.size 15 rfl (memC b.r b.o) _ Try.underlying41 rfl (by kernel_rfl) Z0.out (part_mem _) ?_)
    | (refine load_part (by rfl) 41 (.tmp 13) rfl (w.heap.size + 1) 15 rfl (memC b.r b.o) _ Try.underlying41 rfl (by kernel_rfl) Z1.out (part_mem _) ?_)
    | (go_at_call 33; refine (h1.out _).mono ?_; rintro e w1 ⟨rfl, hb⟩; refine Hid.out ?_))
  have Z0 := Lib.hid (blk_below Z0.out hb)
  have Z1 := Lib.hid (blk_below Z1.out hb)
  have B := Lib.hid (below_then B.out hb)
  clear hb
  refine Lib.hid ?_
  go_wp2_with (first
    | (refine load_part (by rfl) 42 (.tmp 17) rfl w.heap.size 17 rfl (chipC b.c) _ Try.underlying42 rfl (by kernel_rfl) Z0.out (part_chip _) ?_)
    | (refine load_part (by rfl) 42 (.tmp 19) rfl (w.heap.size + 1) 17 rfl (chipC b.c) _ Try.underlying42 rfl (by kernel_rfl) Z1.out (part_chip _) ?_)
    | (go_at_call 34; refine (h2.out _).mono ?_; rintro e w1 ⟨rfl, hb⟩; refine Hid.out ?_))
  have Z0 := Lib.hid (blk_below Z0.out hb)
  have Z1 := Lib.hid (blk_below Z1.out hb)
  have B := Lib.hid (below_then B.out hb)
  clear hb
  refine Lib.hid ?_
  go_wp2_with (first
    | (refine load_part (by rfl) 43 (.tmp 23) rfl w.heap.size 28 rfl (wireC b.wn b.we b.wi) _ Try.underlying43 rfl (by kernel_rfl) Z0.out (part_wires _) ?_)
    | (refine load_part (by rfl) 43 (.tmp 25) rfl (w.heap.size + 1) 28 rfl (wireC b.wn b.we b.wi) _ Try.underlying43 rfl (by kernel_rfl) Z1.out (part_wires _) ?_)
    | (go_at_call 35; refine (h3.out _).mono ?_; rintro e w1 ⟨rfl, hb⟩; refine Hid.out ?_))
  have Z0 := Lib.hid (blk_below Z0.out hb)
  have Z1 := Lib.hid (blk_below Z1.out hb)
  have B := Lib.hid (below_then B.out hb)
  clear hb
  refine Lib.hid ?_
  go_wp2_with (first
    | (refine load_part (by rfl) 44 (.tmp 29) rfl w.heap.size 31 rfl (keepC b.k) _ Try.underlying44 rfl (by kernel_rfl) Z0.out (part_keep _) ?_)
    | (refine load_part (by rfl) 44 (.tmp 31) rfl (w.heap.size + 1) 31 rfl (keepC b.k) _ Try.underlying44 rfl (by kernel_rfl) Z1.out (part_keep _) ?_)
    | (go_at_call 36; refine (h4.out _).mono ?_; rintro e w1 ⟨rfl, hb⟩; refine Hid.out ?_))
  have Z0 := Lib.hid (blk_below Z0.out hb)
  have Z1 := Lib.hid (blk_below Z1.out hb)
  have B := Lib.hid (below_then B.out hb)
  clear hb
  have c038 := cell_of_blk (i := 38) (v := .int .i64 b.op) Z0.out rfl
  have c039 := cell_of_blk (i := 39) (v := .int .i64 b.nw) Z0.out rfl
  have c138 := cell_of_blk (i := 38) (v := .int .i64 b.op) Z1.out rfl
  have c139 := cell_of_blk (i := 39) (v := .int .i64 b.nw) Z1.out rfl
  refine Lib.hid ?_
  go_wp2
  go_ret
  exact ⟨rfl, B.out⟩
set_option maxRecDepth 100000 in
set_option maxHeartbeats 4000000 in
theorem sz_board (b : BrdI) (hr : b.r.size ≤ maxLen) (ho : b.o.size ≤ maxLen) (w : World) : Calls Try.prog 5 #[.agg (brdC b), .int .i64 1048576] w fun e w' => e = .returned (.int .i64 (if 1048576 < b.r.size + b.o.size then -1 else 1048576 - (b.r.size : Int) - (b.o.size : Int))) ∧ Below w.heap.size w w' := by
  have HZ : ∀ w, Calls Try.prog 9 #[.agg (memC b.r b.o), .int .i64 1048576] w fun e w' => e = .returned (.int .i64 (if 1048576 < b.r.size + b.o.size then -1 else 1048576 - (b.r.size : Int) - (b.o.size : Int))) ∧ Below w.heap.size w w' := fun w => sz_mem b.r hr b.o ho w
  replace HZ := Lib.hid HZ
  unfold maxLen at hr ho
  obtain ⟨z, hz⟩ : ∃ z : Int, z = if 1048576 < b.r.size + b.o.size then -1 else 1048576 - (b.r.size : Int) - (b.o.size : Int) := ⟨_, rfl⟩
  rw [← hz] at HZ ⊢
  have Z := Lib.hid (blk_new w (.cells (brdC b) 35))
  have B := Lib.hid (below_alloc (Below.refl w.heap.size w) (.cells (brdC b) 35))
  have hz1 : z < 0 → z = -1 := by
    intro hneg
    by_cases h : 1048576 < b.r.size + b.o.size
    · rw [if_pos h] at hz; exact hz
    · rw [if_neg h] at hz; omega
  clear hz hr ho
  go_enter Try.func5, Try.ntmps5
  go_wp2_with (first
    | (refine load_part (by rfl) 27 (.tmp 5) rfl w.heap.size 15 rfl (memC b.r b.o) _ Try.underlying27 rfl (by kernel_rfl) Z.out (part_mem _) ?_)
    | (go_at_call 9; refine (HZ.out _).mono ?_; rintro e w1 ⟨rfl, hb⟩; refine Hid.out ?_))
  have B := Lib.hid (below_then B.out hb)
  clear hb
  by_cases hneg : z < 0
  · obtain rfl := hz1 hneg
    clear hz1 hneg
    refine Lib.hid ?_
    go_wp2
    go_ret
    exact ⟨rfl, B.out⟩
  · clear hz1
    refine Lib.hid ?_
    go_wp2
    go_ret
    exact ⟨rfl, B.out⟩
end Go.Proofs.Ytgpcmekcdgboeaa
