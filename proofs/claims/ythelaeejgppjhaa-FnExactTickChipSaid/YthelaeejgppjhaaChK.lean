/-
  Contracts of the program's timers (chapter 6): taken out of a chip and put into one; their clocks; their start.
  Conditions: as each says.
-/
import Derived.Test.YthelaeejgppjhaaChJ
import Derived.Deep.RegionHeld3
namespace Go.Proofs.Ythelaeejgppjhaa
open Go.RowKit
def timC (c : ChipI) : Array Value := #[.int .i64 c.c1, .bool c.v1, .int .i64 c.l1, .bool c.ag, .int .i64 c.c2, .bool c.v2, .int .i64 c.o2]
def timV (c : ChipI) : Value := .agg (timC c)
theorem timV_mk (c1 l1 : Int) (v1 ag : Bool) (c2 o2 : Int) (v2 : Bool) (pt dr fl ms : Int) : timV ⟨c1, l1, v1, ag, c2, o2, v2, pt, dr, fl, ms⟩ = .agg #[.int .i64 c1, .bool v1, .int .i64 l1, .bool ag, .int .i64 c2, .bool v2, .int .i64 o2] := rfl
theorem tim_size : (Try.prog.info? 45).map (·.size) = some 7 := by kernel_rfl
theorem blk_new2 (w : World) (o o2 : Obj) : ((w.alloc o).alloc o2).heap[w.heap.size + 1]? = some o2 := by
  have := blk_new (w.alloc o) o2
  rwa [alloc_size] at this
theorem blk_new3 (w : World) (o o2 o3 : Obj) : (((w.alloc o).alloc o2).alloc o3).heap[w.heap.size + 2]? = some o3 := by
  have := blk_new2 (w.alloc o) o2 o3
  rwa [alloc_size] at this
set_option maxHeartbeats 1000000 in
theorem timers_of (c : ChipI) (w : World) : Calls Try.prog 23 #[chipV c] w fun e w' => e = .returned (timV c) ∧ Below w.heap.size w w' := by
  obtain ⟨c1, l1, v1, ag, c2, o2, v2, pt, dr, fl, ms⟩ := c
  rw [chipV_mk, timV_mk]
  go_enter Try.func23, Try.ntmps23
  go_wp2
  exact bodyPost_ret (results_cell_row rfl _ _ (w.heap.size + 1) _ _ _ _ rfl (blk_new2 _ _ _) Try.underlying45 rfl tim_size) rfl ⟨rfl, below_alloc (below_alloc (Below.refl _ _) _) _⟩
set_option maxRecDepth 100000 in
set_option maxHeartbeats 1000000 in
theorem put_into (c d : ChipI) (w : World) : Calls Try.prog 26 #[timV c, chipV d] w fun e w' => e = .returned (chipV { d with c1 := c.c1, v1 := c.v1, l1 := c.l1, ag := c.ag, c2 := c.c2, v2 := c.v2, o2 := c.o2 }) ∧ Below w.heap.size w w' := by
  obtain ⟨c1, l1, v1, ag, c2, o2, v2, pt, dr, fl, ms⟩ := c
  obtain ⟨dc1, dl1, dv1, dag, dc2, do2, dv2, dpt, ddr, dfl, dms⟩ := d
  have hi := Lib.hid chip_size
  rw [timV_mk, chipV_mk, chipV_mk]
  go_enter Try.func26, Try.ntmps26
  have k0 := blk_old (o := .cells #[.int .i64 0, .int .i64 0, .bool false, .bool false, .int .i64 0, .int .i64 0, .bool false, .int .i64 0, .int .i64 0, .int .i64 0, .int .i64 0] 25) (blk_old (o := .cells #[.int .i64 dc1, .int .i64 dl1, .bool dv1, .bool dag, .int .i64 dc2, .int .i64 do2, .bool dv2, .int .i64 dpt, .int .i64 ddr, .int .i64 dfl, .int .i64 dms] 25) (blk_new w (.cells #[.int .i64 c1, .bool v1, .int .i64 l1, .bool ag, .int .i64 c2, .bool v2, .int .i64 o2] 45)))
  have k1 := blk_old (o := .cells #[.int .i64 0, .int .i64 0, .bool false, .bool false, .int .i64 0, .int .i64 0, .bool false, .int .i64 0, .int .i64 0, .int .i64 0, .int .i64 0] 25) (blk_new2 w (.cells #[.int .i64 c1, .bool v1, .int .i64 l1, .bool ag, .int .i64 c2, .bool v2, .int .i64 o2] 45) (.cells #[.int .i64 dc1, .int .i64 dl1, .bool dv1, .bool dag, .int .i64 dc2, .int .i64 do2, .bool dv2, .int .i64 dpt, .int .i64 ddr, .int .i64 dfl, .int .i64 dms] 25))
  have k2 := blk_new3 w (.cells #[.int .i64 c1, .bool v1, .int .i64 l1, .bool ag, .int .i64 c2, .bool v2, .int .i64 o2] 45) (.cells #[.int .i64 dc1, .int .i64 dl1, .bool dv1, .bool dag, .int .i64 dc2, .int .i64 do2, .bool dv2, .int .i64 dpt, .int .i64 ddr, .int .i64 dfl, .int .i64 dms] 25) (.cells #[.int .i64 0, .int .i64 0, .bool false, .bool false, .int .i64 0, .int .i64 0, .bool false, .int .i64 0, .int .i64 0, .int .i64 0, .int .i64 0] 25)
  have B := below_alloc (below_alloc (below_alloc (Below.refl w.heap.size w) (.cells #[.int .i64 c1, .bool v1, .int .i64 l1, .bool ag, .int .i64 c2, .bool v2, .int .i64 o2] 45)) (.cells #[.int .i64 dc1, .int .i64 dl1, .bool dv1, .bool dag, .int .i64 dc2, .int .i64 do2, .bool dv2, .int .i64 dpt, .int .i64 ddr, .int .i64 dfl, .int .i64 dms] 25)) (.cells #[.int .i64 0, .int .i64 0, .bool false, .bool false, .int .i64 0, .int .i64 0, .bool false, .int .i64 0, .int .i64 0, .int .i64 0, .int .i64 0] 25)
  generalize hW : ((w.alloc (.cells #[.int .i64 c1, .bool v1, .int .i64 l1, .bool ag, .int .i64 c2, .bool v2, .int .i64 o2] 45)).alloc (.cells #[.int .i64 dc1, .int .i64 dl1, .bool dv1, .bool dag, .int .i64 dc2, .int .i64 do2, .bool dv2, .int .i64 dpt, .int .i64 ddr, .int .i64 dfl, .int .i64 dms] 25)).alloc (.cells #[.int .i64 0, .int .i64 0, .bool false, .bool false, .int .i64 0, .int .i64 0, .bool false, .int .i64 0, .int .i64 0, .int .i64 0, .int .i64 0] 25) = W0 at k0 k1 k2 B
  have HK0 := Lib.hid k0
  have HK1 := Lib.hid k1
  have HK2 := Lib.hid k2
  have HB := Lib.hid B
  have HW := Lib.hid hW
  clear k0 k1 k2 B hW
  go_wp2
  rw [HW.out]
  have a0 := cell_of_blk (i := 0) HK0.out rfl
  have a1 := cell_of_blk (i := 1) HK0.out rfl
  have b0 := cell_of_blk (i := 0) HK1.out rfl
  have b2 := cell_of_blk (i := 2) HK1.out rfl
  have zz := fun i => free_of_blk (i := i) HK1.out
  go_region_held3 (fun w' => ∀ i, w'.cell? ⟨w.heap.size, i, none⟩ = W0.cell? ⟨w.heap.size, i, none⟩) ((intro i; (with_reducible refine (cell_drew _ _).trans ?_); (repeat (with_reducible refine far_step ?_ (by omega))); with_reducible rfl)) (fail)
  clear zz a0 a1 b0 b2
  have k0 : ((W0.setCell ⟨w.heap.size + 1, 0, none⟩ (.int .i64 c1)).setCell ⟨w.heap.size + 1, 2, none⟩ (.bool v1)).drew.heap[w.heap.size]? = some (.cells #[.int .i64 c1, .bool v1, .int .i64 l1, .bool ag, .int .i64 c2, .bool v2, .int .i64 o2] 45 (0, 0)) := row_drew (row_far (row_far HK0.out (by omega)) (by omega))
  have k1 : ((W0.setCell ⟨w.heap.size + 1, 0, none⟩ (.int .i64 c1)).setCell ⟨w.heap.size + 1, 2, none⟩ (.bool v1)).drew.heap[w.heap.size + 1]? = some (.cells #[.int .i64 c1, .int .i64 dl1, .bool v1, .bool dag, .int .i64 dc2, .int .i64 do2, .bool dv2, .int .i64 dpt, .int .i64 ddr, .int .i64 dfl, .int .i64 dms] 25 (0, 0)) := row_drew (row_set (row_set HK1.out))
  have k2 : ((W0.setCell ⟨w.heap.size + 1, 0, none⟩ (.int .i64 c1)).setCell ⟨w.heap.size + 1, 2, none⟩ (.bool v1)).drew.heap[w.heap.size + 2]? = some (.cells #[.int .i64 0, .int .i64 0, .bool false, .bool false, .int .i64 0, .int .i64 0, .bool false, .int .i64 0, .int .i64 0, .int .i64 0, .int .i64 0] 25 (0, 0)) := row_drew (row_far (row_far HK2.out (by omega)) (by omega))
  have B : Below w.heap.size w ((W0.setCell ⟨w.heap.size + 1, 0, none⟩ (.int .i64 c1)).setCell ⟨w.heap.size + 1, 2, none⟩ (.bool v1)).drew := (below_put (below_put HB.out (by omega)) (by omega)).drew
  clear HK0 HK1 HK2 HB HW
  generalize hW : ((W0.setCell ⟨w.heap.size + 1, 0, none⟩ (.int .i64 c1)).setCell ⟨w.heap.size + 1, 2, none⟩ (.bool v1)).drew = W1 at k0 k1 k2 B
  have HK0 := Lib.hid k0
  have HK1 := Lib.hid k1
  have HK2 := Lib.hid k2
  have HB := Lib.hid B
  have HW := Lib.hid hW
  clear k0 k1 k2 B hW
  go_wp2_with fail
  have a2 := cell_of_blk (i := 2) HK0.out rfl
  have a3 := cell_of_blk (i := 3) HK0.out rfl
  have b1 := cell_of_blk (i := 1) HK1.out rfl
  have b3 := cell_of_blk (i := 3) HK1.out rfl
  have zz := fun i => free_of_blk (i := i) HK1.out
  go_region_held3 (fun w' => ∀ i, w'.cell? ⟨w.heap.size, i, none⟩ = W1.cell? ⟨w.heap.size, i, none⟩) ((intro i; (with_reducible refine (cell_drew _ _).trans ?_); (repeat (with_reducible refine far_step ?_ (by omega))); with_reducible rfl)) (fail)
  clear zz a2 a3 b1 b3
  have k0 : ((W1.setCell ⟨w.heap.size + 1, 1, none⟩ (.int .i64 l1)).setCell ⟨w.heap.size + 1, 3, none⟩ (.bool ag)).drew.heap[w.heap.size]? = some (.cells #[.int .i64 c1, .bool v1, .int .i64 l1, .bool ag, .int .i64 c2, .bool v2, .int .i64 o2] 45 (0, 0)) := row_drew (row_far (row_far HK0.out (by omega)) (by omega))
  have k1 : ((W1.setCell ⟨w.heap.size + 1, 1, none⟩ (.int .i64 l1)).setCell ⟨w.heap.size + 1, 3, none⟩ (.bool ag)).drew.heap[w.heap.size + 1]? = some (.cells #[.int .i64 c1, .int .i64 l1, .bool v1, .bool ag, .int .i64 dc2, .int .i64 do2, .bool dv2, .int .i64 dpt, .int .i64 ddr, .int .i64 dfl, .int .i64 dms] 25 (0, 0)) := row_drew (row_set (row_set HK1.out))
  have k2 : ((W1.setCell ⟨w.heap.size + 1, 1, none⟩ (.int .i64 l1)).setCell ⟨w.heap.size + 1, 3, none⟩ (.bool ag)).drew.heap[w.heap.size + 2]? = some (.cells #[.int .i64 0, .int .i64 0, .bool false, .bool false, .int .i64 0, .int .i64 0, .bool false, .int .i64 0, .int .i64 0, .int .i64 0, .int .i64 0] 25 (0, 0)) := row_drew (row_far (row_far HK2.out (by omega)) (by omega))
  have B : Below w.heap.size w ((W1.setCell ⟨w.heap.size + 1, 1, none⟩ (.int .i64 l1)).setCell ⟨w.heap.size + 1, 3, none⟩ (.bool ag)).drew := (below_put (below_put HB.out (by omega)) (by omega)).drew
  clear HK0 HK1 HK2 HB HW
  generalize hW : ((W1.setCell ⟨w.heap.size + 1, 1, none⟩ (.int .i64 l1)).setCell ⟨w.heap.size + 1, 3, none⟩ (.bool ag)).drew = W2 at k0 k1 k2 B
  have HK0 := Lib.hid k0
  have HK1 := Lib.hid k1
  have HK2 := Lib.hid k2
  have HB := Lib.hid B
  have HW := Lib.hid hW
  clear k0 k1 k2 B hW
  go_wp2_with fail
  have a4 := cell_of_blk (i := 4) HK0.out rfl
  have a5 := cell_of_blk (i := 5) HK0.out rfl
  have b4 := cell_of_blk (i := 4) HK1.out rfl
  have b6 := cell_of_blk (i := 6) HK1.out rfl
  have zz := fun i => free_of_blk (i := i) HK1.out
  go_region_held3 (fun w' => ∀ i, w'.cell? ⟨w.heap.size, i, none⟩ = W2.cell? ⟨w.heap.size, i, none⟩) ((intro i; (with_reducible refine (cell_drew _ _).trans ?_); (repeat (with_reducible refine far_step ?_ (by omega))); with_reducible rfl)) (fail)
  clear zz a4 a5 b4 b6
  have k0 : ((W2.setCell ⟨w.heap.size + 1, 4, none⟩ (.int .i64 c2)).setCell ⟨w.heap.size + 1, 6, none⟩ (.bool v2)).drew.heap[w.heap.size]? = some (.cells #[.int .i64 c1, .bool v1, .int .i64 l1, .bool ag, .int .i64 c2, .bool v2, .int .i64 o2] 45 (0, 0)) := row_drew (row_far (row_far HK0.out (by omega)) (by omega))
  have k1 : ((W2.setCell ⟨w.heap.size + 1, 4, none⟩ (.int .i64 c2)).setCell ⟨w.heap.size + 1, 6, none⟩ (.bool v2)).drew.heap[w.heap.size + 1]? = some (.cells #[.int .i64 c1, .int .i64 l1, .bool v1, .bool ag, .int .i64 c2, .int .i64 do2, .bool v2, .int .i64 dpt, .int .i64 ddr, .int .i64 dfl, .int .i64 dms] 25 (0, 0)) := row_drew (row_set (row_set HK1.out))
  have k2 : ((W2.setCell ⟨w.heap.size + 1, 4, none⟩ (.int .i64 c2)).setCell ⟨w.heap.size + 1, 6, none⟩ (.bool v2)).drew.heap[w.heap.size + 2]? = some (.cells #[.int .i64 0, .int .i64 0, .bool false, .bool false, .int .i64 0, .int .i64 0, .bool false, .int .i64 0, .int .i64 0, .int .i64 0, .int .i64 0] 25 (0, 0)) := row_drew (row_far (row_far HK2.out (by omega)) (by omega))
  have B : Below w.heap.size w ((W2.setCell ⟨w.heap.size + 1, 4, none⟩ (.int .i64 c2)).setCell ⟨w.heap.size + 1, 6, none⟩ (.bool v2)).drew := (below_put (below_put HB.out (by omega)) (by omega)).drew
  clear HK0 HK1 HK2 HB HW
  generalize hW : ((W2.setCell ⟨w.heap.size + 1, 4, none⟩ (.int .i64 c2)).setCell ⟨w.heap.size + 1, 6, none⟩ (.bool v2)).drew = W3 at k0 k1 k2 B
  have HK0 := Lib.hid k0
  have HK1 := Lib.hid k1
  have HK2 := Lib.hid k2
  have HB := Lib.hid B
  have HW := Lib.hid hW
  clear k0 k1 k2 B hW
  have a6 := cell_of_blk (i := 6) (v := .int .i64 o2) HK0.out rfl
  have b5 := cell_of_blk (i := 5) (v := .int .i64 do2) HK1.out rfl
  have zz := fun i => free_of_blk (i := i) HK1.out
  have k1 : (W3.setCell ⟨w.heap.size + 1, 5, none⟩ (.int .i64 o2)).heap[w.heap.size + 1]? = some (.cells #[.int .i64 c1, .int .i64 l1, .bool v1, .bool ag, .int .i64 c2, .int .i64 o2, .bool v2, .int .i64 dpt, .int .i64 ddr, .int .i64 dfl, .int .i64 dms] 25 (0, 0)) := row_set HK1.out
  have k2 : (W3.setCell ⟨w.heap.size + 1, 5, none⟩ (.int .i64 o2)).heap[w.heap.size + 2]? = some (.cells #[.int .i64 0, .int .i64 0, .bool false, .bool false, .int .i64 0, .int .i64 0, .bool false, .int .i64 0, .int .i64 0, .int .i64 0, .int .i64 0] 25 (0, 0)) := row_far HK2.out (by omega)
  have B : Below w.heap.size w (W3.setCell ⟨w.heap.size + 1, 5, none⟩ (.int .i64 o2)) := below_put HB.out (by omega)
  have GK1 := Lib.hid k1
  have GK2 := Lib.hid k2
  have GB := Lib.hid B
  clear k1 k2 B
  go_wp2_with (first
    | (refine load_row rfl 25 (.tmp 3) rfl (w.heap.size + 1) rfl 11 _ Try.underlying25 rfl hi.out GK1.out rfl ?_)
    | (refine store_row rfl 25 (.tmp 4) (.tmp 37) rfl (w.heap.size + 2) _ rfl rfl 11 hi.out GK2.out rfl rfl (by rfl) ?_))
  (try simp only [Exit.inBlock, Exit.then])
  refine row_post rfl rfl Try.underlying25 rfl chip_size rfl rfl (by exact GK2.out) ⟨?_, ?_⟩
  · rfl
  · exact below_row GB.out (by omega)
end Go.Proofs.Ythelaeejgppjhaa
