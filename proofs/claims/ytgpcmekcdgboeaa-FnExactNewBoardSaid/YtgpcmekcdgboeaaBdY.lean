/-
  The walk of the exact law of NewBoard (chapter 11).
  Conditions: as each says; each walk leaves old memory as it was.
-/
import Derived.Test.YtgpcmekcdgboeaaBdB
namespace Go.Proofs.Ytgpcmekcdgboeaa
open Go.RowKit
theorem lmem_size : (Try.prog.info? 27).map (·.size) = some 2 := by kernel_rfl
set_option maxRecDepth 100000 in
set_option maxHeartbeats 4000000 in
theorem law_newBoard (r : ByteArray) (hr : r.size ≤ maxLen) (o : ByteArray) (ho : o.size ≤ maxLen) (x y : Int) (w : World) : Calls Try.prog 4 #[.agg #[.string r, .string o], .int .i64 x, .int .i64 y] w fun e w' => e = .returned (.bool true) ∧ Below w.heap.size w w' := by
  have hl := Lib.hid lmem_size
  have hsz := Lib.hid iboard_size
  have HZ : ∀ w, Calls Try.prog 9 #[.agg (memC r o), .int .i64 1048576] w fun e w' => e = .returned (.int .i64 (if 1048576 < r.size + o.size then -1 else 1048576 - (r.size : Int) - (o.size : Int))) ∧ Below w.heap.size w w' := fun w => sz_mem r hr o ho w
  have HT : ∀ w, Calls Try.prog 11 #[.agg (memC r o)] w fun e w' => e = .returned (.agg (memC r o)) ∧ Below w.heap.size w w' := fun w => to_mem r o w
  have HS := fun w => spec_newBoard r o x y w
  have HI := fun w => impl_newBoard r o x y w
  have HE := fun w => eq_board (newB r o x y) w
  generalize newB r o x y = b at *
  unfold maxLen at hr ho
  obtain ⟨z, hz⟩ : ∃ z : Int, z = if 1048576 < r.size + o.size then -1 else 1048576 - (r.size : Int) - (o.size : Int) := ⟨_, rfl⟩
  rw [← hz] at HZ
  clear hz hr ho
  replace HZ := Lib.hid HZ
  replace HT := Lib.hid HT
  replace HS := Lib.hid HS
  replace HI := Lib.hid HI
  replace HE := Lib.hid HE
  rw [show (#[.string r, .string o] : Array Value) = memC r o from rfl]
  have Z := Lib.hid (blk_new w (.cells (memC r o) 27))
  have B := Lib.hid (below_alloc (Below.refl w.heap.size w) (.cells (memC r o) 27))
  go_enter Try.func4, Try.ntmps4
  go_wp2_with (first
    | (refine load_row rfl 27 (.tmp 3) rfl w.heap.size rfl 2 _ Try.underlying27 rfl hl.out Z.out rfl ?_)
    | (go_at_call 9; refine (HZ.out _).mono ?_; rintro e w1 ⟨rfl, hb⟩; refine Hid.out ?_))
  have Z := Lib.hid (blk_below Z.out hb)
  have B := Lib.hid (below_then B.out hb)
  clear hb
  by_cases hneg : z < 0
  · refine Lib.hid ?_
    go_wp2
    go_ret
    exact ⟨rfl, B.out⟩
  refine Lib.hid ?_
  go_wp2_with (first
    | (refine load_row rfl 27 (.tmp 3) rfl w.heap.size rfl 2 _ Try.underlying27 rfl hl.out Z.out rfl ?_)
    | (go_at_call 11; refine (HT.out _).mono ?_; rintro e w2 ⟨rfl, hb⟩; refine Hid.out ?_))
  have Z := Lib.hid (blk_below Z.out hb)
  have B := Lib.hid (below_then B.out hb)
  clear hb
  refine Lib.hid ?_
  go_wp2_with (go_at_call 10; refine (HS.out _).mono ?_; rintro e w3 ⟨rfl, hb⟩; refine Hid.out ?_)
  have Z := Lib.hid (blk_below Z.out hb)
  have B := Lib.hid (below_then B.out hb)
  clear hb
  refine Lib.hid ?_
  go_wp2_with (refine store_row (by rfl) 46 (.tmp 8) (.tmp 19) rfl w3.heap.size (brdC b) rfl rfl 40 hsz.out (blk_new _ _) rfl rfl (by rfl) ?_; refine Hid.out ?_)
  have Z := Lib.hid (row_row (cs := brdC b) (blk_old (o := .cells #[.int .i64 0, .int .i64 0, .int .i64 0, .int .i64 0, .int .i64 0, .int .i64 0, .int .i64 0, .int .i64 0, .int .i64 0, .int .i64 0, .int .i64 0, .int .i64 0, .bool false, .int .i64 0, .bool false, .string ⟨#[]⟩, .string ⟨#[]⟩, .int .i64 0, .int .i64 0, .bool false, .bool false, .int .i64 0, .int .i64 0, .bool false, .int .i64 0, .int .i64 0, .int .i64 0, .int .i64 0, .bool false, .bool false, .bool false, .int .i64 0, .int .i64 0, .int .i64 0, .int .i64 0, .int .i64 0, .int .i64 0, .int .i64 0, .int .i64 0, .int .i64 0] 46) Z.out) (show w.heap.size ≠ w3.heap.size by have := (Array.getElem?_eq_some_iff.1 Z.out).1; omega))
  have Z8 := Lib.hid (setRow_heap _ _ _ (brdC b) _ _ (blk_new w3 (.cells #[.int .i64 0, .int .i64 0, .int .i64 0, .int .i64 0, .int .i64 0, .int .i64 0, .int .i64 0, .int .i64 0, .int .i64 0, .int .i64 0, .int .i64 0, .int .i64 0, .bool false, .int .i64 0, .bool false, .string ⟨#[]⟩, .string ⟨#[]⟩, .int .i64 0, .int .i64 0, .bool false, .bool false, .int .i64 0, .int .i64 0, .bool false, .int .i64 0, .int .i64 0, .int .i64 0, .int .i64 0, .bool false, .bool false, .bool false, .int .i64 0, .int .i64 0, .int .i64 0, .int .i64 0, .int .i64 0, .int .i64 0, .int .i64 0, .int .i64 0, .int .i64 0] 46)))
  have B := Lib.hid (below_row (cs := brdC b) (below_alloc B.out (.cells #[.int .i64 0, .int .i64 0, .int .i64 0, .int .i64 0, .int .i64 0, .int .i64 0, .int .i64 0, .int .i64 0, .int .i64 0, .int .i64 0, .int .i64 0, .int .i64 0, .bool false, .int .i64 0, .bool false, .string ⟨#[]⟩, .string ⟨#[]⟩, .int .i64 0, .int .i64 0, .bool false, .bool false, .int .i64 0, .int .i64 0, .bool false, .int .i64 0, .int .i64 0, .int .i64 0, .int .i64 0, .bool false, .bool false, .bool false, .int .i64 0, .int .i64 0, .int .i64 0, .int .i64 0, .int .i64 0, .int .i64 0, .int .i64 0, .int .i64 0, .int .i64 0] 46)) (show w.heap.size ≤ w3.heap.size from B.out.size))
  generalize World.setRow (w3.alloc (.cells #[.int .i64 0, .int .i64 0, .int .i64 0, .int .i64 0, .int .i64 0, .int .i64 0, .int .i64 0, .int .i64 0, .int .i64 0, .int .i64 0, .int .i64 0, .int .i64 0, .bool false, .int .i64 0, .bool false, .string ⟨#[]⟩, .string ⟨#[]⟩, .int .i64 0, .int .i64 0, .bool false, .bool false, .int .i64 0, .int .i64 0, .bool false, .int .i64 0, .int .i64 0, .int .i64 0, .int .i64 0, .bool false, .bool false, .bool false, .int .i64 0, .int .i64 0, .int .i64 0, .int .i64 0, .int .i64 0, .int .i64 0, .int .i64 0, .int .i64 0, .int .i64 0] 46)) w3.heap.size (brdC b) = u0 at Z B Z8 ⊢
  generalize w3.heap.size = V8 at Z8 ⊢
  refine Lib.hid ?_
  go_wp2_with (first
    | (refine load_row rfl 27 (.tmp 3) rfl w.heap.size rfl 2 _ Try.underlying27 rfl hl.out Z.out rfl ?_)
    | (go_at_call 11; refine (HT.out _).mono ?_; rintro e w2 ⟨rfl, hb⟩; refine Hid.out ?_))
  have Z := Lib.hid (blk_below Z.out hb)
  have B := Lib.hid (below_then B.out hb)
  have Z8 := Lib.hid (blk_below Z8.out hb)
  clear hb
  refine Lib.hid ?_
  go_wp2_with (go_at_call 12; refine (HI.out _).mono ?_; rintro e w4 ⟨rfl, hb⟩; refine Hid.out ?_)
  have Z := Lib.hid (blk_below Z.out hb)
  have B := Lib.hid (below_then B.out hb)
  have Z8 := Lib.hid (blk_below Z8.out hb)
  clear hb
  refine Lib.hid ?_
  go_wp2_with (refine store_row (by rfl) 46 (.tmp 9) (.tmp 24) rfl w4.heap.size (brdC b) rfl rfl 40 hsz.out (blk_new _ _) rfl rfl (by rfl) ?_; refine Hid.out ?_)
  have Z := Lib.hid (row_row (cs := brdC b) (blk_old (o := .cells #[.int .i64 0, .int .i64 0, .int .i64 0, .int .i64 0, .int .i64 0, .int .i64 0, .int .i64 0, .int .i64 0, .int .i64 0, .int .i64 0, .int .i64 0, .int .i64 0, .bool false, .int .i64 0, .bool false, .string ⟨#[]⟩, .string ⟨#[]⟩, .int .i64 0, .int .i64 0, .bool false, .bool false, .int .i64 0, .int .i64 0, .bool false, .int .i64 0, .int .i64 0, .int .i64 0, .int .i64 0, .bool false, .bool false, .bool false, .int .i64 0, .int .i64 0, .int .i64 0, .int .i64 0, .int .i64 0, .int .i64 0, .int .i64 0, .int .i64 0, .int .i64 0] 46) Z.out) (show w.heap.size ≠ w4.heap.size by have := (Array.getElem?_eq_some_iff.1 Z.out).1; omega))
  have Z8 := Lib.hid (row_row (cs := brdC b) (blk_old (o := .cells #[.int .i64 0, .int .i64 0, .int .i64 0, .int .i64 0, .int .i64 0, .int .i64 0, .int .i64 0, .int .i64 0, .int .i64 0, .int .i64 0, .int .i64 0, .int .i64 0, .bool false, .int .i64 0, .bool false, .string ⟨#[]⟩, .string ⟨#[]⟩, .int .i64 0, .int .i64 0, .bool false, .bool false, .int .i64 0, .int .i64 0, .bool false, .int .i64 0, .int .i64 0, .int .i64 0, .int .i64 0, .bool false, .bool false, .bool false, .int .i64 0, .int .i64 0, .int .i64 0, .int .i64 0, .int .i64 0, .int .i64 0, .int .i64 0, .int .i64 0, .int .i64 0] 46) Z8.out) (show V8 ≠ w4.heap.size by have := (Array.getElem?_eq_some_iff.1 Z8.out).1; omega))
  have Z9 := Lib.hid (setRow_heap _ _ _ (brdC b) _ _ (blk_new w4 (.cells #[.int .i64 0, .int .i64 0, .int .i64 0, .int .i64 0, .int .i64 0, .int .i64 0, .int .i64 0, .int .i64 0, .int .i64 0, .int .i64 0, .int .i64 0, .int .i64 0, .bool false, .int .i64 0, .bool false, .string ⟨#[]⟩, .string ⟨#[]⟩, .int .i64 0, .int .i64 0, .bool false, .bool false, .int .i64 0, .int .i64 0, .bool false, .int .i64 0, .int .i64 0, .int .i64 0, .int .i64 0, .bool false, .bool false, .bool false, .int .i64 0, .int .i64 0, .int .i64 0, .int .i64 0, .int .i64 0, .int .i64 0, .int .i64 0, .int .i64 0, .int .i64 0] 46)))
  have B := Lib.hid (below_row (cs := brdC b) (below_alloc B.out (.cells #[.int .i64 0, .int .i64 0, .int .i64 0, .int .i64 0, .int .i64 0, .int .i64 0, .int .i64 0, .int .i64 0, .int .i64 0, .int .i64 0, .int .i64 0, .int .i64 0, .bool false, .int .i64 0, .bool false, .string ⟨#[]⟩, .string ⟨#[]⟩, .int .i64 0, .int .i64 0, .bool false, .bool false, .int .i64 0, .int .i64 0, .bool false, .int .i64 0, .int .i64 0, .int .i64 0, .int .i64 0, .bool false, .bool false, .bool false, .int .i64 0, .int .i64 0, .int .i64 0, .int .i64 0, .int .i64 0, .int .i64 0, .int .i64 0, .int .i64 0, .int .i64 0] 46)) (show w.heap.size ≤ w4.heap.size from B.out.size))
  generalize World.setRow (w4.alloc (.cells #[.int .i64 0, .int .i64 0, .int .i64 0, .int .i64 0, .int .i64 0, .int .i64 0, .int .i64 0, .int .i64 0, .int .i64 0, .int .i64 0, .int .i64 0, .int .i64 0, .bool false, .int .i64 0, .bool false, .string ⟨#[]⟩, .string ⟨#[]⟩, .int .i64 0, .int .i64 0, .bool false, .bool false, .int .i64 0, .int .i64 0, .bool false, .int .i64 0, .int .i64 0, .int .i64 0, .int .i64 0, .bool false, .bool false, .bool false, .int .i64 0, .int .i64 0, .int .i64 0, .int .i64 0, .int .i64 0, .int .i64 0, .int .i64 0, .int .i64 0, .int .i64 0] 46)) w4.heap.size (brdC b) = u1 at Z B Z9 Z8 ⊢
  generalize w4.heap.size = V9 at Z9 ⊢
  refine Lib.hid ?_
  go_wp2_with (first
    | (refine load_row rfl 46 (.tmp 9) rfl V9 rfl 40 _ Try.underlying46 rfl hsz.out Z9.out rfl ?_)
    | (refine load_row rfl 46 (.tmp 8) rfl V8 rfl 40 _ Try.underlying46 rfl hsz.out Z8.out rfl ?_)
    | (go_at_call 13; refine (HE.out _).mono ?_; rintro e w6 ⟨rfl, hb⟩))
  go_ret
  exact ⟨rfl, below_then B.out hb⟩
end Go.Proofs.Ytgpcmekcdgboeaa
