/-
  Both NewBoard (chapter 11).
  Conditions: as each says; each walk leaves old memory as it was.
-/
import Derived.Test.YtgpcmekcdgboeaaBdC
import Derived.Test.YtgpcmekcdgboeaaCrB
import Derived.Test.YtgpcmekcdgboeaaHnd
namespace Go.Proofs.Ytgpcmekcdgboeaa
open Go.RowKit
/-- The board that is begun with, ahead of the question whether it is right. -/
def nbB (r o : ByteArray) (x y : Int) : BrdI := ⟨⟨0, 0, 0, 0, 36, 0, 0, 0, 0, 0, 0, 0, false, 3, false⟩, r, o, zBrd.c, false, false, false, ⟨x, y, x, y, 0, 0, 0⟩, 0, 0⟩
def newB (r o : ByteArray) (x y : Int) : BrdI := if okBd (nbB r o x y) then nbB r o x y else zBrd
theorem nb_fits (r o : ByteArray) (x y : Int) : (nbB r o x y).c.fits := by
  constructor <;> (unfold i64I nbB zBrd; simp)
set_option maxRecDepth 100000 in
set_option maxHeartbeats 4000000 in
theorem spec_newBoard (r o : ByteArray) (x y : Int) (w : World) : Calls Try.prog 10 #[.agg (memC r o), .int .i64 x, .int .i64 y] w fun e w' => e = .returned (.agg (brdC (newB r o x y))) ∧ Below w.heap.size w w' := by
  have HR : ∀ w, Calls Try.prog 30 #[.agg #[.int .i64 0, .int .i64 0, .int .i64 0, .int .i64 0, .int .i64 36, .int .i64 0, .int .i64 0, .int .i64 0, .int .i64 0, .int .i64 0, .int .i64 0, .int .i64 0, .bool false, .int .i64 0, .bool false]] w fun e w' => e = .returned (.agg (corC ⟨0, 0, 0, 0, 36, 0, 0, 0, 0, 0, 0, 0, false, 3, false⟩)) ∧ Below w.heap.size w w' := fun w => spec_resetC 0 0 0 0 36 0 0 0 0 0 0 0 false 0 false w
  have HO := fun w => spec_boardOk (nbB r o x y) (nb_fits r o x y) w
  have HV := Lib.hid (show newB r o x y = if okBd (nbB r o x y) then nbB r o x y else zBrd from rfl)
  generalize okBd (nbB r o x y) = K at *
  replace HR := Lib.hid HR
  replace HO := Lib.hid HO
  have hsz := Lib.hid iboard_size
  go_enter Try.func10, Try.ntmps10
  have Z0 := Lib.hid (blk_new w (.cells (memC r o) 41))
  have Z0 := Lib.hid (blk_old (o := .cells #[.int .i64 0, .int .i64 0, .int .i64 0, .int .i64 0, .int .i64 0, .int .i64 0, .int .i64 0, .int .i64 0, .int .i64 0, .int .i64 0, .int .i64 0, .int .i64 0, .bool false, .int .i64 0, .bool false, .string ⟨#[]⟩, .string ⟨#[]⟩, .int .i64 0, .int .i64 0, .bool false, .bool false, .int .i64 0, .int .i64 0, .bool false, .int .i64 0, .int .i64 0, .int .i64 0, .int .i64 0, .bool false, .bool false, .bool false, .int .i64 0, .int .i64 0, .int .i64 0, .int .i64 0, .int .i64 0, .int .i64 0, .int .i64 0, .int .i64 0, .int .i64 0] 46) Z0.out)
  have Z1 := Lib.hid (blk_new2 w (.cells (memC r o) 41) (.cells #[.int .i64 0, .int .i64 0, .int .i64 0, .int .i64 0, .int .i64 0, .int .i64 0, .int .i64 0, .int .i64 0, .int .i64 0, .int .i64 0, .int .i64 0, .int .i64 0, .bool false, .int .i64 0, .bool false, .string ⟨#[]⟩, .string ⟨#[]⟩, .int .i64 0, .int .i64 0, .bool false, .bool false, .int .i64 0, .int .i64 0, .bool false, .int .i64 0, .int .i64 0, .int .i64 0, .int .i64 0, .bool false, .bool false, .bool false, .int .i64 0, .int .i64 0, .int .i64 0, .int .i64 0, .int .i64 0, .int .i64 0, .int .i64 0, .int .i64 0, .int .i64 0] 46))
  have B := Lib.hid (below_alloc (below_alloc (Below.refl w.heap.size w) (.cells (memC r o) 41)) (.cells #[.int .i64 0, .int .i64 0, .int .i64 0, .int .i64 0, .int .i64 0, .int .i64 0, .int .i64 0, .int .i64 0, .int .i64 0, .int .i64 0, .int .i64 0, .int .i64 0, .bool false, .int .i64 0, .bool false, .string ⟨#[]⟩, .string ⟨#[]⟩, .int .i64 0, .int .i64 0, .bool false, .bool false, .int .i64 0, .int .i64 0, .bool false, .int .i64 0, .int .i64 0, .int .i64 0, .int .i64 0, .bool false, .bool false, .bool false, .int .i64 0, .int .i64 0, .int .i64 0, .int .i64 0, .int .i64 0, .int .i64 0, .int .i64 0, .int .i64 0, .int .i64 0] 46))
  go_upto_region 1 with fail
  have hz0 : ((w.alloc (.cells (memC r o) 41)).alloc (.cells #[.int .i64 0, .int .i64 0, .int .i64 0, .int .i64 0, .int .i64 0, .int .i64 0, .int .i64 0, .int .i64 0, .int .i64 0, .int .i64 0, .int .i64 0, .int .i64 0, .bool false, .int .i64 0, .bool false, .string ⟨#[]⟩, .string ⟨#[]⟩, .int .i64 0, .int .i64 0, .bool false, .bool false, .int .i64 0, .int .i64 0, .bool false, .int .i64 0, .int .i64 0, .int .i64 0, .int .i64 0, .bool false, .bool false, .bool false, .int .i64 0, .int .i64 0, .int .i64 0, .int .i64 0, .int .i64 0, .int .i64 0, .int .i64 0, .int .i64 0, .int .i64 0] 46)).heap.size = w.heap.size + 1 + 1 := by rw [alloc_size, alloc_size]
  generalize (w.alloc (.cells (memC r o) 41)).alloc (.cells #[.int .i64 0, .int .i64 0, .int .i64 0, .int .i64 0, .int .i64 0, .int .i64 0, .int .i64 0, .int .i64 0, .int .i64 0, .int .i64 0, .int .i64 0, .int .i64 0, .bool false, .int .i64 0, .bool false, .string ⟨#[]⟩, .string ⟨#[]⟩, .int .i64 0, .int .i64 0, .bool false, .bool false, .int .i64 0, .int .i64 0, .bool false, .int .i64 0, .int .i64 0, .int .i64 0, .int .i64 0, .bool false, .bool false, .bool false, .int .i64 0, .int .i64 0, .int .i64 0, .int .i64 0, .int .i64 0, .int .i64 0, .int .i64 0, .int .i64 0, .int .i64 0] 46) = w0 at hz0 Z0 Z1 B ⊢
  have Z1 := Lib.hid (show w0.heap[w.heap.size + 1]? = some (.cells (brdC zBrd) 46 (0, 0)) from Z1.out)
  have hms : Hid ((Try.prog.info? 41).map (·.size) = some 2) := Lib.hid (by kernel_rfl)
  have Z2 := blk_new w0 (.cells #[.int .i64 0, .int .i64 0, .int .i64 0, .int .i64 0, .int .i64 0, .int .i64 0, .int .i64 0, .int .i64 0, .int .i64 0, .int .i64 0, .int .i64 0, .int .i64 0, .bool false, .int .i64 0, .bool false, .string ⟨#[]⟩, .string ⟨#[]⟩, .int .i64 0, .int .i64 0, .bool false, .bool false, .int .i64 0, .int .i64 0, .bool false, .int .i64 0, .int .i64 0, .int .i64 0, .int .i64 0, .bool false, .bool false, .bool false, .int .i64 0, .int .i64 0, .int .i64 0, .int .i64 0, .int .i64 0, .int .i64 0, .int .i64 0, .int .i64 0, .int .i64 0] 46)
  rw [hz0] at Z2
  have Z2 := Lib.hid Z2
  go_wp2_with (first
    | (refine load_row rfl 41 (.tmp 3) rfl w.heap.size rfl 2 _ Try.underlying41 rfl hms.out Z0.out rfl ?_)
    | (refine wpList_buildTo (by rfl) 46 _ rfl (some 14) rfl (brdC ⟨zBrd.q, r, o, zBrd.c, false, false, false, ⟨x, y, x, y, 0, 0, 0⟩, 0, 0⟩) (by kernel_rfl) ?_)
    | (refine store_row (by rfl) 46 (.tmp 7) (.tmp 14) rfl (w.heap.size + 1 + 1) (brdC ⟨zBrd.q, r, o, zBrd.c, false, false, false, ⟨x, y, x, y, 0, 0, 0⟩, 0, 0⟩) rfl rfl 40 hsz.out Z2.out rfl rfl (by rfl) ?_; refine Hid.out ?_))
  have Z1 := Lib.hid (row_row (cs := (brdC ⟨zBrd.q, r, o, zBrd.c, false, false, false, ⟨x, y, x, y, 0, 0, 0⟩, 0, 0⟩)) (blk_old (o := .cells #[.int .i64 0, .int .i64 0, .int .i64 0, .int .i64 0, .int .i64 0, .int .i64 0, .int .i64 0, .int .i64 0, .int .i64 0, .int .i64 0, .int .i64 0, .int .i64 0, .bool false, .int .i64 0, .bool false, .string ⟨#[]⟩, .string ⟨#[]⟩, .int .i64 0, .int .i64 0, .bool false, .bool false, .int .i64 0, .int .i64 0, .bool false, .int .i64 0, .int .i64 0, .int .i64 0, .int .i64 0, .bool false, .bool false, .bool false, .int .i64 0, .int .i64 0, .int .i64 0, .int .i64 0, .int .i64 0, .int .i64 0, .int .i64 0, .int .i64 0, .int .i64 0] 46) Z1.out) (show w.heap.size + 1 ≠ w.heap.size + 1 + 1 by omega))
  have Z2 := Lib.hid (setRow_heap _ _ _ (brdC ⟨zBrd.q, r, o, zBrd.c, false, false, false, ⟨x, y, x, y, 0, 0, 0⟩, 0, 0⟩) _ _ Z2.out)
  have B := Lib.hid (below_row (cs := (brdC ⟨zBrd.q, r, o, zBrd.c, false, false, false, ⟨x, y, x, y, 0, 0, 0⟩, 0, 0⟩)) (below_alloc B.out (.cells #[.int .i64 0, .int .i64 0, .int .i64 0, .int .i64 0, .int .i64 0, .int .i64 0, .int .i64 0, .int .i64 0, .int .i64 0, .int .i64 0, .int .i64 0, .int .i64 0, .bool false, .int .i64 0, .bool false, .string ⟨#[]⟩, .string ⟨#[]⟩, .int .i64 0, .int .i64 0, .bool false, .bool false, .int .i64 0, .int .i64 0, .bool false, .int .i64 0, .int .i64 0, .int .i64 0, .int .i64 0, .bool false, .bool false, .bool false, .int .i64 0, .int .i64 0, .int .i64 0, .int .i64 0, .int .i64 0, .int .i64 0, .int .i64 0, .int .i64 0, .int .i64 0] 46)) (show w.heap.size ≤ w.heap.size + 1 + 1 by omega))
  clear Z0 hms hz0
  generalize World.setRow _ (w.heap.size + 1 + 1) (brdC ⟨zBrd.q, r, o, zBrd.c, false, false, false, ⟨x, y, x, y, 0, 0, 0⟩, 0, 0⟩) = w2 at Z1 Z2 B ⊢
  refine Lib.hid ?_
  go_wp2_with (go_at_call 30; refine (HR.out _).mono ?_; rintro e w3 ⟨rfl, hb⟩; refine Hid.out ?_)
  have Z1 := Lib.hid (blk_below Z1.out hb)
  have Z2 := Lib.hid (blk_below Z2.out hb)
  have B := Lib.hid (below_then B.out hb)
  clear hb
  refine Lib.hid ?_
  go_wp2_with (refine store_part (by rfl) 40 (.tmp 18) (.tmp 17) rfl (w.heap.size + 1 + 1) 0 (corC ⟨0, 0, 0, 0, 36, 0, 0, 0, 0, 0, 0, 0, false, 3, false⟩) (brdC (nbB r o x y)) rfl rfl (by kernel_rfl) Z2.out (Nat.le_of_ble_eq_true rfl) rfl rfl ?_; refine Hid.out ?_)
  have Z1 := Lib.hid (row_row (cs := brdC (nbB r o x y)) Z1.out (show w.heap.size + 1 ≠ w.heap.size + 1 + 1 by omega))
  have Z2 := Lib.hid (setRow_heap _ _ _ (brdC (nbB r o x y)) _ _ Z2.out)
  have B := Lib.hid (below_row (cs := brdC (nbB r o x y)) B.out (show w.heap.size ≤ w.heap.size + 1 + 1 by omega))
  generalize World.setRow _ (w.heap.size + 1 + 1) (brdC (nbB r o x y)) = w2 at Z1 Z2 B ⊢
  clear HR
  refine Lib.hid ?_
  go_wp2_with (first
    | (refine load_row rfl 46 (.tmp 7) rfl (w.heap.size + 1 + 1) rfl 40 _ Try.underlying46 rfl hsz.out Z2.out rfl ?_)
    | (go_at_call 6; refine (HO.out _).mono ?_; rintro e w4 ⟨rfl, hb⟩; refine Hid.out ?_))
  have Z1 := Lib.hid (blk_below Z1.out hb)
  have Z2 := Lib.hid (blk_below Z2.out hb)
  have B := Lib.hid (below_then B.out hb)
  clear hb
  cases K
  · have HW := Lib.hid (show newB r o x y = zBrd by rw [HV.out]; rfl)
    clear HV
    refine Lib.hid ?_
    go_wp2_with (refine store_row (by rfl) 46 (.tmp 6) (.tmp 22) rfl (w.heap.size + 1) (brdC zBrd) rfl rfl 40 hsz.out Z1.out rfl rfl (by rfl) ?_)
    exact row_post rfl rfl Try.underlying46 rfl iboard_size rfl rfl Z1.out ⟨by rw [HW.out], below_row B.out (by omega)⟩
  · have HW := Lib.hid (show newB r o x y = nbB r o x y by rw [HV.out]; rfl)
    clear HV
    refine Lib.hid ?_
    go_wp2_with (first | (refine load_row rfl 46 (.tmp 7) rfl (w.heap.size + 1 + 1) rfl 40 _ Try.underlying46 rfl hsz.out Z2.out rfl ?_) | (refine store_row (by rfl) 46 (.tmp 6) (.tmp 23) rfl (w.heap.size + 1) (brdC (nbB r o x y)) rfl rfl 40 hsz.out Z1.out rfl rfl (by rfl) ?_))
    exact row_post rfl rfl Try.underlying46 rfl iboard_size rfl rfl Z1.out ⟨by rw [HW.out], below_row B.out (by omega)⟩
theorem below_then2 {C : Nat} {u v w : World} (h : Below u.heap.size u v) (h2 : Below v.heap.size v w) (_ : v.heap.size = C) : Below u.heap.size u w := below_then h h2
set_option maxRecDepth 100000 in
set_option maxHeartbeats 4000000 in
theorem impl_newBoard (r o : ByteArray) (x y : Int) (w : World) : Calls Try.prog 12 #[.agg (memC r o), .int .i64 x, .int .i64 y] w fun e w' => e = .returned (.agg (brdC (newB r o x y))) ∧ Below w.heap.size w w' := by
  have HR : ∀ w, Calls Try.prog 31 #[.agg #[.int .i64 0, .int .i64 0, .int .i64 0, .int .i64 0, .int .i64 36, .int .i64 0, .int .i64 0, .int .i64 0, .int .i64 0, .int .i64 0, .int .i64 0, .int .i64 0, .bool false, .int .i64 0, .bool false]] w fun e w' => e = .returned (.agg (corC ⟨0, 0, 0, 0, 36, 0, 0, 0, 0, 0, 0, 0, false, 3, false⟩)) ∧ Below w.heap.size w w' := fun w => impl_resetC 0 0 0 0 36 0 0 0 0 0 0 0 false 0 false w
  have HO := fun w => impl_boardOk (nbB r o x y) (nb_fits r o x y) w
  have HV := Lib.hid (show newB r o x y = if okBd (nbB r o x y) then nbB r o x y else zBrd from rfl)
  generalize okBd (nbB r o x y) = K at *
  replace HR := Lib.hid HR
  replace HO := Lib.hid HO
  have hsz := Lib.hid iboard_size
  go_enter Try.func12, Try.ntmps12
  have Z0 := Lib.hid (blk_new w (.cells (memC r o) 41))
  have Z0 := Lib.hid (blk_old (o := .cells #[.int .i64 0, .int .i64 0, .int .i64 0, .int .i64 0, .int .i64 0, .int .i64 0, .int .i64 0, .int .i64 0, .int .i64 0, .int .i64 0, .int .i64 0, .int .i64 0, .bool false, .int .i64 0, .bool false, .string ⟨#[]⟩, .string ⟨#[]⟩, .int .i64 0, .int .i64 0, .bool false, .bool false, .int .i64 0, .int .i64 0, .bool false, .int .i64 0, .int .i64 0, .int .i64 0, .int .i64 0, .bool false, .bool false, .bool false, .int .i64 0, .int .i64 0, .int .i64 0, .int .i64 0, .int .i64 0, .int .i64 0, .int .i64 0, .int .i64 0, .int .i64 0] 46) Z0.out)
  have Z1 := Lib.hid (blk_new2 w (.cells (memC r o) 41) (.cells #[.int .i64 0, .int .i64 0, .int .i64 0, .int .i64 0, .int .i64 0, .int .i64 0, .int .i64 0, .int .i64 0, .int .i64 0, .int .i64 0, .int .i64 0, .int .i64 0, .bool false, .int .i64 0, .bool false, .string ⟨#[]⟩, .string ⟨#[]⟩, .int .i64 0, .int .i64 0, .bool false, .bool false, .int .i64 0, .int .i64 0, .bool false, .int .i64 0, .int .i64 0, .int .i64 0, .int .i64 0, .bool false, .bool false, .bool false, .int .i64 0, .int .i64 0, .int .i64 0, .int .i64 0, .int .i64 0, .int .i64 0, .int .i64 0, .int .i64 0, .int .i64 0] 46))
  have B := Lib.hid (below_alloc (below_alloc (Below.refl w.heap.size w) (.cells (memC r o) 41)) (.cells #[.int .i64 0, .int .i64 0, .int .i64 0, .int .i64 0, .int .i64 0, .int .i64 0, .int .i64 0, .int .i64 0, .int .i64 0, .int .i64 0, .int .i64 0, .int .i64 0, .bool false, .int .i64 0, .bool false, .string ⟨#[]⟩, .string ⟨#[]⟩, .int .i64 0, .int .i64 0, .bool false, .bool false, .int .i64 0, .int .i64 0, .bool false, .int .i64 0, .int .i64 0, .int .i64 0, .int .i64 0, .bool false, .bool false, .bool false, .int .i64 0, .int .i64 0, .int .i64 0, .int .i64 0, .int .i64 0, .int .i64 0, .int .i64 0, .int .i64 0, .int .i64 0] 46))
  go_upto_region 1 with fail
  have hz0 : ((w.alloc (.cells (memC r o) 41)).alloc (.cells #[.int .i64 0, .int .i64 0, .int .i64 0, .int .i64 0, .int .i64 0, .int .i64 0, .int .i64 0, .int .i64 0, .int .i64 0, .int .i64 0, .int .i64 0, .int .i64 0, .bool false, .int .i64 0, .bool false, .string ⟨#[]⟩, .string ⟨#[]⟩, .int .i64 0, .int .i64 0, .bool false, .bool false, .int .i64 0, .int .i64 0, .bool false, .int .i64 0, .int .i64 0, .int .i64 0, .int .i64 0, .bool false, .bool false, .bool false, .int .i64 0, .int .i64 0, .int .i64 0, .int .i64 0, .int .i64 0, .int .i64 0, .int .i64 0, .int .i64 0, .int .i64 0] 46)).heap.size = w.heap.size + 1 + 1 := by rw [alloc_size, alloc_size]
  generalize (w.alloc (.cells (memC r o) 41)).alloc (.cells #[.int .i64 0, .int .i64 0, .int .i64 0, .int .i64 0, .int .i64 0, .int .i64 0, .int .i64 0, .int .i64 0, .int .i64 0, .int .i64 0, .int .i64 0, .int .i64 0, .bool false, .int .i64 0, .bool false, .string ⟨#[]⟩, .string ⟨#[]⟩, .int .i64 0, .int .i64 0, .bool false, .bool false, .int .i64 0, .int .i64 0, .bool false, .int .i64 0, .int .i64 0, .int .i64 0, .int .i64 0, .bool false, .bool false, .bool false, .int .i64 0, .int .i64 0, .int .i64 0, .int .i64 0, .int .i64 0, .int .i64 0, .int .i64 0, .int .i64 0, .int .i64 0] 46) = w0 at hz0 Z0 Z1 B ⊢
  have Z1 := Lib.hid (show w0.heap[w.heap.size + 1]? = some (.cells (brdC zBrd) 46 (0, 0)) from Z1.out)
  replace hz0 := Lib.hid hz0
  refine wp_region_held_drew (S := fun w' => Hid (Below w0.heap.size w0 w')) (by kernel_rfl) (Lib.hid (Below.refl _ _).drew) (fun hHeld => ?_)
  refine wpAnyH_take (i := 0) (oi := _) rfl (by kernel_rfl) (by kernel_rfl) (by kernel_rfl) (fun _ _ _ h => h) (yields_build (by rfl) 38 _ rfl #[.int .i64 0, .int .i64 0, .int .i64 0, .int .i64 0, .int .i64 36, .int .i64 0] (by kernel_rfl)) hHeld ?_
  (try simp only [Act.put, List.getElem_toArray, List.getElem_cons_zero, List.setIfInBounds_toArray, List.set_cons_zero, List.set_cons_succ])
  refine wpAnyH_take (i := 1) (oi := _) rfl (by kernel_rfl) (by kernel_rfl) (by kernel_rfl) (fun _ _ _ h => h) (yields_build (by rfl) 40 _ rfl #[.int .i64 0, .int .i64 0, .int .i64 0, .int .i64 0, .int .i64 36, .int .i64 0, .int .i64 0, .int .i64 0, .int .i64 0, .int .i64 0, .int .i64 0, .int .i64 0, .bool false, .int .i64 0, .bool false] (by kernel_rfl)) hHeld ?_
  (try simp only [Act.put, List.getElem_toArray, List.getElem_cons_zero, List.getElem_cons_succ, List.setIfInBounds_toArray, List.set_cons_zero, List.set_cons_succ])
  refine wpAnyH_take (i := 3) (oi := _) rfl (by kernel_rfl) (by kernel_rfl) (by kernel_rfl) (fun _ _ _ h => h) (yields_load_part (by rfl) 41 (.tmp 3) rfl w.heap.size 0 rfl (memC r o) _ Try.underlying41 rfl (by kernel_rfl) rfl (fun u hS => blk_below Z0.out (Hid.out hS))) hHeld ?_
  (try simp only [Act.put, List.getElem_toArray, List.getElem_cons_zero, List.getElem_cons_succ, List.setIfInBounds_toArray, List.set_cons_zero, List.set_cons_succ])
  refine wpAnyH_take (i := 4) (oi := _) rfl (by kernel_rfl) (by kernel_rfl) (by kernel_rfl) (fun _ _ _ h => h) (yields_move (by rfl) (.tmp 1) rfl (.int .i64 x) rfl) hHeld ?_
  (try simp only [Act.put, List.getElem_toArray, List.getElem_cons_zero, List.getElem_cons_succ, List.setIfInBounds_toArray, List.set_cons_zero, List.set_cons_succ])
  refine wpAnyH_take (i := 5) (oi := _) rfl (by kernel_rfl) (by kernel_rfl) (by kernel_rfl) (fun _ _ _ h => h) (yields_move (by rfl) (.tmp 2) rfl (.int .i64 y) rfl) hHeld ?_
  (try simp only [Act.put, List.getElem_toArray, List.getElem_cons_zero, List.getElem_cons_succ, List.setIfInBounds_toArray, List.set_cons_zero, List.set_cons_succ])
  refine wpAnyH_take (i := 6) (oi := _) rfl (by kernel_rfl) (by kernel_rfl) (by kernel_rfl) (fun _ _ _ h => h) (yields_move (by rfl) (.tmp 1) rfl (.int .i64 x) rfl) hHeld ?_
  (try simp only [Act.put, List.getElem_toArray, List.getElem_cons_zero, List.getElem_cons_succ, List.setIfInBounds_toArray, List.set_cons_zero, List.set_cons_succ])
  refine wpAnyH_take (i := 7) (oi := _) rfl (by kernel_rfl) (by kernel_rfl) (by kernel_rfl) (fun _ _ _ h => h) (yields_move (by rfl) (.tmp 2) rfl (.int .i64 y) rfl) hHeld ?_
  (try simp only [Act.put, List.getElem_toArray, List.getElem_cons_zero, List.getElem_cons_succ, List.setIfInBounds_toArray, List.set_cons_zero, List.set_cons_succ])
  refine wpAnyH_take (i := 8) (oi := _) rfl (by kernel_rfl) (by kernel_rfl) (by kernel_rfl) (fun _ _ _ h => h) (yields_build (by rfl) 44 _ rfl #[.int .i64 x, .int .i64 y, .int .i64 x, .int .i64 y, .int .i64 0, .int .i64 0, .int .i64 0] (by kernel_rfl)) hHeld ?_
  (try simp only [Act.put, List.getElem_toArray, List.getElem_cons_zero, List.getElem_cons_succ, List.setIfInBounds_toArray, List.set_cons_zero, List.set_cons_succ])
  refine wpAnyH_ready (rs := [2, 10]) (by kernel_rfl) (by simp) ?_
  refine AllReadyH.cons (o := _) rfl (fun K' hK' => ?_) ?_
  · go_simp
    (go_at_call 31; (with_reducible refine (HR.out _).mono ?_); rintro e wq ⟨rfl, hbq⟩)
    refine hK'.out _ _ (Lib.hid (below_then (Hid.out hHeld) hbq)) (fun hHeld => ?_)
    clear hK' K'
    (try simp only [Act.put, List.getElem_toArray, List.getElem_cons_zero, List.getElem_cons_succ, List.setIfInBounds_toArray, List.set_cons_zero, List.set_cons_succ])
    refine wpAnyH_take (i := 9) (oi := _) rfl (by kernel_rfl) (by kernel_rfl) (by kernel_rfl) (fun _ _ _ h => h) (yields_build (by rfl) 46 _ rfl (brdC (nbB r o x y)) (by kernel_rfl)) hHeld ?_
    (try simp only [Act.put, List.getElem_toArray, List.getElem_cons_zero, List.getElem_cons_succ, List.setIfInBounds_toArray, List.set_cons_zero, List.set_cons_succ])
    refine wpAnyH_ready (rs := [10]) (by kernel_rfl) (by simp) ?_
    refine AllReadyH.cons (o := _) rfl (fun K' hK' => ?_) ?_
    · go_simp
      refine hK'.out _ _ (Lib.hid (below_alloc (Hid.out hHeld) _)) (fun hHeld => ?_)
      clear hK' K'
      (try simp only [Act.put, List.getElem_toArray, List.getElem_cons_zero, List.getElem_cons_succ, List.setIfInBounds_toArray, List.set_cons_zero, List.set_cons_succ])
      have hV : w0.heap.size ≤ wq.heap.size := hbq.size
      replace hz0 := hz0.out
      have Z2 := Lib.hid (blk_new wq (.cells #[.int .i64 0, .int .i64 0, .int .i64 0, .int .i64 0, .int .i64 0, .int .i64 0, .int .i64 0, .int .i64 0, .int .i64 0, .int .i64 0, .int .i64 0, .int .i64 0, .bool false, .int .i64 0, .bool false, .string ⟨#[]⟩, .string ⟨#[]⟩, .int .i64 0, .int .i64 0, .bool false, .bool false, .int .i64 0, .int .i64 0, .bool false, .int .i64 0, .int .i64 0, .int .i64 0, .int .i64 0, .bool false, .bool false, .bool false, .int .i64 0, .int .i64 0, .int .i64 0, .int .i64 0, .int .i64 0, .int .i64 0, .int .i64 0, .int .i64 0, .int .i64 0] 46))
      have Z1 := Lib.hid (blk_below Z1.out (Hid.out hHeld))
      refine wpAnyH_ready (rs := [11]) (by kernel_rfl) (by simp) ?_
      refine AllReadyH.cons (o := _) rfl (fun K' hK' => ?_) AllReadyH.nil
      rw [if_pos (by rfl)]
      refine wp_store_row 46 (.tmp 7) (.tmp 17) rfl wq.heap.size (brdC (nbB r o x y)) rfl rfl _ _ Z2.out (by kernel_rfl) rfl (by rw [← Array.all_toList]; rfl) ?_
      have hHeld := Lib.hid (below_row (cs := (brdC (nbB r o x y))) (Hid.out hHeld) (show w0.heap.size ≤ wq.heap.size by omega))
      refine hK'.out _ _ hHeld (fun hHeld => ?_)
      clear hK' K'
      refine wpAnyH_done (by kernel_rfl) ?_ _
      have Z1 := Lib.hid (row_row (cs := (brdC (nbB r o x y))) Z1.out (show w.heap.size + 1 ≠ wq.heap.size by omega))
      have Z2 := Lib.hid (setRow_heap _ _ _ (brdC (nbB r o x y)) _ _ Z2.out)
      have B := Lib.hid (below_then2 B.out (Hid.out hHeld) hz0)
      have hVV : w.heap.size + 1 < wq.heap.size := by omega
      generalize World.setRow _ wq.heap.size (brdC (nbB r o x y)) = w5 at Z1 Z2 B ⊢
      clear hHeld hz0
      go_wp2_with (first
    | (refine load_row rfl 46 (.tmp 7) rfl wq.heap.size rfl 40 _ Try.underlying46 rfl hsz.out Z2.out rfl ?_)
    | (go_at_call 8; refine (HO.out _).mono ?_; rintro e w4 ⟨rfl, hb⟩; refine Hid.out ?_))
      have Z1 := Lib.hid (blk_below Z1.out hb)
      have Z2 := Lib.hid (blk_below Z2.out hb)
      have B := Lib.hid (below_then B.out hb)
      clear hb
      cases K
      · have HW := Lib.hid (show newB r o x y = zBrd by rw [HV.out]; rfl)
        clear HV
        refine Lib.hid ?_
        go_wp2_with (refine store_row (by rfl) 46 (.tmp 6) (.tmp 21) rfl (w.heap.size + 1) (brdC zBrd) rfl rfl 40 hsz.out Z1.out rfl rfl (by rfl) ?_)
        exact row_post rfl rfl Try.underlying46 rfl iboard_size rfl rfl Z1.out ⟨by rw [HW.out], below_row B.out (by omega)⟩
      · have HW := Lib.hid (show newB r o x y = nbB r o x y by rw [HV.out]; rfl)
        clear HV
        refine Lib.hid ?_
        go_wp2_with (first | (refine load_row rfl 46 (.tmp 7) rfl wq.heap.size rfl 40 _ Try.underlying46 rfl hsz.out Z2.out rfl ?_) | (refine store_row (by rfl) 46 (.tmp 6) (.tmp 22) rfl (w.heap.size + 1) (brdC (nbB r o x y)) rfl rfl 40 hsz.out Z1.out rfl rfl (by rfl) ?_))
        exact row_post rfl rfl Try.underlying46 rfl iboard_size rfl rfl Z1.out ⟨by rw [HW.out], below_row B.out (by omega)⟩
    · exact AllReadyH.nil
  refine AllReadyH.cons (o := _) rfl (fun K' hK' => ?_) ?_
  · go_simp
    have Z2 := Lib.hid (blk_new w0.drew (.cells #[.int .i64 0, .int .i64 0, .int .i64 0, .int .i64 0, .int .i64 0, .int .i64 0, .int .i64 0, .int .i64 0, .int .i64 0, .int .i64 0, .int .i64 0, .int .i64 0, .bool false, .int .i64 0, .bool false, .string ⟨#[]⟩, .string ⟨#[]⟩, .int .i64 0, .int .i64 0, .bool false, .bool false, .int .i64 0, .int .i64 0, .bool false, .int .i64 0, .int .i64 0, .int .i64 0, .int .i64 0, .bool false, .bool false, .bool false, .int .i64 0, .int .i64 0, .int .i64 0, .int .i64 0, .int .i64 0, .int .i64 0, .int .i64 0, .int .i64 0, .int .i64 0] 46))
    refine hK'.out _ _ (Lib.hid (below_alloc (Hid.out hHeld) _)) (fun hHeld => ?_)
    clear hK' K'
    (try simp only [Act.put, List.getElem_toArray, List.getElem_cons_zero, List.getElem_cons_succ, List.setIfInBounds_toArray, List.set_cons_zero, List.set_cons_succ])
    refine wpAnyH_ready (rs := [2]) (by kernel_rfl) (by simp) ?_
    refine AllReadyH.cons (o := _) rfl (fun K' hK' => ?_) ?_
    · go_simp
      (go_at_call 31; (with_reducible refine (HR.out _).mono ?_); rintro e wq ⟨rfl, hbq⟩)
      refine hK'.out _ _ (Lib.hid (below_then (Hid.out hHeld) hbq)) (fun hHeld => ?_)
      clear hK' K'
      (try simp only [Act.put, List.getElem_toArray, List.getElem_cons_zero, List.getElem_cons_succ, List.setIfInBounds_toArray, List.set_cons_zero, List.set_cons_succ])
      refine wpAnyH_take (i := 9) (oi := _) rfl (by kernel_rfl) (by kernel_rfl) (by kernel_rfl) (fun _ _ _ h => h) (yields_build (by rfl) 46 _ rfl (brdC (nbB r o x y)) (by kernel_rfl)) hHeld ?_
      (try simp only [Act.put, List.getElem_toArray, List.getElem_cons_zero, List.getElem_cons_succ, List.setIfInBounds_toArray, List.set_cons_zero, List.set_cons_succ])
      replace hz0 := hz0.out
      have Z2 := Lib.hid (show wq.heap[w0.heap.size]? = some (.cells #[.int .i64 0, .int .i64 0, .int .i64 0, .int .i64 0, .int .i64 0, .int .i64 0, .int .i64 0, .int .i64 0, .int .i64 0, .int .i64 0, .int .i64 0, .int .i64 0, .bool false, .int .i64 0, .bool false, .string ⟨#[]⟩, .string ⟨#[]⟩, .int .i64 0, .int .i64 0, .bool false, .bool false, .int .i64 0, .int .i64 0, .bool false, .int .i64 0, .int .i64 0, .int .i64 0, .int .i64 0, .bool false, .bool false, .bool false, .int .i64 0, .int .i64 0, .int .i64 0, .int .i64 0, .int .i64 0, .int .i64 0, .int .i64 0, .int .i64 0, .int .i64 0] 46 (0, 0)) from blk_below Z2.out hbq)
      have Z1 := Lib.hid (blk_below Z1.out (Hid.out hHeld))
      refine wpAnyH_ready (rs := [11]) (by kernel_rfl) (by simp) ?_
      refine AllReadyH.cons (o := _) rfl (fun K' hK' => ?_) AllReadyH.nil
      rw [if_pos (by rfl)]
      refine wp_store_row 46 (.tmp 7) (.tmp 17) rfl w0.heap.size (brdC (nbB r o x y)) rfl rfl _ _ Z2.out (by kernel_rfl) rfl (by rw [← Array.all_toList]; rfl) ?_
      have hHeld := Lib.hid (below_row (cs := (brdC (nbB r o x y))) (Hid.out hHeld) (show w0.heap.size ≤ w0.heap.size by omega))
      refine hK'.out _ _ hHeld (fun hHeld => ?_)
      clear hK' K'
      refine wpAnyH_done (by kernel_rfl) ?_ _
      have Z1 := Lib.hid (row_row (cs := (brdC (nbB r o x y))) Z1.out (show w.heap.size + 1 ≠ w0.heap.size by omega))
      have Z2 := Lib.hid (setRow_heap _ _ _ (brdC (nbB r o x y)) _ _ Z2.out)
      have B := Lib.hid (below_then2 B.out (Hid.out hHeld) hz0)
      have hVV : w.heap.size + 1 < w0.heap.size := by omega
      generalize World.setRow _ w0.heap.size (brdC (nbB r o x y)) = w5 at Z1 Z2 B ⊢
      clear hHeld hz0
      go_wp2_with (first
    | (refine load_row rfl 46 (.tmp 7) rfl w0.heap.size rfl 40 _ Try.underlying46 rfl hsz.out Z2.out rfl ?_)
    | (go_at_call 8; refine (HO.out _).mono ?_; rintro e w4 ⟨rfl, hb⟩; refine Hid.out ?_))
      have Z1 := Lib.hid (blk_below Z1.out hb)
      have Z2 := Lib.hid (blk_below Z2.out hb)
      have B := Lib.hid (below_then B.out hb)
      clear hb
      cases K
      · have HW := Lib.hid (show newB r o x y = zBrd by rw [HV.out]; rfl)
        clear HV
        refine Lib.hid ?_
        go_wp2_with (refine store_row (by rfl) 46 (.tmp 6) (.tmp 21) rfl (w.heap.size + 1) (brdC zBrd) rfl rfl 40 hsz.out Z1.out rfl rfl (by rfl) ?_)
        exact row_post rfl rfl Try.underlying46 rfl iboard_size rfl rfl Z1.out ⟨by rw [HW.out], below_row B.out (by omega)⟩
      · have HW := Lib.hid (show newB r o x y = nbB r o x y by rw [HV.out]; rfl)
        clear HV
        refine Lib.hid ?_
        go_wp2_with (first | (refine load_row rfl 46 (.tmp 7) rfl w0.heap.size rfl 40 _ Try.underlying46 rfl hsz.out Z2.out rfl ?_) | (refine store_row (by rfl) 46 (.tmp 6) (.tmp 22) rfl (w.heap.size + 1) (brdC (nbB r o x y)) rfl rfl 40 hsz.out Z1.out rfl rfl (by rfl) ?_))
        exact row_post rfl rfl Try.underlying46 rfl iboard_size rfl rfl Z1.out ⟨by rw [HW.out], below_row B.out (by omega)⟩
    · exact AllReadyH.nil
  exact AllReadyH.nil
end Go.Proofs.Ytgpcmekcdgboeaa
