/-
  The laws' own readings of a core (chapter 10).
  Conditions: as each says; each walk leaves old memory as it was.
-/
import Derived.Test.YtgpcmekcdgboeaaCrA
import Derived.Test.YtgpcmekcdgboeaaWoY
import Derived.Deep.Cut
namespace Go.Proofs.Ytgpcmekcdgboeaa
open Go.RowKit
theorem lcore_size : (Try.prog.info? 25).map (·.size) = some 15 := by kernel_rfl
theorem set15 {w : World} {b : Nat} {t : TypeId} {z0 z1 z2 z3 z4 z5 z6 z7 z8 z9 z10 z11 z12 z13 z14 : Value} (h : w.heap[b]? = some (.cells #[z0, z1, z2, z3, z4, z5, z6, z7, z8, z9, z10, z11, z12, z13, z14] t (0, 0))) (x0 x1 x2 x3 x4 x5 x6 x7 x8 x9 x10 x11 x12 x13 x14 : Value) :
    (((((((((((((((w.setCell ⟨b, 0, none⟩ x0).setCell ⟨b, 1, none⟩ x1).setCell ⟨b, 2, none⟩ x2).setCell ⟨b, 3, none⟩ x3).setCell ⟨b, 4, none⟩ x4).setCell ⟨b, 5, none⟩ x5).setCell ⟨b, 6, none⟩ x6).setCell ⟨b, 7, none⟩ x7).setCell ⟨b, 8, none⟩ x8).setCell ⟨b, 9, none⟩ x9).setCell ⟨b, 10, none⟩ x10).setCell ⟨b, 11, none⟩ x11).setCell ⟨b, 12, none⟩ x12).setCell ⟨b, 13, none⟩ x13).setCell ⟨b, 14, none⟩ x14).heap[b]? = some (.cells #[x0, x1, x2, x3, x4, x5, x6, x7, x8, x9, x10, x11, x12, x13, x14] t (0, 0)) := by
  have e := row_set (i := 14) (v := x14) (row_set (i := 13) (v := x13) (row_set (i := 12) (v := x12) (row_set (i := 11) (v := x11) (row_set (i := 10) (v := x10) (row_set (i := 9) (v := x9) (row_set (i := 8) (v := x8) (row_set (i := 7) (v := x7) (row_set (i := 6) (v := x6) (row_set (i := 5) (v := x5) (row_set (i := 4) (v := x4) (row_set (i := 3) (v := x3) (row_set (i := 2) (v := x2) (row_set (i := 1) (v := x1) (row_set (i := 0) (v := x0) h))))))))))))))
  simp only [List.setIfInBounds_toArray, List.set_cons_zero, List.set_cons_succ] at e
  exact e
theorem far15 {w : World} {b c : Nat} {o : Obj} (h : w.heap[b]? = some o) (hne : b ≠ c) (x0 x1 x2 x3 x4 x5 x6 x7 x8 x9 x10 x11 x12 x13 x14 : Value) : (((((((((((((((w.setCell ⟨c, 0, none⟩ x0).setCell ⟨c, 1, none⟩ x1).setCell ⟨c, 2, none⟩ x2).setCell ⟨c, 3, none⟩ x3).setCell ⟨c, 4, none⟩ x4).setCell ⟨c, 5, none⟩ x5).setCell ⟨c, 6, none⟩ x6).setCell ⟨c, 7, none⟩ x7).setCell ⟨c, 8, none⟩ x8).setCell ⟨c, 9, none⟩ x9).setCell ⟨c, 10, none⟩ x10).setCell ⟨c, 11, none⟩ x11).setCell ⟨c, 12, none⟩ x12).setCell ⟨c, 13, none⟩ x13).setCell ⟨c, 14, none⟩ x14).heap[b]? = some o :=
  row_far (i := 14) (v := x14) (row_far (i := 13) (v := x13) (row_far (i := 12) (v := x12) (row_far (i := 11) (v := x11) (row_far (i := 10) (v := x10) (row_far (i := 9) (v := x9) (row_far (i := 8) (v := x8) (row_far (i := 7) (v := x7) (row_far (i := 6) (v := x6) (row_far (i := 5) (v := x5) (row_far (i := 4) (v := x4) (row_far (i := 3) (v := x3) (row_far (i := 2) (v := x2) (row_far (i := 1) (v := x1) (row_far (i := 0) (v := x0) h hne) hne) hne) hne) hne) hne) hne) hne) hne) hne) hne) hne) hne) hne) hne
theorem below15 {B c : Nat} {u w : World} (h : Below B u w) (hb : B ≤ c) (x0 x1 x2 x3 x4 x5 x6 x7 x8 x9 x10 x11 x12 x13 x14 : Value) : Below B u (((((((((((((((w.setCell ⟨c, 0, none⟩ x0).setCell ⟨c, 1, none⟩ x1).setCell ⟨c, 2, none⟩ x2).setCell ⟨c, 3, none⟩ x3).setCell ⟨c, 4, none⟩ x4).setCell ⟨c, 5, none⟩ x5).setCell ⟨c, 6, none⟩ x6).setCell ⟨c, 7, none⟩ x7).setCell ⟨c, 8, none⟩ x8).setCell ⟨c, 9, none⟩ x9).setCell ⟨c, 10, none⟩ x10).setCell ⟨c, 11, none⟩ x11).setCell ⟨c, 12, none⟩ x12).setCell ⟨c, 13, none⟩ x13).setCell ⟨c, 14, none⟩ x14) :=
  below_put (i := 14) (v := x14) (below_put (i := 13) (v := x13) (below_put (i := 12) (v := x12) (below_put (i := 11) (v := x11) (below_put (i := 10) (v := x10) (below_put (i := 9) (v := x9) (below_put (i := 8) (v := x8) (below_put (i := 7) (v := x7) (below_put (i := 6) (v := x6) (below_put (i := 5) (v := x5) (below_put (i := 4) (v := x4) (below_put (i := 3) (v := x3) (below_put (i := 2) (v := x2) (below_put (i := 1) (v := x1) (below_put (i := 0) (v := x0) h hb) hb) hb) hb) hb) hb) hb) hb) hb) hb) hb) hb) hb) hb) hb
set_option maxRecDepth 100000 in
set_option maxHeartbeats 4000000 in
theorem to_core (a x y s p pc sq cd t lo hi vl : Int) (cr : Bool) (nx : Int) (jm : Bool) (w : World) : Calls Try.prog 20 #[coreV a x y s p pc sq cd t lo hi vl cr nx jm] w fun e w' => e = .returned (coreV a x y s p pc sq cd t lo hi vl cr nx jm) ∧ Below w.heap.size w w' := by
  have hsz := Lib.hid icore_size
  have HR := fun w => to_regI ⟨a, x, y, s, p, pc⟩ w
  simp only [regI_mk] at HR
  replace HR := Lib.hid HR
  rw [coreV_mk]
  go_enter Try.func20, Try.ntmps20
  go_wp2_with (go_at_call 39; refine (HR.out _).mono ?_; rintro e w1 ⟨rfl, hb⟩; refine Hid.out ?_)
  have Z0 := blk_below (blk_old (o := .cells #[.int .i64 0, .int .i64 0, .int .i64 0, .int .i64 0, .int .i64 0, .int .i64 0, .int .i64 0, .int .i64 0, .int .i64 0, .int .i64 0, .int .i64 0, .int .i64 0, .bool false, .int .i64 0, .bool false] 40) (blk_old (o := .cells #[.int .i64 0, .int .i64 0, .int .i64 0, .int .i64 0, .int .i64 0, .int .i64 0, .int .i64 0, .int .i64 0, .int .i64 0, .int .i64 0, .int .i64 0, .int .i64 0, .bool false, .int .i64 0, .bool false] 40) (blk_new w (.cells #[.int .i64 a, .int .i64 x, .int .i64 y, .int .i64 s, .int .i64 p, .int .i64 pc, .int .i64 sq, .int .i64 cd, .int .i64 t, .int .i64 lo, .int .i64 hi, .int .i64 vl, .bool cr, .int .i64 nx, .bool jm] 25)))) hb
  have Z1 := blk_below (blk_old (o := .cells #[.int .i64 0, .int .i64 0, .int .i64 0, .int .i64 0, .int .i64 0, .int .i64 0, .int .i64 0, .int .i64 0, .int .i64 0, .int .i64 0, .int .i64 0, .int .i64 0, .bool false, .int .i64 0, .bool false] 40) (blk_new2 w (.cells #[.int .i64 a, .int .i64 x, .int .i64 y, .int .i64 s, .int .i64 p, .int .i64 pc, .int .i64 sq, .int .i64 cd, .int .i64 t, .int .i64 lo, .int .i64 hi, .int .i64 vl, .bool cr, .int .i64 nx, .bool jm] 25) (.cells #[.int .i64 0, .int .i64 0, .int .i64 0, .int .i64 0, .int .i64 0, .int .i64 0, .int .i64 0, .int .i64 0, .int .i64 0, .int .i64 0, .int .i64 0, .int .i64 0, .bool false, .int .i64 0, .bool false] 40))) hb
  have Z2 := blk_new2 (w.alloc (.cells #[.int .i64 a, .int .i64 x, .int .i64 y, .int .i64 s, .int .i64 p, .int .i64 pc, .int .i64 sq, .int .i64 cd, .int .i64 t, .int .i64 lo, .int .i64 hi, .int .i64 vl, .bool cr, .int .i64 nx, .bool jm] 25)) (.cells #[.int .i64 0, .int .i64 0, .int .i64 0, .int .i64 0, .int .i64 0, .int .i64 0, .int .i64 0, .int .i64 0, .int .i64 0, .int .i64 0, .int .i64 0, .int .i64 0, .bool false, .int .i64 0, .bool false] 40) (.cells #[.int .i64 0, .int .i64 0, .int .i64 0, .int .i64 0, .int .i64 0, .int .i64 0, .int .i64 0, .int .i64 0, .int .i64 0, .int .i64 0, .int .i64 0, .int .i64 0, .bool false, .int .i64 0, .bool false] 40)
  rw [alloc_size] at Z2
  replace Z2 := blk_below Z2 hb
  have B := Lib.hid (below_then (below_alloc (below_alloc (below_alloc (Below.refl w.heap.size w) (.cells #[.int .i64 a, .int .i64 x, .int .i64 y, .int .i64 s, .int .i64 p, .int .i64 pc, .int .i64 sq, .int .i64 cd, .int .i64 t, .int .i64 lo, .int .i64 hi, .int .i64 vl, .bool cr, .int .i64 nx, .bool jm] 25)) (.cells #[.int .i64 0, .int .i64 0, .int .i64 0, .int .i64 0, .int .i64 0, .int .i64 0, .int .i64 0, .int .i64 0, .int .i64 0, .int .i64 0, .int .i64 0, .int .i64 0, .bool false, .int .i64 0, .bool false] 40)) (.cells #[.int .i64 0, .int .i64 0, .int .i64 0, .int .i64 0, .int .i64 0, .int .i64 0, .int .i64 0, .int .i64 0, .int .i64 0, .int .i64 0, .int .i64 0, .int .i64 0, .bool false, .int .i64 0, .bool false] 40)) hb)
  clear hb
  have c6 := cell_of_blk (i := 6) (v := .int .i64 sq) Z0 rfl
  have c7 := cell_of_blk (i := 7) (v := .int .i64 cd) Z0 rfl
  have c8 := cell_of_blk (i := 8) (v := .int .i64 t) Z0 rfl
  have c9 := cell_of_blk (i := 9) (v := .int .i64 lo) Z0 rfl
  have c10 := cell_of_blk (i := 10) (v := .int .i64 hi) Z0 rfl
  have c11 := cell_of_blk (i := 11) (v := .int .i64 vl) Z0 rfl
  have c12 := cell_of_blk (i := 12) (v := .bool cr) Z0 rfl
  have c13 := cell_of_blk (i := 13) (v := .int .i64 nx) Z0 rfl
  have c14 := cell_of_blk (i := 14) (v := .bool jm) Z0 rfl
  have z0 := cell_of_blk (i := 0) (v := .int .i64 0) Z2 rfl
  have z1 := cell_of_blk (i := 1) (v := .int .i64 0) Z2 rfl
  have z2 := cell_of_blk (i := 2) (v := .int .i64 0) Z2 rfl
  have z3 := cell_of_blk (i := 3) (v := .int .i64 0) Z2 rfl
  have z4 := cell_of_blk (i := 4) (v := .int .i64 0) Z2 rfl
  have z5 := cell_of_blk (i := 5) (v := .int .i64 0) Z2 rfl
  have z6 := cell_of_blk (i := 6) (v := .int .i64 0) Z2 rfl
  have z7 := cell_of_blk (i := 7) (v := .int .i64 0) Z2 rfl
  have z8 := cell_of_blk (i := 8) (v := .int .i64 0) Z2 rfl
  have z9 := cell_of_blk (i := 9) (v := .int .i64 0) Z2 rfl
  have z10 := cell_of_blk (i := 10) (v := .int .i64 0) Z2 rfl
  have z11 := cell_of_blk (i := 11) (v := .int .i64 0) Z2 rfl
  have z12 := cell_of_blk (i := 12) (v := .bool false) Z2 rfl
  have z13 := cell_of_blk (i := 13) (v := .int .i64 0) Z2 rfl
  have z14 := cell_of_blk (i := 14) (v := .bool false) Z2 rfl
  have f2 := fun i => free_of_blk (i := i) Z2
  have Z1 := Lib.hid Z1
  have Z2 := Lib.hid Z2
  clear Z0
  refine Lib.hid ?_
  go_upto_region 12 with fail
  have hrow := Lib.hid (set15 Z2.out (.int .i64 a) (.int .i64 x) (.int .i64 y) (.int .i64 s) (.int .i64 p) (.int .i64 pc) (.int .i64 sq) (.int .i64 cd) (.int .i64 t) (.int .i64 lo) (.int .i64 hi) (.int .i64 vl) (.bool cr) (.int .i64 nx) (.bool jm))
  have hres := Lib.hid (far15 Z1.out (show w.heap.size + 1 ≠ w.heap.size + 1 + 1 by omega) (.int .i64 a) (.int .i64 x) (.int .i64 y) (.int .i64 s) (.int .i64 p) (.int .i64 pc) (.int .i64 sq) (.int .i64 cd) (.int .i64 t) (.int .i64 lo) (.int .i64 hi) (.int .i64 vl) (.bool cr) (.int .i64 nx) (.bool jm))
  have B := Lib.hid (below15 B.out (show w.heap.size ≤ w.heap.size + 1 + 1 by omega) (.int .i64 a) (.int .i64 x) (.int .i64 y) (.int .i64 s) (.int .i64 p) (.int .i64 pc) (.int .i64 sq) (.int .i64 cd) (.int .i64 t) (.int .i64 lo) (.int .i64 hi) (.int .i64 vl) (.bool cr) (.int .i64 nx) (.bool jm))
  generalize hWW : (((((((((((((((w1.setCell ⟨w.heap.size + 1 + 1, 0, none⟩ (.int .i64 a)).setCell ⟨w.heap.size + 1 + 1, 1, none⟩ (.int .i64 x)).setCell ⟨w.heap.size + 1 + 1, 2, none⟩ (.int .i64 y)).setCell ⟨w.heap.size + 1 + 1, 3, none⟩ (.int .i64 s)).setCell ⟨w.heap.size + 1 + 1, 4, none⟩ (.int .i64 p)).setCell ⟨w.heap.size + 1 + 1, 5, none⟩ (.int .i64 pc)).setCell ⟨w.heap.size + 1 + 1, 6, none⟩ (.int .i64 sq)).setCell ⟨w.heap.size + 1 + 1, 7, none⟩ (.int .i64 cd)).setCell ⟨w.heap.size + 1 + 1, 8, none⟩ (.int .i64 t)).setCell ⟨w.heap.size + 1 + 1, 9, none⟩ (.int .i64 lo)).setCell ⟨w.heap.size + 1 + 1, 10, none⟩ (.int .i64 hi)).setCell ⟨w.heap.size + 1 + 1, 11, none⟩ (.int .i64 vl)).setCell ⟨w.heap.size + 1 + 1, 12, none⟩ (.bool cr)).setCell ⟨w.heap.size + 1 + 1, 13, none⟩ (.int .i64 nx)).setCell ⟨w.heap.size + 1 + 1, 14, none⟩ (.bool jm)) = w3 at hrow hres B ⊢
  clear hWW f2 Z1 Z2 z0 z1 z2 z3 z4 z5 z6 z7 z8 z9 z10 z11 z12 z13 z14 c6 c7 c8 c9 c10 c11 c12 c13 c14
  go_wp2_with (first | (refine load_row rfl 40 (.tmp 3) rfl (w.heap.size + 1 + 1) rfl 15 _ Try.underlying40 rfl hsz.out hrow.out rfl ?_) | (refine store_row rfl 40 (.tmp 2) (.tmp 35) rfl (w.heap.size + 1) _ rfl rfl 15 hsz.out hres.out rfl rfl (by rfl) ?_))
  exact row_post rfl rfl Try.underlying40 rfl icore_size rfl rfl hres.out ⟨rfl, below_row B.out (by omega)⟩
set_option maxRecDepth 100000 in
set_option maxHeartbeats 4000000 in
theorem eq_core (a x y s p pc sq cd t lo hi vl : Int) (cr : Bool) (nx : Int) (jm : Bool) (w : World) : Calls Try.prog 32 #[coreV a x y s p pc sq cd t lo hi vl cr nx jm, coreV a x y s p pc sq cd t lo hi vl cr nx jm] w fun e w' => e = .returned (.bool true) ∧ Below w.heap.size w w' := by
  have HR := fun w => eq_regI ⟨a, x, y, s, p, pc⟩ w
  simp only [regI_mk] at HR
  replace HR := Lib.hid HR
  rw [coreV_mk]
  go_enter Try.func32, Try.ntmps32
  go_wp2_with (go_at_call 44; refine (HR.out _).mono ?_; rintro e w1 ⟨rfl, hb⟩; refine Hid.out ?_)
  have Z0 := blk_below (blk_old (o := .cells #[.int .i64 a, .int .i64 x, .int .i64 y, .int .i64 s, .int .i64 p, .int .i64 pc, .int .i64 sq, .int .i64 cd, .int .i64 t, .int .i64 lo, .int .i64 hi, .int .i64 vl, .bool cr, .int .i64 nx, .bool jm] 40) (blk_new w (.cells #[.int .i64 a, .int .i64 x, .int .i64 y, .int .i64 s, .int .i64 p, .int .i64 pc, .int .i64 sq, .int .i64 cd, .int .i64 t, .int .i64 lo, .int .i64 hi, .int .i64 vl, .bool cr, .int .i64 nx, .bool jm] 40))) hb
  have Z1 := blk_below (blk_new2 w (.cells #[.int .i64 a, .int .i64 x, .int .i64 y, .int .i64 s, .int .i64 p, .int .i64 pc, .int .i64 sq, .int .i64 cd, .int .i64 t, .int .i64 lo, .int .i64 hi, .int .i64 vl, .bool cr, .int .i64 nx, .bool jm] 40) (.cells #[.int .i64 a, .int .i64 x, .int .i64 y, .int .i64 s, .int .i64 p, .int .i64 pc, .int .i64 sq, .int .i64 cd, .int .i64 t, .int .i64 lo, .int .i64 hi, .int .i64 vl, .bool cr, .int .i64 nx, .bool jm] 40)) hb
  have B := Lib.hid (below_then (below_alloc (below_alloc (Below.refl w.heap.size w) (.cells #[.int .i64 a, .int .i64 x, .int .i64 y, .int .i64 s, .int .i64 p, .int .i64 pc, .int .i64 sq, .int .i64 cd, .int .i64 t, .int .i64 lo, .int .i64 hi, .int .i64 vl, .bool cr, .int .i64 nx, .bool jm] 40)) (.cells #[.int .i64 a, .int .i64 x, .int .i64 y, .int .i64 s, .int .i64 p, .int .i64 pc, .int .i64 sq, .int .i64 cd, .int .i64 t, .int .i64 lo, .int .i64 hi, .int .i64 vl, .bool cr, .int .i64 nx, .bool jm] 40)) hb)
  clear hb
  have c6 := cell_of_blk (i := 6) (v := .int .i64 sq) Z0 rfl
  have c7 := cell_of_blk (i := 7) (v := .int .i64 cd) Z0 rfl
  have c8 := cell_of_blk (i := 8) (v := .int .i64 t) Z0 rfl
  have c9 := cell_of_blk (i := 9) (v := .int .i64 lo) Z0 rfl
  have c10 := cell_of_blk (i := 10) (v := .int .i64 hi) Z0 rfl
  have c11 := cell_of_blk (i := 11) (v := .int .i64 vl) Z0 rfl
  have c12 := cell_of_blk (i := 12) (v := .bool cr) Z0 rfl
  have c13 := cell_of_blk (i := 13) (v := .int .i64 nx) Z0 rfl
  have c14 := cell_of_blk (i := 14) (v := .bool jm) Z0 rfl
  have d6 := cell_of_blk (i := 6) (v := .int .i64 sq) Z1 rfl
  have d7 := cell_of_blk (i := 7) (v := .int .i64 cd) Z1 rfl
  have d8 := cell_of_blk (i := 8) (v := .int .i64 t) Z1 rfl
  have d9 := cell_of_blk (i := 9) (v := .int .i64 lo) Z1 rfl
  have d10 := cell_of_blk (i := 10) (v := .int .i64 hi) Z1 rfl
  have d11 := cell_of_blk (i := 11) (v := .int .i64 vl) Z1 rfl
  have d12 := cell_of_blk (i := 12) (v := .bool cr) Z1 rfl
  have d13 := cell_of_blk (i := 13) (v := .int .i64 nx) Z1 rfl
  have d14 := cell_of_blk (i := 14) (v := .bool jm) Z1 rfl
  clear Z0 Z1
  refine Lib.hid ?_
  go_wp2
  go_ret
  exact ⟨rfl, B.out⟩
end Go.Proofs.Ytgpcmekcdgboeaa
