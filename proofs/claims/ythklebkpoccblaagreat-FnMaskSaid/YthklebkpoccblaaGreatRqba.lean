/-
  Texts put together by program: FdT.
  Conditions: as each theorem says.
-/
import Derived.Test.YthklebkpoccblaaGreatRqaz
namespace Go.Proofs.YthklebkpoccblaaGreat
open Go.RowKit
set_option maxRecDepth 100000 in
set_option maxHeartbeats 20000000 in
theorem s_reachT1 (k : CorI) (v : Int) (md : ByteArray) (kd : Int) (h2 : k.t = 2) (ha : inB md [[97, 98, 115], [97, 98, 120], [97, 98, 121]] = true) (w : World) : Calls Tryz.prog 76 #[.agg (corC k), .int .i64 v, .string md, .int .i64 kd] w (CorPost w) := by
 go_enter Tryz.func76, Tryz.ntmps76
 go_upto_region 1 with fail
 have K0 : ((w.alloc (.cells (corC k) 27)).alloc (.cells #[.int .i64 0, .int .i64 0, .int .i64 0, .int .i64 0, .int .i64 0, .int .i64 0, .int .i64 0, .int .i64 0, .int .i64 0, .int .i64 0, .int .i64 0, .int .i64 0, .bool false, .int .i64 0, .bool false] 27)).heap[w.heap.size]? = some (.cells (corC k) 27 (0, 0)) := by
  have h := blk_old (o := .cells #[.int .i64 0, .int .i64 0, .int .i64 0, .int .i64 0, .int .i64 0, .int .i64 0, .int .i64 0, .int .i64 0, .int .i64 0, .int .i64 0, .int .i64 0, .int .i64 0, .bool false, .int .i64 0, .bool false] 27) (blk_new w (.cells (corC k) 27))
  try simp only [alloc_size] at h
  exact h
 have K1 : ((w.alloc (.cells (corC k) 27)).alloc (.cells #[.int .i64 0, .int .i64 0, .int .i64 0, .int .i64 0, .int .i64 0, .int .i64 0, .int .i64 0, .int .i64 0, .int .i64 0, .int .i64 0, .int .i64 0, .int .i64 0, .bool false, .int .i64 0, .bool false] 27)).heap[w.heap.size + 1]? = some (.cells #[.int .i64 0, .int .i64 0, .int .i64 0, .int .i64 0, .int .i64 0, .int .i64 0, .int .i64 0, .int .i64 0, .int .i64 0, .int .i64 0, .int .i64 0, .int .i64 0, .bool false, .int .i64 0, .bool false] 27 (0, 0)) := by
  have h := blk_new (w.alloc (.cells (corC k) 27)) (.cells #[.int .i64 0, .int .i64 0, .int .i64 0, .int .i64 0, .int .i64 0, .int .i64 0, .int .i64 0, .int .i64 0, .int .i64 0, .int .i64 0, .int .i64 0, .int .i64 0, .bool false, .int .i64 0, .bool false] 27)
  try simp only [alloc_size] at h
  exact h
 have B0 := below_alloc (below_alloc (Below.refl w.heap.size w) (.cells (corC k) 27)) (.cells #[.int .i64 0, .int .i64 0, .int .i64 0, .int .i64 0, .int .i64 0, .int .i64 0, .int .i64 0, .int .i64 0, .int .i64 0, .int .i64 0, .int .i64 0, .int .i64 0, .bool false, .int .i64 0, .bool false] 27)
 generalize ((w.alloc (.cells (corC k) 27)).alloc (.cells #[.int .i64 0, .int .i64 0, .int .i64 0, .int .i64 0, .int .i64 0, .int .i64 0, .int .i64 0, .int .i64 0, .int .i64 0, .int .i64 0, .int .i64 0, .int .i64 0, .bool false, .int .i64 0, .bool false] 27)) = w0 at K0 K1 B0 ⊢
 replace K0 : Hid (CorAt w.heap.size k w0) := Lib.hid K0
 replace K1 := Lib.hid K1
 replace B0 := Lib.hid B0
 have fz := CorAt.free K0.out
 have c_t := CorAt.c_t K0.out
 go_wp2_with (first
  | (go_at_call 71; refine (is_abs _ _).mono ?_; rintro e w1 ⟨rfl, hb⟩; refine Hid.out ?_))
 have K0 := Lib.hid (CorAt.below K0.out hb)
 have K1 := Lib.hid (blk_below (b := w.heap.size + 1) (show _ = some (Obj.cells #[.int .i64 0, .int .i64 0, .int .i64 0, .int .i64 0, .int .i64 0, .int .i64 0, .int .i64 0, .int .i64 0, .int .i64 0, .int .i64 0, .int .i64 0, .int .i64 0, .bool false, .int .i64 0, .bool false] 27 (0, 0)) by exact rowS) hb)
 have B0 := Lib.hid (below_then (show Below w.heap.size w _ by exact belS) hb)
 clear hb fz c_t
 have fz := CorAt.free K0.out
 have hlt := (Array.getElem?_eq_some_iff.1 K1.out).1
 have c_t := CorAt.c_t K0.out
 refine Lib.hid ?_
 go_upto_region 3 with fail
 go_upto_region 7 with (first
  | (refine load_some (by rfl) _ (by rfl) _ (by rfl) (by exact someS) ?_; intro k2 hk2)
  | (go_at_call 63; refine (t_l10Up _ _).mono ?_; rintro e w1 ⟨k9, rfl, hb⟩)
  | (refine store_some (by rfl) (by rfl) _ _ (by rfl) _ (by rfl) _ (by rfl) (by exact someS; done) ?_)
  | (refine ldi_t (by rfl) _ (by rfl) _ (by rfl) (by exact someS) ?_; intro vt)
  | (refine sti_t (by rfl) (by rfl) _ _ (by rfl) _ (by rfl) _ (by rfl) (by exact someS) ?_; intro k3))
 refine settle2 (B := w.heap.size) (wb := w) (b0 := w.heap.size) (b1 := w.heap.size + 1) (o1 := Obj.cells #[.int .i64 0, .int .i64 0, .int .i64 0, .int .i64 0, .int .i64 0, .int .i64 0, .int .i64 0, .int .i64 0, .int .i64 0, .int .i64 0, .int .i64 0, .int .i64 0, .bool false, .int .i64 0, .bool false] 27 (0, 0)) (by exact someS) (by exact rowG) (by exact belS) ?_
 clear K0 K1 fz hlt c_t B0 
 intro k w9 K0 K1 B0
 replace K0 := Lib.hid K0
 replace K1 := Lib.hid K1
 replace B0 := Lib.hid B0
 have fz := CorAt.free K0.out
 have hlt := (Array.getElem?_eq_some_iff.1 K1.out).1
 have c_t := CorAt.c_t K0.out
 by_cases zpx : md = ⟨#[122, 112, 120]⟩
 ·have ezpx0 : (md.toList == [122, 112, 103]) = false := by rw [zpx, ByteArray.toList_eq]; decide
  have ezpx1 : (md.toList == [122, 112, 120]) = true := by rw [zpx, ByteArray.toList_eq]; decide
  have ezpx2 : (md.toList == [122, 112, 121]) = false := by rw [zpx, ByteArray.toList_eq]; decide
  have ezpx3 : (md.toList == [105, 110, 120]) = false := by rw [zpx, ByteArray.toList_eq]; decide
  have ezpx4 : (md.toList == [105, 110, 121]) = false := by rw [zpx, ByteArray.toList_eq]; decide
  have ezpx5 : (md.toList == [97, 98, 115]) = false := by rw [zpx, ByteArray.toList_eq]; decide
  have ezpx6 : (md.toList == [97, 98, 120]) = false := by rw [zpx, ByteArray.toList_eq]; decide
  clear zpx
  go_upto_region 16 with fail
  go_wp2_with (first
   | (refine ldi_lo (by rfl) _ (by rfl) _ (by rfl) (by exact someS) ?_; intro vlo)
   | (refine ldi_x (by rfl) _ (by rfl) _ (by rfl) (by exact someS) ?_; intro vx)
   | (refine sti_lo (by rfl) (by rfl) _ _ (by rfl) _ (by rfl) _ (by rfl) (by exact someS) ?_; intro k3)
   | (refine sti_hi (by rfl) (by rfl) _ _ (by rfl) _ (by rfl) _ (by rfl) (by exact someS) ?_; intro k3)
   | (refine sti_t (by rfl) (by rfl) _ _ (by rfl) _ (by rfl) _ (by rfl) (by exact someS) ?_; intro k3)
   | (refine load_some (by rfl) _ (by rfl) _ (by rfl) (by exact someS) ?_; intro k2 hk2)
   | (refine store_row (by rfl) 27 _ _ (by rfl) _ _ (by rfl) (by rfl) 15 (by kernel_rfl) (by exact rowS; done) rfl rfl (by rfl) ?_)
   | (refine store_some (by rfl) (by rfl) _ _ (by rfl) _ (by rfl) _ (by rfl) (by exact someS; done) ?_))
  exact bodyPost_ret (results_cell_row rfl _ _ (w.heap.size + 1) _ _ _ _ rfl (setRow_heap _ _ _ _ _ _ (by exact rowS)) Tryz.underlying27 rfl (by kernel_rfl)) rfl (cor_post (below_row (by exact belS) (by omega)))
 ·have nzpx := ne_list [122, 112, 120] zpx
  clear zpx
  by_cases zpy : md = ⟨#[122, 112, 121]⟩
  ·have ezpy0 : (md.toList == [122, 112, 103]) = false := by rw [zpy, ByteArray.toList_eq]; decide
   have ezpy1 : (md.toList == [122, 112, 120]) = false := by rw [zpy, ByteArray.toList_eq]; decide
   have ezpy2 : (md.toList == [122, 112, 121]) = true := by rw [zpy, ByteArray.toList_eq]; decide
   have ezpy3 : (md.toList == [105, 110, 120]) = false := by rw [zpy, ByteArray.toList_eq]; decide
   have ezpy4 : (md.toList == [105, 110, 121]) = false := by rw [zpy, ByteArray.toList_eq]; decide
   have ezpy5 : (md.toList == [97, 98, 115]) = false := by rw [zpy, ByteArray.toList_eq]; decide
   have ezpy6 : (md.toList == [97, 98, 120]) = false := by rw [zpy, ByteArray.toList_eq]; decide
   clear zpy
   go_upto_region 20 with fail
   go_wp2_with (first
    | (refine ldi_lo (by rfl) _ (by rfl) _ (by rfl) (by exact someS) ?_; intro vlo)
    | (refine ldi_y (by rfl) _ (by rfl) _ (by rfl) (by exact someS) ?_; intro vy)
    | (refine sti_lo (by rfl) (by rfl) _ _ (by rfl) _ (by rfl) _ (by rfl) (by exact someS) ?_; intro k3)
    | (refine sti_hi (by rfl) (by rfl) _ _ (by rfl) _ (by rfl) _ (by rfl) (by exact someS) ?_; intro k3)
    | (refine sti_t (by rfl) (by rfl) _ _ (by rfl) _ (by rfl) _ (by rfl) (by exact someS) ?_; intro k3)
    | (refine load_some (by rfl) _ (by rfl) _ (by rfl) (by exact someS) ?_; intro k2 hk2)
    | (refine store_row (by rfl) 27 _ _ (by rfl) _ _ (by rfl) (by rfl) 15 (by kernel_rfl) (by exact rowS; done) rfl rfl (by rfl) ?_)
    | (refine store_some (by rfl) (by rfl) _ _ (by rfl) _ (by rfl) _ (by rfl) (by exact someS; done) ?_))
   exact bodyPost_ret (results_cell_row rfl _ _ (w.heap.size + 1) _ _ _ _ rfl (setRow_heap _ _ _ _ _ _ (by exact rowS)) Tryz.underlying27 rfl (by kernel_rfl)) rfl (cor_post (below_row (by exact belS) (by omega)))
  ·have nzpy := ne_list [122, 112, 121] zpy
   clear zpy
   by_cases inx : md = ⟨#[105, 110, 120]⟩
   ·have einx0 : (md.toList == [122, 112, 103]) = false := by rw [inx, ByteArray.toList_eq]; decide
    have einx1 : (md.toList == [122, 112, 120]) = false := by rw [inx, ByteArray.toList_eq]; decide
    have einx2 : (md.toList == [122, 112, 121]) = false := by rw [inx, ByteArray.toList_eq]; decide
    have einx3 : (md.toList == [105, 110, 120]) = true := by rw [inx, ByteArray.toList_eq]; decide
    have einx4 : (md.toList == [105, 110, 121]) = false := by rw [inx, ByteArray.toList_eq]; decide
    have einx5 : (md.toList == [97, 98, 115]) = false := by rw [inx, ByteArray.toList_eq]; decide
    have einx6 : (md.toList == [97, 98, 120]) = false := by rw [inx, ByteArray.toList_eq]; decide
    clear inx
    go_upto_region 24 with fail
    go_wp2_with (first
     | (refine ldi_vl (by rfl) _ (by rfl) _ (by rfl) (by exact someS) ?_; intro vvl)
     | (refine ldi_x (by rfl) _ (by rfl) _ (by rfl) (by exact someS) ?_; intro vx)
     | (refine sti_vl (by rfl) (by rfl) _ _ (by rfl) _ (by rfl) _ (by rfl) (by exact someS) ?_; intro k3)
     | (refine load_some (by rfl) _ (by rfl) _ (by rfl) (by exact someS) ?_; intro k2 hk2)
     | (refine store_row (by rfl) 27 _ _ (by rfl) _ _ (by rfl) (by rfl) 15 (by kernel_rfl) (by exact rowS; done) rfl rfl (by rfl) ?_)
     | (refine store_some (by rfl) (by rfl) _ _ (by rfl) _ (by rfl) _ (by rfl) (by exact someS; done) ?_))
    exact bodyPost_ret (results_cell_row rfl _ _ (w.heap.size + 1) _ _ _ _ rfl (setRow_heap _ _ _ _ _ _ (by exact rowS)) Tryz.underlying27 rfl (by kernel_rfl)) rfl (cor_post (below_row (by exact belS) (by omega)))
   ·have ninx := ne_list [105, 110, 120] inx
    clear inx
    by_cases iny : md = ⟨#[105, 110, 121]⟩
    ·have einy0 : (md.toList == [122, 112, 103]) = false := by rw [iny, ByteArray.toList_eq]; decide
     have einy1 : (md.toList == [122, 112, 120]) = false := by rw [iny, ByteArray.toList_eq]; decide
     have einy2 : (md.toList == [122, 112, 121]) = false := by rw [iny, ByteArray.toList_eq]; decide
     have einy3 : (md.toList == [105, 110, 120]) = false := by rw [iny, ByteArray.toList_eq]; decide
     have einy4 : (md.toList == [105, 110, 121]) = true := by rw [iny, ByteArray.toList_eq]; decide
     have einy5 : (md.toList == [97, 98, 115]) = false := by rw [iny, ByteArray.toList_eq]; decide
     have einy6 : (md.toList == [97, 98, 120]) = false := by rw [iny, ByteArray.toList_eq]; decide
     clear iny
     go_upto_region 26 with fail
     go_wp2_with (first
      | (refine sti_lo (by rfl) (by rfl) _ _ (by rfl) _ (by rfl) _ (by rfl) (by exact someS) ?_; intro k3)
      | (refine load_some (by rfl) _ (by rfl) _ (by rfl) (by exact someS) ?_; intro k2 hk2)
      | (refine store_row (by rfl) 27 _ _ (by rfl) _ _ (by rfl) (by rfl) 15 (by kernel_rfl) (by exact rowS; done) rfl rfl (by rfl) ?_)
      | (refine store_some (by rfl) (by rfl) _ _ (by rfl) _ (by rfl) _ (by rfl) (by exact someS; done) ?_))
     exact bodyPost_ret (results_cell_row rfl _ _ (w.heap.size + 1) _ _ _ _ rfl (setRow_heap _ _ _ _ _ _ (by exact rowS)) Tryz.underlying27 rfl (by kernel_rfl)) rfl (cor_post (below_row (by exact belS) (by omega)))
    ·have niny := ne_list [105, 110, 121] iny
     clear iny
     by_cases abs : md = ⟨#[97, 98, 115]⟩
     ·have eabs0 : (md.toList == [122, 112, 103]) = false := by rw [abs, ByteArray.toList_eq]; decide
      have eabs1 : (md.toList == [122, 112, 120]) = false := by rw [abs, ByteArray.toList_eq]; decide
      have eabs2 : (md.toList == [122, 112, 121]) = false := by rw [abs, ByteArray.toList_eq]; decide
      have eabs3 : (md.toList == [105, 110, 120]) = false := by rw [abs, ByteArray.toList_eq]; decide
      have eabs4 : (md.toList == [105, 110, 121]) = false := by rw [abs, ByteArray.toList_eq]; decide
      have eabs5 : (md.toList == [97, 98, 115]) = true := by rw [abs, ByteArray.toList_eq]; decide
      have eabs6 : (md.toList == [97, 98, 120]) = false := by rw [abs, ByteArray.toList_eq]; decide
      clear abs
      go_upto_region 28 with fail
      go_wp2_with (first
       | (refine sti_hi (by rfl) (by rfl) _ _ (by rfl) _ (by rfl) _ (by rfl) (by exact someS) ?_; intro k3)
       | (refine sti_t (by rfl) (by rfl) _ _ (by rfl) _ (by rfl) _ (by rfl) (by exact someS) ?_; intro k3)
       | (refine load_some (by rfl) _ (by rfl) _ (by rfl) (by exact someS) ?_; intro k2 hk2)
       | (refine store_row (by rfl) 27 _ _ (by rfl) _ _ (by rfl) (by rfl) 15 (by kernel_rfl) (by exact rowS; done) rfl rfl (by rfl) ?_)
       | (refine store_some (by rfl) (by rfl) _ _ (by rfl) _ (by rfl) _ (by rfl) (by exact someS; done) ?_))
      exact bodyPost_ret (results_cell_row rfl _ _ (w.heap.size + 1) _ _ _ _ rfl (setRow_heap _ _ _ _ _ _ (by exact rowS)) Tryz.underlying27 rfl (by kernel_rfl)) rfl (cor_post (below_row (by exact belS) (by omega)))
     ·have nabs := ne_list [97, 98, 115] abs
      clear abs
      by_cases abx : md = ⟨#[97, 98, 120]⟩
      ·have eabx0 : (md.toList == [122, 112, 103]) = false := by rw [abx, ByteArray.toList_eq]; decide
       have eabx1 : (md.toList == [122, 112, 120]) = false := by rw [abx, ByteArray.toList_eq]; decide
       have eabx2 : (md.toList == [122, 112, 121]) = false := by rw [abx, ByteArray.toList_eq]; decide
       have eabx3 : (md.toList == [105, 110, 120]) = false := by rw [abx, ByteArray.toList_eq]; decide
       have eabx4 : (md.toList == [105, 110, 121]) = false := by rw [abx, ByteArray.toList_eq]; decide
       have eabx5 : (md.toList == [97, 98, 115]) = false := by rw [abx, ByteArray.toList_eq]; decide
       have eabx6 : (md.toList == [97, 98, 120]) = true := by rw [abx, ByteArray.toList_eq]; decide
       clear abx
       go_upto_region 31 with fail
       go_wp2_with (first
        | (refine sti_hi (by rfl) (by rfl) _ _ (by rfl) _ (by rfl) _ (by rfl) (by exact someS) ?_; intro k3)
        | (refine ldi_x (by rfl) _ (by rfl) _ (by rfl) (by exact someS) ?_; intro vx)
        | (go_at_call 107; refine (s_indexed _ _ _ _).mono ?_; rintro e w1 ⟨k9, rfl, hb⟩)
        | (refine load_some (by rfl) _ (by rfl) _ (by rfl) (by exact someS) ?_; intro k2 hk2)
        | (refine store_row (by rfl) 27 _ _ (by rfl) _ _ (by rfl) (by rfl) 15 (by kernel_rfl) (by exact rowS; done) rfl rfl (by rfl) ?_)
        | (refine store_some (by rfl) (by rfl) _ _ (by rfl) _ (by rfl) _ (by rfl) (by exact someS; done) ?_))
       exact bodyPost_ret (results_cell_row rfl _ _ (w.heap.size + 1) _ _ _ _ rfl (setRow_heap _ _ _ _ _ _ (by exact rowS)) Tryz.underlying27 rfl (by kernel_rfl)) rfl (cor_post (below_row (by exact belS) (by omega)))
      ·have nabx := ne_list [97, 98, 120] abx
       clear abx
       go_upto_region 5 with fail
       go_wp2_with (first
        | (refine sti_hi (by rfl) (by rfl) _ _ (by rfl) _ (by rfl) _ (by rfl) (by exact someS) ?_; intro k3)
        | (refine ldi_y (by rfl) _ (by rfl) _ (by rfl) (by exact someS) ?_; intro vy)
        | (go_at_call 107; refine (s_indexed _ _ _ _).mono ?_; rintro e w1 ⟨k9, rfl, hb⟩)
        | (refine load_some (by rfl) _ (by rfl) _ (by rfl) (by exact someS) ?_; intro k2 hk2)
        | (refine store_row (by rfl) 27 _ _ (by rfl) _ _ (by rfl) (by rfl) 15 (by kernel_rfl) (by exact rowS; done) rfl rfl (by rfl) ?_)
        | (refine store_some (by rfl) (by rfl) _ _ (by rfl) _ (by rfl) _ (by rfl) (by exact someS; done) ?_))
       exact bodyPost_ret (results_cell_row rfl _ _ (w.heap.size + 1) _ _ _ _ rfl (setRow_heap _ _ _ _ _ _ (by exact rowS)) Tryz.underlying27 rfl (by kernel_rfl)) rfl (cor_post (below_row (by exact belS) (by omega)))
end Go.Proofs.YthklebkpoccblaaGreat
