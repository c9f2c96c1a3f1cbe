/-
  Texts put together by program: FdO, FdK, FdL.
  Conditions: as each theorem says.
-/
import Derived.Test.YthklebkpoccblaaGreatRqbc
namespace Go.Proofs.YthklebkpoccblaaGreat
open Go.RowKit
set_option maxRecDepth 100000 in
set_option maxHeartbeats 20000000 in
theorem s_reached (k : CorI) (v : Int) (oa ob : ByteArray) (w : World) : Calls Tryz.prog 38 #[.agg (corC k), .int .i64 v, .agg #[.string oa, .string ob]] w (CorDone w) := by
 go_enter Tryz.func38, Tryz.ntmps38
 go_upto_region 1 with fail
 have K0 : (((w.alloc (.cells (corC k) 27)).alloc (.cells #[.string oa, .string ob] 55)).alloc (.cells #[.int .i64 0, .int .i64 0, .int .i64 0, .int .i64 0, .int .i64 0, .int .i64 0, .int .i64 0, .int .i64 0, .int .i64 0, .int .i64 0, .int .i64 0, .int .i64 0, .bool false, .int .i64 0, .bool false] 27)).heap[w.heap.size]? = some (.cells (corC k) 27 (0, 0)) := by
  have h := blk_old (o := .cells #[.int .i64 0, .int .i64 0, .int .i64 0, .int .i64 0, .int .i64 0, .int .i64 0, .int .i64 0, .int .i64 0, .int .i64 0, .int .i64 0, .int .i64 0, .int .i64 0, .bool false, .int .i64 0, .bool false] 27) (blk_old (o := .cells #[.string oa, .string ob] 55) (blk_new w (.cells (corC k) 27)))
  try simp only [alloc_size] at h
  exact h
 have K1 : (((w.alloc (.cells (corC k) 27)).alloc (.cells #[.string oa, .string ob] 55)).alloc (.cells #[.int .i64 0, .int .i64 0, .int .i64 0, .int .i64 0, .int .i64 0, .int .i64 0, .int .i64 0, .int .i64 0, .int .i64 0, .int .i64 0, .int .i64 0, .int .i64 0, .bool false, .int .i64 0, .bool false] 27)).heap[w.heap.size + 1]? = some (.cells #[.string oa, .string ob] 55 (0, 0)) := by
  have h := blk_old (o := .cells #[.int .i64 0, .int .i64 0, .int .i64 0, .int .i64 0, .int .i64 0, .int .i64 0, .int .i64 0, .int .i64 0, .int .i64 0, .int .i64 0, .int .i64 0, .int .i64 0, .bool false, .int .i64 0, .bool false] 27) (blk_new (w.alloc (.cells (corC k) 27)) (.cells #[.string oa, .string ob] 55))
  try simp only [alloc_size] at h
  exact h
 have K2 : (((w.alloc (.cells (corC k) 27)).alloc (.cells #[.string oa, .string ob] 55)).alloc (.cells #[.int .i64 0, .int .i64 0, .int .i64 0, .int .i64 0, .int .i64 0, .int .i64 0, .int .i64 0, .int .i64 0, .int .i64 0, .int .i64 0, .int .i64 0, .int .i64 0, .bool false, .int .i64 0, .bool false] 27)).heap[w.heap.size + 1 + 1]? = some (.cells #[.int .i64 0, .int .i64 0, .int .i64 0, .int .i64 0, .int .i64 0, .int .i64 0, .int .i64 0, .int .i64 0, .int .i64 0, .int .i64 0, .int .i64 0, .int .i64 0, .bool false, .int .i64 0, .bool false] 27 (0, 0)) := by
  have h := blk_new ((w.alloc (.cells (corC k) 27)).alloc (.cells #[.string oa, .string ob] 55)) (.cells #[.int .i64 0, .int .i64 0, .int .i64 0, .int .i64 0, .int .i64 0, .int .i64 0, .int .i64 0, .int .i64 0, .int .i64 0, .int .i64 0, .int .i64 0, .int .i64 0, .bool false, .int .i64 0, .bool false] 27)
  try simp only [alloc_size] at h
  exact h
 have B0 := below_alloc (below_alloc (below_alloc (Below.refl w.heap.size w) (.cells (corC k) 27)) (.cells #[.string oa, .string ob] 55)) (.cells #[.int .i64 0, .int .i64 0, .int .i64 0, .int .i64 0, .int .i64 0, .int .i64 0, .int .i64 0, .int .i64 0, .int .i64 0, .int .i64 0, .int .i64 0, .int .i64 0, .bool false, .int .i64 0, .bool false] 27)
 generalize (((w.alloc (.cells (corC k) 27)).alloc (.cells #[.string oa, .string ob] 55)).alloc (.cells #[.int .i64 0, .int .i64 0, .int .i64 0, .int .i64 0, .int .i64 0, .int .i64 0, .int .i64 0, .int .i64 0, .int .i64 0, .int .i64 0, .int .i64 0, .int .i64 0, .bool false, .int .i64 0, .bool false] 27)) = w0 at K0 K1 K2 B0 ⊢
 replace K0 : Hid (CorAt w.heap.size k w0) := Lib.hid K0
 replace K1 := Lib.hid K1
 replace K2 := Lib.hid K2
 replace B0 := Lib.hid B0
 have fz := CorAt.free K0.out
 have c_t := CorAt.c_t K0.out
 have o0 := cell_of_blk (i := 0) (v := .string oa) K1.out rfl
 have o1 := cell_of_blk (i := 1) (v := .string ob) K1.out rfl
 go_wp2_with (first
  | (refine load_row (by rfl) 55 _ (by rfl) _ (by rfl) 2 _ Tryz.underlying55 rfl (by kernel_rfl) (by exact rowS) rfl ?_)
  | (go_at_call 36; refine ((fun w => show Calls Tryz.prog 36 #[.agg #[.string oa, .string ob]] w _ from spec_kindOf oa ob w) _).mono ?_; rintro e w1 ⟨rfl, hb⟩; refine Hid.out ?_))
 have K0 := Lib.hid (CorAt.below K0.out hb)
 have K1 := Lib.hid (blk_below (b := w.heap.size + 1) (show _ = some (Obj.cells #[.string oa, .string ob] 55 (0, 0)) by exact rowS) hb)
 have K2 := Lib.hid (blk_below (b := w.heap.size + 1 + 1) (show _ = some (Obj.cells #[.int .i64 0, .int .i64 0, .int .i64 0, .int .i64 0, .int .i64 0, .int .i64 0, .int .i64 0, .int .i64 0, .int .i64 0, .int .i64 0, .int .i64 0, .int .i64 0, .bool false, .int .i64 0, .bool false] 27 (0, 0)) by exact rowS) hb)
 have B0 := Lib.hid (below_then (show Below w.heap.size w _ by exact belS) hb)
 clear hb fz c_t o0 o1
 have fz := CorAt.free K0.out
 have hlt := (Array.getElem?_eq_some_iff.1 K2.out).1
 have c_t := CorAt.c_t K0.out
 have c_cr := CorAt.c_cr K0.out
 have o0 := cell_of_blk (i := 0) (v := .string oa) K1.out rfl
 have o1 := cell_of_blk (i := 1) (v := .string ob) K1.out rfl
 refine Lib.hid ?_
 by_cases h19 : k.t = 19
 ·by_cases hc : k.cr = true
  ·go_upto_region 5 with fail
   go_wp2_with (first
    | (refine ldi_hi (by rfl) _ (by rfl) _ (by rfl) (by exact someS) ?_; intro vhi)
    | (refine sti_hi (by rfl) (by rfl) _ _ (by rfl) _ (by rfl) _ (by rfl) (by exact someS) ?_; intro k3)
    | (refine sti_t (by rfl) (by rfl) _ _ (by rfl) _ (by rfl) _ (by rfl) (by exact someS) ?_; intro k3)
    | (refine load_some (by rfl) _ (by rfl) _ (by rfl) (by exact someS) ?_; intro k2 hk2)
    | (refine store_row (by rfl) 27 _ _ (by rfl) _ _ (by rfl) (by rfl) 15 (by kernel_rfl) (by exact rowS; done) rfl rfl (by rfl) ?_)
    | (refine store_some (by rfl) (by rfl) _ _ (by rfl) _ (by rfl) _ (by rfl) (by exact someS; done) ?_))
   exact row_tmp_post rfl rfl rfl Tryz.underlying27 rfl (by kernel_rfl) rfl (setRow_heap _ _ _ _ _ _ (by exact rowS)) rfl (cor_done (below_row (by exact belS) (by omega)))
  ·replace hc := Bool.eq_false_iff.2 hc
   go_upto_region 6 with fail
   go_wp2_with (first
    | (refine ldi_hi (by rfl) _ (by rfl) _ (by rfl) (by exact someS) ?_; intro vhi)
    | (refine sti_hi (by rfl) (by rfl) _ _ (by rfl) _ (by rfl) _ (by rfl) (by exact someS) ?_; intro k3)
    | (refine sti_t (by rfl) (by rfl) _ _ (by rfl) _ (by rfl) _ (by rfl) (by exact someS) ?_; intro k3)
    | (refine load_some (by rfl) _ (by rfl) _ (by rfl) (by exact someS) ?_; intro k2 hk2)
    | (refine store_row (by rfl) 27 _ _ (by rfl) _ _ (by rfl) (by rfl) 15 (by kernel_rfl) (by exact rowS; done) rfl rfl (by rfl) ?_)
    | (refine store_some (by rfl) (by rfl) _ _ (by rfl) _ (by rfl) _ (by rfl) (by exact someS; done) ?_))
   exact row_tmp_post rfl rfl rfl Tryz.underlying27 rfl (by kernel_rfl) rfl (setRow_heap _ _ _ _ _ _ (by exact rowS)) rfl (cor_done (below_row (by exact belS) (by omega)))
 ·by_cases h20 : k.t = 20
  ·by_cases k2 : kindI oa ob = 2
   ·go_upto_region 8 with fail
    go_wp2_with (first
     | (refine sti_vl (by rfl) (by rfl) _ _ (by rfl) _ (by rfl) _ (by rfl) (by exact someS) ?_; intro k3)
     | (refine sti_t (by rfl) (by rfl) _ _ (by rfl) _ (by rfl) _ (by rfl) (by exact someS) ?_; intro k3)
     | (refine load_some (by rfl) _ (by rfl) _ (by rfl) (by exact someS) ?_; intro k2 hk2)
     | (refine store_row (by rfl) 27 _ _ (by rfl) _ _ (by rfl) (by rfl) 15 (by kernel_rfl) (by exact rowS; done) rfl rfl (by rfl) ?_)
     | (refine store_some (by rfl) (by rfl) _ _ (by rfl) _ (by rfl) _ (by rfl) (by exact someS; done) ?_))
    exact row_tmp_post rfl rfl rfl Tryz.underlying27 rfl (by kernel_rfl) rfl (setRow_heap _ _ _ _ _ _ (by exact rowS)) rfl (cor_done (below_row (by exact belS) (by omega)))
   ·by_cases k0 : kindI oa ob = 0
    ·go_upto_region 12 with fail
     go_wp2_with (first
      | (refine load_rsome (by rfl) _ (by rfl) _ (by rfl) (by exact someS) ?_; intro r2)
      | (go_at_call 72; refine (s_apply _ _ _ _).mono ?_; rintro e w1 ⟨r3, x9, rfl, hb⟩)
      | (refine store_rsome (by rfl) (by rfl) _ _ (by rfl) _ (by rfl) _ (by rfl) (by exact someS) ?_; intro k3)
      | (refine load_some (by rfl) _ (by rfl) _ (by rfl) (by exact someS) ?_; intro k2 hk2)
      | (refine store_row (by rfl) 27 _ _ (by rfl) _ _ (by rfl) (by rfl) 15 (by kernel_rfl) (by exact rowS; done) rfl rfl (by rfl) ?_)
      | (refine store_some (by rfl) (by rfl) _ _ (by rfl) _ (by rfl) _ (by rfl) (by exact someS; done) ?_))
     exact row_tmp_post rfl rfl rfl Tryz.underlying27 rfl (by kernel_rfl) rfl (setRow_heap _ _ _ _ _ _ (by exact rowS)) rfl (cor_done (below_row (by exact belS) (by omega)))
    ·go_upto_region 13 with fail
     go_wp2_with (first
      | (refine load_some (by rfl) _ (by rfl) _ (by rfl) (by exact someS) ?_; intro k2 hk2)
      | (refine store_row (by rfl) 27 _ _ (by rfl) _ _ (by rfl) (by rfl) 15 (by kernel_rfl) (by exact rowS; done) rfl rfl (by rfl) ?_)
      | (refine store_some (by rfl) (by rfl) _ _ (by rfl) _ (by rfl) _ (by rfl) (by exact someS; done) ?_))
     exact row_tmp_post rfl rfl rfl Tryz.underlying27 rfl (by kernel_rfl) rfl (setRow_heap _ _ _ _ _ _ (by exact rowS)) rfl (cor_done (below_row (by exact belS) (by omega)))
  ·by_cases h21 : k.t = 21
   ·go_upto_region 15 with fail
    go_wp2_with (first
     | (refine sti_t (by rfl) (by rfl) _ _ (by rfl) _ (by rfl) _ (by rfl) (by exact someS) ?_; intro k3)
     | (refine load_some (by rfl) _ (by rfl) _ (by rfl) (by exact someS) ?_; intro k2 hk2)
     | (refine store_row (by rfl) 27 _ _ (by rfl) _ _ (by rfl) (by rfl) 15 (by kernel_rfl) (by exact rowS; done) rfl rfl (by rfl) ?_)
     | (refine store_some (by rfl) (by rfl) _ _ (by rfl) _ (by rfl) _ (by rfl) (by exact someS; done) ?_))
    exact row_tmp_post rfl rfl rfl Tryz.underlying27 rfl (by kernel_rfl) rfl (setRow_heap _ _ _ _ _ _ (by exact rowS)) rfl (cor_done (below_row (by exact belS) (by omega)))
   ·by_cases h22 : k.t = 22
    ·have c_vl := CorAt.c_vl K0.out
     go_upto_region 17 with fail
     go_wp2_with (first
      | (refine load_rsome (by rfl) _ (by rfl) _ (by rfl) (by exact someS) ?_; intro r2)
      | (go_at_call 72; refine (s_apply _ _ _ _).mono ?_; rintro e w1 ⟨r3, x9, rfl, hb⟩)
      | (refine store_rsome (by rfl) (by rfl) _ _ (by rfl) _ (by rfl) _ (by rfl) (by exact someS) ?_; intro k3)
      | (refine load_some (by rfl) _ (by rfl) _ (by rfl) (by exact someS) ?_; intro k2 hk2)
      | (refine store_row (by rfl) 27 _ _ (by rfl) _ _ (by rfl) (by rfl) 15 (by kernel_rfl) (by exact rowS; done) rfl rfl (by rfl) ?_)
      | (refine store_some (by rfl) (by rfl) _ _ (by rfl) _ (by rfl) _ (by rfl) (by exact someS; done) ?_))
     exact row_tmp_post rfl rfl rfl Tryz.underlying27 rfl (by kernel_rfl) rfl (setRow_heap _ _ _ _ _ _ (by exact rowS)) rfl (cor_done (below_row (by exact belS) (by omega)))
    ·go_upto_region 2 with fail
     go_wp2_with (first
      | (go_at_call 76; refine (s_reach _ _ _ _ _).mono ?_; rintro e w1 ⟨k9, rfl, hb⟩)
      | (refine load_some (by rfl) _ (by rfl) _ (by rfl) (by exact someS) ?_; intro k2 hk2)
      | (refine store_row (by rfl) 27 _ _ (by rfl) _ _ (by rfl) (by rfl) 15 (by kernel_rfl) (by exact rowS; done) rfl rfl (by rfl) ?_)
      | (refine store_some (by rfl) (by rfl) _ _ (by rfl) _ (by rfl) _ (by rfl) (by exact someS; done) ?_))
     exact row_tmp_post rfl rfl rfl Tryz.underlying27 rfl (by kernel_rfl) rfl (setRow_heap _ _ _ _ _ _ (by exact rowS)) rfl (cor_done (below_row (by exact belS) (by omega)))
end Go.Proofs.YthklebkpoccblaaGreat
namespace Go.Proofs.YthklebkpoccblaaGreat
open Go.RowKit
set_option maxRecDepth 100000 in
set_option maxHeartbeats 20000000 in
theorem s_jumped (k : CorI) (v : Int) (oa ob : ByteArray) (w : World) : Calls Tryz.prog 74 #[.agg (corC k), .int .i64 v, .agg #[.string oa, .string ob]] w (CorDone w) := by
 go_enter Tryz.func74, Tryz.ntmps74
 go_upto_region 1 with fail
 have K0 : (((w.alloc (.cells (corC k) 27)).alloc (.cells #[.string oa, .string ob] 55)).alloc (.cells #[.int .i64 0, .int .i64 0, .int .i64 0, .int .i64 0, .int .i64 0, .int .i64 0, .int .i64 0, .int .i64 0, .int .i64 0, .int .i64 0, .int .i64 0, .int .i64 0, .bool false, .int .i64 0, .bool false] 27)).heap[w.heap.size]? = some (.cells (corC k) 27 (0, 0)) := by
  have h := blk_old (o := .cells #[.int .i64 0, .int .i64 0, .int .i64 0, .int .i64 0, .int .i64 0, .int .i64 0, .int .i64 0, .int .i64 0, .int .i64 0, .int .i64 0, .int .i64 0, .int .i64 0, .bool false, .int .i64 0, .bool false] 27) (blk_old (o := .cells #[.string oa, .string ob] 55) (blk_new w (.cells (corC k) 27)))
  try simp only [alloc_size] at h
  exact h
 have K1 : (((w.alloc (.cells (corC k) 27)).alloc (.cells #[.string oa, .string ob] 55)).alloc (.cells #[.int .i64 0, .int .i64 0, .int .i64 0, .int .i64 0, .int .i64 0, .int .i64 0, .int .i64 0, .int .i64 0, .int .i64 0, .int .i64 0, .int .i64 0, .int .i64 0, .bool false, .int .i64 0, .bool false] 27)).heap[w.heap.size + 1]? = some (.cells #[.string oa, .string ob] 55 (0, 0)) := by
  have h := blk_old (o := .cells #[.int .i64 0, .int .i64 0, .int .i64 0, .int .i64 0, .int .i64 0, .int .i64 0, .int .i64 0, .int .i64 0, .int .i64 0, .int .i64 0, .int .i64 0, .int .i64 0, .bool false, .int .i64 0, .bool false] 27) (blk_new (w.alloc (.cells (corC k) 27)) (.cells #[.string oa, .string ob] 55))
  try simp only [alloc_size] at h
  exact h
 have K2 : (((w.alloc (.cells (corC k) 27)).alloc (.cells #[.string oa, .string ob] 55)).alloc (.cells #[.int .i64 0, .int .i64 0, .int .i64 0, .int .i64 0, .int .i64 0, .int .i64 0, .int .i64 0, .int .i64 0, .int .i64 0, .int .i64 0, .int .i64 0, .int .i64 0, .bool false, .int .i64 0, .bool false] 27)).heap[w.heap.size + 1 + 1]? = some (.cells #[.int .i64 0, .int .i64 0, .int .i64 0, .int .i64 0, .int .i64 0, .int .i64 0, .int .i64 0, .int .i64 0, .int .i64 0, .int .i64 0, .int .i64 0, .int .i64 0, .bool false, .int .i64 0, .bool false] 27 (0, 0)) := by
  have h := blk_new ((w.alloc (.cells (corC k) 27)).alloc (.cells #[.string oa, .string ob] 55)) (.cells #[.int .i64 0, .int .i64 0, .int .i64 0, .int .i64 0, .int .i64 0, .int .i64 0, .int .i64 0, .int .i64 0, .int .i64 0, .int .i64 0, .int .i64 0, .int .i64 0, .bool false, .int .i64 0, .bool false] 27)
  try simp only [alloc_size] at h
  exact h
 have B0 := below_alloc (below_alloc (below_alloc (Below.refl w.heap.size w) (.cells (corC k) 27)) (.cells #[.string oa, .string ob] 55)) (.cells #[.int .i64 0, .int .i64 0, .int .i64 0, .int .i64 0, .int .i64 0, .int .i64 0, .int .i64 0, .int .i64 0, .int .i64 0, .int .i64 0, .int .i64 0, .int .i64 0, .bool false, .int .i64 0, .bool false] 27)
 generalize (((w.alloc (.cells (corC k) 27)).alloc (.cells #[.string oa, .string ob] 55)).alloc (.cells #[.int .i64 0, .int .i64 0, .int .i64 0, .int .i64 0, .int .i64 0, .int .i64 0, .int .i64 0, .int .i64 0, .int .i64 0, .int .i64 0, .int .i64 0, .int .i64 0, .bool false, .int .i64 0, .bool false] 27)) = w0 at K0 K1 K2 B0 ⊢
 replace K0 : Hid (CorAt w.heap.size k w0) := Lib.hid K0
 replace K1 := Lib.hid K1
 replace K2 := Lib.hid K2
 replace B0 := Lib.hid B0
 have fz := CorAt.free K0.out
 have c_t := CorAt.c_t K0.out
 have c_lo := CorAt.c_lo K0.out
 have c_vl := CorAt.c_vl K0.out
 have o0 := cell_of_blk (i := 0) (v := .string oa) K1.out rfl
 have o1 := cell_of_blk (i := 1) (v := .string ob) K1.out rfl
 by_cases h1 : k.t = 1
 ·go_upto_region 5 with fail
  go_wp2_with (first
   | (refine load_some (by rfl) _ (by rfl) _ (by rfl) (by exact someS) ?_; intro k2 hk2)
   | (go_at_call 63; refine (t_l10Up _ _).mono ?_; rintro e w1 ⟨k9, rfl, hb⟩)
   | (refine sti_lo (by rfl) (by rfl) _ _ (by rfl) _ (by rfl) _ (by rfl) (by exact someS) ?_; intro k3)
   | (refine store_row (by rfl) 27 _ _ (by rfl) _ _ (by rfl) (by rfl) 15 (by kernel_rfl) (by exact rowS; done) rfl rfl (by rfl) ?_)
   | (refine store_some (by rfl) (by rfl) _ _ (by rfl) _ (by rfl) _ (by rfl) (by exact someS; done) ?_))
  exact row_tmp_post rfl rfl rfl Tryz.underlying27 rfl (by kernel_rfl) rfl (setRow_heap _ _ _ _ _ _ (by exact rowS)) rfl (cor_done (below_row (by exact belS) (by omega)))
 ·by_cases J : oa = ⟨#[74, 83, 82]⟩
  ·have eJ0 : (oa.toList == [74, 83, 82]) = true := by rw [J, ByteArray.toList_eq]; decide
   clear J
   by_cases h2 : k.t = 2
   ·go_upto_region 8 with fail
    go_wp2_with (first
     | (refine load_some (by rfl) _ (by rfl) _ (by rfl) (by exact someS) ?_; intro k2 hk2)
     | (refine store_row (by rfl) 27 _ _ (by rfl) _ _ (by rfl) (by rfl) 15 (by kernel_rfl) (by exact rowS; done) rfl rfl (by rfl) ?_))
    exact row_tmp_post rfl rfl rfl Tryz.underlying27 rfl (by kernel_rfl) rfl (setRow_heap _ _ _ _ _ _ (by exact rowS)) rfl (cor_done (below_row (by exact belS) (by omega)))
   ·by_cases h5 : k.t < 5
    ·go_upto_region 10 with fail
     go_wp2_with (first
      | (refine load_some (by rfl) _ (by rfl) _ (by rfl) (by exact someS) ?_; intro k2 hk2)
      | (go_at_call 66; refine (t_l10Drop _ _).mono ?_; rintro e w1 ⟨k9, rfl, hb⟩)
      | (refine store_row (by rfl) 27 _ _ (by rfl) _ _ (by rfl) (by rfl) 15 (by kernel_rfl) (by exact rowS; done) rfl rfl (by rfl) ?_)
      | (refine store_some (by rfl) (by rfl) _ _ (by rfl) _ (by rfl) _ (by rfl) (by exact someS; done) ?_))
     exact row_tmp_post rfl rfl rfl Tryz.underlying27 rfl (by kernel_rfl) rfl (setRow_heap _ _ _ _ _ _ (by exact rowS)) rfl (cor_done (below_row (by exact belS) (by omega)))
    ·by_cases hd : ob = ⟨#[105, 110, 100]⟩
     ·have ehd0 : (ob.toList == [105, 110, 100]) = true := by rw [hd, ByteArray.toList_eq]; decide
      clear hd
      have h3 : ¬ k.t = 3 := by omega
      go_upto_region 17 with fail
      go_wp2_with (first
       | (refine load_some (by rfl) _ (by rfl) _ (by rfl) (by exact someS) ?_; intro k2 hk2)
       | (refine ldi_vl (by rfl) _ (by rfl) _ (by rfl) (by exact someS) ?_; intro vvl)
       | (go_at_call 69; refine (t_l10Go _ _ _ _).mono ?_; rintro e w1 ⟨k9, rfl, hb⟩)
       | (refine store_row (by rfl) 27 _ _ (by rfl) _ _ (by rfl) (by rfl) 15 (by kernel_rfl) (by exact rowS; done) rfl rfl (by rfl) ?_))
      exact row_tmp_post rfl rfl rfl Tryz.underlying27 rfl (by kernel_rfl) rfl (setRow_heap _ _ _ _ _ _ (by exact rowS)) rfl (cor_done (below_row (by exact belS) (by omega)))
     ·have nhd := ne_list [105, 110, 100] hd
      clear hd
      have h3 : ¬ k.t = 3 := by omega
      go_upto_region 3 with fail
      go_wp2_with (first
       | (refine load_some (by rfl) _ (by rfl) _ (by rfl) (by exact someS) ?_; intro k2 hk2)
       | (refine ldi_lo (by rfl) _ (by rfl) _ (by rfl) (by exact someS) ?_; intro vlo)
       | (go_at_call 69; refine (t_l10Go _ _ _ _).mono ?_; rintro e w1 ⟨k9, rfl, hb⟩)
       | (refine store_row (by rfl) 27 _ _ (by rfl) _ _ (by rfl) (by rfl) 15 (by kernel_rfl) (by exact rowS; done) rfl rfl (by rfl) ?_))
      exact row_tmp_post rfl rfl rfl Tryz.underlying27 rfl (by kernel_rfl) rfl (setRow_heap _ _ _ _ _ _ (by exact rowS)) rfl (cor_done (below_row (by exact belS) (by omega)))
  ·have nJ := ne_list [74, 83, 82] J
   clear J
   by_cases hd : ob = ⟨#[105, 110, 100]⟩
   ·have ehd0 : (ob.toList == [105, 110, 100]) = true := by rw [hd, ByteArray.toList_eq]; decide
    clear hd
    by_cases h2 : k.t = 2
    ·go_upto_region 12 with fail
     go_wp2_with (first
      | (refine load_some (by rfl) _ (by rfl) _ (by rfl) (by exact someS) ?_; intro k2 hk2)
      | (go_at_call 63; refine (t_l10Up _ _).mono ?_; rintro e w1 ⟨k9, rfl, hb⟩)
      | (refine sti_hi (by rfl) (by rfl) _ _ (by rfl) _ (by rfl) _ (by rfl) (by exact someS) ?_; intro k3)
      | (refine store_row (by rfl) 27 _ _ (by rfl) _ _ (by rfl) (by rfl) 15 (by kernel_rfl) (by exact rowS; done) rfl rfl (by rfl) ?_)
      | (refine store_some (by rfl) (by rfl) _ _ (by rfl) _ (by rfl) _ (by rfl) (by exact someS; done) ?_))
     exact row_tmp_post rfl rfl rfl Tryz.underlying27 rfl (by kernel_rfl) rfl (setRow_heap _ _ _ _ _ _ (by exact rowS)) rfl (cor_done (below_row (by exact belS) (by omega)))
    ·by_cases h3 : k.t = 3
     ·go_upto_region 15 with fail
      go_wp2_with (first
       | (refine sti_vl (by rfl) (by rfl) _ _ (by rfl) _ (by rfl) _ (by rfl) (by exact someS) ?_; intro k3)
       | (refine load_some (by rfl) _ (by rfl) _ (by rfl) (by exact someS) ?_; intro k2 hk2)
       | (refine store_row (by rfl) 27 _ _ (by rfl) _ _ (by rfl) (by rfl) 15 (by kernel_rfl) (by exact rowS; done) rfl rfl (by rfl) ?_))
      exact row_tmp_post rfl rfl rfl Tryz.underlying27 rfl (by kernel_rfl) rfl (setRow_heap _ _ _ _ _ _ (by exact rowS)) rfl (cor_done (below_row (by exact belS) (by omega)))
     ·go_upto_region 17 with fail
      go_wp2_with (first
       | (refine load_some (by rfl) _ (by rfl) _ (by rfl) (by exact someS) ?_; intro k2 hk2)
       | (refine ldi_vl (by rfl) _ (by rfl) _ (by rfl) (by exact someS) ?_; intro vvl)
       | (go_at_call 69; refine (t_l10Go _ _ _ _).mono ?_; rintro e w1 ⟨k9, rfl, hb⟩)
       | (refine store_row (by rfl) 27 _ _ (by rfl) _ _ (by rfl) (by rfl) 15 (by kernel_rfl) (by exact rowS; done) rfl rfl (by rfl) ?_))
      exact row_tmp_post rfl rfl rfl Tryz.underlying27 rfl (by kernel_rfl) rfl (setRow_heap _ _ _ _ _ _ (by exact rowS)) rfl (cor_done (below_row (by exact belS) (by omega)))
   ·have nhd := ne_list [105, 110, 100] hd
    clear hd
    go_upto_region 3 with fail
    go_wp2_with (first
     | (refine load_some (by rfl) _ (by rfl) _ (by rfl) (by exact someS) ?_; intro k2 hk2)
     | (refine ldi_lo (by rfl) _ (by rfl) _ (by rfl) (by exact someS) ?_; intro vlo)
     | (go_at_call 69; refine (t_l10Go _ _ _ _).mono ?_; rintro e w1 ⟨k9, rfl, hb⟩)
     | (refine store_row (by rfl) 27 _ _ (by rfl) _ _ (by rfl) (by rfl) 15 (by kernel_rfl) (by exact rowS; done) rfl rfl (by rfl) ?_))
    exact row_tmp_post rfl rfl rfl Tryz.underlying27 rfl (by kernel_rfl) rfl (setRow_heap _ _ _ _ _ _ (by exact rowS)) rfl (cor_done (below_row (by exact belS) (by omega)))
end Go.Proofs.YthklebkpoccblaaGreat
namespace Go.Proofs.YthklebkpoccblaaGreat
open Go.RowKit
set_option maxRecDepth 100000 in
set_option maxHeartbeats 20000000 in
theorem s_pulls (k : CorI) (v : Int) (nm : ByteArray) (w : World) : Calls Tryz.prog 75 #[.agg (corC k), .int .i64 v, .string nm] w (CorDone w) := by
 go_enter Tryz.func75, Tryz.ntmps75
 go_upto_region 1 with fail
 have K0 : ((w.alloc (.cells (corC k) 27)).alloc (.cells #[.int .i64 0, .int .i64 0, .int .i64 0, .int .i64 0, .int .i64 0, .int .i64 0, .int .i64 0, .int .i64 0, .int .i64 0, .int .i64 0, .int .i64 0, .int .i64 0, .bool false, .int .i64 0, .bool false] 27)).heap[w.heap.size]? = some (.cells (corC k) 27 (0, 0)) := by
  have h := blk_old (o := .cells #[.int .i64 0, .int .i64 0, .int .i64 0, .int .i64 0, .int .i64 0, .int .i64 0, .int .i64 0, .int .i64 0, .int .i64 0, .int .i64 0, .int .i64 0, .int .i64 0, .bool false, .int .i64 0, .bool false] 27) (blk_new w (.cells (corC k) 27))
  try simp only [alloc_size] at h
  exact h
 have K1 : ((w.alloc (.cells (corC k) 27)).alloc (.cells #[.int .i64 0, .int .i64 0, .int .i64 0, .int .i64 0, .int .i64 0, .int .i64 0, .int .i64 0, .int .i64 0, .int .i64 0, .int .i64 0, .int .i64 0, .int .i64 0, .bool false, .int .i64 0, .bool false] 27)).heap[w.heap.size + 1]? = some (.cells #[.int .i64 0, .int .i64 0, .int .i64 0, .int .i64 0, .int .i64 0, .int .i64 0, .int .i64 0, .int .i64 0, .int .i64 0, .int .i64 0, .int .i64 0, .int .i64 0, .bool false, .int .i64 0, .bool false] 27 (0, 0)) := by
  have h := blk_new (w.alloc (.cells (corC k) 27)) (.cells #[.int .i64 0, .int .i64 0, .int .i64 0, .int .i64 0, .int .i64 0, .int .i64 0, .int .i64 0, .int .i64 0, .int .i64 0, .int .i64 0, .int .i64 0, .int .i64 0, .bool false, .int .i64 0, .bool false] 27)
  try simp only [alloc_size] at h
  exact h
 have B0 := below_alloc (below_alloc (Below.refl w.heap.size w) (.cells (corC k) 27)) (.cells #[.int .i64 0, .int .i64 0, .int .i64 0, .int .i64 0, .int .i64 0, .int .i64 0, .int .i64 0, .int .i64 0, .int .i64 0, .int .i64 0, .int .i64 0, .int .i64 0, .bool false, .int .i64 0, .bool false] 27)
 generalize ((w.alloc (.cells (corC k) 27)).alloc (.cells #[.int .i64 0, .int .i64 0, .int .i64 0, .int .i64 0, .int .i64 0, .int .i64 0, .int .i64 0, .int .i64 0, .int .i64 0, .int .i64 0, .int .i64 0, .int .i64 0, .bool false, .int .i64 0, .bool false] 27)) = w0 at K0 K1 B0 ⊢
 replace K0 : Hid (CorAt w.heap.size k w0) := Lib.hid K0
 replace K1 := Lib.hid K1
 replace B0 := Lib.hid B0
 have fz := CorAt.free K0.out
 have c_t := CorAt.c_t K0.out
 have c_lo := CorAt.c_lo K0.out
 by_cases h1 : k.t = 1
 ·go_upto_region 4 with fail
  go_wp2_with (first
   | (refine load_some (by rfl) _ (by rfl) _ (by rfl) (by exact someS) ?_; intro k2 hk2)
   | (refine store_row (by rfl) 27 _ _ (by rfl) _ _ (by rfl) (by rfl) 15 (by kernel_rfl) (by exact rowS; done) rfl rfl (by rfl) ?_))
  exact row_tmp_post rfl rfl rfl Tryz.underlying27 rfl (by kernel_rfl) rfl (setRow_heap _ _ _ _ _ _ (by exact rowS)) rfl (cor_done (below_row (by exact belS) (by omega)))
 ·by_cases h2 : k.t = 2
  ·go_upto_region 6 with fail
   go_wp2_with (first
    | (refine load_some (by rfl) _ (by rfl) _ (by rfl) (by exact someS) ?_; intro k2 hk2)
    | (refine store_row (by rfl) 27 _ _ (by rfl) _ _ (by rfl) (by rfl) 15 (by kernel_rfl) (by exact rowS; done) rfl rfl (by rfl) ?_)
    | (go_at_call 106; refine (t_l10Pop _ _).mono ?_; rintro e w1 ⟨k9, rfl, hb⟩))
   exact row_tmp_post rfl rfl rfl Tryz.underlying27 rfl (by kernel_rfl) rfl (setRow_heap _ _ _ _ _ _ (by exact rowS)) rfl (cor_done (below_row (by exact belS) (by omega)))
  ·by_cases h3 : k.t = 3
   ·by_cases PLA : nm = ⟨#[80, 76, 65]⟩
    ·have ePLA0 : (nm.toList == [80, 76, 65]) = true := by rw [PLA, ByteArray.toList_eq]; decide
     have ePLA1 : (nm.toList == [80, 76, 80]) = false := by rw [PLA, ByteArray.toList_eq]; decide
     have ePLA2 : (nm.toList == [82, 84, 83]) = false := by rw [PLA, ByteArray.toList_eq]; decide
     have ePLA3 : (nm.toList == [82, 84, 73]) = false := by rw [PLA, ByteArray.toList_eq]; decide
     clear PLA
     go_upto_region 8 with fail
     go_wp2_with (first
      | (refine load_rsome (by rfl) _ (by rfl) _ (by rfl) (by exact someS) ?_; intro r2)
      | (go_at_call 96; refine ((spec_set_A _ _ _)).mono ?_; rintro e w1 ⟨rfl, hb⟩)
      | (refine store_rsome (by rfl) (by rfl) _ _ (by rfl) _ (by rfl) _ (by rfl) (by exact someS) ?_; intro k3)
      | (refine load_some (by rfl) _ (by rfl) _ (by rfl) (by exact someS) ?_; intro k2 hk2)
      | (refine store_row (by rfl) 27 _ _ (by rfl) _ _ (by rfl) (by rfl) 15 (by kernel_rfl) (by exact rowS; done) rfl rfl (by rfl) ?_))
     exact row_tmp_post rfl rfl rfl Tryz.underlying27 rfl (by kernel_rfl) rfl (setRow_heap _ _ _ _ _ _ (by exact rowS)) rfl (cor_done (below_row (by exact belS) (by omega)))
    ·have nPLA := ne_list [80, 76, 65] PLA
     clear PLA
     by_cases RTS : nm = ⟨#[82, 84, 83]⟩
     ·have eRTS0 : (nm.toList == [80, 76, 65]) = false := by rw [RTS, ByteArray.toList_eq]; decide
      have eRTS1 : (nm.toList == [80, 76, 80]) = false := by rw [RTS, ByteArray.toList_eq]; decide
      have eRTS2 : (nm.toList == [82, 84, 83]) = true := by rw [RTS, ByteArray.toList_eq]; decide
      have eRTS3 : (nm.toList == [82, 84, 73]) = false := by rw [RTS, ByteArray.toList_eq]; decide
      clear RTS
      go_upto_region 16 with fail
      go_wp2_with (first
       | (refine load_some (by rfl) _ (by rfl) _ (by rfl) (by exact someS) ?_; intro k2 hk2)
       | (refine store_row (by rfl) 27 _ _ (by rfl) _ _ (by rfl) (by rfl) 15 (by kernel_rfl) (by exact rowS; done) rfl rfl (by rfl) ?_)
       | (go_at_call 106; refine (t_l10Pop _ _).mono ?_; rintro e w1 ⟨k9, rfl, hb⟩))
      exact row_tmp_post rfl rfl rfl Tryz.underlying27 rfl (by kernel_rfl) rfl (setRow_heap _ _ _ _ _ _ (by exact rowS)) rfl (cor_done (below_row (by exact belS) (by omega)))
     ·have nRTS := ne_list [82, 84, 83] RTS
      clear RTS
      by_cases PLP : nm = ⟨#[80, 76, 80]⟩
      ·have ePLP0 : (nm.toList == [80, 76, 65]) = false := by rw [PLP, ByteArray.toList_eq]; decide
       have ePLP1 : (nm.toList == [80, 76, 80]) = true := by rw [PLP, ByteArray.toList_eq]; decide
       have ePLP2 : (nm.toList == [82, 84, 83]) = false := by rw [PLP, ByteArray.toList_eq]; decide
       have ePLP3 : (nm.toList == [82, 84, 73]) = false := by rw [PLP, ByteArray.toList_eq]; decide
       clear PLP
       go_upto_region 11 with fail
       go_wp2_with (first
        | (go_at_call 26; refine (spec_pulled _ _).mono ?_; rintro e w1 ⟨rfl, rfl⟩)
        | (refine sti_p (by rfl) (by rfl) _ _ (by rfl) _ (by rfl) _ (by rfl) (by exact someS) ?_; intro k3)
        | (refine load_some (by rfl) _ (by rfl) _ (by rfl) (by exact someS) ?_; intro k2 hk2)
        | (refine store_row (by rfl) 27 _ _ (by rfl) _ _ (by rfl) (by rfl) 15 (by kernel_rfl) (by exact rowS; done) rfl rfl (by rfl) ?_))
       exact row_tmp_post rfl rfl rfl Tryz.underlying27 rfl (by kernel_rfl) rfl (setRow_heap _ _ _ _ _ _ (by exact rowS)) rfl (cor_done (below_row (by exact belS) (by omega)))
      ·have nPLP := ne_list [80, 76, 80] PLP
       clear PLP
       go_upto_region 11 with fail
       go_wp2_with (first
        | (go_at_call 26; refine (spec_pulled _ _).mono ?_; rintro e w1 ⟨rfl, rfl⟩)
        | (refine sti_p (by rfl) (by rfl) _ _ (by rfl) _ (by rfl) _ (by rfl) (by exact someS) ?_; intro k3)
        | (refine load_some (by rfl) _ (by rfl) _ (by rfl) (by exact someS) ?_; intro k2 hk2)
        | (refine store_row (by rfl) 27 _ _ (by rfl) _ _ (by rfl) (by rfl) 15 (by kernel_rfl) (by exact rowS; done) rfl rfl (by rfl) ?_)
        | (go_at_call 106; refine (t_l10Pop _ _).mono ?_; rintro e w1 ⟨k9, rfl, hb⟩))
       exact row_tmp_post rfl rfl rfl Tryz.underlying27 rfl (by kernel_rfl) rfl (setRow_heap _ _ _ _ _ _ (by exact rowS)) rfl (cor_done (below_row (by exact belS) (by omega)))
   ·by_cases h4 : k.t = 4
    ·by_cases RTI : nm = ⟨#[82, 84, 73]⟩
     ·have eRTI0 : (nm.toList == [80, 76, 65]) = false := by rw [RTI, ByteArray.toList_eq]; decide
      have eRTI1 : (nm.toList == [80, 76, 80]) = false := by rw [RTI, ByteArray.toList_eq]; decide
      have eRTI2 : (nm.toList == [82, 84, 83]) = false := by rw [RTI, ByteArray.toList_eq]; decide
      have eRTI3 : (nm.toList == [82, 84, 73]) = true := by rw [RTI, ByteArray.toList_eq]; decide
      clear RTI
      go_upto_region 16 with fail
      go_wp2_with (first
       | (refine load_some (by rfl) _ (by rfl) _ (by rfl) (by exact someS) ?_; intro k2 hk2)
       | (refine store_row (by rfl) 27 _ _ (by rfl) _ _ (by rfl) (by rfl) 15 (by kernel_rfl) (by exact rowS; done) rfl rfl (by rfl) ?_)
       | (go_at_call 106; refine (t_l10Pop _ _).mono ?_; rintro e w1 ⟨k9, rfl, hb⟩))
      exact row_tmp_post rfl rfl rfl Tryz.underlying27 rfl (by kernel_rfl) rfl (setRow_heap _ _ _ _ _ _ (by exact rowS)) rfl (cor_done (below_row (by exact belS) (by omega)))
     ·have nRTI := ne_list [82, 84, 73] RTI
      clear RTI
      go_upto_region 19 with fail
      go_wp2_with (first
       | (refine load_some (by rfl) _ (by rfl) _ (by rfl) (by exact someS) ?_; intro k2 hk2)
       | (refine store_row (by rfl) 27 _ _ (by rfl) _ _ (by rfl) (by rfl) 15 (by kernel_rfl) (by exact rowS; done) rfl rfl (by rfl) ?_)
       | (go_at_call 69; refine (t_l10Go _ _ _ _).mono ?_; rintro e w1 ⟨k9, rfl, hb⟩))
      exact row_tmp_post rfl rfl rfl Tryz.underlying27 rfl (by kernel_rfl) rfl (setRow_heap _ _ _ _ _ _ (by exact rowS)) rfl (cor_done (below_row (by exact belS) (by omega)))
    ·by_cases RTI : nm = ⟨#[82, 84, 73]⟩
     ·have eRTI0 : (nm.toList == [80, 76, 65]) = false := by rw [RTI, ByteArray.toList_eq]; decide
      have eRTI1 : (nm.toList == [80, 76, 80]) = false := by rw [RTI, ByteArray.toList_eq]; decide
      have eRTI2 : (nm.toList == [82, 84, 83]) = false := by rw [RTI, ByteArray.toList_eq]; decide
      have eRTI3 : (nm.toList == [82, 84, 73]) = true := by rw [RTI, ByteArray.toList_eq]; decide
      clear RTI
      go_upto_region 21 with fail
      go_wp2_with (first
       | (refine load_some (by rfl) _ (by rfl) _ (by rfl) (by exact someS) ?_; intro k2 hk2)
       | (refine store_row (by rfl) 27 _ _ (by rfl) _ _ (by rfl) (by rfl) 15 (by kernel_rfl) (by exact rowS; done) rfl rfl (by rfl) ?_)
       | (go_at_call 69; refine (t_l10Go _ _ _ _).mono ?_; rintro e w1 ⟨k9, rfl, hb⟩))
      exact row_tmp_post rfl rfl rfl Tryz.underlying27 rfl (by kernel_rfl) rfl (setRow_heap _ _ _ _ _ _ (by exact rowS)) rfl (cor_done (below_row (by exact belS) (by omega)))
     ·have nRTI := ne_list [82, 84, 73] RTI
      clear RTI
      go_upto_region 22 with fail
      go_wp2_with (first
       | (refine load_some (by rfl) _ (by rfl) _ (by rfl) (by exact someS) ?_; intro k2 hk2)
       | (refine store_row (by rfl) 27 _ _ (by rfl) _ _ (by rfl) (by rfl) 15 (by kernel_rfl) (by exact rowS; done) rfl rfl (by rfl) ?_)
       | (go_at_call 63; refine (t_l10Up _ _).mono ?_; rintro e w1 ⟨k9, rfl, hb⟩))
      exact row_tmp_post rfl rfl rfl Tryz.underlying27 rfl (by kernel_rfl) rfl (setRow_heap _ _ _ _ _ _ (by exact rowS)) rfl (cor_done (below_row (by exact belS) (by omega)))
end Go.Proofs.YthklebkpoccblaaGreat
