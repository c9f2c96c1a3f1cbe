/-
  Texts put together by program: FdM, FdS.
  Conditions: as each theorem says.
-/
import Derived.Test.YthklebkpoccblaaGreatRqav
namespace Go.Proofs.YthklebkpoccblaaGreat
open Go.RowKit
theorem is_abs (x : ByteArray) (w : World) : Calls Tryz.prog 71 #[.string x, .string ⟨#[97, 98, 115, 32, 97, 98, 120, 32, 97, 98, 121]⟩] w fun e w' => e = .returned (.bool (inB x [[97, 98, 115], [97, 98, 120], [97, 98, 121]])) ∧ Below w.heap.size w w' :=
 spec_is x [[97, 98, 115], [97, 98, 120], [97, 98, 121]] (by decide) (ok_words _ (by decide)) (by decide) (by decide) w
end Go.Proofs.YthklebkpoccblaaGreat
namespace Go.Proofs.YthklebkpoccblaaGreat
open Go.RowKit
set_option maxRecDepth 100000 in
set_option maxHeartbeats 20000000 in
theorem s_reachS (k : CorI) (v : Int) (md : ByteArray) (kd : Int) (h1 : k.t = 1) (w : World) : Calls Tryz.prog 76 #[.agg (corC k), .int .i64 v, .string md, .int .i64 kd] w (CorPost w) := by
 go_enter Tryz.func76, Tryz.ntmps76
 go_upto_region 1 with fail
 have K0 : ((w.alloc (.cells (corC k) 27)).alloc (.cells #[.int .i64 0, .int .i64 0, .int .i64 0, .int .i64 0, .int .i64 0, .int .i64 0, .int .i64 0, .int .i64 0, .int .i64 0, .int .i64 0, .int .i64 0, .int .i64 0, .bool false, .int .i64 0, .bool false] 27)).heap[w.heap.size]? = some (.cells (corC k) 27 (0, 0)) := by
  have h := blk_old (o := .cells #[.int .i64 0, .int .i64 0, .int .i64 0, .int .i64 0, .int .i64 0, .int .i64 0, .int .i64 0, .int .i64 0, .int .i64 0, .int .i64 0, .int .i64 0, .int .i64 0, .bool false, .int .i64 0, .bool false] 27) (blk_new w (.cells (corC k) 27))
  try simp only [alloc_size] at h
  exact h
 have K1 : ((w.alloc (.cells (corC k) 27)).alloc (.cells #[.int .i64 0, .int .i64 0, .int .i64 0, .int .i64 0, .int .i64 0, .int .i64 0, .int .i64 0, .int .i64 0, .int .i64 0, .int .i64 0, .int .i64 0, .int .i64 0, .bool false, .int .i64 0, .bool false] 27)).heap[w.heap.size + 1]? = some (.cells #[.int .i64 0, .int .i64 0, .int .i64 0, .int .i64 0, .int .i64 0, .int .i64 0, .int .i64 0, .int .i64 0, .int .i64 0, .int .i64 0, .int .i64 0, .int .i64 0, .bool false, .int .i64 0, .bool false] 27 (0, 0)) := by
  have h := blk_new (w.alloc (.cells (corC k) 27)) (.cells #[.int .i64 0, .int .i64 0, .int .i64 0, .int .i64 0, .int .i64 0, .int .i64 0, .int .i64 0, .int .i64 0, .int .i64 0, .int .i64 0, .int .i64 0, .int .i64 0, .bool false, .int .i64 0, .bool false] 27)
  try simp only [alloc_size] at h
  exact h
 have B0 := below_alloc (below_alloc (Below.refl w.heap.size w) (.cells (corC k) 27)) (.cells #[.int .i64 0, .int .i64 0, .int .i64 0, .int .i64 0, .int .i64 0, .int .i64 0, .int .i64 0, .int .i64 0, .int .i64 0, .int .i64 0, .int .i64 0, .int .i64 0, .bool false, .int .i64 0, .bool false] 27)
 generalize ((w.alloc (.cells (corC k) 27)).alloc (.cells #[.int .i64 0, .int .i64 0, .int .i64 0, .int .i64 0, .int .i64 0, .int .i64 0, .int .i64 0, .int .i64 0, .int .i64 0, .int .i64 0, .int .i64 0, .int .i64 0, .bool false, .int .i64 0, .bool false] 27)) = w0 at K0 K1 B0 ⊢
 replace K0 : Hid (CorAt w.heap.size k w0) := Lib.hid K0
 replace K1 := Lib.hid K1
 replace B0 := Lib.hid B0
 have fz := CorAt.free K0.out
 have c_t := CorAt.c_t K0.out
 by_cases hi : inB md [[105, 110, 120], [105, 110, 121]] = true
 ·go_upto_region 3 with fail
  go_upto_region 7 with (first
   | (refine load_some (by rfl) _ (by rfl) _ (by rfl) (by exact someS) ?_; intro k2 hk2)
   | (go_at_call 63; refine (t_l10Up _ _).mono ?_; rintro e w1 ⟨k9, rfl, hb⟩)
   | (refine store_some (by rfl) (by rfl) _ _ (by rfl) _ (by rfl) _ (by rfl) (by exact someS; done) ?_)
   | (refine ldi_t (by rfl) _ (by rfl) _ (by rfl) (by exact someS) ?_; intro vt)
   | (refine sti_t (by rfl) (by rfl) _ _ (by rfl) _ (by rfl) _ (by rfl) (by exact someS) ?_; intro k3))
  go_wp2_with (first
   | (go_at_call 71; refine (is_ii _ _).mono ?_; rintro e w1 ⟨rfl, hb⟩; refine Hid.out ?_))
  obtain ⟨k, K0⟩ := CorSome.below (by exact someS) hb
  replace K0 := Lib.hid K0
  have K1 := Lib.hid (blk_below (b := w.heap.size + 1) (show _ = some (Obj.cells #[.int .i64 0, .int .i64 0, .int .i64 0, .int .i64 0, .int .i64 0, .int .i64 0, .int .i64 0, .int .i64 0, .int .i64 0, .int .i64 0, .int .i64 0, .int .i64 0, .bool false, .int .i64 0, .bool false] 27 (0, 0)) by exact rowS) hb)
  have B0 := Lib.hid (below_then (show Below w.heap.size w _ by exact belS) hb)
  clear hb fz c_t
  have fz := CorAt.free K0.out
  have hlt := (Array.getElem?_eq_some_iff.1 K1.out).1
  refine Lib.hid ?_
  go_upto_region 8 with fail
  go_wp2_with (first
   | (refine sti_vl (by rfl) (by rfl) _ _ (by rfl) _ (by rfl) _ (by rfl) (by exact someS) ?_; intro k3)
   | (refine load_some (by rfl) _ (by rfl) _ (by rfl) (by exact someS) ?_; intro k2 hk2)
   | (refine store_row (by rfl) 27 _ _ (by rfl) _ _ (by rfl) (by rfl) 15 (by kernel_rfl) (by exact rowS; done) rfl rfl (by rfl) ?_)
   | (refine store_some (by rfl) (by rfl) _ _ (by rfl) _ (by rfl) _ (by rfl) (by exact someS; done) ?_))
  exact bodyPost_ret (results_cell_row rfl _ _ (w.heap.size + 1) _ _ _ _ rfl (setRow_heap _ _ _ _ _ _ (by exact rowS)) Tryz.underlying27 rfl (by kernel_rfl)) rfl (cor_post (below_row (by exact belS) (by omega)))
 ·replace hi := Bool.eq_false_iff.2 hi
  by_cases zpg : md = ⟨#[122, 112, 103]⟩
  ·have ezpg0 : (md.toList == [122, 112, 103]) = true := by rw [zpg, ByteArray.toList_eq]; decide
   clear zpg
   go_upto_region 3 with fail
   go_upto_region 7 with (first
    | (refine load_some (by rfl) _ (by rfl) _ (by rfl) (by exact someS) ?_; intro k2 hk2)
    | (go_at_call 63; refine (t_l10Up _ _).mono ?_; rintro e w1 ⟨k9, rfl, hb⟩)
    | (refine store_some (by rfl) (by rfl) _ _ (by rfl) _ (by rfl) _ (by rfl) (by exact someS; done) ?_)
    | (refine ldi_t (by rfl) _ (by rfl) _ (by rfl) (by exact someS) ?_; intro vt)
    | (refine sti_t (by rfl) (by rfl) _ _ (by rfl) _ (by rfl) _ (by rfl) (by exact someS) ?_; intro k3))
   go_wp2_with (first
    | (go_at_call 71; refine (is_ii _ _).mono ?_; rintro e w1 ⟨rfl, hb⟩; refine Hid.out ?_))
   obtain ⟨k, K0⟩ := CorSome.below (by exact someS) hb
   replace K0 := Lib.hid K0
   have K1 := Lib.hid (blk_below (b := w.heap.size + 1) (show _ = some (Obj.cells #[.int .i64 0, .int .i64 0, .int .i64 0, .int .i64 0, .int .i64 0, .int .i64 0, .int .i64 0, .int .i64 0, .int .i64 0, .int .i64 0, .int .i64 0, .int .i64 0, .bool false, .int .i64 0, .bool false] 27 (0, 0)) by exact rowS) hb)
   have B0 := Lib.hid (below_then (show Below w.heap.size w _ by exact belS) hb)
   clear hb fz c_t
   have fz := CorAt.free K0.out
   have hlt := (Array.getElem?_eq_some_iff.1 K1.out).1
   refine Lib.hid ?_
   go_upto_region 10 with fail
   go_wp2_with (first
    | (refine sti_lo (by rfl) (by rfl) _ _ (by rfl) _ (by rfl) _ (by rfl) (by exact someS) ?_; intro k3)
    | (refine sti_hi (by rfl) (by rfl) _ _ (by rfl) _ (by rfl) _ (by rfl) (by exact someS) ?_; intro k3)
    | (refine sti_t (by rfl) (by rfl) _ _ (by rfl) _ (by rfl) _ (by rfl) (by exact someS) ?_; intro k3)
    | (refine load_some (by rfl) _ (by rfl) _ (by rfl) (by exact someS) ?_; intro k2 hk2)
    | (refine store_row (by rfl) 27 _ _ (by rfl) _ _ (by rfl) (by rfl) 15 (by kernel_rfl) (by exact rowS; done) rfl rfl (by rfl) ?_)
    | (refine store_some (by rfl) (by rfl) _ _ (by rfl) _ (by rfl) _ (by rfl) (by exact someS; done) ?_))
   exact bodyPost_ret (results_cell_row rfl _ _ (w.heap.size + 1) _ _ _ _ rfl (setRow_heap _ _ _ _ _ _ (by exact rowS)) Tryz.underlying27 rfl (by kernel_rfl)) rfl (cor_post (below_row (by exact belS) (by omega)))
  ·have nzpg := ne_list [122, 112, 103] zpg
   clear zpg
   go_upto_region 3 with fail
   go_upto_region 7 with (first
    | (refine load_some (by rfl) _ (by rfl) _ (by rfl) (by exact someS) ?_; intro k2 hk2)
    | (go_at_call 63; refine (t_l10Up _ _).mono ?_; rintro e w1 ⟨k9, rfl, hb⟩)
    | (refine store_some (by rfl) (by rfl) _ _ (by rfl) _ (by rfl) _ (by rfl) (by exact someS; done) ?_)
    | (refine ldi_t (by rfl) _ (by rfl) _ (by rfl) (by exact someS) ?_; intro vt)
    | (refine sti_t (by rfl) (by rfl) _ _ (by rfl) _ (by rfl) _ (by rfl) (by exact someS) ?_; intro k3))
   go_wp2_with (first
    | (go_at_call 71; refine (is_ii _ _).mono ?_; rintro e w1 ⟨rfl, hb⟩; refine Hid.out ?_))
   obtain ⟨k, K0⟩ := CorSome.below (by exact someS) hb
   replace K0 := Lib.hid K0
   have K1 := Lib.hid (blk_below (b := w.heap.size + 1) (show _ = some (Obj.cells #[.int .i64 0, .int .i64 0, .int .i64 0, .int .i64 0, .int .i64 0, .int .i64 0, .int .i64 0, .int .i64 0, .int .i64 0, .int .i64 0, .int .i64 0, .int .i64 0, .bool false, .int .i64 0, .bool false] 27 (0, 0)) by exact rowS) hb)
   have B0 := Lib.hid (below_then (show Below w.heap.size w _ by exact belS) hb)
   clear hb fz c_t
   have fz := CorAt.free K0.out
   have hlt := (Array.getElem?_eq_some_iff.1 K1.out).1
   refine Lib.hid ?_
   go_upto_region 14 with fail
   go_wp2_with (first
    | (refine sti_lo (by rfl) (by rfl) _ _ (by rfl) _ (by rfl) _ (by rfl) (by exact someS) ?_; intro k3)
    | (refine load_some (by rfl) _ (by rfl) _ (by rfl) (by exact someS) ?_; intro k2 hk2)
    | (refine store_row (by rfl) 27 _ _ (by rfl) _ _ (by rfl) (by rfl) 15 (by kernel_rfl) (by exact rowS; done) rfl rfl (by rfl) ?_)
    | (refine store_some (by rfl) (by rfl) _ _ (by rfl) _ (by rfl) _ (by rfl) (by exact someS; done) ?_))
   exact bodyPost_ret (results_cell_row rfl _ _ (w.heap.size + 1) _ _ _ _ rfl (setRow_heap _ _ _ _ _ _ (by exact rowS)) Tryz.underlying27 rfl (by kernel_rfl)) rfl (cor_post (below_row (by exact belS) (by omega)))
end Go.Proofs.YthklebkpoccblaaGreat
