/-
  Texts put together by program: FdC.
  Conditions: as each theorem says.
-/
import Derived.Test.YthklebkpoccblaaGreatRqat
namespace Go.Proofs.YthklebkpoccblaaGreat
open Go.RowKit
theorem is_zz (x : ByteArray) (w : World) : Calls Tryz.prog 71 #[.string x, .string ⟨#[122, 112, 120, 32, 122, 112, 121]⟩] w fun e w' => e = .returned (.bool (inB x [[122, 112, 120], [122, 112, 121]])) ∧ Below w.heap.size w w' :=
 spec_is x [[122, 112, 120], [122, 112, 121]] (by decide) (ok_words _ (by decide)) (by decide) (by decide) w
theorem is_ii (x : ByteArray) (w : World) : Calls Tryz.prog 71 #[.string x, .string ⟨#[105, 110, 120, 32, 105, 110, 121]⟩] w fun e w' => e = .returned (.bool (inB x [[105, 110, 120], [105, 110, 121]])) ∧ Below w.heap.size w w' :=
 spec_is x [[105, 110, 120], [105, 110, 121]] (by decide) (ok_words _ (by decide)) (by decide) (by decide) w
theorem is_ppr (x : ByteArray) (w : World) : Calls Tryz.prog 71 #[.string x, .string ⟨#[80, 76, 65, 32, 80, 76, 80, 32, 82, 84, 73]⟩] w fun e w' => e = .returned (.bool (inB x [[80, 76, 65], [80, 76, 80], [82, 84, 73]])) ∧ Below w.heap.size w w' :=
 spec_is x [[80, 76, 65], [80, 76, 80], [82, 84, 73]] (by decide) (ok_words _ (by decide)) (by decide) (by decide) w
set_option maxRecDepth 100000 in
set_option maxHeartbeats 20000000 in
theorem s_memory1 (k : CorI) (oa ob : ByteArray) (hT : k.t ≠ 19 ∧ k.t ≠ 20 ∧ k.t ≠ 21 ∧ k.t ≠ 22 ∧ k.t ≠ 1) (w : World) : Calls Tryz.prog 49 #[.agg (corC k), .agg #[.string oa, .string ob]] w (BusPost w) := by
 unfold BusPost
 by_cases hz : inB ob [[122, 112, 120], [122, 112, 121]] = true
 ·obtain ⟨h19, h20, h21, h22, h1⟩ := hT
  go_enter Tryz.func49, Tryz.ntmps49
  go_upto_region 1 with fail
  have K0 : (((w.alloc (.cells (corC k) 27)).alloc (.cells #[.string oa, .string ob] 55)).alloc (.cells #[.int .i64 0, .int .i64 0, .bool false] 38)).heap[w.heap.size]? = some (.cells (corC k) 27 (0, 0)) := by
   have h := blk_old (o := .cells #[.int .i64 0, .int .i64 0, .bool false] 38) (blk_old (o := .cells #[.string oa, .string ob] 55) (blk_new w (.cells (corC k) 27)))
   try simp only [alloc_size] at h
   exact h
  have K1 : (((w.alloc (.cells (corC k) 27)).alloc (.cells #[.string oa, .string ob] 55)).alloc (.cells #[.int .i64 0, .int .i64 0, .bool false] 38)).heap[w.heap.size + 1]? = some (.cells #[.string oa, .string ob] 55 (0, 0)) := by
   have h := blk_old (o := .cells #[.int .i64 0, .int .i64 0, .bool false] 38) (blk_new (w.alloc (.cells (corC k) 27)) (.cells #[.string oa, .string ob] 55))
   try simp only [alloc_size] at h
   exact h
  have K2 : (((w.alloc (.cells (corC k) 27)).alloc (.cells #[.string oa, .string ob] 55)).alloc (.cells #[.int .i64 0, .int .i64 0, .bool false] 38)).heap[w.heap.size + 1 + 1]? = some (.cells #[.int .i64 0, .int .i64 0, .bool false] 38 (0, 0)) := by
   have h := blk_new ((w.alloc (.cells (corC k) 27)).alloc (.cells #[.string oa, .string ob] 55)) (.cells #[.int .i64 0, .int .i64 0, .bool false] 38)
   try simp only [alloc_size] at h
   exact h
  have B0 := below_alloc (below_alloc (below_alloc (Below.refl w.heap.size w) (.cells (corC k) 27)) (.cells #[.string oa, .string ob] 55)) (.cells #[.int .i64 0, .int .i64 0, .bool false] 38)
  generalize (((w.alloc (.cells (corC k) 27)).alloc (.cells #[.string oa, .string ob] 55)).alloc (.cells #[.int .i64 0, .int .i64 0, .bool false] 38)) = w0 at K0 K1 K2 B0 ⊢
  replace K0 : Hid (CorAt w.heap.size k w0) := Lib.hid K0
  replace K1 := Lib.hid K1
  replace K2 := Lib.hid K2
  replace B0 := Lib.hid B0
  have fz := CorAt.free K0.out
  have c_t := CorAt.c_t K0.out
  have c_lo := CorAt.c_lo K0.out
  have c_vl := CorAt.c_vl K0.out
  have o0 := cell_of_blk (i := 0) (v := .string oa) K1.out rfl
  have o1 := cell_of_blk (i := 1) (v := .string ob) K1.out rfl
  go_wp2_with (first
   | (go_at_call 71; refine (is_zz _ _).mono ?_; rintro e w1 ⟨rfl, hb⟩; refine Hid.out ?_))
  have K0 := Lib.hid (CorAt.below K0.out hb)
  have K1 := Lib.hid (blk_below (b := w.heap.size + 1) (show _ = some (Obj.cells #[.string oa, .string ob] 55 (0, 0)) by exact rowS) hb)
  have K2 := Lib.hid (blk_below (b := w.heap.size + 1 + 1) (show _ = some (Obj.cells #[.int .i64 0, .int .i64 0, .bool false] 38 (0, 0)) by exact rowS) hb)
  have B0 := Lib.hid (below_then (show Below w.heap.size w _ by exact belS) hb)
  clear hb fz c_t c_lo c_vl o0 o1
  have fz := CorAt.free K0.out
  have hlt := (Array.getElem?_eq_some_iff.1 K2.out).1
  have c_t := CorAt.c_t K0.out
  have c_lo := CorAt.c_lo K0.out
  have c_vl := CorAt.c_vl K0.out
  have o0 := cell_of_blk (i := 0) (v := .string oa) K1.out rfl
  have o1 := cell_of_blk (i := 1) (v := .string ob) K1.out rfl
  refine Lib.hid ?_
  go_upto_region 16 with fail
  go_wp2_with (first
   | (refine store_row (by rfl) 38 _ _ (by rfl) _ _ (by rfl) (by rfl) 3 (by kernel_rfl) (by exact rowS; done) rfl rfl (by rfl) ?_))
  exact bodyPost_ret (results_cell_row rfl _ _ (w.heap.size + 1 + 1) _ _ _ _ rfl (setRow_heap _ _ _ _ _ _ (by exact rowS)) Tryz.underlying38 rfl (by kernel_rfl)) rfl ⟨_, _, _, rfl, below_row (by exact belS) (by omega)⟩
 ·replace hz := Bool.eq_false_iff.2 hz
  by_cases hx : ob = ⟨#[105, 110, 120]⟩
  ·have ehx0 : (ob.toList == [105, 110, 120]) = true := by rw [hx, ByteArray.toList_eq]; decide
   have ehx1 : (ob.toList == [105, 110, 121]) = false := by rw [hx, ByteArray.toList_eq]; decide
   clear hx
   by_cases hl : k.t < 4
   ·obtain ⟨h19, h20, h21, h22, h1⟩ := hT
    go_enter Tryz.func49, Tryz.ntmps49
    go_upto_region 1 with fail
    have K0 : (((w.alloc (.cells (corC k) 27)).alloc (.cells #[.string oa, .string ob] 55)).alloc (.cells #[.int .i64 0, .int .i64 0, .bool false] 38)).heap[w.heap.size]? = some (.cells (corC k) 27 (0, 0)) := by
     have h := blk_old (o := .cells #[.int .i64 0, .int .i64 0, .bool false] 38) (blk_old (o := .cells #[.string oa, .string ob] 55) (blk_new w (.cells (corC k) 27)))
     try simp only [alloc_size] at h
     exact h
    have K1 : (((w.alloc (.cells (corC k) 27)).alloc (.cells #[.string oa, .string ob] 55)).alloc (.cells #[.int .i64 0, .int .i64 0, .bool false] 38)).heap[w.heap.size + 1]? = some (.cells #[.string oa, .string ob] 55 (0, 0)) := by
     have h := blk_old (o := .cells #[.int .i64 0, .int .i64 0, .bool false] 38) (blk_new (w.alloc (.cells (corC k) 27)) (.cells #[.string oa, .string ob] 55))
     try simp only [alloc_size] at h
     exact h
    have K2 : (((w.alloc (.cells (corC k) 27)).alloc (.cells #[.string oa, .string ob] 55)).alloc (.cells #[.int .i64 0, .int .i64 0, .bool false] 38)).heap[w.heap.size + 1 + 1]? = some (.cells #[.int .i64 0, .int .i64 0, .bool false] 38 (0, 0)) := by
     have h := blk_new ((w.alloc (.cells (corC k) 27)).alloc (.cells #[.string oa, .string ob] 55)) (.cells #[.int .i64 0, .int .i64 0, .bool false] 38)
     try simp only [alloc_size] at h
     exact h
    have B0 := below_alloc (below_alloc (below_alloc (Below.refl w.heap.size w) (.cells (corC k) 27)) (.cells #[.string oa, .string ob] 55)) (.cells #[.int .i64 0, .int .i64 0, .bool false] 38)
    generalize (((w.alloc (.cells (corC k) 27)).alloc (.cells #[.string oa, .string ob] 55)).alloc (.cells #[.int .i64 0, .int .i64 0, .bool false] 38)) = w0 at K0 K1 K2 B0 ⊢
    replace K0 : Hid (CorAt w.heap.size k w0) := Lib.hid K0
    replace K1 := Lib.hid K1
    replace K2 := Lib.hid K2
    replace B0 := Lib.hid B0
    have fz := CorAt.free K0.out
    have c_t := CorAt.c_t K0.out
    have c_lo := CorAt.c_lo K0.out
    have c_vl := CorAt.c_vl K0.out
    have o0 := cell_of_blk (i := 0) (v := .string oa) K1.out rfl
    have o1 := cell_of_blk (i := 1) (v := .string ob) K1.out rfl
    go_wp2_with (first
     | (go_at_call 71; refine (is_zz _ _).mono ?_; rintro e w1 ⟨rfl, hb⟩; refine Hid.out ?_))
    have K0 := Lib.hid (CorAt.below K0.out hb)
    have K1 := Lib.hid (blk_below (b := w.heap.size + 1) (show _ = some (Obj.cells #[.string oa, .string ob] 55 (0, 0)) by exact rowS) hb)
    have K2 := Lib.hid (blk_below (b := w.heap.size + 1 + 1) (show _ = some (Obj.cells #[.int .i64 0, .int .i64 0, .bool false] 38 (0, 0)) by exact rowS) hb)
    have B0 := Lib.hid (below_then (show Below w.heap.size w _ by exact belS) hb)
    clear hb fz c_t c_lo c_vl o0 o1
    have fz := CorAt.free K0.out
    have hlt := (Array.getElem?_eq_some_iff.1 K2.out).1
    have c_t := CorAt.c_t K0.out
    have c_lo := CorAt.c_lo K0.out
    have c_vl := CorAt.c_vl K0.out
    have o0 := cell_of_blk (i := 0) (v := .string oa) K1.out rfl
    have o1 := cell_of_blk (i := 1) (v := .string ob) K1.out rfl
    refine Lib.hid ?_
    go_upto_region 18 with fail
    go_wp2_with (first
     | (refine store_row (by rfl) 38 _ _ (by rfl) _ _ (by rfl) (by rfl) 3 (by kernel_rfl) (by exact rowS; done) rfl rfl (by rfl) ?_))
    exact bodyPost_ret (results_cell_row rfl _ _ (w.heap.size + 1 + 1) _ _ _ _ rfl (setRow_heap _ _ _ _ _ _ (by exact rowS)) Tryz.underlying38 rfl (by kernel_rfl)) rfl ⟨_, _, _, rfl, below_row (by exact belS) (by omega)⟩
   ·by_cases hi : inB ob [[105, 110, 120], [105, 110, 121]] = true
    ·obtain ⟨h19, h20, h21, h22, h1⟩ := hT
     go_enter Tryz.func49, Tryz.ntmps49
     go_upto_region 1 with fail
     have K0 : (((w.alloc (.cells (corC k) 27)).alloc (.cells #[.string oa, .string ob] 55)).alloc (.cells #[.int .i64 0, .int .i64 0, .bool false] 38)).heap[w.heap.size]? = some (.cells (corC k) 27 (0, 0)) := by
      have h := blk_old (o := .cells #[.int .i64 0, .int .i64 0, .bool false] 38) (blk_old (o := .cells #[.string oa, .string ob] 55) (blk_new w (.cells (corC k) 27)))
      try simp only [alloc_size] at h
      exact h
     have K1 : (((w.alloc (.cells (corC k) 27)).alloc (.cells #[.string oa, .string ob] 55)).alloc (.cells #[.int .i64 0, .int .i64 0, .bool false] 38)).heap[w.heap.size + 1]? = some (.cells #[.string oa, .string ob] 55 (0, 0)) := by
      have h := blk_old (o := .cells #[.int .i64 0, .int .i64 0, .bool false] 38) (blk_new (w.alloc (.cells (corC k) 27)) (.cells #[.string oa, .string ob] 55))
      try simp only [alloc_size] at h
      exact h
     have K2 : (((w.alloc (.cells (corC k) 27)).alloc (.cells #[.string oa, .string ob] 55)).alloc (.cells #[.int .i64 0, .int .i64 0, .bool false] 38)).heap[w.heap.size + 1 + 1]? = some (.cells #[.int .i64 0, .int .i64 0, .bool false] 38 (0, 0)) := by
      have h := blk_new ((w.alloc (.cells (corC k) 27)).alloc (.cells #[.string oa, .string ob] 55)) (.cells #[.int .i64 0, .int .i64 0, .bool false] 38)
      try simp only [alloc_size] at h
      exact h
     have B0 := below_alloc (below_alloc (below_alloc (Below.refl w.heap.size w) (.cells (corC k) 27)) (.cells #[.string oa, .string ob] 55)) (.cells #[.int .i64 0, .int .i64 0, .bool false] 38)
     generalize (((w.alloc (.cells (corC k) 27)).alloc (.cells #[.string oa, .string ob] 55)).alloc (.cells #[.int .i64 0, .int .i64 0, .bool false] 38)) = w0 at K0 K1 K2 B0 ⊢
     replace K0 : Hid (CorAt w.heap.size k w0) := Lib.hid K0
     replace K1 := Lib.hid K1
     replace K2 := Lib.hid K2
     replace B0 := Lib.hid B0
     have fz := CorAt.free K0.out
     have c_t := CorAt.c_t K0.out
     have c_lo := CorAt.c_lo K0.out
     have c_vl := CorAt.c_vl K0.out
     have o0 := cell_of_blk (i := 0) (v := .string oa) K1.out rfl
     have o1 := cell_of_blk (i := 1) (v := .string ob) K1.out rfl
     go_wp2_with (first
      | (go_at_call 71; refine (is_zz _ _).mono ?_; rintro e w1 ⟨rfl, hb⟩; refine Hid.out ?_))
     have K0 := Lib.hid (CorAt.below K0.out hb)
     have K1 := Lib.hid (blk_below (b := w.heap.size + 1) (show _ = some (Obj.cells #[.string oa, .string ob] 55 (0, 0)) by exact rowS) hb)
     have K2 := Lib.hid (blk_below (b := w.heap.size + 1 + 1) (show _ = some (Obj.cells #[.int .i64 0, .int .i64 0, .bool false] 38 (0, 0)) by exact rowS) hb)
     have B0 := Lib.hid (below_then (show Below w.heap.size w _ by exact belS) hb)
     clear hb fz c_t c_lo c_vl o0 o1
     have fz := CorAt.free K0.out
     have hlt := (Array.getElem?_eq_some_iff.1 K2.out).1
     have c_t := CorAt.c_t K0.out
     have c_lo := CorAt.c_lo K0.out
     have c_vl := CorAt.c_vl K0.out
     have o0 := cell_of_blk (i := 0) (v := .string oa) K1.out rfl
     have o1 := cell_of_blk (i := 1) (v := .string ob) K1.out rfl
     refine Lib.hid ?_
     go_upto_region 19 with fail
     go_wp2_with (first
      | (go_at_call 71; refine (is_ii _ _).mono ?_; rintro e w1 ⟨rfl, hb⟩; refine Hid.out ?_))
     have K0 := Lib.hid (CorAt.below K0.out hb)
     have K1 := Lib.hid (blk_below (b := w.heap.size + 1) (show _ = some (Obj.cells #[.string oa, .string ob] 55 (0, 0)) by exact rowS) hb)
     have K2 := Lib.hid (blk_below (b := w.heap.size + 1 + 1) (show _ = some (Obj.cells #[.int .i64 0, .int .i64 0, .bool false] 38 (0, 0)) by exact rowS) hb)
     have B0 := Lib.hid (below_then (show Below w.heap.size w _ by exact belS) hb)
     clear hb fz hlt c_t c_lo c_vl o0 o1
     have fz := CorAt.free K0.out
     have hlt := (Array.getElem?_eq_some_iff.1 K2.out).1
     have c_vl := CorAt.c_vl K0.out
     have o0 := cell_of_blk (i := 0) (v := .string oa) K1.out rfl
     have o1 := cell_of_blk (i := 1) (v := .string ob) K1.out rfl
     refine Lib.hid ?_
     go_upto_region 20 with fail
     go_wp2_with (first
      | (refine store_row (by rfl) 38 _ _ (by rfl) _ _ (by rfl) (by rfl) 3 (by kernel_rfl) (by exact rowS; done) rfl rfl (by rfl) ?_))
     exact bodyPost_ret (results_cell_row rfl _ _ (w.heap.size + 1 + 1) _ _ _ _ rfl (setRow_heap _ _ _ _ _ _ (by exact rowS)) Tryz.underlying38 rfl (by kernel_rfl)) rfl ⟨_, _, _, rfl, below_row (by exact belS) (by omega)⟩
    ·replace hi := Bool.eq_false_iff.2 hi
     obtain ⟨h19, h20, h21, h22, h1⟩ := hT
     go_enter Tryz.func49, Tryz.ntmps49
     go_upto_region 1 with fail
     have K0 : (((w.alloc (.cells (corC k) 27)).alloc (.cells #[.string oa, .string ob] 55)).alloc (.cells #[.int .i64 0, .int .i64 0, .bool false] 38)).heap[w.heap.size]? = some (.cells (corC k) 27 (0, 0)) := by
      have h := blk_old (o := .cells #[.int .i64 0, .int .i64 0, .bool false] 38) (blk_old (o := .cells #[.string oa, .string ob] 55) (blk_new w (.cells (corC k) 27)))
      try simp only [alloc_size] at h
      exact h
     have K1 : (((w.alloc (.cells (corC k) 27)).alloc (.cells #[.string oa, .string ob] 55)).alloc (.cells #[.int .i64 0, .int .i64 0, .bool false] 38)).heap[w.heap.size + 1]? = some (.cells #[.string oa, .string ob] 55 (0, 0)) := by
      have h := blk_old (o := .cells #[.int .i64 0, .int .i64 0, .bool false] 38) (blk_new (w.alloc (.cells (corC k) 27)) (.cells #[.string oa, .string ob] 55))
      try simp only [alloc_size] at h
      exact h
     have K2 : (((w.alloc (.cells (corC k) 27)).alloc (.cells #[.string oa, .string ob] 55)).alloc (.cells #[.int .i64 0, .int .i64 0, .bool false] 38)).heap[w.heap.size + 1 + 1]? = some (.cells #[.int .i64 0, .int .i64 0, .bool false] 38 (0, 0)) := by
      have h := blk_new ((w.alloc (.cells (corC k) 27)).alloc (.cells #[.string oa, .string ob] 55)) (.cells #[.int .i64 0, .int .i64 0, .bool false] 38)
      try simp only [alloc_size] at h
      exact h
     have B0 := below_alloc (below_alloc (below_alloc (Below.refl w.heap.size w) (.cells (corC k) 27)) (.cells #[.string oa, .string ob] 55)) (.cells #[.int .i64 0, .int .i64 0, .bool false] 38)
     generalize (((w.alloc (.cells (corC k) 27)).alloc (.cells #[.string oa, .string ob] 55)).alloc (.cells #[.int .i64 0, .int .i64 0, .bool false] 38)) = w0 at K0 K1 K2 B0 ⊢
     replace K0 : Hid (CorAt w.heap.size k w0) := Lib.hid K0
     replace K1 := Lib.hid K1
     replace K2 := Lib.hid K2
     replace B0 := Lib.hid B0
     have fz := CorAt.free K0.out
     have c_t := CorAt.c_t K0.out
     have c_lo := CorAt.c_lo K0.out
     have c_vl := CorAt.c_vl K0.out
     have o0 := cell_of_blk (i := 0) (v := .string oa) K1.out rfl
     have o1 := cell_of_blk (i := 1) (v := .string ob) K1.out rfl
     go_wp2_with (first
      | (go_at_call 71; refine (is_zz _ _).mono ?_; rintro e w1 ⟨rfl, hb⟩; refine Hid.out ?_))
     have K0 := Lib.hid (CorAt.below K0.out hb)
     have K1 := Lib.hid (blk_below (b := w.heap.size + 1) (show _ = some (Obj.cells #[.string oa, .string ob] 55 (0, 0)) by exact rowS) hb)
     have K2 := Lib.hid (blk_below (b := w.heap.size + 1 + 1) (show _ = some (Obj.cells #[.int .i64 0, .int .i64 0, .bool false] 38 (0, 0)) by exact rowS) hb)
     have B0 := Lib.hid (below_then (show Below w.heap.size w _ by exact belS) hb)
     clear hb fz c_t c_lo c_vl o0 o1
     have fz := CorAt.free K0.out
     have hlt := (Array.getElem?_eq_some_iff.1 K2.out).1
     have c_t := CorAt.c_t K0.out
     have c_lo := CorAt.c_lo K0.out
     have c_vl := CorAt.c_vl K0.out
     have o0 := cell_of_blk (i := 0) (v := .string oa) K1.out rfl
     have o1 := cell_of_blk (i := 1) (v := .string ob) K1.out rfl
     refine Lib.hid ?_
     go_upto_region 19 with fail
     go_wp2_with (first
      | (go_at_call 71; refine (is_ii _ _).mono ?_; rintro e w1 ⟨rfl, hb⟩; refine Hid.out ?_))
     have K0 := Lib.hid (CorAt.below K0.out hb)
     have K1 := Lib.hid (blk_below (b := w.heap.size + 1) (show _ = some (Obj.cells #[.string oa, .string ob] 55 (0, 0)) by exact rowS) hb)
     have K2 := Lib.hid (blk_below (b := w.heap.size + 1 + 1) (show _ = some (Obj.cells #[.int .i64 0, .int .i64 0, .bool false] 38 (0, 0)) by exact rowS) hb)
     have B0 := Lib.hid (below_then (show Below w.heap.size w _ by exact belS) hb)
     clear hb fz hlt c_t c_lo c_vl o0 o1
     have fz := CorAt.free K0.out
     have hlt := (Array.getElem?_eq_some_iff.1 K2.out).1
     have c_vl := CorAt.c_vl K0.out
     have o0 := cell_of_blk (i := 0) (v := .string oa) K1.out rfl
     have o1 := cell_of_blk (i := 1) (v := .string ob) K1.out rfl
     refine Lib.hid ?_
     go_upto_region 21 with fail
     go_wp2_with (first
      | (refine load_some (by rfl) _ (by rfl) _ (by rfl) (by exact someS) ?_; intro k2 hk2)
      | (refine store_row (by rfl) 38 _ _ (by rfl) _ _ (by rfl) (by rfl) 3 (by kernel_rfl) (by exact rowS; done) rfl rfl (by rfl) ?_)
      | (go_at_call 46; refine (s_l10Here _ _).mono ?_; rintro e w1 ⟨x9, y9, z9, rfl, hb⟩))
     exact bodyPost_ret (results_cell_row rfl _ _ (w.heap.size + 1 + 1) _ _ _ _ rfl (setRow_heap _ _ _ _ _ _ (by exact rowS)) Tryz.underlying38 rfl (by kernel_rfl)) rfl ⟨_, _, _, rfl, below_row (by exact belS) (by omega)⟩
  ·have nhx := ne_list [105, 110, 120] hx
   clear hx
   by_cases hy : ob = ⟨#[105, 110, 121]⟩
   ·have ehy0 : (ob.toList == [105, 110, 120]) = false := by rw [hy, ByteArray.toList_eq]; decide
    have ehy1 : (ob.toList == [105, 110, 121]) = true := by rw [hy, ByteArray.toList_eq]; decide
    clear hy
    by_cases h2 : k.t = 2
    ·obtain ⟨h19, h20, h21, h22, h1⟩ := hT
     go_enter Tryz.func49, Tryz.ntmps49
     go_upto_region 1 with fail
     have K0 : (((w.alloc (.cells (corC k) 27)).alloc (.cells #[.string oa, .string ob] 55)).alloc (.cells #[.int .i64 0, .int .i64 0, .bool false] 38)).heap[w.heap.size]? = some (.cells (corC k) 27 (0, 0)) := by
      have h := blk_old (o := .cells #[.int .i64 0, .int .i64 0, .bool false] 38) (blk_old (o := .cells #[.string oa, .string ob] 55) (blk_new w (.cells (corC k) 27)))
      try simp only [alloc_size] at h
      exact h
     have K1 : (((w.alloc (.cells (corC k) 27)).alloc (.cells #[.string oa, .string ob] 55)).alloc (.cells #[.int .i64 0, .int .i64 0, .bool false] 38)).heap[w.heap.size + 1]? = some (.cells #[.string oa, .string ob] 55 (0, 0)) := by
      have h := blk_old (o := .cells #[.int .i64 0, .int .i64 0, .bool false] 38) (blk_new (w.alloc (.cells (corC k) 27)) (.cells #[.string oa, .string ob] 55))
      try simp only [alloc_size] at h
      exact h
     have K2 : (((w.alloc (.cells (corC k) 27)).alloc (.cells #[.string oa, .string ob] 55)).alloc (.cells #[.int .i64 0, .int .i64 0, .bool false] 38)).heap[w.heap.size + 1 + 1]? = some (.cells #[.int .i64 0, .int .i64 0, .bool false] 38 (0, 0)) := by
      have h := blk_new ((w.alloc (.cells (corC k) 27)).alloc (.cells #[.string oa, .string ob] 55)) (.cells #[.int .i64 0, .int .i64 0, .bool false] 38)
      try simp only [alloc_size] at h
      exact h
     have B0 := below_alloc (below_alloc (below_alloc (Below.refl w.heap.size w) (.cells (corC k) 27)) (.cells #[.string oa, .string ob] 55)) (.cells #[.int .i64 0, .int .i64 0, .bool false] 38)
     generalize (((w.alloc (.cells (corC k) 27)).alloc (.cells #[.string oa, .string ob] 55)).alloc (.cells #[.int .i64 0, .int .i64 0, .bool false] 38)) = w0 at K0 K1 K2 B0 ⊢
     replace K0 : Hid (CorAt w.heap.size k w0) := Lib.hid K0
     replace K1 := Lib.hid K1
     replace K2 := Lib.hid K2
     replace B0 := Lib.hid B0
     have fz := CorAt.free K0.out
     have c_t := CorAt.c_t K0.out
     have c_lo := CorAt.c_lo K0.out
     have c_vl := CorAt.c_vl K0.out
     have o0 := cell_of_blk (i := 0) (v := .string oa) K1.out rfl
     have o1 := cell_of_blk (i := 1) (v := .string ob) K1.out rfl
     go_wp2_with (first
      | (go_at_call 71; refine (is_zz _ _).mono ?_; rintro e w1 ⟨rfl, hb⟩; refine Hid.out ?_))
     have K0 := Lib.hid (CorAt.below K0.out hb)
     have K1 := Lib.hid (blk_below (b := w.heap.size + 1) (show _ = some (Obj.cells #[.string oa, .string ob] 55 (0, 0)) by exact rowS) hb)
     have K2 := Lib.hid (blk_below (b := w.heap.size + 1 + 1) (show _ = some (Obj.cells #[.int .i64 0, .int .i64 0, .bool false] 38 (0, 0)) by exact rowS) hb)
     have B0 := Lib.hid (below_then (show Below w.heap.size w _ by exact belS) hb)
     clear hb fz c_t c_lo c_vl o0 o1
     have fz := CorAt.free K0.out
     have hlt := (Array.getElem?_eq_some_iff.1 K2.out).1
     have c_t := CorAt.c_t K0.out
     have c_lo := CorAt.c_lo K0.out
     have c_vl := CorAt.c_vl K0.out
     have o0 := cell_of_blk (i := 0) (v := .string oa) K1.out rfl
     have o1 := cell_of_blk (i := 1) (v := .string ob) K1.out rfl
     refine Lib.hid ?_
     go_upto_region 18 with fail
     go_wp2_with (first
      | (refine store_row (by rfl) 38 _ _ (by rfl) _ _ (by rfl) (by rfl) 3 (by kernel_rfl) (by exact rowS; done) rfl rfl (by rfl) ?_))
     exact bodyPost_ret (results_cell_row rfl _ _ (w.heap.size + 1 + 1) _ _ _ _ rfl (setRow_heap _ _ _ _ _ _ (by exact rowS)) Tryz.underlying38 rfl (by kernel_rfl)) rfl ⟨_, _, _, rfl, below_row (by exact belS) (by omega)⟩
    ·by_cases hi : inB ob [[105, 110, 120], [105, 110, 121]] = true
     ·obtain ⟨h19, h20, h21, h22, h1⟩ := hT
      go_enter Tryz.func49, Tryz.ntmps49
      go_upto_region 1 with fail
      have K0 : (((w.alloc (.cells (corC k) 27)).alloc (.cells #[.string oa, .string ob] 55)).alloc (.cells #[.int .i64 0, .int .i64 0, .bool false] 38)).heap[w.heap.size]? = some (.cells (corC k) 27 (0, 0)) := by
       have h := blk_old (o := .cells #[.int .i64 0, .int .i64 0, .bool false] 38) (blk_old (o := .cells #[.string oa, .string ob] 55) (blk_new w (.cells (corC k) 27)))
       try simp only [alloc_size] at h
       exact h
      have K1 : (((w.alloc (.cells (corC k) 27)).alloc (.cells #[.string oa, .string ob] 55)).alloc (.cells #[.int .i64 0, .int .i64 0, .bool false] 38)).heap[w.heap.size + 1]? = some (.cells #[.string oa, .string ob] 55 (0, 0)) := by
       have h := blk_old (o := .cells #[.int .i64 0, .int .i64 0, .bool false] 38) (blk_new (w.alloc (.cells (corC k) 27)) (.cells #[.string oa, .string ob] 55))
       try simp only [alloc_size] at h
       exact h
      have K2 : (((w.alloc (.cells (corC k) 27)).alloc (.cells #[.string oa, .string ob] 55)).alloc (.cells #[.int .i64 0, .int .i64 0, .bool false] 38)).heap[w.heap.size + 1 + 1]? = some (.cells #[.int .i64 0, .int .i64 0, .bool false] 38 (0, 0)) := by
       have h := blk_new ((w.alloc (.cells (corC k) 27)).alloc (.cells #[.string oa, .string ob] 55)) (.cells #[.int .i64 0, .int .i64 0, .bool false] 38)
       try simp only [alloc_size] at h
       exact h
      have B0 := below_alloc (below_alloc (below_alloc (Below.refl w.heap.size w) (.cells (corC k) 27)) (.cells #[.string oa, .string ob] 55)) (.cells #[.int .i64 0, .int .i64 0, .bool false] 38)
      generalize (((w.alloc (.cells (corC k) 27)).alloc (.cells #[.string oa, .string ob] 55)).alloc (.cells #[.int .i64 0, .int .i64 0, .bool false] 38)) = w0 at K0 K1 K2 B0 ⊢
      replace K0 : Hid (CorAt w.heap.size k w0) := Lib.hid K0
      replace K1 := Lib.hid K1
      replace K2 := Lib.hid K2
      replace B0 := Lib.hid B0
      have fz := CorAt.free K0.out
      have c_t := CorAt.c_t K0.out
      have c_lo := CorAt.c_lo K0.out
      have c_vl := CorAt.c_vl K0.out
      have o0 := cell_of_blk (i := 0) (v := .string oa) K1.out rfl
      have o1 := cell_of_blk (i := 1) (v := .string ob) K1.out rfl
      go_wp2_with (first
       | (go_at_call 71; refine (is_zz _ _).mono ?_; rintro e w1 ⟨rfl, hb⟩; refine Hid.out ?_))
      have K0 := Lib.hid (CorAt.below K0.out hb)
      have K1 := Lib.hid (blk_below (b := w.heap.size + 1) (show _ = some (Obj.cells #[.string oa, .string ob] 55 (0, 0)) by exact rowS) hb)
      have K2 := Lib.hid (blk_below (b := w.heap.size + 1 + 1) (show _ = some (Obj.cells #[.int .i64 0, .int .i64 0, .bool false] 38 (0, 0)) by exact rowS) hb)
      have B0 := Lib.hid (below_then (show Below w.heap.size w _ by exact belS) hb)
      clear hb fz c_t c_lo c_vl o0 o1
      have fz := CorAt.free K0.out
      have hlt := (Array.getElem?_eq_some_iff.1 K2.out).1
      have c_t := CorAt.c_t K0.out
      have c_lo := CorAt.c_lo K0.out
      have c_vl := CorAt.c_vl K0.out
      have o0 := cell_of_blk (i := 0) (v := .string oa) K1.out rfl
      have o1 := cell_of_blk (i := 1) (v := .string ob) K1.out rfl
      refine Lib.hid ?_
      go_upto_region 19 with fail
      go_wp2_with (first
       | (go_at_call 71; refine (is_ii _ _).mono ?_; rintro e w1 ⟨rfl, hb⟩; refine Hid.out ?_))
      have K0 := Lib.hid (CorAt.below K0.out hb)
      have K1 := Lib.hid (blk_below (b := w.heap.size + 1) (show _ = some (Obj.cells #[.string oa, .string ob] 55 (0, 0)) by exact rowS) hb)
      have K2 := Lib.hid (blk_below (b := w.heap.size + 1 + 1) (show _ = some (Obj.cells #[.int .i64 0, .int .i64 0, .bool false] 38 (0, 0)) by exact rowS) hb)
      have B0 := Lib.hid (below_then (show Below w.heap.size w _ by exact belS) hb)
      clear hb fz hlt c_t c_lo c_vl o0 o1
      have fz := CorAt.free K0.out
      have hlt := (Array.getElem?_eq_some_iff.1 K2.out).1
      have c_vl := CorAt.c_vl K0.out
      have o0 := cell_of_blk (i := 0) (v := .string oa) K1.out rfl
      have o1 := cell_of_blk (i := 1) (v := .string ob) K1.out rfl
      refine Lib.hid ?_
      go_upto_region 20 with fail
      go_wp2_with (first
       | (refine store_row (by rfl) 38 _ _ (by rfl) _ _ (by rfl) (by rfl) 3 (by kernel_rfl) (by exact rowS; done) rfl rfl (by rfl) ?_))
      exact bodyPost_ret (results_cell_row rfl _ _ (w.heap.size + 1 + 1) _ _ _ _ rfl (setRow_heap _ _ _ _ _ _ (by exact rowS)) Tryz.underlying38 rfl (by kernel_rfl)) rfl ⟨_, _, _, rfl, below_row (by exact belS) (by omega)⟩
     ·replace hi := Bool.eq_false_iff.2 hi
      obtain ⟨h19, h20, h21, h22, h1⟩ := hT
      go_enter Tryz.func49, Tryz.ntmps49
      go_upto_region 1 with fail
      have K0 : (((w.alloc (.cells (corC k) 27)).alloc (.cells #[.string oa, .string ob] 55)).alloc (.cells #[.int .i64 0, .int .i64 0, .bool false] 38)).heap[w.heap.size]? = some (.cells (corC k) 27 (0, 0)) := by
       have h := blk_old (o := .cells #[.int .i64 0, .int .i64 0, .bool false] 38) (blk_old (o := .cells #[.string oa, .string ob] 55) (blk_new w (.cells (corC k) 27)))
       try simp only [alloc_size] at h
       exact h
      have K1 : (((w.alloc (.cells (corC k) 27)).alloc (.cells #[.string oa, .string ob] 55)).alloc (.cells #[.int .i64 0, .int .i64 0, .bool false] 38)).heap[w.heap.size + 1]? = some (.cells #[.string oa, .string ob] 55 (0, 0)) := by
       have h := blk_old (o := .cells #[.int .i64 0, .int .i64 0, .bool false] 38) (blk_new (w.alloc (.cells (corC k) 27)) (.cells #[.string oa, .string ob] 55))
       try simp only [alloc_size] at h
       exact h
      have K2 : (((w.alloc (.cells (corC k) 27)).alloc (.cells #[.string oa, .string ob] 55)).alloc (.cells #[.int .i64 0, .int .i64 0, .bool false] 38)).heap[w.heap.size + 1 + 1]? = some (.cells #[.int .i64 0, .int .i64 0, .bool false] 38 (0, 0)) := by
       have h := blk_new ((w.alloc (.cells (corC k) 27)).alloc (.cells #[.string oa, .string ob] 55)) (.cells #[.int .i64 0, .int .i64 0, .bool false] 38)
       try simp only [alloc_size] at h
       exact h
      have B0 := below_alloc (below_alloc (below_alloc (Below.refl w.heap.size w) (.cells (corC k) 27)) (.cells #[.string oa, .string ob] 55)) (.cells #[.int .i64 0, .int .i64 0, .bool false] 38)
      generalize (((w.alloc (.cells (corC k) 27)).alloc (.cells #[.string oa, .string ob] 55)).alloc (.cells #[.int .i64 0, .int .i64 0, .bool false] 38)) = w0 at K0 K1 K2 B0 ⊢
      replace K0 : Hid (CorAt w.heap.size k w0) := Lib.hid K0
      replace K1 := Lib.hid K1
      replace K2 := Lib.hid K2
      replace B0 := Lib.hid B0
      have fz := CorAt.free K0.out
      have c_t := CorAt.c_t K0.out
      have c_lo := CorAt.c_lo K0.out
      have c_vl := CorAt.c_vl K0.out
      have o0 := cell_of_blk (i := 0) (v := .string oa) K1.out rfl
      have o1 := cell_of_blk (i := 1) (v := .string ob) K1.out rfl
      go_wp2_with (first
       | (go_at_call 71; refine (is_zz _ _).mono ?_; rintro e w1 ⟨rfl, hb⟩; refine Hid.out ?_))
      have K0 := Lib.hid (CorAt.below K0.out hb)
      have K1 := Lib.hid (blk_below (b := w.heap.size + 1) (show _ = some (Obj.cells #[.string oa, .string ob] 55 (0, 0)) by exact rowS) hb)
      have K2 := Lib.hid (blk_below (b := w.heap.size + 1 + 1) (show _ = some (Obj.cells #[.int .i64 0, .int .i64 0, .bool false] 38 (0, 0)) by exact rowS) hb)
      have B0 := Lib.hid (below_then (show Below w.heap.size w _ by exact belS) hb)
      clear hb fz c_t c_lo c_vl o0 o1
      have fz := CorAt.free K0.out
      have hlt := (Array.getElem?_eq_some_iff.1 K2.out).1
      have c_t := CorAt.c_t K0.out
      have c_lo := CorAt.c_lo K0.out
      have c_vl := CorAt.c_vl K0.out
      have o0 := cell_of_blk (i := 0) (v := .string oa) K1.out rfl
      have o1 := cell_of_blk (i := 1) (v := .string ob) K1.out rfl
      refine Lib.hid ?_
      go_upto_region 19 with fail
      go_wp2_with (first
       | (go_at_call 71; refine (is_ii _ _).mono ?_; rintro e w1 ⟨rfl, hb⟩; refine Hid.out ?_))
      have K0 := Lib.hid (CorAt.below K0.out hb)
      have K1 := Lib.hid (blk_below (b := w.heap.size + 1) (show _ = some (Obj.cells #[.string oa, .string ob] 55 (0, 0)) by exact rowS) hb)
      have K2 := Lib.hid (blk_below (b := w.heap.size + 1 + 1) (show _ = some (Obj.cells #[.int .i64 0, .int .i64 0, .bool false] 38 (0, 0)) by exact rowS) hb)
      have B0 := Lib.hid (below_then (show Below w.heap.size w _ by exact belS) hb)
      clear hb fz hlt c_t c_lo c_vl o0 o1
      have fz := CorAt.free K0.out
      have hlt := (Array.getElem?_eq_some_iff.1 K2.out).1
      have c_vl := CorAt.c_vl K0.out
      have o0 := cell_of_blk (i := 0) (v := .string oa) K1.out rfl
      have o1 := cell_of_blk (i := 1) (v := .string ob) K1.out rfl
      refine Lib.hid ?_
      go_upto_region 21 with fail
      go_wp2_with (first
       | (refine load_some (by rfl) _ (by rfl) _ (by rfl) (by exact someS) ?_; intro k2 hk2)
       | (refine store_row (by rfl) 38 _ _ (by rfl) _ _ (by rfl) (by rfl) 3 (by kernel_rfl) (by exact rowS; done) rfl rfl (by rfl) ?_)
       | (go_at_call 46; refine (s_l10Here _ _).mono ?_; rintro e w1 ⟨x9, y9, z9, rfl, hb⟩))
      exact bodyPost_ret (results_cell_row rfl _ _ (w.heap.size + 1 + 1) _ _ _ _ rfl (setRow_heap _ _ _ _ _ _ (by exact rowS)) Tryz.underlying38 rfl (by kernel_rfl)) rfl ⟨_, _, _, rfl, below_row (by exact belS) (by omega)⟩
   ·have nhy := ne_list [105, 110, 121] hy
    clear hy
    by_cases hi : inB ob [[105, 110, 120], [105, 110, 121]] = true
    ·obtain ⟨h19, h20, h21, h22, h1⟩ := hT
     go_enter Tryz.func49, Tryz.ntmps49
     go_upto_region 1 with fail
     have K0 : (((w.alloc (.cells (corC k) 27)).alloc (.cells #[.string oa, .string ob] 55)).alloc (.cells #[.int .i64 0, .int .i64 0, .bool false] 38)).heap[w.heap.size]? = some (.cells (corC k) 27 (0, 0)) := by
      have h := blk_old (o := .cells #[.int .i64 0, .int .i64 0, .bool false] 38) (blk_old (o := .cells #[.string oa, .string ob] 55) (blk_new w (.cells (corC k) 27)))
      try simp only [alloc_size] at h
      exact h
     have K1 : (((w.alloc (.cells (corC k) 27)).alloc (.cells #[.string oa, .string ob] 55)).alloc (.cells #[.int .i64 0, .int .i64 0, .bool false] 38)).heap[w.heap.size + 1]? = some (.cells #[.string oa, .string ob] 55 (0, 0)) := by
      have h := blk_old (o := .cells #[.int .i64 0, .int .i64 0, .bool false] 38) (blk_new (w.alloc (.cells (corC k) 27)) (.cells #[.string oa, .string ob] 55))
      try simp only [alloc_size] at h
      exact h
     have K2 : (((w.alloc (.cells (corC k) 27)).alloc (.cells #[.string oa, .string ob] 55)).alloc (.cells #[.int .i64 0, .int .i64 0, .bool false] 38)).heap[w.heap.size + 1 + 1]? = some (.cells #[.int .i64 0, .int .i64 0, .bool false] 38 (0, 0)) := by
      have h := blk_new ((w.alloc (.cells (corC k) 27)).alloc (.cells #[.string oa, .string ob] 55)) (.cells #[.int .i64 0, .int .i64 0, .bool false] 38)
      try simp only [alloc_size] at h
      exact h
     have B0 := below_alloc (below_alloc (below_alloc (Below.refl w.heap.size w) (.cells (corC k) 27)) (.cells #[.string oa, .string ob] 55)) (.cells #[.int .i64 0, .int .i64 0, .bool false] 38)
     generalize (((w.alloc (.cells (corC k) 27)).alloc (.cells #[.string oa, .string ob] 55)).alloc (.cells #[.int .i64 0, .int .i64 0, .bool false] 38)) = w0 at K0 K1 K2 B0 ⊢
     replace K0 : Hid (CorAt w.heap.size k w0) := Lib.hid K0
     replace K1 := Lib.hid K1
     replace K2 := Lib.hid K2
     replace B0 := Lib.hid B0
     have fz := CorAt.free K0.out
     have c_t := CorAt.c_t K0.out
     have c_lo := CorAt.c_lo K0.out
     have c_vl := CorAt.c_vl K0.out
     have o0 := cell_of_blk (i := 0) (v := .string oa) K1.out rfl
     have o1 := cell_of_blk (i := 1) (v := .string ob) K1.out rfl
     go_wp2_with (first
      | (go_at_call 71; refine (is_zz _ _).mono ?_; rintro e w1 ⟨rfl, hb⟩; refine Hid.out ?_))
     have K0 := Lib.hid (CorAt.below K0.out hb)
     have K1 := Lib.hid (blk_below (b := w.heap.size + 1) (show _ = some (Obj.cells #[.string oa, .string ob] 55 (0, 0)) by exact rowS) hb)
     have K2 := Lib.hid (blk_below (b := w.heap.size + 1 + 1) (show _ = some (Obj.cells #[.int .i64 0, .int .i64 0, .bool false] 38 (0, 0)) by exact rowS) hb)
     have B0 := Lib.hid (below_then (show Below w.heap.size w _ by exact belS) hb)
     clear hb fz c_t c_lo c_vl o0 o1
     have fz := CorAt.free K0.out
     have hlt := (Array.getElem?_eq_some_iff.1 K2.out).1
     have c_t := CorAt.c_t K0.out
     have c_lo := CorAt.c_lo K0.out
     have c_vl := CorAt.c_vl K0.out
     have o0 := cell_of_blk (i := 0) (v := .string oa) K1.out rfl
     have o1 := cell_of_blk (i := 1) (v := .string ob) K1.out rfl
     refine Lib.hid ?_
     go_upto_region 19 with fail
     go_wp2_with (first
      | (go_at_call 71; refine (is_ii _ _).mono ?_; rintro e w1 ⟨rfl, hb⟩; refine Hid.out ?_))
     have K0 := Lib.hid (CorAt.below K0.out hb)
     have K1 := Lib.hid (blk_below (b := w.heap.size + 1) (show _ = some (Obj.cells #[.string oa, .string ob] 55 (0, 0)) by exact rowS) hb)
     have K2 := Lib.hid (blk_below (b := w.heap.size + 1 + 1) (show _ = some (Obj.cells #[.int .i64 0, .int .i64 0, .bool false] 38 (0, 0)) by exact rowS) hb)
     have B0 := Lib.hid (below_then (show Below w.heap.size w _ by exact belS) hb)
     clear hb fz hlt c_t c_lo c_vl o0 o1
     have fz := CorAt.free K0.out
     have hlt := (Array.getElem?_eq_some_iff.1 K2.out).1
     have c_vl := CorAt.c_vl K0.out
     have o0 := cell_of_blk (i := 0) (v := .string oa) K1.out rfl
     have o1 := cell_of_blk (i := 1) (v := .string ob) K1.out rfl
     refine Lib.hid ?_
     go_upto_region 20 with fail
     go_wp2_with (first
      | (refine store_row (by rfl) 38 _ _ (by rfl) _ _ (by rfl) (by rfl) 3 (by kernel_rfl) (by exact rowS; done) rfl rfl (by rfl) ?_))
     exact bodyPost_ret (results_cell_row rfl _ _ (w.heap.size + 1 + 1) _ _ _ _ rfl (setRow_heap _ _ _ _ _ _ (by exact rowS)) Tryz.underlying38 rfl (by kernel_rfl)) rfl ⟨_, _, _, rfl, below_row (by exact belS) (by omega)⟩
    ·replace hi := Bool.eq_false_iff.2 hi
     obtain ⟨h19, h20, h21, h22, h1⟩ := hT
     go_enter Tryz.func49, Tryz.ntmps49
     go_upto_region 1 with fail
     have K0 : (((w.alloc (.cells (corC k) 27)).alloc (.cells #[.string oa, .string ob] 55)).alloc (.cells #[.int .i64 0, .int .i64 0, .bool false] 38)).heap[w.heap.size]? = some (.cells (corC k) 27 (0, 0)) := by
      have h := blk_old (o := .cells #[.int .i64 0, .int .i64 0, .bool false] 38) (blk_old (o := .cells #[.string oa, .string ob] 55) (blk_new w (.cells (corC k) 27)))
      try simp only [alloc_size] at h
      exact h
     have K1 : (((w.alloc (.cells (corC k) 27)).alloc (.cells #[.string oa, .string ob] 55)).alloc (.cells #[.int .i64 0, .int .i64 0, .bool false] 38)).heap[w.heap.size + 1]? = some (.cells #[.string oa, .string ob] 55 (0, 0)) := by
      have h := blk_old (o := .cells #[.int .i64 0, .int .i64 0, .bool false] 38) (blk_new (w.alloc (.cells (corC k) 27)) (.cells #[.string oa, .string ob] 55))
      try simp only [alloc_size] at h
      exact h
     have K2 : (((w.alloc (.cells (corC k) 27)).alloc (.cells #[.string oa, .string ob] 55)).alloc (.cells #[.int .i64 0, .int .i64 0, .bool false] 38)).heap[w.heap.size + 1 + 1]? = some (.cells #[.int .i64 0, .int .i64 0, .bool false] 38 (0, 0)) := by
      have h := blk_new ((w.alloc (.cells (corC k) 27)).alloc (.cells #[.string oa, .string ob] 55)) (.cells #[.int .i64 0, .int .i64 0, .bool false] 38)
      try simp only [alloc_size] at h
      exact h
     have B0 := below_alloc (below_alloc (below_alloc (Below.refl w.heap.size w) (.cells (corC k) 27)) (.cells #[.string oa, .string ob] 55)) (.cells #[.int .i64 0, .int .i64 0, .bool false] 38)
     generalize (((w.alloc (.cells (corC k) 27)).alloc (.cells #[.string oa, .string ob] 55)).alloc (.cells #[.int .i64 0, .int .i64 0, .bool false] 38)) = w0 at K0 K1 K2 B0 ⊢
     replace K0 : Hid (CorAt w.heap.size k w0) := Lib.hid K0
     replace K1 := Lib.hid K1
     replace K2 := Lib.hid K2
     replace B0 := Lib.hid B0
     have fz := CorAt.free K0.out
     have c_t := CorAt.c_t K0.out
     have c_lo := CorAt.c_lo K0.out
     have c_vl := CorAt.c_vl K0.out
     have o0 := cell_of_blk (i := 0) (v := .string oa) K1.out rfl
     have o1 := cell_of_blk (i := 1) (v := .string ob) K1.out rfl
     go_wp2_with (first
      | (go_at_call 71; refine (is_zz _ _).mono ?_; rintro e w1 ⟨rfl, hb⟩; refine Hid.out ?_))
     have K0 := Lib.hid (CorAt.below K0.out hb)
     have K1 := Lib.hid (blk_below (b := w.heap.size + 1) (show _ = some (Obj.cells #[.string oa, .string ob] 55 (0, 0)) by exact rowS) hb)
     have K2 := Lib.hid (blk_below (b := w.heap.size + 1 + 1) (show _ = some (Obj.cells #[.int .i64 0, .int .i64 0, .bool false] 38 (0, 0)) by exact rowS) hb)
     have B0 := Lib.hid (below_then (show Below w.heap.size w _ by exact belS) hb)
     clear hb fz c_t c_lo c_vl o0 o1
     have fz := CorAt.free K0.out
     have hlt := (Array.getElem?_eq_some_iff.1 K2.out).1
     have c_t := CorAt.c_t K0.out
     have c_lo := CorAt.c_lo K0.out
     have c_vl := CorAt.c_vl K0.out
     have o0 := cell_of_blk (i := 0) (v := .string oa) K1.out rfl
     have o1 := cell_of_blk (i := 1) (v := .string ob) K1.out rfl
     refine Lib.hid ?_
     go_upto_region 19 with fail
     go_wp2_with (first
      | (go_at_call 71; refine (is_ii _ _).mono ?_; rintro e w1 ⟨rfl, hb⟩; refine Hid.out ?_))
     have K0 := Lib.hid (CorAt.below K0.out hb)
     have K1 := Lib.hid (blk_below (b := w.heap.size + 1) (show _ = some (Obj.cells #[.string oa, .string ob] 55 (0, 0)) by exact rowS) hb)
     have K2 := Lib.hid (blk_below (b := w.heap.size + 1 + 1) (show _ = some (Obj.cells #[.int .i64 0, .int .i64 0, .bool false] 38 (0, 0)) by exact rowS) hb)
     have B0 := Lib.hid (below_then (show Below w.heap.size w _ by exact belS) hb)
     clear hb fz hlt c_t c_lo c_vl o0 o1
     have fz := CorAt.free K0.out
     have hlt := (Array.getElem?_eq_some_iff.1 K2.out).1
     have c_vl := CorAt.c_vl K0.out
     have o0 := cell_of_blk (i := 0) (v := .string oa) K1.out rfl
     have o1 := cell_of_blk (i := 1) (v := .string ob) K1.out rfl
     refine Lib.hid ?_
     go_upto_region 21 with fail
     go_wp2_with (first
      | (refine load_some (by rfl) _ (by rfl) _ (by rfl) (by exact someS) ?_; intro k2 hk2)
      | (refine store_row (by rfl) 38 _ _ (by rfl) _ _ (by rfl) (by rfl) 3 (by kernel_rfl) (by exact rowS; done) rfl rfl (by rfl) ?_)
      | (go_at_call 46; refine (s_l10Here _ _).mono ?_; rintro e w1 ⟨x9, y9, z9, rfl, hb⟩))
     exact bodyPost_ret (results_cell_row rfl _ _ (w.heap.size + 1 + 1) _ _ _ _ rfl (setRow_heap _ _ _ _ _ _ (by exact rowS)) Tryz.underlying38 rfl (by kernel_rfl)) rfl ⟨_, _, _, rfl, below_row (by exact belS) (by omega)⟩
end Go.Proofs.YthklebkpoccblaaGreat
