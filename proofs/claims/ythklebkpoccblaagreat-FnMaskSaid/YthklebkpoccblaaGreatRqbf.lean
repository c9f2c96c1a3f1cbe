/-
  Texts put together by program: FdP.
  Conditions: as each theorem says.
-/
import Derived.Test.YthklebkpoccblaaGreatRqbd
import Derived.Test.YthklebkpoccblaaGreatRqbe
namespace Go.Proofs.YthklebkpoccblaaGreat
open Go.RowKit
theorem is_jj (x : ByteArray) (w : World) : Calls Tryz.prog 71 #[.string x, .string ⟨#[74, 77, 80, 32, 74, 83, 82]⟩] w fun e w' => e = .returned (.bool (inB x [[74, 77, 80], [74, 83, 82]])) ∧ Below w.heap.size w w' :=
 spec_is x [[74, 77, 80], [74, 83, 82]] (by decide) (ok_words _ (by decide)) (by decide) (by decide) w
theorem is_pl (x : ByteArray) (w : World) : Calls Tryz.prog 71 #[.string x, .string ⟨#[80, 76, 65, 32, 80, 76, 80, 32, 82, 84, 73, 32, 82, 84, 83]⟩] w fun e w' => e = .returned (.bool (inB x [[80, 76, 65], [80, 76, 80], [82, 84, 73], [82, 84, 83]])) ∧ Below w.heap.size w w' :=
 spec_is x [[80, 76, 65], [80, 76, 80], [82, 84, 73], [82, 84, 83]] (by decide) (ok_words _ (by decide)) (by decide) (by decide) w
theorem is_ph (x : ByteArray) (w : World) : Calls Tryz.prog 71 #[.string x, .string ⟨#[80, 72, 65, 32, 80, 72, 80]⟩] w fun e w' => e = .returned (.bool (inB x [[80, 72, 65], [80, 72, 80]])) ∧ Below w.heap.size w w' :=
 spec_is x [[80, 72, 65], [80, 72, 80]] (by decide) (ok_words _ (by decide)) (by decide) (by decide) w
section
variable {ops : Array Oper} {rest : List Oper} {o : Oper} {a : Act} {w : World} {Q : Exit → Act → World → Prop}
theorem sti_ra (hgd : o.guard = none) (hds : o.dst = none) (x y : Operand) (ho : o.op = .store 3 x y) (b : Nat) (hx : a.eval x = .pointer (some ⟨b, 0, none⟩)) (v : Int) (hy : a.eval y = .int .i64 v) {r : RegI} (hg : w.heap[b]? = some (.cells (regC r) 25 (0, 0))) (h : ∀ r2 : RegI, wpList Tryz.prog ops Q rest a (w.setRow b (regC r2))) : wpList Tryz.prog ops Q (o :: rest) a w :=
 store_cell hgd 3 x y ho b 0 hx _ hy (by kernel_rfl) rfl hg rfl (regC { r with a := v }) rfl (by rw [hds]; exact h _)
end
set_option maxRecDepth 100000 in
set_option maxHeartbeats 20000000 in
theorem s_owned (k : CorI) (v : Int) (oa ob : ByteArray) (w : World) : Calls Tryz.prog 37 #[.agg (corC k), .int .i64 v, .agg #[.string oa, .string ob]] w (CorDone w) := by
 go_enter Tryz.func37, Tryz.ntmps37
 go_upto_region 1 with fail
 have K0 : (((w.alloc (.cells (corC k) 27)).alloc (.cells #[.string oa, .string ob] 55)).alloc (.cells #[.int .i64 0, .int .i64 0, .int .i64 0, .int .i64 0, .int .i64 0, .int .i64 0, .int .i64 0, .int .i64 0, .int .i64 0, .int .i64 0, .int .i64 0, .int .i64 0, .bool false, .int .i64 0, .bool false] 27)).heap[w.heap.size]? = some (.cells (corC k) 27 (0, 0)) := by
  have h := blk_old (o := .cells #[.int .i64 0, .int .i64 0, .int .i64 0, .int .i64 0, .int .i64 0, .int .i64 0, .int .i64 0, .int .i64 0, .int .i64 0, .int .i64 0, .int .i64 0, .int .i64 0, .bool false, .int .i64 0, .bool false] 27) (blk_old (o := .cells #[.string oa, .string ob] 55) (blk_new w (.cells (corC k) 27)))
  try simp only [alloc_size] at h
  exact h
 have K1 : (((w.alloc (.cells (corC k) 27)).alloc (.cells #[.string oa, .string ob] 55)).alloc (.cells #[.int .i64 0, .int .i64 0, .int .i64 0, .int .i64 0, .int .i64 0, .int .i64 0, .int .i64 0, .int .i64 0, .int .i64 0, .int .i64 0, .int .i64 0, .int .i64 0, .bool false, .int .i64 0, .bool false] 27)).heap[w.heap.size + 1]? = some (.cells #[.string oa, .string ob] 55 (0, 0)) := by
  have h := blk_old (o := .cells #[.int .i64 0, .int .i64 0, .int .i64 0, .int .i64 0, .int .i64 0, .int .i64 0, .int .i64 0, .int .i64 0, .int .i64 0, .int .i64 0, .int .i64 0, .int .i64 0, .bool false, .int .i64 0, .bool false] 27) (blk_new (w.alloc (.cells (corC k) 27)) (.cells #[.string oa, .string ob] 55))
  try simp only [alloc_size] at h
  exact h
 have K2 : (((w.alloc (.cells (corC k) 27)).alloc (.cells #[.string oa, .string ob] 55)).alloc (.cells #[.int .i64 0, .int .i64 0, .int .i64 0, .int .i64 0, .int .i64 0, .int .i64 0, .int .i64 0, .int .i64 0, .int .i64 0, .int .i64 0, .int .i64 0, .int .i64 0, .bool false, .int .i64 0, .bool false] 27)).heap[w.heap.size + 1 + 1]? = some (.cells #[.int .i64 0, .int .i64 0, .int .i64 0, .int .i64 0, .int .i64 0, .int .i64 0, .int .i64 0, .int .i64 0, .int .i64 0, .int .i64 0, .int .i64 0, .int .i64 0, .bool false, .int .i64 0, .bool false] 27 (0, 0)) := by
  have h := blk_new ((w.alloc (.cells (corC k) 27)).alloc (.cells #[.string oa, .string ob] 55)) (.cells #[.int .i64 0, .int .i64 0, .int .i64 0, .int .i64 0, .int .i64 0, .int .i64 0, .int .i64 0, .int .i64 0, .int .i64 0, .int .i64 0, .int .i64 0, .int .i64 0, .bool false, .int .i64 0, .bool false] 27)
  try simp only [alloc_size] at h
  exact h
 have B0 := below_alloc (below_alloc (below_alloc (Below.refl w.heap.size w) (.cells (corC k) 27)) (.cells #[.string oa, .string ob] 55)) (.cells #[.int .i64 0, .int .i64 0, .int .i64 0, .int .i64 0, .int .i64 0, .int .i64 0, .int .i64 0, .int .i64 0, .int .i64 0, .int .i64 0, .int .i64 0, .int .i64 0, .bool false, .int .i64 0, .bool false] 27)
 generalize (((w.alloc (.cells (corC k) 27)).alloc (.cells #[.string oa, .string ob] 55)).alloc (.cells #[.int .i64 0, .int .i64 0, .int .i64 0, .int .i64 0, .int .i64 0, .int .i64 0, .int .i64 0, .int .i64 0, .int .i64 0, .int .i64 0, .int .i64 0, .int .i64 0, .bool false, .int .i64 0, .bool false] 27)) = w0 at K0 K1 K2 B0 ⊢
 replace K0 : Hid (CorAt w.heap.size k w0) := Lib.hid K0
 replace K1 := Lib.hid K1
 replace K2 := Lib.hid K2
 replace B0 := Lib.hid B0
 have fz := CorAt.free K0.out
 have c_t := CorAt.c_t K0.out
 have c_a := CorAt.c_a K0.out
 have o0 := cell_of_blk (i := 0) (v := .string oa) K1.out rfl
 have o1 := cell_of_blk (i := 1) (v := .string ob) K1.out rfl
 by_cases hm : ob = ⟨#[105, 109, 109]⟩
 ·have ehm0 : (ob.toList == [105, 109, 109]) = true := by rw [hm, ByteArray.toList_eq]; decide
  have ehm1 : (ob.toList == [114, 101, 108]) = false := by rw [hm, ByteArray.toList_eq]; decide
  have ehm2 : (ob.toList == [97, 99, 99]) = false := by rw [hm, ByteArray.toList_eq]; decide
  clear hm
  go_upto_region 2 with fail
  go_wp2_with (first
   | (refine load_rsome (by rfl) _ (by rfl) _ (by rfl) (by exact someS) ?_; intro r2)
   | (go_at_call 72; refine (s_apply _ _ _ _).mono ?_; rintro e w1 ⟨r3, x9, rfl, hb⟩)
   | (refine store_rsome (by rfl) (by rfl) _ _ (by rfl) _ (by rfl) _ (by rfl) (by exact someS) ?_; intro k3)
   | (go_at_call 63; refine (t_l10Up _ _).mono ?_; rintro e w1 ⟨k9, rfl, hb⟩)
   | (refine load_some (by rfl) _ (by rfl) _ (by rfl) (by exact someS) ?_; intro k2 hk2)
   | (refine store_row (by rfl) 27 _ _ (by rfl) _ _ (by rfl) (by rfl) 15 (by kernel_rfl) (by exact rowS; done) rfl rfl (by rfl) ?_))
  exact row_tmp_post rfl rfl rfl Tryz.underlying27 rfl (by kernel_rfl) rfl (setRow_heap _ _ _ _ _ _ (by exact rowS)) rfl (cor_done (below_row (by exact belS) (by omega)))
 ·have nhm := ne_list [105, 109, 109] hm
  clear hm
  by_cases hr : ob = ⟨#[114, 101, 108]⟩
  ·have ehr0 : (ob.toList == [105, 109, 109]) = false := by rw [hr, ByteArray.toList_eq]; decide
   have ehr1 : (ob.toList == [114, 101, 108]) = true := by rw [hr, ByteArray.toList_eq]; decide
   have ehr2 : (ob.toList == [97, 99, 99]) = false := by rw [hr, ByteArray.toList_eq]; decide
   clear hr
   go_upto_region 5 with fail
   go_wp2_with (first
    | (go_at_call 73; refine (s_branched _ _ _ _).mono ?_; rintro e w1 ⟨k9, d9, rfl, hb⟩)
    | (refine load_some (by rfl) _ (by rfl) _ (by rfl) (by exact someS) ?_; intro k2 hk2)
    | (refine store_row (by rfl) 27 _ _ (by rfl) _ _ (by rfl) (by rfl) 15 (by kernel_rfl) (by exact rowS; done) rfl rfl (by rfl) ?_))
   exact row_tmp_post rfl rfl rfl Tryz.underlying27 rfl (by kernel_rfl) rfl (setRow_heap _ _ _ _ _ _ (by exact rowS)) rfl (cor_done (below_row (by exact belS) (by omega)))
  ·have nhr := ne_list [114, 101, 108] hr
   clear hr
   by_cases hj : inB oa [[74, 77, 80], [74, 83, 82]] = true
   ·go_upto_region 6 with fail
    go_wp2_with (first
     | (go_at_call 71; refine (is_jj _ _).mono ?_; rintro e w1 ⟨rfl, hb⟩; refine Hid.out ?_))
    have K0 := Lib.hid (CorAt.below K0.out hb)
    have K1 := Lib.hid (blk_below (b := w.heap.size + 1) (show _ = some (Obj.cells #[.string oa, .string ob] 55 (0, 0)) by exact rowS) hb)
    have K2 := Lib.hid (blk_below (b := w.heap.size + 1 + 1) (show _ = some (Obj.cells #[.int .i64 0, .int .i64 0, .int .i64 0, .int .i64 0, .int .i64 0, .int .i64 0, .int .i64 0, .int .i64 0, .int .i64 0, .int .i64 0, .int .i64 0, .int .i64 0, .bool false, .int .i64 0, .bool false] 27 (0, 0)) by exact rowS) hb)
    have B0 := Lib.hid (below_then (show Below w.heap.size w _ by exact belS) hb)
    clear hb fz c_t c_a o0 o1
    have fz := CorAt.free K0.out
    have hlt := (Array.getElem?_eq_some_iff.1 K2.out).1
    have c_t := CorAt.c_t K0.out
    have c_a := CorAt.c_a K0.out
    have o0 := cell_of_blk (i := 0) (v := .string oa) K1.out rfl
    have o1 := cell_of_blk (i := 1) (v := .string ob) K1.out rfl
    refine Lib.hid ?_
    go_upto_region 7 with fail
    go_wp2_with (first
     | (refine load_row (by rfl) 55 _ (by rfl) _ (by rfl) 2 _ Tryz.underlying55 rfl (by kernel_rfl) (by exact rowS) rfl ?_)
     | (go_at_call 74; refine (s_jumped _ _ _ _ _).mono ?_; rintro e w1 ⟨k9, d9, rfl, hb⟩)
     | (refine load_some (by rfl) _ (by rfl) _ (by rfl) (by exact someS) ?_; intro k2 hk2)
     | (refine store_row (by rfl) 27 _ _ (by rfl) _ _ (by rfl) (by rfl) 15 (by kernel_rfl) (by exact rowS; done) rfl rfl (by rfl) ?_))
    exact row_tmp_post rfl rfl rfl Tryz.underlying27 rfl (by kernel_rfl) rfl (setRow_heap _ _ _ _ _ _ (by exact rowS)) rfl (cor_done (below_row (by exact belS) (by omega)))
   ·replace hj := Bool.eq_false_iff.2 hj
    by_cases hp : inB oa [[80, 76, 65], [80, 76, 80], [82, 84, 73], [82, 84, 83]] = true
    ·go_upto_region 6 with fail
     go_wp2_with (first
      | (go_at_call 71; refine (is_jj _ _).mono ?_; rintro e w1 ⟨rfl, hb⟩; refine Hid.out ?_))
     have K0 := Lib.hid (CorAt.below K0.out hb)
     have K1 := Lib.hid (blk_below (b := w.heap.size + 1) (show _ = some (Obj.cells #[.string oa, .string ob] 55 (0, 0)) by exact rowS) hb)
     have K2 := Lib.hid (blk_below (b := w.heap.size + 1 + 1) (show _ = some (Obj.cells #[.int .i64 0, .int .i64 0, .int .i64 0, .int .i64 0, .int .i64 0, .int .i64 0, .int .i64 0, .int .i64 0, .int .i64 0, .int .i64 0, .int .i64 0, .int .i64 0, .bool false, .int .i64 0, .bool false] 27 (0, 0)) by exact rowS) hb)
     have B0 := Lib.hid (below_then (show Below w.heap.size w _ by exact belS) hb)
     clear hb fz c_t c_a o0 o1
     have fz := CorAt.free K0.out
     have hlt := (Array.getElem?_eq_some_iff.1 K2.out).1
     have c_t := CorAt.c_t K0.out
     have c_a := CorAt.c_a K0.out
     have o0 := cell_of_blk (i := 0) (v := .string oa) K1.out rfl
     have o1 := cell_of_blk (i := 1) (v := .string ob) K1.out rfl
     refine Lib.hid ?_
     go_upto_region 8 with fail
     go_wp2_with (first
      | (go_at_call 71; refine (is_pl _ _).mono ?_; rintro e w1 ⟨rfl, hb⟩; refine Hid.out ?_))
     have K0 := Lib.hid (CorAt.below K0.out hb)
     have K1 := Lib.hid (blk_below (b := w.heap.size + 1) (show _ = some (Obj.cells #[.string oa, .string ob] 55 (0, 0)) by exact rowS) hb)
     have K2 := Lib.hid (blk_below (b := w.heap.size + 1 + 1) (show _ = some (Obj.cells #[.int .i64 0, .int .i64 0, .int .i64 0, .int .i64 0, .int .i64 0, .int .i64 0, .int .i64 0, .int .i64 0, .int .i64 0, .int .i64 0, .int .i64 0, .int .i64 0, .bool false, .int .i64 0, .bool false] 27 (0, 0)) by exact rowS) hb)
     have B0 := Lib.hid (below_then (show Below w.heap.size w _ by exact belS) hb)
     clear hb fz hlt c_t c_a o0 o1
     have fz := CorAt.free K0.out
     have hlt := (Array.getElem?_eq_some_iff.1 K2.out).1
     have c_t := CorAt.c_t K0.out
     have c_a := CorAt.c_a K0.out
     have o0 := cell_of_blk (i := 0) (v := .string oa) K1.out rfl
     have o1 := cell_of_blk (i := 1) (v := .string ob) K1.out rfl
     refine Lib.hid ?_
     go_upto_region 9 with fail
     go_wp2_with (first
      | (go_at_call 75; refine (s_pulls _ _ _ _).mono ?_; rintro e w1 ⟨k9, d9, rfl, hb⟩)
      | (refine load_some (by rfl) _ (by rfl) _ (by rfl) (by exact someS) ?_; intro k2 hk2)
      | (refine store_row (by rfl) 27 _ _ (by rfl) _ _ (by rfl) (by rfl) 15 (by kernel_rfl) (by exact rowS; done) rfl rfl (by rfl) ?_))
     exact row_tmp_post rfl rfl rfl Tryz.underlying27 rfl (by kernel_rfl) rfl (setRow_heap _ _ _ _ _ _ (by exact rowS)) rfl (cor_done (below_row (by exact belS) (by omega)))
    ·replace hp := Bool.eq_false_iff.2 hp
     by_cases hh : inB oa [[80, 72, 65], [80, 72, 80]] = true
     ·by_cases h1 : k.t = 1
      ·go_upto_region 6 with fail
       go_wp2_with (first
        | (go_at_call 71; refine (is_jj _ _).mono ?_; rintro e w1 ⟨rfl, hb⟩; refine Hid.out ?_))
       have K0 := Lib.hid (CorAt.below K0.out hb)
       have K1 := Lib.hid (blk_below (b := w.heap.size + 1) (show _ = some (Obj.cells #[.string oa, .string ob] 55 (0, 0)) by exact rowS) hb)
       have K2 := Lib.hid (blk_below (b := w.heap.size + 1 + 1) (show _ = some (Obj.cells #[.int .i64 0, .int .i64 0, .int .i64 0, .int .i64 0, .int .i64 0, .int .i64 0, .int .i64 0, .int .i64 0, .int .i64 0, .int .i64 0, .int .i64 0, .int .i64 0, .bool false, .int .i64 0, .bool false] 27 (0, 0)) by exact rowS) hb)
       have B0 := Lib.hid (below_then (show Below w.heap.size w _ by exact belS) hb)
       clear hb fz c_t c_a o0 o1
       have fz := CorAt.free K0.out
       have hlt := (Array.getElem?_eq_some_iff.1 K2.out).1
       have c_t := CorAt.c_t K0.out
       have c_a := CorAt.c_a K0.out
       have o0 := cell_of_blk (i := 0) (v := .string oa) K1.out rfl
       have o1 := cell_of_blk (i := 1) (v := .string ob) K1.out rfl
       refine Lib.hid ?_
       go_upto_region 8 with fail
       go_wp2_with (first
        | (go_at_call 71; refine (is_pl _ _).mono ?_; rintro e w1 ⟨rfl, hb⟩; refine Hid.out ?_))
       have K0 := Lib.hid (CorAt.below K0.out hb)
       have K1 := Lib.hid (blk_below (b := w.heap.size + 1) (show _ = some (Obj.cells #[.string oa, .string ob] 55 (0, 0)) by exact rowS) hb)
       have K2 := Lib.hid (blk_below (b := w.heap.size + 1 + 1) (show _ = some (Obj.cells #[.int .i64 0, .int .i64 0, .int .i64 0, .int .i64 0, .int .i64 0, .int .i64 0, .int .i64 0, .int .i64 0, .int .i64 0, .int .i64 0, .int .i64 0, .int .i64 0, .bool false, .int .i64 0, .bool false] 27 (0, 0)) by exact rowS) hb)
       have B0 := Lib.hid (below_then (show Below w.heap.size w _ by exact belS) hb)
       clear hb fz hlt c_t c_a o0 o1
       have fz := CorAt.free K0.out
       have hlt := (Array.getElem?_eq_some_iff.1 K2.out).1
       have c_t := CorAt.c_t K0.out
       have c_a := CorAt.c_a K0.out
       have o0 := cell_of_blk (i := 0) (v := .string oa) K1.out rfl
       have o1 := cell_of_blk (i := 1) (v := .string ob) K1.out rfl
       refine Lib.hid ?_
       go_upto_region 10 with fail
       go_wp2_with (first
        | (go_at_call 71; refine (is_ph _ _).mono ?_; rintro e w1 ⟨rfl, hb⟩; refine Hid.out ?_))
       have K0 := Lib.hid (CorAt.below K0.out hb)
       have K1 := Lib.hid (blk_below (b := w.heap.size + 1) (show _ = some (Obj.cells #[.string oa, .string ob] 55 (0, 0)) by exact rowS) hb)
       have K2 := Lib.hid (blk_below (b := w.heap.size + 1 + 1) (show _ = some (Obj.cells #[.int .i64 0, .int .i64 0, .int .i64 0, .int .i64 0, .int .i64 0, .int .i64 0, .int .i64 0, .int .i64 0, .int .i64 0, .int .i64 0, .int .i64 0, .int .i64 0, .bool false, .int .i64 0, .bool false] 27 (0, 0)) by exact rowS) hb)
       have B0 := Lib.hid (below_then (show Below w.heap.size w _ by exact belS) hb)
       clear hb fz hlt c_t c_a o0 o1
       have fz := CorAt.free K0.out
       have hlt := (Array.getElem?_eq_some_iff.1 K2.out).1
       have c_t := CorAt.c_t K0.out
       have c_a := CorAt.c_a K0.out
       have o0 := cell_of_blk (i := 0) (v := .string oa) K1.out rfl
       have o1 := cell_of_blk (i := 1) (v := .string ob) K1.out rfl
       refine Lib.hid ?_
       go_upto_region 11 with fail
       go_wp2_with (first
        | (refine sti_t (by rfl) (by rfl) _ _ (by rfl) _ (by rfl) _ (by rfl) (by exact someS) ?_; intro k3)
        | (refine load_some (by rfl) _ (by rfl) _ (by rfl) (by exact someS) ?_; intro k2 hk2)
        | (refine store_row (by rfl) 27 _ _ (by rfl) _ _ (by rfl) (by rfl) 15 (by kernel_rfl) (by exact rowS; done) rfl rfl (by rfl) ?_))
       exact row_tmp_post rfl rfl rfl Tryz.underlying27 rfl (by kernel_rfl) rfl (setRow_heap _ _ _ _ _ _ (by exact rowS)) rfl (cor_done (below_row (by exact belS) (by omega)))
      ·go_upto_region 6 with fail
       go_wp2_with (first
        | (go_at_call 71; refine (is_jj _ _).mono ?_; rintro e w1 ⟨rfl, hb⟩; refine Hid.out ?_))
       have K0 := Lib.hid (CorAt.below K0.out hb)
       have K1 := Lib.hid (blk_below (b := w.heap.size + 1) (show _ = some (Obj.cells #[.string oa, .string ob] 55 (0, 0)) by exact rowS) hb)
       have K2 := Lib.hid (blk_below (b := w.heap.size + 1 + 1) (show _ = some (Obj.cells #[.int .i64 0, .int .i64 0, .int .i64 0, .int .i64 0, .int .i64 0, .int .i64 0, .int .i64 0, .int .i64 0, .int .i64 0, .int .i64 0, .int .i64 0, .int .i64 0, .bool false, .int .i64 0, .bool false] 27 (0, 0)) by exact rowS) hb)
       have B0 := Lib.hid (below_then (show Below w.heap.size w _ by exact belS) hb)
       clear hb fz c_t c_a o0 o1
       have fz := CorAt.free K0.out
       have hlt := (Array.getElem?_eq_some_iff.1 K2.out).1
       have c_t := CorAt.c_t K0.out
       have c_a := CorAt.c_a K0.out
       have o0 := cell_of_blk (i := 0) (v := .string oa) K1.out rfl
       have o1 := cell_of_blk (i := 1) (v := .string ob) K1.out rfl
       refine Lib.hid ?_
       go_upto_region 8 with fail
       go_wp2_with (first
        | (go_at_call 71; refine (is_pl _ _).mono ?_; rintro e w1 ⟨rfl, hb⟩; refine Hid.out ?_))
       have K0 := Lib.hid (CorAt.below K0.out hb)
       have K1 := Lib.hid (blk_below (b := w.heap.size + 1) (show _ = some (Obj.cells #[.string oa, .string ob] 55 (0, 0)) by exact rowS) hb)
       have K2 := Lib.hid (blk_below (b := w.heap.size + 1 + 1) (show _ = some (Obj.cells #[.int .i64 0, .int .i64 0, .int .i64 0, .int .i64 0, .int .i64 0, .int .i64 0, .int .i64 0, .int .i64 0, .int .i64 0, .int .i64 0, .int .i64 0, .int .i64 0, .bool false, .int .i64 0, .bool false] 27 (0, 0)) by exact rowS) hb)
       have B0 := Lib.hid (below_then (show Below w.heap.size w _ by exact belS) hb)
       clear hb fz hlt c_t c_a o0 o1
       have fz := CorAt.free K0.out
       have hlt := (Array.getElem?_eq_some_iff.1 K2.out).1
       have c_t := CorAt.c_t K0.out
       have c_a := CorAt.c_a K0.out
       have o0 := cell_of_blk (i := 0) (v := .string oa) K1.out rfl
       have o1 := cell_of_blk (i := 1) (v := .string ob) K1.out rfl
       refine Lib.hid ?_
       go_upto_region 10 with fail
       go_wp2_with (first
        | (go_at_call 71; refine (is_ph _ _).mono ?_; rintro e w1 ⟨rfl, hb⟩; refine Hid.out ?_))
       have K0 := Lib.hid (CorAt.below K0.out hb)
       have K1 := Lib.hid (blk_below (b := w.heap.size + 1) (show _ = some (Obj.cells #[.string oa, .string ob] 55 (0, 0)) by exact rowS) hb)
       have K2 := Lib.hid (blk_below (b := w.heap.size + 1 + 1) (show _ = some (Obj.cells #[.int .i64 0, .int .i64 0, .int .i64 0, .int .i64 0, .int .i64 0, .int .i64 0, .int .i64 0, .int .i64 0, .int .i64 0, .int .i64 0, .int .i64 0, .int .i64 0, .bool false, .int .i64 0, .bool false] 27 (0, 0)) by exact rowS) hb)
       have B0 := Lib.hid (below_then (show Below w.heap.size w _ by exact belS) hb)
       clear hb fz hlt c_t c_a o0 o1
       have fz := CorAt.free K0.out
       have hlt := (Array.getElem?_eq_some_iff.1 K2.out).1
       have c_t := CorAt.c_t K0.out
       have c_a := CorAt.c_a K0.out
       have o0 := cell_of_blk (i := 0) (v := .string oa) K1.out rfl
       have o1 := cell_of_blk (i := 1) (v := .string ob) K1.out rfl
       refine Lib.hid ?_
       go_upto_region 13 with fail
       go_wp2_with (first
        | (go_at_call 71; refine (is_ph _ _).mono ?_; rintro e w1 ⟨rfl, hb⟩; refine Hid.out ?_))
       have K0 := Lib.hid (CorAt.below K0.out hb)
       have K1 := Lib.hid (blk_below (b := w.heap.size + 1) (show _ = some (Obj.cells #[.string oa, .string ob] 55 (0, 0)) by exact rowS) hb)
       have K2 := Lib.hid (blk_below (b := w.heap.size + 1 + 1) (show _ = some (Obj.cells #[.int .i64 0, .int .i64 0, .int .i64 0, .int .i64 0, .int .i64 0, .int .i64 0, .int .i64 0, .int .i64 0, .int .i64 0, .int .i64 0, .int .i64 0, .int .i64 0, .bool false, .int .i64 0, .bool false] 27 (0, 0)) by exact rowS) hb)
       have B0 := Lib.hid (below_then (show Below w.heap.size w _ by exact belS) hb)
       clear hb fz hlt c_t c_a o0 o1
       have fz := CorAt.free K0.out
       have hlt := (Array.getElem?_eq_some_iff.1 K2.out).1
       have c_t := CorAt.c_t K0.out
       have c_a := CorAt.c_a K0.out
       have o0 := cell_of_blk (i := 0) (v := .string oa) K1.out rfl
       have o1 := cell_of_blk (i := 1) (v := .string ob) K1.out rfl
       refine Lib.hid ?_
       go_upto_region 14 with fail
       go_wp2_with (first
        | (go_at_call 66; refine (t_l10Drop _ _).mono ?_; rintro e w1 ⟨k9, rfl, hb⟩)
        | (refine load_some (by rfl) _ (by rfl) _ (by rfl) (by exact someS) ?_; intro k2 hk2)
        | (refine store_row (by rfl) 27 _ _ (by rfl) _ _ (by rfl) (by rfl) 15 (by kernel_rfl) (by exact rowS; done) rfl rfl (by rfl) ?_))
       exact row_tmp_post rfl rfl rfl Tryz.underlying27 rfl (by kernel_rfl) rfl (setRow_heap _ _ _ _ _ _ (by exact rowS)) rfl (cor_done (below_row (by exact belS) (by omega)))
     ·replace hh := Bool.eq_false_iff.2 hh
      by_cases hc : ob = ⟨#[97, 99, 99]⟩
      ·have ehc0 : (ob.toList == [105, 109, 109]) = false := by rw [hc, ByteArray.toList_eq]; decide
       have ehc1 : (ob.toList == [114, 101, 108]) = false := by rw [hc, ByteArray.toList_eq]; decide
       have ehc2 : (ob.toList == [97, 99, 99]) = true := by rw [hc, ByteArray.toList_eq]; decide
       clear hc
       go_upto_region 6 with fail
       go_wp2_with (first
        | (go_at_call 71; refine (is_jj _ _).mono ?_; rintro e w1 ⟨rfl, hb⟩; refine Hid.out ?_))
       have K0 := Lib.hid (CorAt.below K0.out hb)
       have K1 := Lib.hid (blk_below (b := w.heap.size + 1) (show _ = some (Obj.cells #[.string oa, .string ob] 55 (0, 0)) by exact rowS) hb)
       have K2 := Lib.hid (blk_below (b := w.heap.size + 1 + 1) (show _ = some (Obj.cells #[.int .i64 0, .int .i64 0, .int .i64 0, .int .i64 0, .int .i64 0, .int .i64 0, .int .i64 0, .int .i64 0, .int .i64 0, .int .i64 0, .int .i64 0, .int .i64 0, .bool false, .int .i64 0, .bool false] 27 (0, 0)) by exact rowS) hb)
       have B0 := Lib.hid (below_then (show Below w.heap.size w _ by exact belS) hb)
       clear hb fz c_t c_a o0 o1
       have fz := CorAt.free K0.out
       have hlt := (Array.getElem?_eq_some_iff.1 K2.out).1
       have c_t := CorAt.c_t K0.out
       have c_a := CorAt.c_a K0.out
       have o0 := cell_of_blk (i := 0) (v := .string oa) K1.out rfl
       have o1 := cell_of_blk (i := 1) (v := .string ob) K1.out rfl
       refine Lib.hid ?_
       go_upto_region 8 with fail
       go_wp2_with (first
        | (go_at_call 71; refine (is_pl _ _).mono ?_; rintro e w1 ⟨rfl, hb⟩; refine Hid.out ?_))
       have K0 := Lib.hid (CorAt.below K0.out hb)
       have K1 := Lib.hid (blk_below (b := w.heap.size + 1) (show _ = some (Obj.cells #[.string oa, .string ob] 55 (0, 0)) by exact rowS) hb)
       have K2 := Lib.hid (blk_below (b := w.heap.size + 1 + 1) (show _ = some (Obj.cells #[.int .i64 0, .int .i64 0, .int .i64 0, .int .i64 0, .int .i64 0, .int .i64 0, .int .i64 0, .int .i64 0, .int .i64 0, .int .i64 0, .int .i64 0, .int .i64 0, .bool false, .int .i64 0, .bool false] 27 (0, 0)) by exact rowS) hb)
       have B0 := Lib.hid (below_then (show Below w.heap.size w _ by exact belS) hb)
       clear hb fz hlt c_t c_a o0 o1
       have fz := CorAt.free K0.out
       have hlt := (Array.getElem?_eq_some_iff.1 K2.out).1
       have c_t := CorAt.c_t K0.out
       have c_a := CorAt.c_a K0.out
       have o0 := cell_of_blk (i := 0) (v := .string oa) K1.out rfl
       have o1 := cell_of_blk (i := 1) (v := .string ob) K1.out rfl
       refine Lib.hid ?_
       go_upto_region 10 with fail
       go_wp2_with (first
        | (go_at_call 71; refine (is_ph _ _).mono ?_; rintro e w1 ⟨rfl, hb⟩; refine Hid.out ?_))
       have K0 := Lib.hid (CorAt.below K0.out hb)
       have K1 := Lib.hid (blk_below (b := w.heap.size + 1) (show _ = some (Obj.cells #[.string oa, .string ob] 55 (0, 0)) by exact rowS) hb)
       have K2 := Lib.hid (blk_below (b := w.heap.size + 1 + 1) (show _ = some (Obj.cells #[.int .i64 0, .int .i64 0, .int .i64 0, .int .i64 0, .int .i64 0, .int .i64 0, .int .i64 0, .int .i64 0, .int .i64 0, .int .i64 0, .int .i64 0, .int .i64 0, .bool false, .int .i64 0, .bool false] 27 (0, 0)) by exact rowS) hb)
       have B0 := Lib.hid (below_then (show Below w.heap.size w _ by exact belS) hb)
       clear hb fz hlt c_t c_a o0 o1
       have fz := CorAt.free K0.out
       have hlt := (Array.getElem?_eq_some_iff.1 K2.out).1
       have c_t := CorAt.c_t K0.out
       have c_a := CorAt.c_a K0.out
       have o0 := cell_of_blk (i := 0) (v := .string oa) K1.out rfl
       have o1 := cell_of_blk (i := 1) (v := .string ob) K1.out rfl
       refine Lib.hid ?_
       go_upto_region 13 with fail
       go_wp2_with (first
        | (go_at_call 71; refine (is_ph _ _).mono ?_; rintro e w1 ⟨rfl, hb⟩; refine Hid.out ?_))
       have K0 := Lib.hid (CorAt.below K0.out hb)
       have K1 := Lib.hid (blk_below (b := w.heap.size + 1) (show _ = some (Obj.cells #[.string oa, .string ob] 55 (0, 0)) by exact rowS) hb)
       have K2 := Lib.hid (blk_below (b := w.heap.size + 1 + 1) (show _ = some (Obj.cells #[.int .i64 0, .int .i64 0, .int .i64 0, .int .i64 0, .int .i64 0, .int .i64 0, .int .i64 0, .int .i64 0, .int .i64 0, .int .i64 0, .int .i64 0, .int .i64 0, .bool false, .int .i64 0, .bool false] 27 (0, 0)) by exact rowS) hb)
       have B0 := Lib.hid (below_then (show Below w.heap.size w _ by exact belS) hb)
       clear hb fz hlt c_t c_a o0 o1
       have fz := CorAt.free K0.out
       have hlt := (Array.getElem?_eq_some_iff.1 K2.out).1
       have c_t := CorAt.c_t K0.out
       have c_a := CorAt.c_a K0.out
       have o0 := cell_of_blk (i := 0) (v := .string oa) K1.out rfl
       have o1 := cell_of_blk (i := 1) (v := .string ob) K1.out rfl
       refine Lib.hid ?_
       go_upto_region 15 with fail
       go_wp2_with (first
        | (refine load_rsome (by rfl) _ (by rfl) _ (by rfl) (by exact someS) ?_; intro r2)
        | (go_at_call 72; refine (s_apply _ _ _ _).mono ?_; rintro e w1 ⟨r3, x9, rfl, hb⟩; refine Hid.out ?_))
       have K0 := Lib.hid (CorAt.below K0.out hb)
       have K1 := Lib.hid (blk_below (b := w.heap.size + 1) (show _ = some (Obj.cells #[.string oa, .string ob] 55 (0, 0)) by exact rowS) hb)
       have K2 := Lib.hid (blk_below (b := w.heap.size + 1 + 1) (show _ = some (Obj.cells #[.int .i64 0, .int .i64 0, .int .i64 0, .int .i64 0, .int .i64 0, .int .i64 0, .int .i64 0, .int .i64 0, .int .i64 0, .int .i64 0, .int .i64 0, .int .i64 0, .bool false, .int .i64 0, .bool false] 27 (0, 0)) by exact rowS) hb)
       have B0 := Lib.hid (below_then (show Below w.heap.size w _ by exact belS) hb)
       clear hb fz hlt c_t c_a o0 o1
       have fz := CorAt.free K0.out
       have hlt := (Array.getElem?_eq_some_iff.1 K2.out).1
       have o0 := cell_of_blk (i := 0) (v := .string oa) K1.out rfl
       have o1 := cell_of_blk (i := 1) (v := .string ob) K1.out rfl
       refine Lib.hid ?_
       go_wp2_with (first
        | (refine store_row (by rfl) 25 _ _ (by rfl) _ _ (by rfl) (by rfl) 6 (by kernel_rfl) (by exact rowS; done) rfl rfl (by rfl) ?_)
        | (refine load_cell_if (by rfl) 9 _ (by rfl) _ _ (by rfl) _ Tryz.underlying9 rfl (by exact rowS; done) _ rfl ?_)
        | (refine sti_ra (by rfl) (by rfl) _ _ (by rfl) _ (by rfl) _ (by rfl) (by exact rowG; done) ?_; intro r5)
        | (refine load_row (by rfl) 25 _ (by rfl) _ (by rfl) 6 _ Tryz.underlying25 rfl (by kernel_rfl) (by exact rowG; done) rfl ?_)
        | (refine store_rsome (by rfl) (by rfl) _ _ (by rfl) _ (by rfl) _ (by rfl) (by exact someS) ?_; intro k3)
        | (refine load_some (by rfl) _ (by rfl) _ (by rfl) (by exact someS) ?_; intro k2 hk2)
        | (refine store_row (by rfl) 27 _ _ (by rfl) _ _ (by rfl) (by rfl) 15 (by kernel_rfl) (by exact rowS; done) rfl rfl (by rfl) ?_))
       exact row_tmp_post rfl rfl rfl Tryz.underlying27 rfl (by kernel_rfl) rfl (setRow_heap _ _ _ _ _ _ (by exact rowS)) rfl (cor_done (below_row (by exact belS) (by omega)))
      ·have nhc := ne_list [97, 99, 99] hc
       clear hc
       go_upto_region 6 with fail
       go_wp2_with (first
        | (go_at_call 71; refine (is_jj _ _).mono ?_; rintro e w1 ⟨rfl, hb⟩; refine Hid.out ?_))
       have K0 := Lib.hid (CorAt.below K0.out hb)
       have K1 := Lib.hid (blk_below (b := w.heap.size + 1) (show _ = some (Obj.cells #[.string oa, .string ob] 55 (0, 0)) by exact rowS) hb)
       have K2 := Lib.hid (blk_below (b := w.heap.size + 1 + 1) (show _ = some (Obj.cells #[.int .i64 0, .int .i64 0, .int .i64 0, .int .i64 0, .int .i64 0, .int .i64 0, .int .i64 0, .int .i64 0, .int .i64 0, .int .i64 0, .int .i64 0, .int .i64 0, .bool false, .int .i64 0, .bool false] 27 (0, 0)) by exact rowS) hb)
       have B0 := Lib.hid (below_then (show Below w.heap.size w _ by exact belS) hb)
       clear hb fz c_t c_a o0 o1
       have fz := CorAt.free K0.out
       have hlt := (Array.getElem?_eq_some_iff.1 K2.out).1
       have c_t := CorAt.c_t K0.out
       have c_a := CorAt.c_a K0.out
       have o0 := cell_of_blk (i := 0) (v := .string oa) K1.out rfl
       have o1 := cell_of_blk (i := 1) (v := .string ob) K1.out rfl
       refine Lib.hid ?_
       go_upto_region 8 with fail
       go_wp2_with (first
        | (go_at_call 71; refine (is_pl _ _).mono ?_; rintro e w1 ⟨rfl, hb⟩; refine Hid.out ?_))
       have K0 := Lib.hid (CorAt.below K0.out hb)
       have K1 := Lib.hid (blk_below (b := w.heap.size + 1) (show _ = some (Obj.cells #[.string oa, .string ob] 55 (0, 0)) by exact rowS) hb)
       have K2 := Lib.hid (blk_below (b := w.heap.size + 1 + 1) (show _ = some (Obj.cells #[.int .i64 0, .int .i64 0, .int .i64 0, .int .i64 0, .int .i64 0, .int .i64 0, .int .i64 0, .int .i64 0, .int .i64 0, .int .i64 0, .int .i64 0, .int .i64 0, .bool false, .int .i64 0, .bool false] 27 (0, 0)) by exact rowS) hb)
       have B0 := Lib.hid (below_then (show Below w.heap.size w _ by exact belS) hb)
       clear hb fz hlt c_t c_a o0 o1
       have fz := CorAt.free K0.out
       have hlt := (Array.getElem?_eq_some_iff.1 K2.out).1
       have c_t := CorAt.c_t K0.out
       have c_a := CorAt.c_a K0.out
       have o0 := cell_of_blk (i := 0) (v := .string oa) K1.out rfl
       have o1 := cell_of_blk (i := 1) (v := .string ob) K1.out rfl
       refine Lib.hid ?_
       go_upto_region 10 with fail
       go_wp2_with (first
        | (go_at_call 71; refine (is_ph _ _).mono ?_; rintro e w1 ⟨rfl, hb⟩; refine Hid.out ?_))
       have K0 := Lib.hid (CorAt.below K0.out hb)
       have K1 := Lib.hid (blk_below (b := w.heap.size + 1) (show _ = some (Obj.cells #[.string oa, .string ob] 55 (0, 0)) by exact rowS) hb)
       have K2 := Lib.hid (blk_below (b := w.heap.size + 1 + 1) (show _ = some (Obj.cells #[.int .i64 0, .int .i64 0, .int .i64 0, .int .i64 0, .int .i64 0, .int .i64 0, .int .i64 0, .int .i64 0, .int .i64 0, .int .i64 0, .int .i64 0, .int .i64 0, .bool false, .int .i64 0, .bool false] 27 (0, 0)) by exact rowS) hb)
       have B0 := Lib.hid (below_then (show Below w.heap.size w _ by exact belS) hb)
       clear hb fz hlt c_t c_a o0 o1
       have fz := CorAt.free K0.out
       have hlt := (Array.getElem?_eq_some_iff.1 K2.out).1
       have c_t := CorAt.c_t K0.out
       have c_a := CorAt.c_a K0.out
       have o0 := cell_of_blk (i := 0) (v := .string oa) K1.out rfl
       have o1 := cell_of_blk (i := 1) (v := .string ob) K1.out rfl
       refine Lib.hid ?_
       go_upto_region 13 with fail
       go_wp2_with (first
        | (go_at_call 71; refine (is_ph _ _).mono ?_; rintro e w1 ⟨rfl, hb⟩; refine Hid.out ?_))
       have K0 := Lib.hid (CorAt.below K0.out hb)
       have K1 := Lib.hid (blk_below (b := w.heap.size + 1) (show _ = some (Obj.cells #[.string oa, .string ob] 55 (0, 0)) by exact rowS) hb)
       have K2 := Lib.hid (blk_below (b := w.heap.size + 1 + 1) (show _ = some (Obj.cells #[.int .i64 0, .int .i64 0, .int .i64 0, .int .i64 0, .int .i64 0, .int .i64 0, .int .i64 0, .int .i64 0, .int .i64 0, .int .i64 0, .int .i64 0, .int .i64 0, .bool false, .int .i64 0, .bool false] 27 (0, 0)) by exact rowS) hb)
       have B0 := Lib.hid (below_then (show Below w.heap.size w _ by exact belS) hb)
       clear hb fz hlt c_t c_a o0 o1
       have fz := CorAt.free K0.out
       have hlt := (Array.getElem?_eq_some_iff.1 K2.out).1
       have c_t := CorAt.c_t K0.out
       have c_a := CorAt.c_a K0.out
       have o0 := cell_of_blk (i := 0) (v := .string oa) K1.out rfl
       have o1 := cell_of_blk (i := 1) (v := .string ob) K1.out rfl
       refine Lib.hid ?_
       go_upto_region 15 with fail
       go_wp2_with (first
        | (refine load_rsome (by rfl) _ (by rfl) _ (by rfl) (by exact someS) ?_; intro r2)
        | (go_at_call 72; refine (s_apply _ _ _ _).mono ?_; rintro e w1 ⟨r3, x9, rfl, hb⟩; refine Hid.out ?_))
       have K0 := Lib.hid (CorAt.below K0.out hb)
       have K1 := Lib.hid (blk_below (b := w.heap.size + 1) (show _ = some (Obj.cells #[.string oa, .string ob] 55 (0, 0)) by exact rowS) hb)
       have K2 := Lib.hid (blk_below (b := w.heap.size + 1 + 1) (show _ = some (Obj.cells #[.int .i64 0, .int .i64 0, .int .i64 0, .int .i64 0, .int .i64 0, .int .i64 0, .int .i64 0, .int .i64 0, .int .i64 0, .int .i64 0, .int .i64 0, .int .i64 0, .bool false, .int .i64 0, .bool false] 27 (0, 0)) by exact rowS) hb)
       have B0 := Lib.hid (below_then (show Below w.heap.size w _ by exact belS) hb)
       clear hb fz hlt c_t c_a o0 o1
       have fz := CorAt.free K0.out
       have hlt := (Array.getElem?_eq_some_iff.1 K2.out).1
       have o0 := cell_of_blk (i := 0) (v := .string oa) K1.out rfl
       have o1 := cell_of_blk (i := 1) (v := .string ob) K1.out rfl
       refine Lib.hid ?_
       go_wp2_with (first
        | (refine store_row (by rfl) 25 _ _ (by rfl) _ _ (by rfl) (by rfl) 6 (by kernel_rfl) (by exact rowS; done) rfl rfl (by rfl) ?_)
        | (refine load_cell_if (by rfl) 9 _ (by rfl) _ _ (by rfl) _ Tryz.underlying9 rfl (by exact rowS; done) _ rfl ?_)
        | (refine sti_ra (by rfl) (by rfl) _ _ (by rfl) _ (by rfl) _ (by rfl) (by exact rowG; done) ?_; intro r5)
        | (refine load_row (by rfl) 25 _ (by rfl) _ (by rfl) 6 _ Tryz.underlying25 rfl (by kernel_rfl) (by exact rowG; done) rfl ?_)
        | (refine store_rsome (by rfl) (by rfl) _ _ (by rfl) _ (by rfl) _ (by rfl) (by exact someS) ?_; intro k3)
        | (refine load_some (by rfl) _ (by rfl) _ (by rfl) (by exact someS) ?_; intro k2 hk2)
        | (refine store_row (by rfl) 27 _ _ (by rfl) _ _ (by rfl) (by rfl) 15 (by kernel_rfl) (by exact rowS; done) rfl rfl (by rfl) ?_))
       exact row_tmp_post rfl rfl rfl Tryz.underlying27 rfl (by kernel_rfl) rfl (setRow_heap _ _ _ _ _ _ (by exact rowS)) rfl (cor_done (below_row (by exact belS) (by omega)))
end Go.Proofs.YthklebkpoccblaaGreat
