/-
  Texts put together by program: FdD.
  Conditions: as each theorem says.
-/
import Derived.Test.YthklebkpoccblaaGreatRqau
namespace Go.Proofs.YthklebkpoccblaaGreat
open Go.RowKit
set_option maxRecDepth 100000 in
set_option maxHeartbeats 20000000 in
theorem s_own2 (k : CorI) (oa ob : ByteArray) (hT : k.t = 2) (w : World) : Calls Tryz.prog 48 #[.agg (corC k), .agg #[.string oa, .string ob]] w (BusPost w) := by
 unfold BusPost
 go_enter Tryz.func48, Tryz.ntmps48
 go_upto_region 1 with fail
 have K0 : (((w.alloc (.cells (corC k) 27)).alloc (.cells #[.string oa, .string ob] 55)).alloc (.cells #[.int .i64 0, .int .i64 0, .bool false] 38)).heap[w.heap.size]? = some (.cells (corC k) 27 (0, 0)) := by
  have h := blk_old (o := .cells #[.int .i64 0, .int .i64 0, .bool false] 38) (blk_old (o := .cells #[.string oa, .string ob] 55) (blk_new w (.cells (corC k) 27)))
  try simp only [alloc_size] at h
  exact h
 have K1 : (((w.alloc (.cells (corC k) 27)).alloc (.cells #[.string oa, .string ob] 55)).alloc (.cells #[.int .i64 0, .int .i64 0, .bool false] 38)).heap[w.heap.size + 1]? = some (.cells #[.string oa, .string ob] 55 (0, 0)) := by
  have h := blk_old (o := .cells #[.int .i64 0, .int .i64 0, .bool false] 38) (blk_new (w.alloc (.cells (corC k) 27)) (.cells #[.string oa, .string ob] 55))
  try simp only [alloc_size] at h
  exact h
 have K2 : (((w.alloc (.cells (corC k) 27)).alloc (.cells #[.string oa, .string ob] 55)).alloc (.cells #[.int .i64 0, .int .i64 0, .bool false] 38)).heap[w.heap.size + 1 + 1]? = some (.cells #[.int .i64 0, .int .i64 0, .bool false] 38 (0, 0)) := by
  have h := blk_new ((w.alloc (.cells (corC k) 27)).alloc (.cells #[.string oa, .string ob] 55)) (.cells #[.int .i64 0, .int .i64 0, .bool false] 38)
  try simp only [alloc_size] at h
  exact h
 have B0 := below_alloc (below_alloc (below_alloc (Below.refl w.heap.size w) (.cells (corC k) 27)) (.cells #[.string oa, .string ob] 55)) (.cells #[.int .i64 0, .int .i64 0, .bool false] 38)
 generalize (((w.alloc (.cells (corC k) 27)).alloc (.cells #[.string oa, .string ob] 55)).alloc (.cells #[.int .i64 0, .int .i64 0, .bool false] 38)) = w0 at K0 K1 K2 B0 ⊢
 replace K0 : Hid (CorAt w.heap.size k w0) := Lib.hid K0
 replace K1 := Lib.hid K1
 replace K2 := Lib.hid K2
 replace B0 := Lib.hid B0
 have fz := CorAt.free K0.out
 have c_t := CorAt.c_t K0.out
 have c_a := CorAt.c_a K0.out
 have c_pc := CorAt.c_pc K0.out
 have c_lo := CorAt.c_lo K0.out
 have c_hi := CorAt.c_hi K0.out
 have o0 := cell_of_blk (i := 0) (v := .string oa) K1.out rfl
 have o1 := cell_of_blk (i := 1) (v := .string ob) K1.out rfl
 by_cases PHA : oa = ⟨#[80, 72, 65]⟩
 ·have ePHA0 : (oa.toList == [80, 72, 65]) = true := by rw [PHA, ByteArray.toList_eq]; decide
  have ePHA1 : (oa.toList == [80, 72, 80]) = false := by rw [PHA, ByteArray.toList_eq]; decide
  have ePHA2 : (oa.toList == [82, 84, 83]) = false := by rw [PHA, ByteArray.toList_eq]; decide
  have ePHA3 : (oa.toList == [74, 83, 82]) = false := by rw [PHA, ByteArray.toList_eq]; decide
  clear PHA
  go_upto_region 2 with fail
  go_wp2_with (first
   | (refine load_some (by rfl) _ (by rfl) _ (by rfl) (by exact someS) ?_; intro k2 hk2)
   | (refine store_row (by rfl) 38 _ _ (by rfl) _ _ (by rfl) (by rfl) 3 (by kernel_rfl) (by exact rowS; done) rfl rfl (by rfl) ?_)
   | (go_at_call 79; refine (s_push _ _ _).mono ?_; rintro e w1 ⟨x9, y9, z9, rfl, hb⟩))
  exact bodyPost_ret (results_cell_row rfl _ _ (w.heap.size + 1 + 1) _ _ _ _ rfl (setRow_heap _ _ _ _ _ _ (by exact rowS)) Tryz.underlying38 rfl (by kernel_rfl)) rfl ⟨_, _, _, rfl, below_row (by exact belS) (by omega)⟩
 ·have nPHA := ne_list [80, 72, 65] PHA
  clear PHA
  by_cases PHP : oa = ⟨#[80, 72, 80]⟩
  ·have ePHP0 : (oa.toList == [80, 72, 65]) = false := by rw [PHP, ByteArray.toList_eq]; decide
   have ePHP1 : (oa.toList == [80, 72, 80]) = true := by rw [PHP, ByteArray.toList_eq]; decide
   have ePHP2 : (oa.toList == [82, 84, 83]) = false := by rw [PHP, ByteArray.toList_eq]; decide
   have ePHP3 : (oa.toList == [74, 83, 82]) = false := by rw [PHP, ByteArray.toList_eq]; decide
   clear PHP
   go_upto_region 4 with fail
   refine wp_region_held_drew (S := fun w' => Hid (CorAt w.heap.size k w')) (by kernel_rfl) (Lib.hid (CorAt.drew K0.out)) (fun hHeld => ?_)
   refine wpAnyH_take (i := 0) (oi := _) rfl (by kernel_rfl) (by kernel_rfl) (by kernel_rfl) (fun _ _ _ h => h) (yields_load_part (by rfl) 27 (.tmp 2) rfl w.heap.size 0 rfl (corC k) _ Tryz.underlying27 rfl (by kernel_rfl) rfl (fun u hS => Hid.out hS)) hHeld ?_
   (try simp only [Act.put, List.getElem_toArray, List.getElem_cons_zero, List.setIfInBounds_toArray, List.set_cons_zero, List.set_cons_succ])
   refine wpAnyH_take (i := 1) (oi := _) (v := ?_) rfl (by kernel_rfl) (by kernel_rfl) (by kernel_rfl) (fun _ _ _ h => h) (Or.inl ⟨by rfl, ?_⟩) hHeld ?_
   rotate_left 1
   ·intro wz hz
    (try dsimp only at hz)
    go_simp
    (try with_reducible rfl)
   (try simp only [Act.put, List.getElem_toArray, List.getElem_cons_zero, List.getElem_cons_succ, List.setIfInBounds_toArray, List.set_cons_zero, List.set_cons_succ])
   refine wpAnyH_take (i := 2) (oi := _) (v := ?_) rfl (by kernel_rfl) (by kernel_rfl) (by kernel_rfl) (fun _ _ _ h => h) (Or.inl ⟨by rfl, ?_⟩) hHeld ?_
   rotate_left 1
   ·intro wz hz
    (try dsimp only at hz)
    go_simp
    (try with_reducible rfl)
   (try simp only [Act.put, List.getElem_toArray, List.getElem_cons_zero, List.getElem_cons_succ, List.setIfInBounds_toArray, List.set_cons_zero, List.set_cons_succ])
   refine wpAnyH_take (i := 3) (oi := _) (v := ?_) rfl (by kernel_rfl) (by kernel_rfl) (by kernel_rfl) (fun _ _ _ h => h) (Or.inl ⟨by rfl, ?_⟩) hHeld ?_
   rotate_left 1
   ·intro wz hz
    (try dsimp only at hz)
    have cc := CorAt.c_p (Hid.out hz)
    go_simp
    (try with_reducible rfl)
   (try simp only [Act.put, List.getElem_toArray, List.getElem_cons_zero, List.getElem_cons_succ, List.setIfInBounds_toArray, List.set_cons_zero, List.set_cons_succ])
   refine wpAnyH_ready (rs := [4]) (by kernel_rfl) (by simp) ?_
   refine AllReadyH.cons (o := _) rfl (fun K' hK' => ?_) AllReadyH.nil
   go_simp
   (go_at_call 80; refine (spec_pushed _ _ _).mono ?_; rintro e w1 ⟨rfl, rfl⟩)
   refine hK'.out _ _ (hHeld) (fun hHeld => ?_)
   clear hK' K'
   (try simp only [Act.put, List.getElem_toArray, List.getElem_cons_zero, List.getElem_cons_succ, List.setIfInBounds_toArray, List.set_cons_zero, List.set_cons_succ])
   refine wpAnyH_ready (rs := [5]) (by kernel_rfl) (by simp) ?_
   refine AllReadyH.cons (o := _) rfl (fun K' hK' => ?_) AllReadyH.nil
   go_simp
   (go_at_call 79; refine (s_push _ _ _).mono ?_; rintro e w1 ⟨x9, y9, z9, rfl, hb⟩)
   refine hK'.out _ _ (Lib.hid (CorAt.below (Hid.out hHeld) hb)) (fun hHeld => ?_)
   clear hK' K'
   (try simp only [Act.put, List.getElem_toArray, List.getElem_cons_zero, List.getElem_cons_succ, List.setIfInBounds_toArray, List.set_cons_zero, List.set_cons_succ])
   refine wpAnyH_ready (rs := [6]) (by kernel_rfl) (by simp) ?_
   refine AllReadyH.cons (o := _) rfl (fun K' hK' => ?_) AllReadyH.nil
   rw [if_pos (by rfl)]
   refine wp_store_row 38 (.tmp 4) (.tmp 33) rfl (w.heap.size + 1 + 1) #[.int .i64 x9, .int .i64 y9, .bool z9] rfl rfl _ _ (show _ = some (Obj.cells #[.int .i64 0, .int .i64 0, .bool false] 38 (0, 0)) by exact rowS) (by kernel_rfl) rfl (by rw [← Array.all_toList]; rfl) ?_
   refine hK'.out _ _ (Lib.hid (row_row (Hid.out hHeld) (by omega))) (fun hHeld => ?_)
   clear hK' K'
   refine wpAnyH_done (by kernel_rfl) ?_ _
   go_wp2
   exact bodyPost_ret (results_cell_row rfl _ _ (w.heap.size + 1 + 1) _ _ _ _ rfl (setRow_heap _ _ _ _ _ _ (by exact rowS)) Tryz.underlying38 rfl (by kernel_rfl)) rfl ⟨_, _, _, rfl, below_row (by exact belS) (by omega)⟩
  ·have nPHP := ne_list [80, 72, 80] PHP
   clear PHP
   by_cases RTS : oa = ⟨#[82, 84, 83]⟩
   ·have eRTS0 : (oa.toList == [80, 72, 65]) = false := by rw [RTS, ByteArray.toList_eq]; decide
    have eRTS1 : (oa.toList == [80, 72, 80]) = false := by rw [RTS, ByteArray.toList_eq]; decide
    have eRTS2 : (oa.toList == [82, 84, 83]) = true := by rw [RTS, ByteArray.toList_eq]; decide
    have eRTS3 : (oa.toList == [74, 83, 82]) = false := by rw [RTS, ByteArray.toList_eq]; decide
    clear RTS
    by_cases hp : inB oa [[80, 76, 65], [80, 76, 80], [82, 84, 73]] = true
    ·go_upto_region 5 with fail
     go_wp2_with (first
      | (go_at_call 71; refine (is_ppr _ _).mono ?_; rintro e w1 ⟨rfl, hb⟩; refine Hid.out ?_))
     have K0 := Lib.hid (CorAt.below K0.out hb)
     have K1 := Lib.hid (blk_below (b := w.heap.size + 1) (show _ = some (Obj.cells #[.string oa, .string ob] 55 (0, 0)) by exact rowS) hb)
     have K2 := Lib.hid (blk_below (b := w.heap.size + 1 + 1) (show _ = some (Obj.cells #[.int .i64 0, .int .i64 0, .bool false] 38 (0, 0)) by exact rowS) hb)
     have B0 := Lib.hid (below_then (show Below w.heap.size w _ by exact belS) hb)
     clear hb fz c_t c_a c_pc c_lo c_hi o0 o1
     have fz := CorAt.free K0.out
     have hlt := (Array.getElem?_eq_some_iff.1 K2.out).1
     have c_t := CorAt.c_t K0.out
     have c_pc := CorAt.c_pc K0.out
     have c_lo := CorAt.c_lo K0.out
     have c_hi := CorAt.c_hi K0.out
     have o0 := cell_of_blk (i := 0) (v := .string oa) K1.out rfl
     have o1 := cell_of_blk (i := 1) (v := .string ob) K1.out rfl
     refine Lib.hid ?_
     go_upto_region 6 with fail
     go_wp2_with (first
      | (refine load_some (by rfl) _ (by rfl) _ (by rfl) (by exact someS) ?_; intro k2 hk2)
      | (refine store_row (by rfl) 38 _ _ (by rfl) _ _ (by rfl) (by rfl) 3 (by kernel_rfl) (by exact rowS; done) rfl rfl (by rfl) ?_)
      | (go_at_call 81; refine (s_l10Stack _ _).mono ?_; rintro e w1 ⟨x9, y9, z9, rfl, hb⟩))
     exact bodyPost_ret (results_cell_row rfl _ _ (w.heap.size + 1 + 1) _ _ _ _ rfl (setRow_heap _ _ _ _ _ _ (by exact rowS)) Tryz.underlying38 rfl (by kernel_rfl)) rfl ⟨_, _, _, rfl, below_row (by exact belS) (by omega)⟩
    ·replace hp := Bool.eq_false_iff.2 hp
     go_upto_region 5 with fail
     go_wp2_with (first
      | (go_at_call 71; refine (is_ppr _ _).mono ?_; rintro e w1 ⟨rfl, hb⟩; refine Hid.out ?_))
     have K0 := Lib.hid (CorAt.below K0.out hb)
     have K1 := Lib.hid (blk_below (b := w.heap.size + 1) (show _ = some (Obj.cells #[.string oa, .string ob] 55 (0, 0)) by exact rowS) hb)
     have K2 := Lib.hid (blk_below (b := w.heap.size + 1 + 1) (show _ = some (Obj.cells #[.int .i64 0, .int .i64 0, .bool false] 38 (0, 0)) by exact rowS) hb)
     have B0 := Lib.hid (below_then (show Below w.heap.size w _ by exact belS) hb)
     clear hb fz c_t c_a c_pc c_lo c_hi o0 o1
     have fz := CorAt.free K0.out
     have hlt := (Array.getElem?_eq_some_iff.1 K2.out).1
     have c_t := CorAt.c_t K0.out
     have c_pc := CorAt.c_pc K0.out
     have c_lo := CorAt.c_lo K0.out
     have c_hi := CorAt.c_hi K0.out
     have o0 := cell_of_blk (i := 0) (v := .string oa) K1.out rfl
     have o1 := cell_of_blk (i := 1) (v := .string ob) K1.out rfl
     refine Lib.hid ?_
     go_wp2_with (go_at_call 44; refine (hx_in_yes _ 2 4 _ (by omega) (by omega)).mono ?_; rintro e w1 ⟨rfl, rfl⟩; refine Hid.out ?_)
     refine Lib.hid ?_
     go_upto_region 6 with fail
     go_wp2_with (first
      | (refine load_some (by rfl) _ (by rfl) _ (by rfl) (by exact someS) ?_; intro k2 hk2)
      | (refine store_row (by rfl) 38 _ _ (by rfl) _ _ (by rfl) (by rfl) 3 (by kernel_rfl) (by exact rowS; done) rfl rfl (by rfl) ?_)
      | (go_at_call 81; refine (s_l10Stack _ _).mono ?_; rintro e w1 ⟨x9, y9, z9, rfl, hb⟩))
     exact bodyPost_ret (results_cell_row rfl _ _ (w.heap.size + 1 + 1) _ _ _ _ rfl (setRow_heap _ _ _ _ _ _ (by exact rowS)) Tryz.underlying38 rfl (by kernel_rfl)) rfl ⟨_, _, _, rfl, below_row (by exact belS) (by omega)⟩
   ·have nRTS := ne_list [82, 84, 83] RTS
    clear RTS
    by_cases JSR : oa = ⟨#[74, 83, 82]⟩
    ·have eJSR0 : (oa.toList == [80, 72, 65]) = false := by rw [JSR, ByteArray.toList_eq]; decide
     have eJSR1 : (oa.toList == [80, 72, 80]) = false := by rw [JSR, ByteArray.toList_eq]; decide
     have eJSR2 : (oa.toList == [82, 84, 83]) = false := by rw [JSR, ByteArray.toList_eq]; decide
     have eJSR3 : (oa.toList == [74, 83, 82]) = true := by rw [JSR, ByteArray.toList_eq]; decide
     clear JSR
     by_cases hp : inB oa [[80, 76, 65], [80, 76, 80], [82, 84, 73]] = true
     ·go_upto_region 5 with fail
      go_wp2_with (first
       | (go_at_call 71; refine (is_ppr _ _).mono ?_; rintro e w1 ⟨rfl, hb⟩; refine Hid.out ?_))
      have K0 := Lib.hid (CorAt.below K0.out hb)
      have K1 := Lib.hid (blk_below (b := w.heap.size + 1) (show _ = some (Obj.cells #[.string oa, .string ob] 55 (0, 0)) by exact rowS) hb)
      have K2 := Lib.hid (blk_below (b := w.heap.size + 1 + 1) (show _ = some (Obj.cells #[.int .i64 0, .int .i64 0, .bool false] 38 (0, 0)) by exact rowS) hb)
      have B0 := Lib.hid (below_then (show Below w.heap.size w _ by exact belS) hb)
      clear hb fz c_t c_a c_pc c_lo c_hi o0 o1
      have fz := CorAt.free K0.out
      have hlt := (Array.getElem?_eq_some_iff.1 K2.out).1
      have c_t := CorAt.c_t K0.out
      have c_pc := CorAt.c_pc K0.out
      have c_lo := CorAt.c_lo K0.out
      have c_hi := CorAt.c_hi K0.out
      have o0 := cell_of_blk (i := 0) (v := .string oa) K1.out rfl
      have o1 := cell_of_blk (i := 1) (v := .string ob) K1.out rfl
      refine Lib.hid ?_
      go_upto_region 6 with fail
      go_wp2_with (first
       | (refine load_some (by rfl) _ (by rfl) _ (by rfl) (by exact someS) ?_; intro k2 hk2)
       | (refine store_row (by rfl) 38 _ _ (by rfl) _ _ (by rfl) (by rfl) 3 (by kernel_rfl) (by exact rowS; done) rfl rfl (by rfl) ?_)
       | (go_at_call 81; refine (s_l10Stack _ _).mono ?_; rintro e w1 ⟨x9, y9, z9, rfl, hb⟩))
      exact bodyPost_ret (results_cell_row rfl _ _ (w.heap.size + 1 + 1) _ _ _ _ rfl (setRow_heap _ _ _ _ _ _ (by exact rowS)) Tryz.underlying38 rfl (by kernel_rfl)) rfl ⟨_, _, _, rfl, below_row (by exact belS) (by omega)⟩
     ·replace hp := Bool.eq_false_iff.2 hp
      go_upto_region 5 with fail
      go_wp2_with (first
       | (go_at_call 71; refine (is_ppr _ _).mono ?_; rintro e w1 ⟨rfl, hb⟩; refine Hid.out ?_))
      have K0 := Lib.hid (CorAt.below K0.out hb)
      have K1 := Lib.hid (blk_below (b := w.heap.size + 1) (show _ = some (Obj.cells #[.string oa, .string ob] 55 (0, 0)) by exact rowS) hb)
      have K2 := Lib.hid (blk_below (b := w.heap.size + 1 + 1) (show _ = some (Obj.cells #[.int .i64 0, .int .i64 0, .bool false] 38 (0, 0)) by exact rowS) hb)
      have B0 := Lib.hid (below_then (show Below w.heap.size w _ by exact belS) hb)
      clear hb fz c_t c_a c_pc c_lo c_hi o0 o1
      have fz := CorAt.free K0.out
      have hlt := (Array.getElem?_eq_some_iff.1 K2.out).1
      have c_t := CorAt.c_t K0.out
      have c_pc := CorAt.c_pc K0.out
      have c_lo := CorAt.c_lo K0.out
      have c_hi := CorAt.c_hi K0.out
      have o0 := cell_of_blk (i := 0) (v := .string oa) K1.out rfl
      have o1 := cell_of_blk (i := 1) (v := .string ob) K1.out rfl
      refine Lib.hid ?_
      go_upto_region 6 with fail
      go_wp2_with (first
       | (refine load_some (by rfl) _ (by rfl) _ (by rfl) (by exact someS) ?_; intro k2 hk2)
       | (refine store_row (by rfl) 38 _ _ (by rfl) _ _ (by rfl) (by rfl) 3 (by kernel_rfl) (by exact rowS; done) rfl rfl (by rfl) ?_)
       | (go_at_call 81; refine (s_l10Stack _ _).mono ?_; rintro e w1 ⟨x9, y9, z9, rfl, hb⟩))
      exact bodyPost_ret (results_cell_row rfl _ _ (w.heap.size + 1 + 1) _ _ _ _ rfl (setRow_heap _ _ _ _ _ _ (by exact rowS)) Tryz.underlying38 rfl (by kernel_rfl)) rfl ⟨_, _, _, rfl, below_row (by exact belS) (by omega)⟩
    ·have nJSR := ne_list [74, 83, 82] JSR
     clear JSR
     by_cases hp : inB oa [[80, 76, 65], [80, 76, 80], [82, 84, 73]] = true
     ·go_upto_region 5 with fail
      go_wp2_with (first
       | (go_at_call 71; refine (is_ppr _ _).mono ?_; rintro e w1 ⟨rfl, hb⟩; refine Hid.out ?_))
      have K0 := Lib.hid (CorAt.below K0.out hb)
      have K1 := Lib.hid (blk_below (b := w.heap.size + 1) (show _ = some (Obj.cells #[.string oa, .string ob] 55 (0, 0)) by exact rowS) hb)
      have K2 := Lib.hid (blk_below (b := w.heap.size + 1 + 1) (show _ = some (Obj.cells #[.int .i64 0, .int .i64 0, .bool false] 38 (0, 0)) by exact rowS) hb)
      have B0 := Lib.hid (below_then (show Below w.heap.size w _ by exact belS) hb)
      clear hb fz c_t c_a c_pc c_lo c_hi o0 o1
      have fz := CorAt.free K0.out
      have hlt := (Array.getElem?_eq_some_iff.1 K2.out).1
      have c_t := CorAt.c_t K0.out
      have c_pc := CorAt.c_pc K0.out
      have c_lo := CorAt.c_lo K0.out
      have c_hi := CorAt.c_hi K0.out
      have o0 := cell_of_blk (i := 0) (v := .string oa) K1.out rfl
      have o1 := cell_of_blk (i := 1) (v := .string ob) K1.out rfl
      refine Lib.hid ?_
      go_upto_region 6 with fail
      go_wp2_with (first
       | (refine load_some (by rfl) _ (by rfl) _ (by rfl) (by exact someS) ?_; intro k2 hk2)
       | (refine store_row (by rfl) 38 _ _ (by rfl) _ _ (by rfl) (by rfl) 3 (by kernel_rfl) (by exact rowS; done) rfl rfl (by rfl) ?_)
       | (go_at_call 81; refine (s_l10Stack _ _).mono ?_; rintro e w1 ⟨x9, y9, z9, rfl, hb⟩))
      exact bodyPost_ret (results_cell_row rfl _ _ (w.heap.size + 1 + 1) _ _ _ _ rfl (setRow_heap _ _ _ _ _ _ (by exact rowS)) Tryz.underlying38 rfl (by kernel_rfl)) rfl ⟨_, _, _, rfl, below_row (by exact belS) (by omega)⟩
     ·replace hp := Bool.eq_false_iff.2 hp
      by_cases hd : ob = ⟨#[105, 110, 100]⟩
      ·have ehd0 : (ob.toList == [105, 110, 100]) = true := by rw [hd, ByteArray.toList_eq]; decide
       clear hd
       go_upto_region 5 with fail
       go_wp2_with (first
        | (go_at_call 71; refine (is_ppr _ _).mono ?_; rintro e w1 ⟨rfl, hb⟩; refine Hid.out ?_))
       have K0 := Lib.hid (CorAt.below K0.out hb)
       have K1 := Lib.hid (blk_below (b := w.heap.size + 1) (show _ = some (Obj.cells #[.string oa, .string ob] 55 (0, 0)) by exact rowS) hb)
       have K2 := Lib.hid (blk_below (b := w.heap.size + 1 + 1) (show _ = some (Obj.cells #[.int .i64 0, .int .i64 0, .bool false] 38 (0, 0)) by exact rowS) hb)
       have B0 := Lib.hid (below_then (show Below w.heap.size w _ by exact belS) hb)
       clear hb fz c_t c_a c_pc c_lo c_hi o0 o1
       have fz := CorAt.free K0.out
       have hlt := (Array.getElem?_eq_some_iff.1 K2.out).1
       have c_t := CorAt.c_t K0.out
       have c_pc := CorAt.c_pc K0.out
       have c_lo := CorAt.c_lo K0.out
       have c_hi := CorAt.c_hi K0.out
       have o0 := cell_of_blk (i := 0) (v := .string oa) K1.out rfl
       have o1 := cell_of_blk (i := 1) (v := .string ob) K1.out rfl
       refine Lib.hid ?_
       go_upto_region 15 with fail
       go_wp2_with (first
        | (refine load_some (by rfl) _ (by rfl) _ (by rfl) (by exact someS) ?_; intro k2 hk2)
        | (refine store_row (by rfl) 38 _ _ (by rfl) _ _ (by rfl) (by rfl) 3 (by kernel_rfl) (by exact rowS; done) rfl rfl (by rfl) ?_)
        | (go_at_call 46; refine (s_l10Here _ _).mono ?_; rintro e w1 ⟨x9, y9, z9, rfl, hb⟩))
       exact bodyPost_ret (results_cell_row rfl _ _ (w.heap.size + 1 + 1) _ _ _ _ rfl (setRow_heap _ _ _ _ _ _ (by exact rowS)) Tryz.underlying38 rfl (by kernel_rfl)) rfl ⟨_, _, _, rfl, below_row (by exact belS) (by omega)⟩
      ·have nhd := ne_list [105, 110, 100] hd
       clear hd
       go_upto_region 5 with fail
       go_wp2_with (first
        | (go_at_call 71; refine (is_ppr _ _).mono ?_; rintro e w1 ⟨rfl, hb⟩; refine Hid.out ?_))
       have K0 := Lib.hid (CorAt.below K0.out hb)
       have K1 := Lib.hid (blk_below (b := w.heap.size + 1) (show _ = some (Obj.cells #[.string oa, .string ob] 55 (0, 0)) by exact rowS) hb)
       have K2 := Lib.hid (blk_below (b := w.heap.size + 1 + 1) (show _ = some (Obj.cells #[.int .i64 0, .int .i64 0, .bool false] 38 (0, 0)) by exact rowS) hb)
       have B0 := Lib.hid (below_then (show Below w.heap.size w _ by exact belS) hb)
       clear hb fz c_t c_a c_pc c_lo c_hi o0 o1
       have fz := CorAt.free K0.out
       have hlt := (Array.getElem?_eq_some_iff.1 K2.out).1
       have c_t := CorAt.c_t K0.out
       have c_pc := CorAt.c_pc K0.out
       have c_lo := CorAt.c_lo K0.out
       have c_hi := CorAt.c_hi K0.out
       have o0 := cell_of_blk (i := 0) (v := .string oa) K1.out rfl
       have o1 := cell_of_blk (i := 1) (v := .string ob) K1.out rfl
       refine Lib.hid ?_
       go_upto_region 15 with fail
       go_wp2_with (first
        | (refine load_some (by rfl) _ (by rfl) _ (by rfl) (by exact someS) ?_; intro k2 hk2)
        | (refine store_row (by rfl) 38 _ _ (by rfl) _ _ (by rfl) (by rfl) 3 (by kernel_rfl) (by exact rowS; done) rfl rfl (by rfl) ?_)
        | (go_at_call 46; refine (s_l10Here _ _).mono ?_; rintro e w1 ⟨x9, y9, z9, rfl, hb⟩))
       exact bodyPost_ret (results_cell_row rfl _ _ (w.heap.size + 1 + 1) _ _ _ _ rfl (setRow_heap _ _ _ _ _ _ (by exact rowS)) Tryz.underlying38 rfl (by kernel_rfl)) rfl ⟨_, _, _, rfl, below_row (by exact belS) (by omega)⟩
end Go.Proofs.YthklebkpoccblaaGreat
