/-
  Texts put together by program: FdX.
  Conditions: as each theorem says.
-/
import Derived.Test.YthklebkpoccblaaGreatRqax
namespace Go.Proofs.YthklebkpoccblaaGreat
open Go.RowKit
set_option maxRecDepth 100000 in
set_option maxHeartbeats 20000000 in
theorem s_broke5 (k : CorI) (v : Int) (wn we wi : Bool) (h5 : k.t = 5) (w : World) : Calls Tryz.prog 35 #[.agg (corC k), .int .i64 v, .agg #[.bool wn, .bool we, .bool wi]] w (CorWires w) := by
 go_enter Tryz.func35, Tryz.ntmps35
 go_upto_region 1 with fail
 have K0 : ((((w.alloc (.cells (corC k) 27)).alloc (.cells #[.bool wn, .bool we, .bool wi] 29)).alloc (.cells #[.int .i64 0, .int .i64 0, .int .i64 0, .int .i64 0, .int .i64 0, .int .i64 0, .int .i64 0, .int .i64 0, .int .i64 0, .int .i64 0, .int .i64 0, .int .i64 0, .bool false, .int .i64 0, .bool false] 27)).alloc (.cells #[.bool false, .bool false, .bool false] 29)).heap[w.heap.size]? = some (.cells (corC k) 27 (0, 0)) := by
  have h := blk_old (o := .cells #[.bool false, .bool false, .bool false] 29) (blk_old (o := .cells #[.int .i64 0, .int .i64 0, .int .i64 0, .int .i64 0, .int .i64 0, .int .i64 0, .int .i64 0, .int .i64 0, .int .i64 0, .int .i64 0, .int .i64 0, .int .i64 0, .bool false, .int .i64 0, .bool false] 27) (blk_old (o := .cells #[.bool wn, .bool we, .bool wi] 29) (blk_new w (.cells (corC k) 27))))
  try simp only [alloc_size] at h
  exact h
 have K1 : ((((w.alloc (.cells (corC k) 27)).alloc (.cells #[.bool wn, .bool we, .bool wi] 29)).alloc (.cells #[.int .i64 0, .int .i64 0, .int .i64 0, .int .i64 0, .int .i64 0, .int .i64 0, .int .i64 0, .int .i64 0, .int .i64 0, .int .i64 0, .int .i64 0, .int .i64 0, .bool false, .int .i64 0, .bool false] 27)).alloc (.cells #[.bool false, .bool false, .bool false] 29)).heap[w.heap.size + 1]? = some (.cells #[.bool wn, .bool we, .bool wi] 29 (0, 0)) := by
  have h := blk_old (o := .cells #[.bool false, .bool false, .bool false] 29) (blk_old (o := .cells #[.int .i64 0, .int .i64 0, .int .i64 0, .int .i64 0, .int .i64 0, .int .i64 0, .int .i64 0, .int .i64 0, .int .i64 0, .int .i64 0, .int .i64 0, .int .i64 0, .bool false, .int .i64 0, .bool false] 27) (blk_new (w.alloc (.cells (corC k) 27)) (.cells #[.bool wn, .bool we, .bool wi] 29)))
  try simp only [alloc_size] at h
  exact h
 have K2 : ((((w.alloc (.cells (corC k) 27)).alloc (.cells #[.bool wn, .bool we, .bool wi] 29)).alloc (.cells #[.int .i64 0, .int .i64 0, .int .i64 0, .int .i64 0, .int .i64 0, .int .i64 0, .int .i64 0, .int .i64 0, .int .i64 0, .int .i64 0, .int .i64 0, .int .i64 0, .bool false, .int .i64 0, .bool false] 27)).alloc (.cells #[.bool false, .bool false, .bool false] 29)).heap[w.heap.size + 1 + 1]? = some (.cells #[.int .i64 0, .int .i64 0, .int .i64 0, .int .i64 0, .int .i64 0, .int .i64 0, .int .i64 0, .int .i64 0, .int .i64 0, .int .i64 0, .int .i64 0, .int .i64 0, .bool false, .int .i64 0, .bool false] 27 (0, 0)) := by
  have h := blk_old (o := .cells #[.bool false, .bool false, .bool false] 29) (blk_new ((w.alloc (.cells (corC k) 27)).alloc (.cells #[.bool wn, .bool we, .bool wi] 29)) (.cells #[.int .i64 0, .int .i64 0, .int .i64 0, .int .i64 0, .int .i64 0, .int .i64 0, .int .i64 0, .int .i64 0, .int .i64 0, .int .i64 0, .int .i64 0, .int .i64 0, .bool false, .int .i64 0, .bool false] 27))
  try simp only [alloc_size] at h
  exact h
 have K3 : ((((w.alloc (.cells (corC k) 27)).alloc (.cells #[.bool wn, .bool we, .bool wi] 29)).alloc (.cells #[.int .i64 0, .int .i64 0, .int .i64 0, .int .i64 0, .int .i64 0, .int .i64 0, .int .i64 0, .int .i64 0, .int .i64 0, .int .i64 0, .int .i64 0, .int .i64 0, .bool false, .int .i64 0, .bool false] 27)).alloc (.cells #[.bool false, .bool false, .bool false] 29)).heap[w.heap.size + 1 + 1 + 1]? = some (.cells #[.bool false, .bool false, .bool false] 29 (0, 0)) := by
  have h := blk_new (((w.alloc (.cells (corC k) 27)).alloc (.cells #[.bool wn, .bool we, .bool wi] 29)).alloc (.cells #[.int .i64 0, .int .i64 0, .int .i64 0, .int .i64 0, .int .i64 0, .int .i64 0, .int .i64 0, .int .i64 0, .int .i64 0, .int .i64 0, .int .i64 0, .int .i64 0, .bool false, .int .i64 0, .bool false] 27)) (.cells #[.bool false, .bool false, .bool false] 29)
  try simp only [alloc_size] at h
  exact h
 have B0 := below_alloc (below_alloc (below_alloc (below_alloc (Below.refl w.heap.size w) (.cells (corC k) 27)) (.cells #[.bool wn, .bool we, .bool wi] 29)) (.cells #[.int .i64 0, .int .i64 0, .int .i64 0, .int .i64 0, .int .i64 0, .int .i64 0, .int .i64 0, .int .i64 0, .int .i64 0, .int .i64 0, .int .i64 0, .int .i64 0, .bool false, .int .i64 0, .bool false] 27)) (.cells #[.bool false, .bool false, .bool false] 29)
 generalize ((((w.alloc (.cells (corC k) 27)).alloc (.cells #[.bool wn, .bool we, .bool wi] 29)).alloc (.cells #[.int .i64 0, .int .i64 0, .int .i64 0, .int .i64 0, .int .i64 0, .int .i64 0, .int .i64 0, .int .i64 0, .int .i64 0, .int .i64 0, .int .i64 0, .int .i64 0, .bool false, .int .i64 0, .bool false] 27)).alloc (.cells #[.bool false, .bool false, .bool false] 29)) = w0 at K0 K1 K2 K3 B0 ⊢
 replace K0 : Hid (CorAt w.heap.size k w0) := Lib.hid K0
 replace K1 := Lib.hid K1
 replace K2 := Lib.hid K2
 replace K3 := Lib.hid K3
 replace B0 := Lib.hid B0
 have fz := CorAt.free K0.out
 have c_t := CorAt.c_t K0.out
 have c_sq := CorAt.c_sq K0.out
 have c_p := CorAt.c_p K0.out
 have c_lo := CorAt.c_lo K0.out
 have c_vl := CorAt.c_vl K0.out
 go_upto_region 10 with fail
 go_upto_region 11 with (first
  | (refine load_some (by rfl) _ (by rfl) _ (by rfl) (by exact someS) ?_; intro k2 hk2)
  | (refine load_row (by rfl) 29 _ (by rfl) _ (by rfl) 3 _ Tryz.underlying29 rfl (by kernel_rfl) (by exact rowS) rfl ?_)
  | (go_at_call 67; refine (s_leads _ _ _ _ _).mono ?_; rintro e w1 ⟨x9, rfl, hb⟩)
  | (refine sti_vl (by rfl) (by rfl) _ _ (by rfl) _ (by rfl) _ (by rfl) (by exact someS) ?_; intro k3))
 refine settle4 (B := w.heap.size) (wb := w) (b0 := w.heap.size) (b1 := w.heap.size + 1) (o1 := Obj.cells #[.bool wn, .bool we, .bool wi] 29 (0, 0)) (b2 := w.heap.size + 1 + 1) (o2 := Obj.cells #[.int .i64 0, .int .i64 0, .int .i64 0, .int .i64 0, .int .i64 0, .int .i64 0, .int .i64 0, .int .i64 0, .int .i64 0, .int .i64 0, .int .i64 0, .int .i64 0, .bool false, .int .i64 0, .bool false] 27 (0, 0)) (b3 := w.heap.size + 1 + 1 + 1) (o3 := Obj.cells #[.bool false, .bool false, .bool false] 29 (0, 0)) (by exact someS) (by exact rowG) (by exact rowG) (by exact rowG) (by exact belS) ?_
 clear K0 K1 K2 K3 fz c_t c_sq c_p c_lo c_vl B0 
 intro k w9 K0 K1 K2 K3 B0
 replace K0 := Lib.hid K0
 replace K1 := Lib.hid K1
 replace K2 := Lib.hid K2
 replace K3 := Lib.hid K3
 replace B0 := Lib.hid B0
 have fz := CorAt.free K0.out
 have hlt := (Array.getElem?_eq_some_iff.1 K3.out).1
 have c_vl := CorAt.c_vl K0.out
 by_cases hv : k.vl = 250
 ·go_upto_region 12 with fail
  go_upto_region 13 with (first
   | (refine load_row (by rfl) 29 _ (by rfl) _ (by rfl) 3 _ Tryz.underlying29 rfl (by kernel_rfl) (by exact rowS) rfl ?_)
   | (go_at_call 68; refine (spec_taken _ _ _ _).mono ?_; rintro e w1 ⟨rfl, hb⟩)
   | (refine store_row (by rfl) 29 _ _ (by rfl) _ _ (by rfl) (by rfl) 3 (by kernel_rfl) (by exact rowS; done) rfl rfl (by rfl) ?_))
  go_upto_region 14 with (first
   | (refine sti_lo (by rfl) (by rfl) _ _ (by rfl) _ (by rfl) _ (by rfl) (by exact someS) ?_; intro k3))
  go_upto_region 17 with (first
   | (refine ldi_p (by rfl) _ (by rfl) _ (by rfl) (by exact someS) ?_; intro vp)
   | (go_at_call 53; refine (spec_with _ _ _ _).mono ?_; rintro e w1 ⟨rfl, rfl⟩)
   | (refine sti_p (by rfl) (by rfl) _ _ (by rfl) _ (by rfl) _ (by rfl) (by exact someS) ?_; intro k3))
  go_upto_region 18 with (first
   | (refine ldi_t (by rfl) _ (by rfl) _ (by rfl) (by exact someS) ?_; intro vt)
   | (refine sti_t (by rfl) (by rfl) _ _ (by rfl) _ (by rfl) _ (by rfl) (by exact someS) ?_; intro k3))
  refine settle4 (B := w.heap.size) (wb := w) (b0 := w.heap.size) (b1 := w.heap.size + 1) (o1 := Obj.cells #[.bool wn, .bool false, .bool wi] 29 (0, 0)) (b2 := w.heap.size + 1 + 1) (o2 := Obj.cells #[.int .i64 0, .int .i64 0, .int .i64 0, .int .i64 0, .int .i64 0, .int .i64 0, .int .i64 0, .int .i64 0, .int .i64 0, .int .i64 0, .int .i64 0, .int .i64 0, .bool false, .int .i64 0, .bool false] 27 (0, 0)) (b3 := w.heap.size + 1 + 1 + 1) (o3 := Obj.cells #[.bool false, .bool false, .bool false] 29 (0, 0)) (by exact someS) (by exact rowG) (by exact rowG) (by exact rowG) (by exact belS) ?_
  clear K0 K1 K2 K3 fz hlt c_vl B0 
  intro k w9 K0 K1 K2 K3 B0
  replace K0 := Lib.hid K0
  replace K1 := Lib.hid K1
  replace K2 := Lib.hid K2
  replace K3 := Lib.hid K3
  replace B0 := Lib.hid B0
  have fz := CorAt.free K0.out
  have hlt := (Array.getElem?_eq_some_iff.1 K3.out).1
  refine wp_region_held_drew (S := fun w' => Hid (CorAt w.heap.size k w' ∧ w'.heap[w.heap.size + 1]? = some (Obj.cells #[.bool wn, .bool false, .bool wi] 29 (0, 0)))) (by kernel_rfl) (Lib.hid ⟨CorAt.drew K0.out, row_drew K1.out⟩) (fun hHeld => ?_)
  refine wpAnyH_take (i := 0) (oi := _) rfl (by kernel_rfl) (by kernel_rfl) (by kernel_rfl) (fun _ _ _ h => h) (yields_load_part (by rfl) 27 (.tmp 3) rfl w.heap.size 0 rfl (corC k) _ Tryz.underlying27 rfl (by kernel_rfl) rfl (fun u hS => (Hid.out hS).1)) hHeld ?_
  (try simp only [Act.put, List.getElem_toArray, List.getElem_cons_zero, List.setIfInBounds_toArray, List.set_cons_zero, List.set_cons_succ])
  refine wpAnyH_take (i := 1) (oi := _) rfl (by kernel_rfl) (by kernel_rfl) (by kernel_rfl) (fun _ _ _ h => h) (yields_load_part (by rfl) 29 (.tmp 5) rfl (w.heap.size + 1) 0 rfl #[.bool wn, .bool false, .bool wi] _ Tryz.underlying29 rfl (by kernel_rfl) rfl (fun u hS => (Hid.out hS).2)) hHeld ?_
  (try simp only [Act.put, List.getElem_toArray, List.getElem_cons_zero, List.getElem_cons_succ, List.setIfInBounds_toArray, List.set_cons_zero, List.set_cons_succ])
  refine wpAnyH_ready (rs := [2]) (by kernel_rfl) (by simp) ?_
  refine AllReadyH.cons (o := _) rfl (fun K' hK' => ?_) AllReadyH.nil
  rw [if_pos (by rfl)]
  refine wp_store_row 27 (.tmp 6) (.tmp 56) rfl (w.heap.size + 1 + 1) (corC k) rfl rfl _ _ (show _ = some (Obj.cells #[.int .i64 0, .int .i64 0, .int .i64 0, .int .i64 0, .int .i64 0, .int .i64 0, .int .i64 0, .int .i64 0, .int .i64 0, .int .i64 0, .int .i64 0, .int .i64 0, .bool false, .int .i64 0, .bool false] 27 (0, 0)) by exact rowS) (by kernel_rfl) rfl (by rw [← Array.all_toList]; rfl) ?_
  refine hK'.out _ _ (Lib.hid ⟨row_row (Hid.out hHeld).1 (by omega), row_row (Hid.out hHeld).2 (by omega)⟩) (fun hHeld => ?_)
  clear hK' K'
  refine wpAnyH_ready (rs := [3]) (by kernel_rfl) (by simp) ?_
  refine AllReadyH.cons (o := _) rfl (fun K' hK' => ?_) AllReadyH.nil
  rw [if_pos (by rfl)]
  refine wp_store_row 29 (.tmp 7) (.tmp 57) rfl (w.heap.size + 1 + 1 + 1) #[.bool wn, .bool false, .bool wi] rfl rfl _ _ (show _ = some (Obj.cells #[.bool false, .bool false, .bool false] 29 (0, 0)) by exact rowS) (by kernel_rfl) rfl (by rw [← Array.all_toList]; rfl) ?_
  refine hK'.out _ _ (Lib.hid ⟨row_row (Hid.out hHeld).1 (by omega), row_row (Hid.out hHeld).2 (by omega)⟩) (fun hHeld => ?_)
  clear hK' K'
  refine wpAnyH_take (i := 4) (oi := _) (v := ?_) rfl (by kernel_rfl) (by kernel_rfl) (by kernel_rfl) (fun _ _ _ h => h) (Or.inl ⟨by rfl, ?_⟩) hHeld ?_
  rotate_left 1
  ·intro wz hz
   (try dsimp only at hz)
   go_simp
   (try with_reducible rfl)
  (try simp only [Act.put, List.getElem_toArray, List.getElem_cons_zero, List.getElem_cons_succ, List.setIfInBounds_toArray, List.set_cons_zero, List.set_cons_succ])
  refine wpAnyH_done (by kernel_rfl) ?_ _
  go_wp2
  exact row_two_tmp_post rfl rfl rfl rfl Tryz.underlying27 rfl (by kernel_rfl) Tryz.underlying29 rfl (by kernel_rfl) rfl (row_row (setRow_heap _ _ _ (corC k) _ _ (show _ = some (Obj.cells #[.int .i64 0, .int .i64 0, .int .i64 0, .int .i64 0, .int .i64 0, .int .i64 0, .int .i64 0, .int .i64 0, .int .i64 0, .int .i64 0, .int .i64 0, .int .i64 0, .bool false, .int .i64 0, .bool false] 27 (0, 0)) by exact rowS)) (by omega)) rfl (setRow_heap _ _ _ #[.bool wn, .bool false, .bool wi] _ _ (show _ = some (Obj.cells #[.bool false, .bool false, .bool false] 29 (0, 0)) by exact rowS)) rfl (cor_wires (below_row (below_row (by exact belS) (by omega)) (by omega)))
 ·go_upto_region 13 with fail
  go_upto_region 14 with (first
   | (refine sti_lo (by rfl) (by rfl) _ _ (by rfl) _ (by rfl) _ (by rfl) (by exact someS) ?_; intro k3))
  go_upto_region 17 with (first
   | (refine ldi_p (by rfl) _ (by rfl) _ (by rfl) (by exact someS) ?_; intro vp)
   | (go_at_call 53; refine (spec_with _ _ _ _).mono ?_; rintro e w1 ⟨rfl, rfl⟩)
   | (refine sti_p (by rfl) (by rfl) _ _ (by rfl) _ (by rfl) _ (by rfl) (by exact someS) ?_; intro k3))
  go_upto_region 18 with (first
   | (refine ldi_t (by rfl) _ (by rfl) _ (by rfl) (by exact someS) ?_; intro vt)
   | (refine sti_t (by rfl) (by rfl) _ _ (by rfl) _ (by rfl) _ (by rfl) (by exact someS) ?_; intro k3))
  refine settle4 (B := w.heap.size) (wb := w) (b0 := w.heap.size) (b1 := w.heap.size + 1) (o1 := Obj.cells #[.bool wn, .bool we, .bool wi] 29 (0, 0)) (b2 := w.heap.size + 1 + 1) (o2 := Obj.cells #[.int .i64 0, .int .i64 0, .int .i64 0, .int .i64 0, .int .i64 0, .int .i64 0, .int .i64 0, .int .i64 0, .int .i64 0, .int .i64 0, .int .i64 0, .int .i64 0, .bool false, .int .i64 0, .bool false] 27 (0, 0)) (b3 := w.heap.size + 1 + 1 + 1) (o3 := Obj.cells #[.bool false, .bool false, .bool false] 29 (0, 0)) (by exact someS) (by exact rowG) (by exact rowG) (by exact rowG) (by exact belS) ?_
  clear K0 K1 K2 K3 fz hlt c_vl B0 
  intro k w9 K0 K1 K2 K3 B0
  replace K0 := Lib.hid K0
  replace K1 := Lib.hid K1
  replace K2 := Lib.hid K2
  replace K3 := Lib.hid K3
  replace B0 := Lib.hid B0
  have fz := CorAt.free K0.out
  have hlt := (Array.getElem?_eq_some_iff.1 K3.out).1
  refine wp_region_held_drew (S := fun w' => Hid (CorAt w.heap.size k w' ∧ w'.heap[w.heap.size + 1]? = some (Obj.cells #[.bool wn, .bool we, .bool wi] 29 (0, 0)))) (by kernel_rfl) (Lib.hid ⟨CorAt.drew K0.out, row_drew K1.out⟩) (fun hHeld => ?_)
  refine wpAnyH_take (i := 0) (oi := _) rfl (by kernel_rfl) (by kernel_rfl) (by kernel_rfl) (fun _ _ _ h => h) (yields_load_part (by rfl) 27 (.tmp 3) rfl w.heap.size 0 rfl (corC k) _ Tryz.underlying27 rfl (by kernel_rfl) rfl (fun u hS => (Hid.out hS).1)) hHeld ?_
  (try simp only [Act.put, List.getElem_toArray, List.getElem_cons_zero, List.setIfInBounds_toArray, List.set_cons_zero, List.set_cons_succ])
  refine wpAnyH_take (i := 1) (oi := _) rfl (by kernel_rfl) (by kernel_rfl) (by kernel_rfl) (fun _ _ _ h => h) (yields_load_part (by rfl) 29 (.tmp 5) rfl (w.heap.size + 1) 0 rfl #[.bool wn, .bool we, .bool wi] _ Tryz.underlying29 rfl (by kernel_rfl) rfl (fun u hS => (Hid.out hS).2)) hHeld ?_
  (try simp only [Act.put, List.getElem_toArray, List.getElem_cons_zero, List.getElem_cons_succ, List.setIfInBounds_toArray, List.set_cons_zero, List.set_cons_succ])
  refine wpAnyH_ready (rs := [2]) (by kernel_rfl) (by simp) ?_
  refine AllReadyH.cons (o := _) rfl (fun K' hK' => ?_) AllReadyH.nil
  rw [if_pos (by rfl)]
  refine wp_store_row 27 (.tmp 6) (.tmp 56) rfl (w.heap.size + 1 + 1) (corC k) rfl rfl _ _ (show _ = some (Obj.cells #[.int .i64 0, .int .i64 0, .int .i64 0, .int .i64 0, .int .i64 0, .int .i64 0, .int .i64 0, .int .i64 0, .int .i64 0, .int .i64 0, .int .i64 0, .int .i64 0, .bool false, .int .i64 0, .bool false] 27 (0, 0)) by exact rowS) (by kernel_rfl) rfl (by rw [← Array.all_toList]; rfl) ?_
  refine hK'.out _ _ (Lib.hid ⟨row_row (Hid.out hHeld).1 (by omega), row_row (Hid.out hHeld).2 (by omega)⟩) (fun hHeld => ?_)
  clear hK' K'
  refine wpAnyH_ready (rs := [3]) (by kernel_rfl) (by simp) ?_
  refine AllReadyH.cons (o := _) rfl (fun K' hK' => ?_) AllReadyH.nil
  rw [if_pos (by rfl)]
  refine wp_store_row 29 (.tmp 7) (.tmp 57) rfl (w.heap.size + 1 + 1 + 1) #[.bool wn, .bool we, .bool wi] rfl rfl _ _ (show _ = some (Obj.cells #[.bool false, .bool false, .bool false] 29 (0, 0)) by exact rowS) (by kernel_rfl) rfl (by rw [← Array.all_toList]; rfl) ?_
  refine hK'.out _ _ (Lib.hid ⟨row_row (Hid.out hHeld).1 (by omega), row_row (Hid.out hHeld).2 (by omega)⟩) (fun hHeld => ?_)
  clear hK' K'
  refine wpAnyH_take (i := 4) (oi := _) (v := ?_) rfl (by kernel_rfl) (by kernel_rfl) (by kernel_rfl) (fun _ _ _ h => h) (Or.inl ⟨by rfl, ?_⟩) hHeld ?_
  rotate_left 1
  ·intro wz hz
   (try dsimp only at hz)
   go_simp
   (try with_reducible rfl)
  (try simp only [Act.put, List.getElem_toArray, List.getElem_cons_zero, List.getElem_cons_succ, List.setIfInBounds_toArray, List.set_cons_zero, List.set_cons_succ])
  refine wpAnyH_done (by kernel_rfl) ?_ _
  go_wp2
  exact row_two_tmp_post rfl rfl rfl rfl Tryz.underlying27 rfl (by kernel_rfl) Tryz.underlying29 rfl (by kernel_rfl) rfl (row_row (setRow_heap _ _ _ (corC k) _ _ (show _ = some (Obj.cells #[.int .i64 0, .int .i64 0, .int .i64 0, .int .i64 0, .int .i64 0, .int .i64 0, .int .i64 0, .int .i64 0, .int .i64 0, .int .i64 0, .int .i64 0, .int .i64 0, .bool false, .int .i64 0, .bool false] 27 (0, 0)) by exact rowS)) (by omega)) rfl (setRow_heap _ _ _ #[.bool wn, .bool we, .bool wi] _ _ (show _ = some (Obj.cells #[.bool false, .bool false, .bool false] 29 (0, 0)) by exact rowS)) rfl (cor_wires (below_row (below_row (by exact belS) (by omega)) (by omega)))
set_option maxRecDepth 100000 in
set_option maxHeartbeats 20000000 in
theorem s_broke (k : CorI) (v : Int) (wn we wi : Bool) (w : World) : Calls Tryz.prog 35 #[.agg (corC k), .int .i64 v, .agg #[.bool wn, .bool we, .bool wi]] w (CorWires w) := by
 by_cases h5 : k.t = 5
 ·exact s_broke5 k v wn we wi h5 w
 by_cases h6 : k.t = 6
 ·exact s_broke6 k v wn we wi h6 w
 exact s_broke0 k v wn we wi h5 h6 w
end Go.Proofs.YthklebkpoccblaaGreat
