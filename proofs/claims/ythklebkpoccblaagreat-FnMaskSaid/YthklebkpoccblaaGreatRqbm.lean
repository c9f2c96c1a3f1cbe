/-
  Texts put together by program: FeA.
  Conditions: as each theorem says.
-/
import Derived.Test.YthklebkpoccblaaGreatRqbl
namespace Go.Proofs.YthklebkpoccblaaGreat
open Go.RowKit
set_option maxRecDepth 100000 in
set_option maxHeartbeats 20000000 in
theorem s_fed (k : CorI) (v : Int) (wn we wi : Bool) (w : World) : Calls Tryz.prog 11 #[.agg (corC k), .int .i64 v, .agg #[.bool wn, .bool we, .bool wi]] w (CorPair w) := by
 go_enter Tryz.func11, Tryz.ntmps11
 go_upto_region 1 with fail
 have K0 : ((((w.alloc (.cells (corC k) 27)).alloc (.cells #[.bool wn, .bool we, .bool wi] 29)).alloc (.cells #[.int .i64 0, .int .i64 0, .int .i64 0, .int .i64 0, .int .i64 0, .int .i64 0, .int .i64 0, .int .i64 0, .int .i64 0, .int .i64 0, .int .i64 0, .int .i64 0, .bool false, .int .i64 0, .bool false] 27)).alloc (.cells #[.bool false, .bool false, .bool false] 29)).heap[w.heap.size]? = some (.cells (corC k) 27 (0, 0)) := by
  have h := blk_old (o := .cells #[.bool false, .bool false, .bool false] 29) (blk_old (o := .cells #[.int .i64 0, .int .i64 0, .int .i64 0, .int .i64 0, .int .i64 0, .int .i64 0, .int .i64 0, .int .i64 0, .int .i64 0, .int .i64 0, .int .i64 0, .int .i64 0, .bool false, .int .i64 0, .bool false] 27) (blk_old (o := .cells #[.bool wn, .bool we, .bool wi] 29) (blk_new w (.cells (corC k) 27))))
  try simp only [alloc_size] at h
  exact h
 have K1 : ((((w.alloc (.cells (corC k) 27)).alloc (.cells #[.bool wn, .bool we, .bool wi] 29)).alloc (.cells #[.int .i64 0, .int .i64 0, .int .i64 0, .int .i64 0, .int .i64 0, .int .i64 0, .int .i64 0, .int .i64 0, .int .i64 0, .int .i64 0, .int .i64 0, .int .i64 0, .bool false, .int .i64 0, .bool false] 27)).alloc (.cells #[.bool false, .bool false, .bool false] 29)).heap[w.heap.size + 1]? = some (.cells #[.bool wn, .bool we, .bool wi] 29 (0, 0)) := by
  have h := blk_old (o := .cells #[.bool false, .bool false, .bool false] 29) (blk_old (o := .cells #[.int .i64 0, .int .i64 0, .int .i64 0, .int .i64 0, .int .i64 0, .int .i64 0, .int .i64 0, .int .i64 0, .int .i64 0, .int .i64 0, .int .i64 0, .int .i64 0, .bool false, .int .i64 0, .bool false] 27) (blk_new (w.alloc (.cells (corC k) 27)) (.cells #[.bool wn, .bool we, .bool wi] 29)))
  try simp only [alloc_size] at h
  exact h
 have K2 : ((((w.alloc (.cells (corC k) 27)).alloc (.cells #[.bool wn, .bool we, .bool wi] 29)).alloc (.cells #[.int .i64 0, .int .i64 0, .int .i64 0, .int .i64 0, .int .i64 0, .int .i64 0, .int .i64 0, .int .i64 0, .int .i64 0, .int .i64 0, .int .i64 0, .int .i64 0, .bool false, .int .i64 0, .bool false] 27)).alloc (.cells #[.bool false, .bool false, .bool false] 29)).heap[w.heap.size + 1 + 1]? = some (.cells #[.int .i64 0, .int .i64 0, .int .i64 0, .int .i64 0, .int .i64 0, .int .i64 0, .int .i64 0, .int .i64 0, .int .i64 0, .int .i64 0, .int .i64 0, .int .i64 0, .bool false, .int .i64 0, .bool false] 27 (0, 0)) := by
  have h := blk_old (o := .cells #[.bool false, .bool false, .bool false] 29) (blk_new ((w.alloc (.cells (corC k) 27)).alloc (.cells #[.bool wn, .bool we, .bool wi] 29)) (.cells #[.int .i64 0, .int .i64 0, .int .i64 0, .int .i64 0, .int .i64 0, .int .i64 0, .int .i64 0, .int .i64 0, .int .i64 0, .int .i64 0, .int .i64 0, .int .i64 0, .bool false, .int .i64 0, .bool false] 27))
  try simp only [alloc_size] at h
  exact h
 have K3 : ((((w.alloc (.cells (corC k) 27)).alloc (.cells #[.bool wn, .bool we, .bool wi] 29)).alloc (.cells #[.int .i64 0, .int .i64 0, .int .i64 0, .int .i64 0, .int .i64 0, .int .i64 0, .int .i64 0, .int .i64 0, .int .i64 0, .int .i64 0, .int .i64 0, .int .i64 0, .bool false, .int .i64 0, .bool false] 27)).alloc (.cells #[.bool false, .bool false, .bool false] 29)).heap[w.heap.size + 1 + 1 + 1]? = some (.cells #[.bool false, .bool false, .bool false] 29 (0, 0)) := by
  have h := blk_new (((w.alloc (.cells (corC k) 27)).alloc (.cells #[.bool wn, .bool we, .bool wi] 29)).alloc (.cells #[.int .i64 0, .int .i64 0, .int .i64 0, .int .i64 0, .int .i64 0, .int .i64 0, .int .i64 0, .int .i64 0, .int .i64 0, .int .i64 0, .int .i64 0, .int .i64 0, .bool false, .int .i64 0, .bool false] 27)) (.cells #[.bool false, .bool false, .bool false] 29)
  try simp only [alloc_size] at h
  exact h
 have B0 := below_alloc (below_alloc (below_alloc (below_alloc (Below.refl w.heap.size w) (.cells (corC k) 27)) (.cells #[.bool wn, .bool we, .bool wi] 29)) (.cells #[.int .i64 0, .int .i64 0, .int .i64 0, .int .i64 0, .int .i64 0, .int .i64 0, .int .i64 0, .int .i64 0, .int .i64 0, .int .i64 0, .int .i64 0, .int .i64 0, .bool false, .int .i64 0, .bool false] 27)) (.cells #[.bool false, .bool false, .bool false] 29)
 generalize ((((w.alloc (.cells (corC k) 27)).alloc (.cells #[.bool wn, .bool we, .bool wi] 29)).alloc (.cells #[.int .i64 0, .int .i64 0, .int .i64 0, .int .i64 0, .int .i64 0, .int .i64 0, .int .i64 0, .int .i64 0, .int .i64 0, .int .i64 0, .int .i64 0, .int .i64 0, .bool false, .int .i64 0, .bool false] 27)).alloc (.cells #[.bool false, .bool false, .bool false] 29)) = w0 at K0 K1 K2 K3 B0 ⊢
 replace K0 : Hid (CorAt w.heap.size k w0) := Lib.hid K0
 replace K1 := Lib.hid K1
 replace K2 := Lib.hid K2
 replace K3 := Lib.hid K3
 replace B0 := Lib.hid B0
 have fz := CorAt.free K0.out
 have c_jm := CorAt.c_jm K0.out
 have c_t := CorAt.c_t K0.out
 have c_cd := CorAt.c_cd K0.out
 have HOK := fun w => s_ok k w
 generalize okCo k.a k.x k.y k.s k.p k.pc k.sq k.cd k.t k.lo k.hi k.vl k.nx = ok at HOK
 replace HOK := Lib.hid HOK
 go_wp2_with (first
  | (refine load_core (by rfl) _ (by rfl) _ (by rfl) K0.out ?_)
  | (go_at_call 13; refine (HOK.out _).mono ?_; rintro e w1 ⟨rfl, hb⟩; refine Hid.out ?_))
 have K0 := Lib.hid (CorAt.below K0.out hb)
 have K1 := Lib.hid (blk_below (b := w.heap.size + 1) (show _ = some (Obj.cells #[.bool wn, .bool we, .bool wi] 29 (0, 0)) by exact rowS) hb)
 have K2 := Lib.hid (blk_below (b := w.heap.size + 1 + 1) (show _ = some (Obj.cells #[.int .i64 0, .int .i64 0, .int .i64 0, .int .i64 0, .int .i64 0, .int .i64 0, .int .i64 0, .int .i64 0, .int .i64 0, .int .i64 0, .int .i64 0, .int .i64 0, .bool false, .int .i64 0, .bool false] 27 (0, 0)) by exact rowS) hb)
 have K3 := Lib.hid (blk_below (b := w.heap.size + 1 + 1 + 1) (show _ = some (Obj.cells #[.bool false, .bool false, .bool false] 29 (0, 0)) by exact rowS) hb)
 have B0 := Lib.hid (below_then (show Below w.heap.size w _ by exact belS) hb)
 clear hb fz c_jm c_t c_cd
 have fz := CorAt.free K0.out
 have hlt := (Array.getElem?_eq_some_iff.1 K3.out).1
 have c_jm := CorAt.c_jm K0.out
 have c_t := CorAt.c_t K0.out
 have c_cd := CorAt.c_cd K0.out
 refine Lib.hid ?_
 by_cases ho : ok = true
 ·by_cases hj : k.jm = true
  ·go_upto_region 3 with fail
   refine wp_region_held_drew (S := fun w' => Hid (CorAt w.heap.size k w' ∧ w'.heap[w.heap.size + 1]? = some (Obj.cells #[.bool wn, .bool we, .bool wi] 29 (0, 0)))) (by kernel_rfl) (Lib.hid ⟨CorAt.drew K0.out, row_drew K1.out⟩) (fun hHeld => ?_)
   refine wpAnyH_take (i := 0) (oi := _) rfl (by kernel_rfl) (by kernel_rfl) (by kernel_rfl) (fun _ _ _ h => h) (yields_load_part (by rfl) 27 (.tmp 3) rfl w.heap.size 0 rfl (corC k) _ Tryz.underlying27 rfl (by kernel_rfl) rfl (fun u hS => (Hid.out hS).1)) hHeld ?_
   (try simp only [Act.put, List.getElem_toArray, List.getElem_cons_zero, List.setIfInBounds_toArray, List.set_cons_zero, List.set_cons_succ])
   refine wpAnyH_take (i := 1) (oi := _) rfl (by kernel_rfl) (by kernel_rfl) (by kernel_rfl) (fun _ _ _ h => h) (yields_load_part (by rfl) 29 (.tmp 5) rfl (w.heap.size + 1) 0 rfl #[.bool wn, .bool we, .bool wi] _ Tryz.underlying29 rfl (by kernel_rfl) rfl (fun u hS => (Hid.out hS).2)) hHeld ?_
   (try simp only [Act.put, List.getElem_toArray, List.getElem_cons_zero, List.getElem_cons_succ, List.setIfInBounds_toArray, List.set_cons_zero, List.set_cons_succ])
   refine wpAnyH_ready (rs := [2]) (by kernel_rfl) (by simp) ?_
   refine AllReadyH.cons (o := _) rfl (fun K' hK' => ?_) AllReadyH.nil
   rw [if_pos (by rfl)]
   refine wp_store_row 27 (.tmp 6) (.tmp 21) rfl (w.heap.size + 1 + 1) (corC k) rfl rfl _ _ (show _ = some (Obj.cells #[.int .i64 0, .int .i64 0, .int .i64 0, .int .i64 0, .int .i64 0, .int .i64 0, .int .i64 0, .int .i64 0, .int .i64 0, .int .i64 0, .int .i64 0, .int .i64 0, .bool false, .int .i64 0, .bool false] 27 (0, 0)) by exact rowS) (by kernel_rfl) rfl (by rw [← Array.all_toList]; rfl) ?_
   refine hK'.out _ _ (Lib.hid ⟨row_row (Hid.out hHeld).1 (by omega), row_row (Hid.out hHeld).2 (by omega)⟩) (fun hHeld => ?_)
   clear hK' K'
   refine wpAnyH_ready (rs := [3]) (by kernel_rfl) (by simp) ?_
   refine AllReadyH.cons (o := _) rfl (fun K' hK' => ?_) AllReadyH.nil
   rw [if_pos (by rfl)]
   refine wp_store_row 29 (.tmp 7) (.tmp 22) rfl (w.heap.size + 1 + 1 + 1) #[.bool wn, .bool we, .bool wi] rfl rfl _ _ (show _ = some (Obj.cells #[.bool false, .bool false, .bool false] 29 (0, 0)) by exact rowS) (by kernel_rfl) rfl (by rw [← Array.all_toList]; rfl) ?_
   refine hK'.out _ _ (Lib.hid ⟨row_row (Hid.out hHeld).1 (by omega), row_row (Hid.out hHeld).2 (by omega)⟩) (fun hHeld => ?_)
   clear hK' K'
   refine wpAnyH_done (by kernel_rfl) ?_ _
   go_wp2
   exact rows_two_post rfl rfl rfl Tryz.underlying27 rfl (by kernel_rfl) Tryz.underlying29 rfl (by kernel_rfl) rfl (row_row (setRow_heap _ _ _ (corC k) _ _ (show _ = some (Obj.cells #[.int .i64 0, .int .i64 0, .int .i64 0, .int .i64 0, .int .i64 0, .int .i64 0, .int .i64 0, .int .i64 0, .int .i64 0, .int .i64 0, .int .i64 0, .int .i64 0, .bool false, .int .i64 0, .bool false] 27 (0, 0)) by exact rowS)) (by omega)) rfl (setRow_heap _ _ _ #[.bool wn, .bool we, .bool wi] _ _ (show _ = some (Obj.cells #[.bool false, .bool false, .bool false] 29 (0, 0)) by exact rowS)) rfl (cor_pair (below_row (below_row (by exact belS) (by omega)) (by omega)))
  ·replace hj := Bool.eq_false_iff.2 hj
   by_cases h0 : k.t = 0
   ·go_upto_region 5 with fail
    refine wp_region_held_drew (S := fun w' => Hid (CorAt w.heap.size k w' ∧ w'.heap[w.heap.size + 1]? = some (Obj.cells #[.bool wn, .bool we, .bool wi] 29 (0, 0)))) (by kernel_rfl) (Lib.hid ⟨CorAt.drew K0.out, row_drew K1.out⟩) (fun hHeld => ?_)
    refine wpAnyH_take (i := 0) (oi := _) rfl (by kernel_rfl) (by kernel_rfl) (by kernel_rfl) (fun _ _ _ h => h) (yields_load_part (by rfl) 27 (.tmp 3) rfl w.heap.size 0 rfl (corC k) _ Tryz.underlying27 rfl (by kernel_rfl) rfl (fun u hS => (Hid.out hS).1)) hHeld ?_
    (try simp only [Act.put, List.getElem_toArray, List.getElem_cons_zero, List.setIfInBounds_toArray, List.set_cons_zero, List.set_cons_succ])
    refine wpAnyH_take (i := 1) (oi := _) (v := ?_) rfl (by kernel_rfl) (by kernel_rfl) (by kernel_rfl) (fun _ _ _ h => h) (Or.inl ⟨by rfl, ?_⟩) hHeld ?_
    rotate_left 1
    ·intro wz hz
     (try dsimp only at hz)
     go_simp
     (try with_reducible rfl)
    (try simp only [Act.put, List.getElem_toArray, List.getElem_cons_zero, List.getElem_cons_succ, List.setIfInBounds_toArray, List.set_cons_zero, List.set_cons_succ])
    refine wpAnyH_take (i := 3) (oi := _) rfl (by kernel_rfl) (by kernel_rfl) (by kernel_rfl) (fun _ _ _ h => h) (yields_load_part (by rfl) 29 (.tmp 5) rfl (w.heap.size + 1) 0 rfl #[.bool wn, .bool we, .bool wi] _ Tryz.underlying29 rfl (by kernel_rfl) rfl (fun u hS => (Hid.out hS).2)) hHeld ?_
    (try simp only [Act.put, List.getElem_toArray, List.getElem_cons_zero, List.getElem_cons_succ, List.setIfInBounds_toArray, List.set_cons_zero, List.set_cons_succ])
    refine wpAnyH_ready (rs := [2]) (by kernel_rfl) (by simp) ?_
    refine AllReadyH.cons (o := _) rfl (fun K' hK' => ?_) AllReadyH.nil
    go_simp
    (go_at_call 32; refine (s_fetch _ _ _).mono ?_; rintro e w1 ⟨k9, rfl, hb⟩)
    refine hK'.out _ _ (Lib.hid ⟨CorAt.below (Hid.out hHeld).1 hb, blk_below (Hid.out hHeld).2 hb⟩) (fun hHeld => ?_)
    clear hK' K'
    (try simp only [Act.put, List.getElem_toArray, List.getElem_cons_zero, List.getElem_cons_succ, List.setIfInBounds_toArray, List.set_cons_zero, List.set_cons_succ])
    refine wpAnyH_ready (rs := [4]) (by kernel_rfl) (by simp) ?_
    refine AllReadyH.cons (o := _) rfl (fun K' hK' => ?_) AllReadyH.nil
    rw [if_pos (by rfl)]
    refine wp_store_row 27 (.tmp 6) (.tmp 28) rfl (w.heap.size + 1 + 1) (corC k9) rfl rfl _ _ (show _ = some (Obj.cells #[.int .i64 0, .int .i64 0, .int .i64 0, .int .i64 0, .int .i64 0, .int .i64 0, .int .i64 0, .int .i64 0, .int .i64 0, .int .i64 0, .int .i64 0, .int .i64 0, .bool false, .int .i64 0, .bool false] 27 (0, 0)) by exact rowS) (by kernel_rfl) rfl (by rw [← Array.all_toList]; rfl) ?_
    refine hK'.out _ _ (Lib.hid ⟨row_row (Hid.out hHeld).1 (by omega), row_row (Hid.out hHeld).2 (by omega)⟩) (fun hHeld => ?_)
    clear hK' K'
    refine wpAnyH_ready (rs := [5]) (by kernel_rfl) (by simp) ?_
    refine AllReadyH.cons (o := _) rfl (fun K' hK' => ?_) AllReadyH.nil
    rw [if_pos (by rfl)]
    refine wp_store_row 29 (.tmp 7) (.tmp 29) rfl (w.heap.size + 1 + 1 + 1) #[.bool wn, .bool we, .bool wi] rfl rfl _ _ (show _ = some (Obj.cells #[.bool false, .bool false, .bool false] 29 (0, 0)) by exact rowS) (by kernel_rfl) rfl (by rw [← Array.all_toList]; rfl) ?_
    refine hK'.out _ _ (Lib.hid ⟨row_row (Hid.out hHeld).1 (by omega), row_row (Hid.out hHeld).2 (by omega)⟩) (fun hHeld => ?_)
    clear hK' K'
    refine wpAnyH_done (by kernel_rfl) ?_ _
    go_wp2
    exact rows_two_post rfl rfl rfl Tryz.underlying27 rfl (by kernel_rfl) Tryz.underlying29 rfl (by kernel_rfl) rfl (row_row (setRow_heap _ _ _ (corC k9) _ _ (show _ = some (Obj.cells #[.int .i64 0, .int .i64 0, .int .i64 0, .int .i64 0, .int .i64 0, .int .i64 0, .int .i64 0, .int .i64 0, .int .i64 0, .int .i64 0, .int .i64 0, .int .i64 0, .bool false, .int .i64 0, .bool false] 27 (0, 0)) by exact rowS)) (by omega)) rfl (setRow_heap _ _ _ #[.bool wn, .bool we, .bool wi] _ _ (show _ = some (Obj.cells #[.bool false, .bool false, .bool false] 29 (0, 0)) by exact rowS)) rfl (cor_pair (below_row (below_row (by exact belS) (by omega)) (by omega)))
   ·go_upto_region 6 with fail
    have c_p := CorAt.c_p K0.out
    have HTK := Lib.hid (fun w => show Calls Tryz.prog 33 #[.agg #[.bool wn, .bool we, .bool wi], .int .i64 k.p] w _ from spec_take wn we wi k.p w)
    go_wp2_with (first
     | (refine load_row (by rfl) 29 _ (by rfl) _ (by rfl) 3 _ Tryz.underlying29 rfl (by kernel_rfl) (by exact rowS) rfl ?_)
     | (go_at_call 33; refine (HTK.out _).mono ?_; rintro e w1 ⟨rfl, hb⟩; refine Hid.out ?_))
    have K0 := Lib.hid (CorAt.below K0.out hb)
    have K1 := Lib.hid (blk_below (b := w.heap.size + 1) (show _ = some (Obj.cells #[.bool wn, .bool we, .bool wi] 29 (0, 0)) by exact rowS) hb)
    have K2 := Lib.hid (blk_below (b := w.heap.size + 1 + 1) (show _ = some (Obj.cells #[.int .i64 0, .int .i64 0, .int .i64 0, .int .i64 0, .int .i64 0, .int .i64 0, .int .i64 0, .int .i64 0, .int .i64 0, .int .i64 0, .int .i64 0, .int .i64 0, .bool false, .int .i64 0, .bool false] 27 (0, 0)) by exact rowS) hb)
    have K3 := Lib.hid (blk_below (b := w.heap.size + 1 + 1 + 1) (show _ = some (Obj.cells #[.bool false, .bool false, .bool false] 29 (0, 0)) by exact rowS) hb)
    have B0 := Lib.hid (below_then (show Below w.heap.size w _ by exact belS) hb)
    clear hb fz hlt c_jm c_t c_cd c_p
    have fz := CorAt.free K0.out
    have hlt := (Array.getElem?_eq_some_iff.1 K3.out).1
    have c_cd := CorAt.c_cd K0.out
    have c_t := CorAt.c_t K0.out
    refine Lib.hid ?_
    generalize takeN we wi k.p = tk
    go_wp2_with (first
     | (go_at_call 34; refine (spec_opOf _ _).mono ?_; rintro e w1 ⟨rfl, hb⟩; refine Hid.out ?_))
    have K0 := Lib.hid (CorAt.below K0.out hb)
    have K1 := Lib.hid (blk_below (b := w.heap.size + 1) (show _ = some (Obj.cells #[.bool wn, .bool we, .bool wi] 29 (0, 0)) by exact rowS) hb)
    have K2 := Lib.hid (blk_below (b := w.heap.size + 1 + 1) (show _ = some (Obj.cells #[.int .i64 0, .int .i64 0, .int .i64 0, .int .i64 0, .int .i64 0, .int .i64 0, .int .i64 0, .int .i64 0, .int .i64 0, .int .i64 0, .int .i64 0, .int .i64 0, .bool false, .int .i64 0, .bool false] 27 (0, 0)) by exact rowS) hb)
    have K3 := Lib.hid (blk_below (b := w.heap.size + 1 + 1 + 1) (show _ = some (Obj.cells #[.bool false, .bool false, .bool false] 29 (0, 0)) by exact rowS) hb)
    have B0 := Lib.hid (below_then (show Below w.heap.size w _ by exact belS) hb)
    clear hb fz hlt c_cd c_t
    have fz := CorAt.free K0.out
    have hlt := (Array.getElem?_eq_some_iff.1 K3.out).1
    refine Lib.hid ?_
    generalize (opOf k.cd).1 = oa
    generalize (opOf k.cd).2 = ob
    go_upto_region 8 with (first | (refine store_row (by rfl) 55 _ _ (by rfl) _ _ (by rfl) (by rfl) 2 (by kernel_rfl) (by exact rowS; done) rfl rfl (by rfl) ?_))
    have K4 := Lib.hid (setRow_heap _ _ _ #[.string oa, .string ob] _ _ (blk_new w1 (.cells #[.string ⟨#[]⟩, .string ⟨#[]⟩] 55)))
    have K0 := Lib.hid (show CorAt w.heap.size k _ from row_row (cs := #[.string oa, .string ob]) (blk_old (o := .cells #[.string ⟨#[]⟩, .string ⟨#[]⟩] 55) K0.out) (show w.heap.size ≠ w1.heap.size by omega))
    have K1 := Lib.hid (row_row (cs := #[.string oa, .string ob]) (blk_old (o := .cells #[.string ⟨#[]⟩, .string ⟨#[]⟩] 55) K1.out) (show w.heap.size + 1 ≠ w1.heap.size by omega))
    have K2 := Lib.hid (row_row (cs := #[.string oa, .string ob]) (blk_old (o := .cells #[.string ⟨#[]⟩, .string ⟨#[]⟩] 55) K2.out) (show w.heap.size + 1 + 1 ≠ w1.heap.size by omega))
    have K3 := Lib.hid (row_row (cs := #[.string oa, .string ob]) (blk_old (o := .cells #[.string ⟨#[]⟩, .string ⟨#[]⟩] 55) K3.out) (show w.heap.size + 1 + 1 + 1 ≠ w1.heap.size by omega))
    have B0 := Lib.hid (below_row (cs := #[.string oa, .string ob]) (below_alloc B0.out (.cells #[.string ⟨#[]⟩, .string ⟨#[]⟩] 55)) (show w.heap.size ≤ w1.heap.size by omega))
    generalize World.setRow _ w1.heap.size #[.string oa, .string ob] = w2 at K0 K1 K2 K3 K4 B0 ⊢
    generalize w1.heap.size = V at K4 hlt ⊢
    clear fz
    have fz := CorAt.free K0.out
    have c_cd := CorAt.c_cd K0.out
    by_cases hc : k.cd = 0
    ·go_upto_region 11 with fail
     go_upto_region 14 with (first
      | (refine load_core (by rfl) _ (by rfl) _ (by rfl) K0.out ?_)
      | (refine load_row (by rfl) 29 _ (by rfl) _ (by rfl) 3 _ Tryz.underlying29 rfl (by kernel_rfl) (by exact rowS) rfl ?_)
      | (go_at_call 35; refine (s_broke _ _ _ _ _ _).mono ?_; rintro e w1 ⟨k9, n9, e9, i9, d9, rfl, hb⟩)
      | (refine store_some (by rfl) (by rfl) _ _ (by rfl) _ (by rfl) _ (by rfl) (by exact someS; done) ?_)
      | (refine store_row (by rfl) 29 _ _ (by rfl) _ _ (by rfl) (by rfl) 3 (by kernel_rfl) (by exact rowS; done) rfl rfl (by rfl) ?_))
     refine settle4 (B := w.heap.size) (wb := w) (b0 := w.heap.size) (b1 := w.heap.size + 1) (o1 := Obj.cells #[.bool n9, .bool e9, .bool i9] 29 (0, 0)) (b2 := w.heap.size + 1 + 1) (o2 := Obj.cells #[.int .i64 0, .int .i64 0, .int .i64 0, .int .i64 0, .int .i64 0, .int .i64 0, .int .i64 0, .int .i64 0, .int .i64 0, .int .i64 0, .int .i64 0, .int .i64 0, .bool false, .int .i64 0, .bool false] 27 (0, 0)) (b3 := w.heap.size + 1 + 1 + 1) (o3 := Obj.cells #[.bool false, .bool false, .bool false] 29 (0, 0)) (by exact someS) (by exact rowG) (by exact rowG) (by exact rowG) (by exact belS) ?_
     clear K0 K1 K2 K3 fz c_cd B0 
     intro k w9 K0 K1 K2 K3 B0
     replace K0 := Lib.hid K0
     replace K1 := Lib.hid K1
     replace K2 := Lib.hid K2
     replace K3 := Lib.hid K3
     replace B0 := Lib.hid B0
     have fz := CorAt.free K0.out
     have hlt := (Array.getElem?_eq_some_iff.1 K3.out).1
     cases d9
     ·go_upto_region 17 with fail
      refine wp_region_held_drew (S := fun w' => Hid (CorAt w.heap.size k w' ∧ w'.heap[w.heap.size + 1]? = some (Obj.cells #[.bool n9, .bool e9, .bool i9] 29 (0, 0)))) (by kernel_rfl) (Lib.hid ⟨CorAt.drew K0.out, row_drew K1.out⟩) (fun hHeld => ?_)
      refine wpAnyH_take (i := 0) (oi := _) rfl (by kernel_rfl) (by kernel_rfl) (by kernel_rfl) (fun _ _ _ h => h) (yields_load_part (by rfl) 27 (.tmp 3) rfl w.heap.size 0 rfl (corC k) _ Tryz.underlying27 rfl (by kernel_rfl) rfl (fun u hS => (Hid.out hS).1)) hHeld ?_
      (try simp only [Act.put, List.getElem_toArray, List.getElem_cons_zero, List.setIfInBounds_toArray, List.set_cons_zero, List.set_cons_succ])
      refine wpAnyH_take (i := 1) (oi := _) rfl (by kernel_rfl) (by kernel_rfl) (by kernel_rfl) (fun _ _ _ h => h) (yields_load_part (by rfl) 29 (.tmp 5) rfl (w.heap.size + 1) 0 rfl #[.bool n9, .bool e9, .bool i9] _ Tryz.underlying29 rfl (by kernel_rfl) rfl (fun u hS => (Hid.out hS).2)) hHeld ?_
      (try simp only [Act.put, List.getElem_toArray, List.getElem_cons_zero, List.getElem_cons_succ, List.setIfInBounds_toArray, List.set_cons_zero, List.set_cons_succ])
      refine wpAnyH_ready (rs := [2]) (by kernel_rfl) (by simp) ?_
      refine AllReadyH.cons (o := _) rfl (fun K' hK' => ?_) AllReadyH.nil
      rw [if_pos (by rfl)]
      refine wp_store_row 27 (.tmp 6) (.tmp 77) rfl (w.heap.size + 1 + 1) (corC k) rfl rfl _ _ (show _ = some (Obj.cells #[.int .i64 0, .int .i64 0, .int .i64 0, .int .i64 0, .int .i64 0, .int .i64 0, .int .i64 0, .int .i64 0, .int .i64 0, .int .i64 0, .int .i64 0, .int .i64 0, .bool false, .int .i64 0, .bool false] 27 (0, 0)) by exact rowS) (by kernel_rfl) rfl (by rw [← Array.all_toList]; rfl) ?_
      refine hK'.out _ _ (Lib.hid ⟨row_row (Hid.out hHeld).1 (by omega), row_row (Hid.out hHeld).2 (by omega)⟩) (fun hHeld => ?_)
      clear hK' K'
      refine wpAnyH_ready (rs := [3]) (by kernel_rfl) (by simp) ?_
      refine AllReadyH.cons (o := _) rfl (fun K' hK' => ?_) AllReadyH.nil
      rw [if_pos (by rfl)]
      refine wp_store_row 29 (.tmp 7) (.tmp 78) rfl (w.heap.size + 1 + 1 + 1) #[.bool n9, .bool e9, .bool i9] rfl rfl _ _ (show _ = some (Obj.cells #[.bool false, .bool false, .bool false] 29 (0, 0)) by exact rowS) (by kernel_rfl) rfl (by rw [← Array.all_toList]; rfl) ?_
      refine hK'.out _ _ (Lib.hid ⟨row_row (Hid.out hHeld).1 (by omega), row_row (Hid.out hHeld).2 (by omega)⟩) (fun hHeld => ?_)
      clear hK' K'
      refine wpAnyH_done (by kernel_rfl) ?_ _
      go_wp2
      exact rows_two_post rfl rfl rfl Tryz.underlying27 rfl (by kernel_rfl) Tryz.underlying29 rfl (by kernel_rfl) rfl (row_row (setRow_heap _ _ _ (corC k) _ _ (show _ = some (Obj.cells #[.int .i64 0, .int .i64 0, .int .i64 0, .int .i64 0, .int .i64 0, .int .i64 0, .int .i64 0, .int .i64 0, .int .i64 0, .int .i64 0, .int .i64 0, .int .i64 0, .bool false, .int .i64 0, .bool false] 27 (0, 0)) by exact rowS)) (by omega)) rfl (setRow_heap _ _ _ #[.bool n9, .bool e9, .bool i9] _ _ (show _ = some (Obj.cells #[.bool false, .bool false, .bool false] 29 (0, 0)) by exact rowS)) rfl (cor_pair (below_row (below_row (by exact belS) (by omega)) (by omega)))
     ·go_upto_region 17 with (first
       | (refine sti_t (by rfl) (by rfl) _ _ (by rfl) _ (by rfl) _ (by rfl) (by exact someS) ?_; intro k3)
       | (refine sti_nx (by rfl) (by rfl) _ _ (by rfl) _ (by rfl) _ (by rfl) (by exact someS) ?_; intro k3))
      refine settle4 (B := w.heap.size) (wb := w) (b0 := w.heap.size) (b1 := w.heap.size + 1) (o1 := Obj.cells #[.bool n9, .bool e9, .bool i9] 29 (0, 0)) (b2 := w.heap.size + 1 + 1) (o2 := Obj.cells #[.int .i64 0, .int .i64 0, .int .i64 0, .int .i64 0, .int .i64 0, .int .i64 0, .int .i64 0, .int .i64 0, .int .i64 0, .int .i64 0, .int .i64 0, .int .i64 0, .bool false, .int .i64 0, .bool false] 27 (0, 0)) (b3 := w.heap.size + 1 + 1 + 1) (o3 := Obj.cells #[.bool false, .bool false, .bool false] 29 (0, 0)) (by exact someS) (by exact rowG) (by exact rowG) (by exact rowG) (by exact belS) ?_
      clear K0 K1 K2 K3 fz hlt B0 
      intro k w9 K0 K1 K2 K3 B0
      replace K0 := Lib.hid K0
      replace K1 := Lib.hid K1
      replace K2 := Lib.hid K2
      replace K3 := Lib.hid K3
      replace B0 := Lib.hid B0
      have fz := CorAt.free K0.out
      have hlt := (Array.getElem?_eq_some_iff.1 K3.out).1
      refine wp_region_held_drew (S := fun w' => Hid (CorAt w.heap.size k w' ∧ w'.heap[w.heap.size + 1]? = some (Obj.cells #[.bool n9, .bool e9, .bool i9] 29 (0, 0)))) (by kernel_rfl) (Lib.hid ⟨CorAt.drew K0.out, row_drew K1.out⟩) (fun hHeld => ?_)
      refine wpAnyH_take (i := 0) (oi := _) rfl (by kernel_rfl) (by kernel_rfl) (by kernel_rfl) (fun _ _ _ h => h) (yields_load_part (by rfl) 27 (.tmp 3) rfl w.heap.size 0 rfl (corC k) _ Tryz.underlying27 rfl (by kernel_rfl) rfl (fun u hS => (Hid.out hS).1)) hHeld ?_
      (try simp only [Act.put, List.getElem_toArray, List.getElem_cons_zero, List.setIfInBounds_toArray, List.set_cons_zero, List.set_cons_succ])
      refine wpAnyH_take (i := 1) (oi := _) rfl (by kernel_rfl) (by kernel_rfl) (by kernel_rfl) (fun _ _ _ h => h) (yields_load_part (by rfl) 29 (.tmp 5) rfl (w.heap.size + 1) 0 rfl #[.bool n9, .bool e9, .bool i9] _ Tryz.underlying29 rfl (by kernel_rfl) rfl (fun u hS => (Hid.out hS).2)) hHeld ?_
      (try simp only [Act.put, List.getElem_toArray, List.getElem_cons_zero, List.getElem_cons_succ, List.setIfInBounds_toArray, List.set_cons_zero, List.set_cons_succ])
      refine wpAnyH_ready (rs := [2]) (by kernel_rfl) (by simp) ?_
      refine AllReadyH.cons (o := _) rfl (fun K' hK' => ?_) AllReadyH.nil
      rw [if_pos (by rfl)]
      refine wp_store_row 27 (.tmp 6) (.tmp 77) rfl (w.heap.size + 1 + 1) (corC k) rfl rfl _ _ (show _ = some (Obj.cells #[.int .i64 0, .int .i64 0, .int .i64 0, .int .i64 0, .int .i64 0, .int .i64 0, .int .i64 0, .int .i64 0, .int .i64 0, .int .i64 0, .int .i64 0, .int .i64 0, .bool false, .int .i64 0, .bool false] 27 (0, 0)) by exact rowS) (by kernel_rfl) rfl (by rw [← Array.all_toList]; rfl) ?_
      refine hK'.out _ _ (Lib.hid ⟨row_row (Hid.out hHeld).1 (by omega), row_row (Hid.out hHeld).2 (by omega)⟩) (fun hHeld => ?_)
      clear hK' K'
      refine wpAnyH_ready (rs := [3]) (by kernel_rfl) (by simp) ?_
      refine AllReadyH.cons (o := _) rfl (fun K' hK' => ?_) AllReadyH.nil
      rw [if_pos (by rfl)]
      refine wp_store_row 29 (.tmp 7) (.tmp 78) rfl (w.heap.size + 1 + 1 + 1) #[.bool n9, .bool e9, .bool i9] rfl rfl _ _ (show _ = some (Obj.cells #[.bool false, .bool false, .bool false] 29 (0, 0)) by exact rowS) (by kernel_rfl) rfl (by rw [← Array.all_toList]; rfl) ?_
      refine hK'.out _ _ (Lib.hid ⟨row_row (Hid.out hHeld).1 (by omega), row_row (Hid.out hHeld).2 (by omega)⟩) (fun hHeld => ?_)
      clear hK' K'
      refine wpAnyH_done (by kernel_rfl) ?_ _
      go_wp2
      exact rows_two_post rfl rfl rfl Tryz.underlying27 rfl (by kernel_rfl) Tryz.underlying29 rfl (by kernel_rfl) rfl (row_row (setRow_heap _ _ _ (corC k) _ _ (show _ = some (Obj.cells #[.int .i64 0, .int .i64 0, .int .i64 0, .int .i64 0, .int .i64 0, .int .i64 0, .int .i64 0, .int .i64 0, .int .i64 0, .int .i64 0, .int .i64 0, .int .i64 0, .bool false, .int .i64 0, .bool false] 27 (0, 0)) by exact rowS)) (by omega)) rfl (setRow_heap _ _ _ #[.bool n9, .bool e9, .bool i9] _ _ (show _ = some (Obj.cells #[.bool false, .bool false, .bool false] 29 (0, 0)) by exact rowS)) rfl (cor_pair (below_row (below_row (by exact belS) (by omega)) (by omega)))
    ·go_upto_region 12 with fail
     have o1 := cell_of_blk (i := 1) (v := .string ob) K4.out rfl
     by_cases hk : kindI oa ob = 3
     ·go_wp2_with (first
       | (refine load_row (by rfl) 55 _ (by rfl) _ (by rfl) 2 _ Tryz.underlying55 rfl (by kernel_rfl) (by exact rowS) rfl ?_)
       | (go_at_call 36; refine ((fun w => show Calls Tryz.prog 36 #[.agg #[.string oa, .string ob]] w _ from spec_kindOf oa ob w) _).mono ?_; rintro e w1 ⟨rfl, hb⟩; refine Hid.out ?_))
      have K0 := Lib.hid (CorAt.below K0.out hb)
      have K1 := Lib.hid (blk_below (b := w.heap.size + 1) (show _ = some (Obj.cells #[.bool wn, .bool we, .bool wi] 29 (0, 0)) by exact rowS) hb)
      have K2 := Lib.hid (blk_below (b := w.heap.size + 1 + 1) (show _ = some (Obj.cells #[.int .i64 0, .int .i64 0, .int .i64 0, .int .i64 0, .int .i64 0, .int .i64 0, .int .i64 0, .int .i64 0, .int .i64 0, .int .i64 0, .int .i64 0, .int .i64 0, .bool false, .int .i64 0, .bool false] 27 (0, 0)) by exact rowS) hb)
      have K3 := Lib.hid (blk_below (b := w.heap.size + 1 + 1 + 1) (show _ = some (Obj.cells #[.bool false, .bool false, .bool false] 29 (0, 0)) by exact rowS) hb)
      have K4 := Lib.hid (blk_below (b := V) (show _ = some (Obj.cells #[.string oa, .string ob] 55 (0, 0)) by exact rowS) hb)
      have B0 := Lib.hid (below_then (show Below w.heap.size w _ by exact belS) hb)
      clear hb fz c_cd o1
      have fz := CorAt.free K0.out
      have hlt := (Array.getElem?_eq_some_iff.1 K4.out).1
      have o1 := cell_of_blk (i := 1) (v := .string ob) K4.out rfl
      refine Lib.hid ?_
      go_upto_region 13 with fail
      go_upto_region 14 with (first
       | (refine load_core (by rfl) _ (by rfl) _ (by rfl) K0.out ?_)
       | (refine load_row (by rfl) 55 _ (by rfl) _ (by rfl) 2 _ Tryz.underlying55 rfl (by kernel_rfl) (by exact rowS) rfl ?_)
       | (go_at_call 37; refine (s_owned _ _ _ _ _).mono ?_; rintro e w1 ⟨k9, d9, rfl, hb⟩)
       | (refine store_some (by rfl) (by rfl) _ _ (by rfl) _ (by rfl) _ (by rfl) (by exact someS; done) ?_))
      refine settle4 (B := w.heap.size) (wb := w) (b0 := w.heap.size) (b1 := w.heap.size + 1) (o1 := Obj.cells #[.bool wn, .bool we, .bool wi] 29 (0, 0)) (b2 := w.heap.size + 1 + 1) (o2 := Obj.cells #[.int .i64 0, .int .i64 0, .int .i64 0, .int .i64 0, .int .i64 0, .int .i64 0, .int .i64 0, .int .i64 0, .int .i64 0, .int .i64 0, .int .i64 0, .int .i64 0, .bool false, .int .i64 0, .bool false] 27 (0, 0)) (b3 := w.heap.size + 1 + 1 + 1) (o3 := Obj.cells #[.bool false, .bool false, .bool false] 29 (0, 0)) (by exact someS) (by exact rowG) (by exact rowG) (by exact rowG) (by exact belS) ?_
      clear K0 K1 K2 K3 fz hlt o1 B0 
      intro k w9 K0 K1 K2 K3 B0
      replace K0 := Lib.hid K0
      replace K1 := Lib.hid K1
      replace K2 := Lib.hid K2
      replace K3 := Lib.hid K3
      replace B0 := Lib.hid B0
      have fz := CorAt.free K0.out
      have hlt := (Array.getElem?_eq_some_iff.1 K3.out).1
      have o1 := cell_of_blk (i := 1) (v := .string ob) K4.out rfl
      cases d9
      ·go_upto_region 17 with fail
       refine wp_region_held_drew (S := fun w' => Hid (CorAt w.heap.size k w' ∧ w'.heap[w.heap.size + 1]? = some (Obj.cells #[.bool wn, .bool we, .bool wi] 29 (0, 0)))) (by kernel_rfl) (Lib.hid ⟨CorAt.drew K0.out, row_drew K1.out⟩) (fun hHeld => ?_)
       refine wpAnyH_take (i := 0) (oi := _) rfl (by kernel_rfl) (by kernel_rfl) (by kernel_rfl) (fun _ _ _ h => h) (yields_load_part (by rfl) 27 (.tmp 3) rfl w.heap.size 0 rfl (corC k) _ Tryz.underlying27 rfl (by kernel_rfl) rfl (fun u hS => (Hid.out hS).1)) hHeld ?_
       (try simp only [Act.put, List.getElem_toArray, List.getElem_cons_zero, List.setIfInBounds_toArray, List.set_cons_zero, List.set_cons_succ])
       refine wpAnyH_take (i := 1) (oi := _) rfl (by kernel_rfl) (by kernel_rfl) (by kernel_rfl) (fun _ _ _ h => h) (yields_load_part (by rfl) 29 (.tmp 5) rfl (w.heap.size + 1) 0 rfl #[.bool wn, .bool we, .bool wi] _ Tryz.underlying29 rfl (by kernel_rfl) rfl (fun u hS => (Hid.out hS).2)) hHeld ?_
       (try simp only [Act.put, List.getElem_toArray, List.getElem_cons_zero, List.getElem_cons_succ, List.setIfInBounds_toArray, List.set_cons_zero, List.set_cons_succ])
       refine wpAnyH_ready (rs := [2]) (by kernel_rfl) (by simp) ?_
       refine AllReadyH.cons (o := _) rfl (fun K' hK' => ?_) AllReadyH.nil
       rw [if_pos (by rfl)]
       refine wp_store_row 27 (.tmp 6) (.tmp 77) rfl (w.heap.size + 1 + 1) (corC k) rfl rfl _ _ (show _ = some (Obj.cells #[.int .i64 0, .int .i64 0, .int .i64 0, .int .i64 0, .int .i64 0, .int .i64 0, .int .i64 0, .int .i64 0, .int .i64 0, .int .i64 0, .int .i64 0, .int .i64 0, .bool false, .int .i64 0, .bool false] 27 (0, 0)) by exact rowS) (by kernel_rfl) rfl (by rw [← Array.all_toList]; rfl) ?_
       refine hK'.out _ _ (Lib.hid ⟨row_row (Hid.out hHeld).1 (by omega), row_row (Hid.out hHeld).2 (by omega)⟩) (fun hHeld => ?_)
       clear hK' K'
       refine wpAnyH_ready (rs := [3]) (by kernel_rfl) (by simp) ?_
       refine AllReadyH.cons (o := _) rfl (fun K' hK' => ?_) AllReadyH.nil
       rw [if_pos (by rfl)]
       refine wp_store_row 29 (.tmp 7) (.tmp 78) rfl (w.heap.size + 1 + 1 + 1) #[.bool wn, .bool we, .bool wi] rfl rfl _ _ (show _ = some (Obj.cells #[.bool false, .bool false, .bool false] 29 (0, 0)) by exact rowS) (by kernel_rfl) rfl (by rw [← Array.all_toList]; rfl) ?_
       refine hK'.out _ _ (Lib.hid ⟨row_row (Hid.out hHeld).1 (by omega), row_row (Hid.out hHeld).2 (by omega)⟩) (fun hHeld => ?_)
       clear hK' K'
       refine wpAnyH_done (by kernel_rfl) ?_ _
       go_wp2
       exact rows_two_post rfl rfl rfl Tryz.underlying27 rfl (by kernel_rfl) Tryz.underlying29 rfl (by kernel_rfl) rfl (row_row (setRow_heap _ _ _ (corC k) _ _ (show _ = some (Obj.cells #[.int .i64 0, .int .i64 0, .int .i64 0, .int .i64 0, .int .i64 0, .int .i64 0, .int .i64 0, .int .i64 0, .int .i64 0, .int .i64 0, .int .i64 0, .int .i64 0, .bool false, .int .i64 0, .bool false] 27 (0, 0)) by exact rowS)) (by omega)) rfl (setRow_heap _ _ _ #[.bool wn, .bool we, .bool wi] _ _ (show _ = some (Obj.cells #[.bool false, .bool false, .bool false] 29 (0, 0)) by exact rowS)) rfl (cor_pair (below_row (below_row (by exact belS) (by omega)) (by omega)))
      ·go_upto_region 17 with (first
        | (refine sti_t (by rfl) (by rfl) _ _ (by rfl) _ (by rfl) _ (by rfl) (by exact someS) ?_; intro k3)
        | (refine sti_nx (by rfl) (by rfl) _ _ (by rfl) _ (by rfl) _ (by rfl) (by exact someS) ?_; intro k3))
       refine settle4 (B := w.heap.size) (wb := w) (b0 := w.heap.size) (b1 := w.heap.size + 1) (o1 := Obj.cells #[.bool wn, .bool we, .bool wi] 29 (0, 0)) (b2 := w.heap.size + 1 + 1) (o2 := Obj.cells #[.int .i64 0, .int .i64 0, .int .i64 0, .int .i64 0, .int .i64 0, .int .i64 0, .int .i64 0, .int .i64 0, .int .i64 0, .int .i64 0, .int .i64 0, .int .i64 0, .bool false, .int .i64 0, .bool false] 27 (0, 0)) (b3 := w.heap.size + 1 + 1 + 1) (o3 := Obj.cells #[.bool false, .bool false, .bool false] 29 (0, 0)) (by exact someS) (by exact rowG) (by exact rowG) (by exact rowG) (by exact belS) ?_
       clear K0 K1 K2 K3 fz hlt o1 B0 
       intro k w9 K0 K1 K2 K3 B0
       replace K0 := Lib.hid K0
       replace K1 := Lib.hid K1
       replace K2 := Lib.hid K2
       replace K3 := Lib.hid K3
       replace B0 := Lib.hid B0
       have fz := CorAt.free K0.out
       have hlt := (Array.getElem?_eq_some_iff.1 K3.out).1
       have o1 := cell_of_blk (i := 1) (v := .string ob) K4.out rfl
       refine wp_region_held_drew (S := fun w' => Hid (CorAt w.heap.size k w' ∧ w'.heap[w.heap.size + 1]? = some (Obj.cells #[.bool wn, .bool we, .bool wi] 29 (0, 0)))) (by kernel_rfl) (Lib.hid ⟨CorAt.drew K0.out, row_drew K1.out⟩) (fun hHeld => ?_)
       refine wpAnyH_take (i := 0) (oi := _) rfl (by kernel_rfl) (by kernel_rfl) (by kernel_rfl) (fun _ _ _ h => h) (yields_load_part (by rfl) 27 (.tmp 3) rfl w.heap.size 0 rfl (corC k) _ Tryz.underlying27 rfl (by kernel_rfl) rfl (fun u hS => (Hid.out hS).1)) hHeld ?_
       (try simp only [Act.put, List.getElem_toArray, List.getElem_cons_zero, List.setIfInBounds_toArray, List.set_cons_zero, List.set_cons_succ])
       refine wpAnyH_take (i := 1) (oi := _) rfl (by kernel_rfl) (by kernel_rfl) (by kernel_rfl) (fun _ _ _ h => h) (yields_load_part (by rfl) 29 (.tmp 5) rfl (w.heap.size + 1) 0 rfl #[.bool wn, .bool we, .bool wi] _ Tryz.underlying29 rfl (by kernel_rfl) rfl (fun u hS => (Hid.out hS).2)) hHeld ?_
       (try simp only [Act.put, List.getElem_toArray, List.getElem_cons_zero, List.getElem_cons_succ, List.setIfInBounds_toArray, List.set_cons_zero, List.set_cons_succ])
       refine wpAnyH_ready (rs := [2]) (by kernel_rfl) (by simp) ?_
       refine AllReadyH.cons (o := _) rfl (fun K' hK' => ?_) AllReadyH.nil
       rw [if_pos (by rfl)]
       refine wp_store_row 27 (.tmp 6) (.tmp 77) rfl (w.heap.size + 1 + 1) (corC k) rfl rfl _ _ (show _ = some (Obj.cells #[.int .i64 0, .int .i64 0, .int .i64 0, .int .i64 0, .int .i64 0, .int .i64 0, .int .i64 0, .int .i64 0, .int .i64 0, .int .i64 0, .int .i64 0, .int .i64 0, .bool false, .int .i64 0, .bool false] 27 (0, 0)) by exact rowS) (by kernel_rfl) rfl (by rw [← Array.all_toList]; rfl) ?_
       refine hK'.out _ _ (Lib.hid ⟨row_row (Hid.out hHeld).1 (by omega), row_row (Hid.out hHeld).2 (by omega)⟩) (fun hHeld => ?_)
       clear hK' K'
       refine wpAnyH_ready (rs := [3]) (by kernel_rfl) (by simp) ?_
       refine AllReadyH.cons (o := _) rfl (fun K' hK' => ?_) AllReadyH.nil
       rw [if_pos (by rfl)]
       refine wp_store_row 29 (.tmp 7) (.tmp 78) rfl (w.heap.size + 1 + 1 + 1) #[.bool wn, .bool we, .bool wi] rfl rfl _ _ (show _ = some (Obj.cells #[.bool false, .bool false, .bool false] 29 (0, 0)) by exact rowS) (by kernel_rfl) rfl (by rw [← Array.all_toList]; rfl) ?_
       refine hK'.out _ _ (Lib.hid ⟨row_row (Hid.out hHeld).1 (by omega), row_row (Hid.out hHeld).2 (by omega)⟩) (fun hHeld => ?_)
       clear hK' K'
       refine wpAnyH_done (by kernel_rfl) ?_ _
       go_wp2
       exact rows_two_post rfl rfl rfl Tryz.underlying27 rfl (by kernel_rfl) Tryz.underlying29 rfl (by kernel_rfl) rfl (row_row (setRow_heap _ _ _ (corC k) _ _ (show _ = some (Obj.cells #[.int .i64 0, .int .i64 0, .int .i64 0, .int .i64 0, .int .i64 0, .int .i64 0, .int .i64 0, .int .i64 0, .int .i64 0, .int .i64 0, .int .i64 0, .int .i64 0, .bool false, .int .i64 0, .bool false] 27 (0, 0)) by exact rowS)) (by omega)) rfl (setRow_heap _ _ _ #[.bool wn, .bool we, .bool wi] _ _ (show _ = some (Obj.cells #[.bool false, .bool false, .bool false] 29 (0, 0)) by exact rowS)) rfl (cor_pair (below_row (below_row (by exact belS) (by omega)) (by omega)))
     ·by_cases hm : ob = ⟨#[105, 109, 109]⟩
      ·have ehm0 : (ob.toList == [105, 109, 109]) = true := by rw [hm, ByteArray.toList_eq]; decide
       clear hm
       go_wp2_with (first
        | (refine load_row (by rfl) 55 _ (by rfl) _ (by rfl) 2 _ Tryz.underlying55 rfl (by kernel_rfl) (by exact rowS) rfl ?_)
        | (go_at_call 36; refine ((fun w => show Calls Tryz.prog 36 #[.agg #[.string oa, .string ob]] w _ from spec_kindOf oa ob w) _).mono ?_; rintro e w1 ⟨rfl, hb⟩; refine Hid.out ?_))
       have K0 := Lib.hid (CorAt.below K0.out hb)
       have K1 := Lib.hid (blk_below (b := w.heap.size + 1) (show _ = some (Obj.cells #[.bool wn, .bool we, .bool wi] 29 (0, 0)) by exact rowS) hb)
       have K2 := Lib.hid (blk_below (b := w.heap.size + 1 + 1) (show _ = some (Obj.cells #[.int .i64 0, .int .i64 0, .int .i64 0, .int .i64 0, .int .i64 0, .int .i64 0, .int .i64 0, .int .i64 0, .int .i64 0, .int .i64 0, .int .i64 0, .int .i64 0, .bool false, .int .i64 0, .bool false] 27 (0, 0)) by exact rowS) hb)
       have K3 := Lib.hid (blk_below (b := w.heap.size + 1 + 1 + 1) (show _ = some (Obj.cells #[.bool false, .bool false, .bool false] 29 (0, 0)) by exact rowS) hb)
       have K4 := Lib.hid (blk_below (b := V) (show _ = some (Obj.cells #[.string oa, .string ob] 55 (0, 0)) by exact rowS) hb)
       have B0 := Lib.hid (below_then (show Below w.heap.size w _ by exact belS) hb)
       clear hb fz c_cd o1
       have fz := CorAt.free K0.out
       have hlt := (Array.getElem?_eq_some_iff.1 K4.out).1
       have o1 := cell_of_blk (i := 1) (v := .string ob) K4.out rfl
       refine Lib.hid ?_
       go_upto_region 13 with fail
       go_upto_region 14 with (first
        | (refine load_core (by rfl) _ (by rfl) _ (by rfl) K0.out ?_)
        | (refine load_row (by rfl) 55 _ (by rfl) _ (by rfl) 2 _ Tryz.underlying55 rfl (by kernel_rfl) (by exact rowS) rfl ?_)
        | (go_at_call 37; refine (s_owned _ _ _ _ _).mono ?_; rintro e w1 ⟨k9, d9, rfl, hb⟩)
        | (refine store_some (by rfl) (by rfl) _ _ (by rfl) _ (by rfl) _ (by rfl) (by exact someS; done) ?_))
       refine settle4 (B := w.heap.size) (wb := w) (b0 := w.heap.size) (b1 := w.heap.size + 1) (o1 := Obj.cells #[.bool wn, .bool we, .bool wi] 29 (0, 0)) (b2 := w.heap.size + 1 + 1) (o2 := Obj.cells #[.int .i64 0, .int .i64 0, .int .i64 0, .int .i64 0, .int .i64 0, .int .i64 0, .int .i64 0, .int .i64 0, .int .i64 0, .int .i64 0, .int .i64 0, .int .i64 0, .bool false, .int .i64 0, .bool false] 27 (0, 0)) (b3 := w.heap.size + 1 + 1 + 1) (o3 := Obj.cells #[.bool false, .bool false, .bool false] 29 (0, 0)) (by exact someS) (by exact rowG) (by exact rowG) (by exact rowG) (by exact belS) ?_
       clear K0 K1 K2 K3 fz hlt o1 B0 
       intro k w9 K0 K1 K2 K3 B0
       replace K0 := Lib.hid K0
       replace K1 := Lib.hid K1
       replace K2 := Lib.hid K2
       replace K3 := Lib.hid K3
       replace B0 := Lib.hid B0
       have fz := CorAt.free K0.out
       have hlt := (Array.getElem?_eq_some_iff.1 K3.out).1
       have o1 := cell_of_blk (i := 1) (v := .string ob) K4.out rfl
       cases d9
       ·go_upto_region 17 with fail
        refine wp_region_held_drew (S := fun w' => Hid (CorAt w.heap.size k w' ∧ w'.heap[w.heap.size + 1]? = some (Obj.cells #[.bool wn, .bool we, .bool wi] 29 (0, 0)))) (by kernel_rfl) (Lib.hid ⟨CorAt.drew K0.out, row_drew K1.out⟩) (fun hHeld => ?_)
        refine wpAnyH_take (i := 0) (oi := _) rfl (by kernel_rfl) (by kernel_rfl) (by kernel_rfl) (fun _ _ _ h => h) (yields_load_part (by rfl) 27 (.tmp 3) rfl w.heap.size 0 rfl (corC k) _ Tryz.underlying27 rfl (by kernel_rfl) rfl (fun u hS => (Hid.out hS).1)) hHeld ?_
        (try simp only [Act.put, List.getElem_toArray, List.getElem_cons_zero, List.setIfInBounds_toArray, List.set_cons_zero, List.set_cons_succ])
        refine wpAnyH_take (i := 1) (oi := _) rfl (by kernel_rfl) (by kernel_rfl) (by kernel_rfl) (fun _ _ _ h => h) (yields_load_part (by rfl) 29 (.tmp 5) rfl (w.heap.size + 1) 0 rfl #[.bool wn, .bool we, .bool wi] _ Tryz.underlying29 rfl (by kernel_rfl) rfl (fun u hS => (Hid.out hS).2)) hHeld ?_
        (try simp only [Act.put, List.getElem_toArray, List.getElem_cons_zero, List.getElem_cons_succ, List.setIfInBounds_toArray, List.set_cons_zero, List.set_cons_succ])
        refine wpAnyH_ready (rs := [2]) (by kernel_rfl) (by simp) ?_
        refine AllReadyH.cons (o := _) rfl (fun K' hK' => ?_) AllReadyH.nil
        rw [if_pos (by rfl)]
        refine wp_store_row 27 (.tmp 6) (.tmp 77) rfl (w.heap.size + 1 + 1) (corC k) rfl rfl _ _ (show _ = some (Obj.cells #[.int .i64 0, .int .i64 0, .int .i64 0, .int .i64 0, .int .i64 0, .int .i64 0, .int .i64 0, .int .i64 0, .int .i64 0, .int .i64 0, .int .i64 0, .int .i64 0, .bool false, .int .i64 0, .bool false] 27 (0, 0)) by exact rowS) (by kernel_rfl) rfl (by rw [← Array.all_toList]; rfl) ?_
        refine hK'.out _ _ (Lib.hid ⟨row_row (Hid.out hHeld).1 (by omega), row_row (Hid.out hHeld).2 (by omega)⟩) (fun hHeld => ?_)
        clear hK' K'
        refine wpAnyH_ready (rs := [3]) (by kernel_rfl) (by simp) ?_
        refine AllReadyH.cons (o := _) rfl (fun K' hK' => ?_) AllReadyH.nil
        rw [if_pos (by rfl)]
        refine wp_store_row 29 (.tmp 7) (.tmp 78) rfl (w.heap.size + 1 + 1 + 1) #[.bool wn, .bool we, .bool wi] rfl rfl _ _ (show _ = some (Obj.cells #[.bool false, .bool false, .bool false] 29 (0, 0)) by exact rowS) (by kernel_rfl) rfl (by rw [← Array.all_toList]; rfl) ?_
        refine hK'.out _ _ (Lib.hid ⟨row_row (Hid.out hHeld).1 (by omega), row_row (Hid.out hHeld).2 (by omega)⟩) (fun hHeld => ?_)
        clear hK' K'
        refine wpAnyH_done (by kernel_rfl) ?_ _
        go_wp2
        exact rows_two_post rfl rfl rfl Tryz.underlying27 rfl (by kernel_rfl) Tryz.underlying29 rfl (by kernel_rfl) rfl (row_row (setRow_heap _ _ _ (corC k) _ _ (show _ = some (Obj.cells #[.int .i64 0, .int .i64 0, .int .i64 0, .int .i64 0, .int .i64 0, .int .i64 0, .int .i64 0, .int .i64 0, .int .i64 0, .int .i64 0, .int .i64 0, .int .i64 0, .bool false, .int .i64 0, .bool false] 27 (0, 0)) by exact rowS)) (by omega)) rfl (setRow_heap _ _ _ #[.bool wn, .bool we, .bool wi] _ _ (show _ = some (Obj.cells #[.bool false, .bool false, .bool false] 29 (0, 0)) by exact rowS)) rfl (cor_pair (below_row (below_row (by exact belS) (by omega)) (by omega)))
       ·go_upto_region 17 with (first
         | (refine sti_t (by rfl) (by rfl) _ _ (by rfl) _ (by rfl) _ (by rfl) (by exact someS) ?_; intro k3)
         | (refine sti_nx (by rfl) (by rfl) _ _ (by rfl) _ (by rfl) _ (by rfl) (by exact someS) ?_; intro k3))
        refine settle4 (B := w.heap.size) (wb := w) (b0 := w.heap.size) (b1 := w.heap.size + 1) (o1 := Obj.cells #[.bool wn, .bool we, .bool wi] 29 (0, 0)) (b2 := w.heap.size + 1 + 1) (o2 := Obj.cells #[.int .i64 0, .int .i64 0, .int .i64 0, .int .i64 0, .int .i64 0, .int .i64 0, .int .i64 0, .int .i64 0, .int .i64 0, .int .i64 0, .int .i64 0, .int .i64 0, .bool false, .int .i64 0, .bool false] 27 (0, 0)) (b3 := w.heap.size + 1 + 1 + 1) (o3 := Obj.cells #[.bool false, .bool false, .bool false] 29 (0, 0)) (by exact someS) (by exact rowG) (by exact rowG) (by exact rowG) (by exact belS) ?_
        clear K0 K1 K2 K3 fz hlt o1 B0 
        intro k w9 K0 K1 K2 K3 B0
        replace K0 := Lib.hid K0
        replace K1 := Lib.hid K1
        replace K2 := Lib.hid K2
        replace K3 := Lib.hid K3
        replace B0 := Lib.hid B0
        have fz := CorAt.free K0.out
        have hlt := (Array.getElem?_eq_some_iff.1 K3.out).1
        have o1 := cell_of_blk (i := 1) (v := .string ob) K4.out rfl
        refine wp_region_held_drew (S := fun w' => Hid (CorAt w.heap.size k w' ∧ w'.heap[w.heap.size + 1]? = some (Obj.cells #[.bool wn, .bool we, .bool wi] 29 (0, 0)))) (by kernel_rfl) (Lib.hid ⟨CorAt.drew K0.out, row_drew K1.out⟩) (fun hHeld => ?_)
        refine wpAnyH_take (i := 0) (oi := _) rfl (by kernel_rfl) (by kernel_rfl) (by kernel_rfl) (fun _ _ _ h => h) (yields_load_part (by rfl) 27 (.tmp 3) rfl w.heap.size 0 rfl (corC k) _ Tryz.underlying27 rfl (by kernel_rfl) rfl (fun u hS => (Hid.out hS).1)) hHeld ?_
        (try simp only [Act.put, List.getElem_toArray, List.getElem_cons_zero, List.setIfInBounds_toArray, List.set_cons_zero, List.set_cons_succ])
        refine wpAnyH_take (i := 1) (oi := _) rfl (by kernel_rfl) (by kernel_rfl) (by kernel_rfl) (fun _ _ _ h => h) (yields_load_part (by rfl) 29 (.tmp 5) rfl (w.heap.size + 1) 0 rfl #[.bool wn, .bool we, .bool wi] _ Tryz.underlying29 rfl (by kernel_rfl) rfl (fun u hS => (Hid.out hS).2)) hHeld ?_
        (try simp only [Act.put, List.getElem_toArray, List.getElem_cons_zero, List.getElem_cons_succ, List.setIfInBounds_toArray, List.set_cons_zero, List.set_cons_succ])
        refine wpAnyH_ready (rs := [2]) (by kernel_rfl) (by simp) ?_
        refine AllReadyH.cons (o := _) rfl (fun K' hK' => ?_) AllReadyH.nil
        rw [if_pos (by rfl)]
        refine wp_store_row 27 (.tmp 6) (.tmp 77) rfl (w.heap.size + 1 + 1) (corC k) rfl rfl _ _ (show _ = some (Obj.cells #[.int .i64 0, .int .i64 0, .int .i64 0, .int .i64 0, .int .i64 0, .int .i64 0, .int .i64 0, .int .i64 0, .int .i64 0, .int .i64 0, .int .i64 0, .int .i64 0, .bool false, .int .i64 0, .bool false] 27 (0, 0)) by exact rowS) (by kernel_rfl) rfl (by rw [← Array.all_toList]; rfl) ?_
        refine hK'.out _ _ (Lib.hid ⟨row_row (Hid.out hHeld).1 (by omega), row_row (Hid.out hHeld).2 (by omega)⟩) (fun hHeld => ?_)
        clear hK' K'
        refine wpAnyH_ready (rs := [3]) (by kernel_rfl) (by simp) ?_
        refine AllReadyH.cons (o := _) rfl (fun K' hK' => ?_) AllReadyH.nil
        rw [if_pos (by rfl)]
        refine wp_store_row 29 (.tmp 7) (.tmp 78) rfl (w.heap.size + 1 + 1 + 1) #[.bool wn, .bool we, .bool wi] rfl rfl _ _ (show _ = some (Obj.cells #[.bool false, .bool false, .bool false] 29 (0, 0)) by exact rowS) (by kernel_rfl) rfl (by rw [← Array.all_toList]; rfl) ?_
        refine hK'.out _ _ (Lib.hid ⟨row_row (Hid.out hHeld).1 (by omega), row_row (Hid.out hHeld).2 (by omega)⟩) (fun hHeld => ?_)
        clear hK' K'
        refine wpAnyH_done (by kernel_rfl) ?_ _
        go_wp2
        exact rows_two_post rfl rfl rfl Tryz.underlying27 rfl (by kernel_rfl) Tryz.underlying29 rfl (by kernel_rfl) rfl (row_row (setRow_heap _ _ _ (corC k) _ _ (show _ = some (Obj.cells #[.int .i64 0, .int .i64 0, .int .i64 0, .int .i64 0, .int .i64 0, .int .i64 0, .int .i64 0, .int .i64 0, .int .i64 0, .int .i64 0, .int .i64 0, .int .i64 0, .bool false, .int .i64 0, .bool false] 27 (0, 0)) by exact rowS)) (by omega)) rfl (setRow_heap _ _ _ #[.bool wn, .bool we, .bool wi] _ _ (show _ = some (Obj.cells #[.bool false, .bool false, .bool false] 29 (0, 0)) by exact rowS)) rfl (cor_pair (below_row (below_row (by exact belS) (by omega)) (by omega)))
      ·have nhm := ne_list [105, 109, 109] hm
       clear hm
       go_wp2_with (first
        | (refine load_row (by rfl) 55 _ (by rfl) _ (by rfl) 2 _ Tryz.underlying55 rfl (by kernel_rfl) (by exact rowS) rfl ?_)
        | (go_at_call 36; refine ((fun w => show Calls Tryz.prog 36 #[.agg #[.string oa, .string ob]] w _ from spec_kindOf oa ob w) _).mono ?_; rintro e w1 ⟨rfl, hb⟩; refine Hid.out ?_))
       have K0 := Lib.hid (CorAt.below K0.out hb)
       have K1 := Lib.hid (blk_below (b := w.heap.size + 1) (show _ = some (Obj.cells #[.bool wn, .bool we, .bool wi] 29 (0, 0)) by exact rowS) hb)
       have K2 := Lib.hid (blk_below (b := w.heap.size + 1 + 1) (show _ = some (Obj.cells #[.int .i64 0, .int .i64 0, .int .i64 0, .int .i64 0, .int .i64 0, .int .i64 0, .int .i64 0, .int .i64 0, .int .i64 0, .int .i64 0, .int .i64 0, .int .i64 0, .bool false, .int .i64 0, .bool false] 27 (0, 0)) by exact rowS) hb)
       have K3 := Lib.hid (blk_below (b := w.heap.size + 1 + 1 + 1) (show _ = some (Obj.cells #[.bool false, .bool false, .bool false] 29 (0, 0)) by exact rowS) hb)
       have K4 := Lib.hid (blk_below (b := V) (show _ = some (Obj.cells #[.string oa, .string ob] 55 (0, 0)) by exact rowS) hb)
       have B0 := Lib.hid (below_then (show Below w.heap.size w _ by exact belS) hb)
       clear hb fz c_cd o1
       have fz := CorAt.free K0.out
       have hlt := (Array.getElem?_eq_some_iff.1 K4.out).1
       have o1 := cell_of_blk (i := 1) (v := .string ob) K4.out rfl
       refine Lib.hid ?_
       go_upto_region 9 with fail
       go_upto_region 14 with (first
        | (refine load_core (by rfl) _ (by rfl) _ (by rfl) K0.out ?_)
        | (refine load_row (by rfl) 55 _ (by rfl) _ (by rfl) 2 _ Tryz.underlying55 rfl (by kernel_rfl) (by exact rowS) rfl ?_)
        | (go_at_call 38; refine (s_reached _ _ _ _ _).mono ?_; rintro e w1 ⟨k9, d9, rfl, hb⟩)
        | (refine store_some (by rfl) (by rfl) _ _ (by rfl) _ (by rfl) _ (by rfl) (by exact someS; done) ?_))
       refine settle4 (B := w.heap.size) (wb := w) (b0 := w.heap.size) (b1 := w.heap.size + 1) (o1 := Obj.cells #[.bool wn, .bool we, .bool wi] 29 (0, 0)) (b2 := w.heap.size + 1 + 1) (o2 := Obj.cells #[.int .i64 0, .int .i64 0, .int .i64 0, .int .i64 0, .int .i64 0, .int .i64 0, .int .i64 0, .int .i64 0, .int .i64 0, .int .i64 0, .int .i64 0, .int .i64 0, .bool false, .int .i64 0, .bool false] 27 (0, 0)) (b3 := w.heap.size + 1 + 1 + 1) (o3 := Obj.cells #[.bool false, .bool false, .bool false] 29 (0, 0)) (by exact someS) (by exact rowG) (by exact rowG) (by exact rowG) (by exact belS) ?_
       clear K0 K1 K2 K3 fz hlt o1 B0 
       intro k w9 K0 K1 K2 K3 B0
       replace K0 := Lib.hid K0
       replace K1 := Lib.hid K1
       replace K2 := Lib.hid K2
       replace K3 := Lib.hid K3
       replace B0 := Lib.hid B0
       have fz := CorAt.free K0.out
       have hlt := (Array.getElem?_eq_some_iff.1 K3.out).1
       have o1 := cell_of_blk (i := 1) (v := .string ob) K4.out rfl
       cases d9
       ·go_upto_region 17 with fail
        refine wp_region_held_drew (S := fun w' => Hid (CorAt w.heap.size k w' ∧ w'.heap[w.heap.size + 1]? = some (Obj.cells #[.bool wn, .bool we, .bool wi] 29 (0, 0)))) (by kernel_rfl) (Lib.hid ⟨CorAt.drew K0.out, row_drew K1.out⟩) (fun hHeld => ?_)
        refine wpAnyH_take (i := 0) (oi := _) rfl (by kernel_rfl) (by kernel_rfl) (by kernel_rfl) (fun _ _ _ h => h) (yields_load_part (by rfl) 27 (.tmp 3) rfl w.heap.size 0 rfl (corC k) _ Tryz.underlying27 rfl (by kernel_rfl) rfl (fun u hS => (Hid.out hS).1)) hHeld ?_
        (try simp only [Act.put, List.getElem_toArray, List.getElem_cons_zero, List.setIfInBounds_toArray, List.set_cons_zero, List.set_cons_succ])
        refine wpAnyH_take (i := 1) (oi := _) rfl (by kernel_rfl) (by kernel_rfl) (by kernel_rfl) (fun _ _ _ h => h) (yields_load_part (by rfl) 29 (.tmp 5) rfl (w.heap.size + 1) 0 rfl #[.bool wn, .bool we, .bool wi] _ Tryz.underlying29 rfl (by kernel_rfl) rfl (fun u hS => (Hid.out hS).2)) hHeld ?_
        (try simp only [Act.put, List.getElem_toArray, List.getElem_cons_zero, List.getElem_cons_succ, List.setIfInBounds_toArray, List.set_cons_zero, List.set_cons_succ])
        refine wpAnyH_ready (rs := [2]) (by kernel_rfl) (by simp) ?_
        refine AllReadyH.cons (o := _) rfl (fun K' hK' => ?_) AllReadyH.nil
        rw [if_pos (by rfl)]
        refine wp_store_row 27 (.tmp 6) (.tmp 77) rfl (w.heap.size + 1 + 1) (corC k) rfl rfl _ _ (show _ = some (Obj.cells #[.int .i64 0, .int .i64 0, .int .i64 0, .int .i64 0, .int .i64 0, .int .i64 0, .int .i64 0, .int .i64 0, .int .i64 0, .int .i64 0, .int .i64 0, .int .i64 0, .bool false, .int .i64 0, .bool false] 27 (0, 0)) by exact rowS) (by kernel_rfl) rfl (by rw [← Array.all_toList]; rfl) ?_
        refine hK'.out _ _ (Lib.hid ⟨row_row (Hid.out hHeld).1 (by omega), row_row (Hid.out hHeld).2 (by omega)⟩) (fun hHeld => ?_)
        clear hK' K'
        refine wpAnyH_ready (rs := [3]) (by kernel_rfl) (by simp) ?_
        refine AllReadyH.cons (o := _) rfl (fun K' hK' => ?_) AllReadyH.nil
        rw [if_pos (by rfl)]
        refine wp_store_row 29 (.tmp 7) (.tmp 78) rfl (w.heap.size + 1 + 1 + 1) #[.bool wn, .bool we, .bool wi] rfl rfl _ _ (show _ = some (Obj.cells #[.bool false, .bool false, .bool false] 29 (0, 0)) by exact rowS) (by kernel_rfl) rfl (by rw [← Array.all_toList]; rfl) ?_
        refine hK'.out _ _ (Lib.hid ⟨row_row (Hid.out hHeld).1 (by omega), row_row (Hid.out hHeld).2 (by omega)⟩) (fun hHeld => ?_)
        clear hK' K'
        refine wpAnyH_done (by kernel_rfl) ?_ _
        go_wp2
        exact rows_two_post rfl rfl rfl Tryz.underlying27 rfl (by kernel_rfl) Tryz.underlying29 rfl (by kernel_rfl) rfl (row_row (setRow_heap _ _ _ (corC k) _ _ (show _ = some (Obj.cells #[.int .i64 0, .int .i64 0, .int .i64 0, .int .i64 0, .int .i64 0, .int .i64 0, .int .i64 0, .int .i64 0, .int .i64 0, .int .i64 0, .int .i64 0, .int .i64 0, .bool false, .int .i64 0, .bool false] 27 (0, 0)) by exact rowS)) (by omega)) rfl (setRow_heap _ _ _ #[.bool wn, .bool we, .bool wi] _ _ (show _ = some (Obj.cells #[.bool false, .bool false, .bool false] 29 (0, 0)) by exact rowS)) rfl (cor_pair (below_row (below_row (by exact belS) (by omega)) (by omega)))
       ·go_upto_region 17 with (first
         | (refine sti_t (by rfl) (by rfl) _ _ (by rfl) _ (by rfl) _ (by rfl) (by exact someS) ?_; intro k3)
         | (refine sti_nx (by rfl) (by rfl) _ _ (by rfl) _ (by rfl) _ (by rfl) (by exact someS) ?_; intro k3))
        refine settle4 (B := w.heap.size) (wb := w) (b0 := w.heap.size) (b1 := w.heap.size + 1) (o1 := Obj.cells #[.bool wn, .bool we, .bool wi] 29 (0, 0)) (b2 := w.heap.size + 1 + 1) (o2 := Obj.cells #[.int .i64 0, .int .i64 0, .int .i64 0, .int .i64 0, .int .i64 0, .int .i64 0, .int .i64 0, .int .i64 0, .int .i64 0, .int .i64 0, .int .i64 0, .int .i64 0, .bool false, .int .i64 0, .bool false] 27 (0, 0)) (b3 := w.heap.size + 1 + 1 + 1) (o3 := Obj.cells #[.bool false, .bool false, .bool false] 29 (0, 0)) (by exact someS) (by exact rowG) (by exact rowG) (by exact rowG) (by exact belS) ?_
        clear K0 K1 K2 K3 fz hlt o1 B0 
        intro k w9 K0 K1 K2 K3 B0
        replace K0 := Lib.hid K0
        replace K1 := Lib.hid K1
        replace K2 := Lib.hid K2
        replace K3 := Lib.hid K3
        replace B0 := Lib.hid B0
        have fz := CorAt.free K0.out
        have hlt := (Array.getElem?_eq_some_iff.1 K3.out).1
        have o1 := cell_of_blk (i := 1) (v := .string ob) K4.out rfl
        refine wp_region_held_drew (S := fun w' => Hid (CorAt w.heap.size k w' ∧ w'.heap[w.heap.size + 1]? = some (Obj.cells #[.bool wn, .bool we, .bool wi] 29 (0, 0)))) (by kernel_rfl) (Lib.hid ⟨CorAt.drew K0.out, row_drew K1.out⟩) (fun hHeld => ?_)
        refine wpAnyH_take (i := 0) (oi := _) rfl (by kernel_rfl) (by kernel_rfl) (by kernel_rfl) (fun _ _ _ h => h) (yields_load_part (by rfl) 27 (.tmp 3) rfl w.heap.size 0 rfl (corC k) _ Tryz.underlying27 rfl (by kernel_rfl) rfl (fun u hS => (Hid.out hS).1)) hHeld ?_
        (try simp only [Act.put, List.getElem_toArray, List.getElem_cons_zero, List.setIfInBounds_toArray, List.set_cons_zero, List.set_cons_succ])
        refine wpAnyH_take (i := 1) (oi := _) rfl (by kernel_rfl) (by kernel_rfl) (by kernel_rfl) (fun _ _ _ h => h) (yields_load_part (by rfl) 29 (.tmp 5) rfl (w.heap.size + 1) 0 rfl #[.bool wn, .bool we, .bool wi] _ Tryz.underlying29 rfl (by kernel_rfl) rfl (fun u hS => (Hid.out hS).2)) hHeld ?_
        (try simp only [Act.put, List.getElem_toArray, List.getElem_cons_zero, List.getElem_cons_succ, List.setIfInBounds_toArray, List.set_cons_zero, List.set_cons_succ])
        refine wpAnyH_ready (rs := [2]) (by kernel_rfl) (by simp) ?_
        refine AllReadyH.cons (o := _) rfl (fun K' hK' => ?_) AllReadyH.nil
        rw [if_pos (by rfl)]
        refine wp_store_row 27 (.tmp 6) (.tmp 77) rfl (w.heap.size + 1 + 1) (corC k) rfl rfl _ _ (show _ = some (Obj.cells #[.int .i64 0, .int .i64 0, .int .i64 0, .int .i64 0, .int .i64 0, .int .i64 0, .int .i64 0, .int .i64 0, .int .i64 0, .int .i64 0, .int .i64 0, .int .i64 0, .bool false, .int .i64 0, .bool false] 27 (0, 0)) by exact rowS) (by kernel_rfl) rfl (by rw [← Array.all_toList]; rfl) ?_
        refine hK'.out _ _ (Lib.hid ⟨row_row (Hid.out hHeld).1 (by omega), row_row (Hid.out hHeld).2 (by omega)⟩) (fun hHeld => ?_)
        clear hK' K'
        refine wpAnyH_ready (rs := [3]) (by kernel_rfl) (by simp) ?_
        refine AllReadyH.cons (o := _) rfl (fun K' hK' => ?_) AllReadyH.nil
        rw [if_pos (by rfl)]
        refine wp_store_row 29 (.tmp 7) (.tmp 78) rfl (w.heap.size + 1 + 1 + 1) #[.bool wn, .bool we, .bool wi] rfl rfl _ _ (show _ = some (Obj.cells #[.bool false, .bool false, .bool false] 29 (0, 0)) by exact rowS) (by kernel_rfl) rfl (by rw [← Array.all_toList]; rfl) ?_
        refine hK'.out _ _ (Lib.hid ⟨row_row (Hid.out hHeld).1 (by omega), row_row (Hid.out hHeld).2 (by omega)⟩) (fun hHeld => ?_)
        clear hK' K'
        refine wpAnyH_done (by kernel_rfl) ?_ _
        go_wp2
        exact rows_two_post rfl rfl rfl Tryz.underlying27 rfl (by kernel_rfl) Tryz.underlying29 rfl (by kernel_rfl) rfl (row_row (setRow_heap _ _ _ (corC k) _ _ (show _ = some (Obj.cells #[.int .i64 0, .int .i64 0, .int .i64 0, .int .i64 0, .int .i64 0, .int .i64 0, .int .i64 0, .int .i64 0, .int .i64 0, .int .i64 0, .int .i64 0, .int .i64 0, .bool false, .int .i64 0, .bool false] 27 (0, 0)) by exact rowS)) (by omega)) rfl (setRow_heap _ _ _ #[.bool wn, .bool we, .bool wi] _ _ (show _ = some (Obj.cells #[.bool false, .bool false, .bool false] 29 (0, 0)) by exact rowS)) rfl (cor_pair (below_row (below_row (by exact belS) (by omega)) (by omega)))
 ·replace ho := Bool.eq_false_iff.2 ho
  go_upto_region 3 with fail
  refine wp_region_held_drew (S := fun w' => Hid (CorAt w.heap.size k w' ∧ w'.heap[w.heap.size + 1]? = some (Obj.cells #[.bool wn, .bool we, .bool wi] 29 (0, 0)))) (by kernel_rfl) (Lib.hid ⟨CorAt.drew K0.out, row_drew K1.out⟩) (fun hHeld => ?_)
  refine wpAnyH_take (i := 0) (oi := _) rfl (by kernel_rfl) (by kernel_rfl) (by kernel_rfl) (fun _ _ _ h => h) (yields_load_part (by rfl) 27 (.tmp 3) rfl w.heap.size 0 rfl (corC k) _ Tryz.underlying27 rfl (by kernel_rfl) rfl (fun u hS => (Hid.out hS).1)) hHeld ?_
  (try simp only [Act.put, List.getElem_toArray, List.getElem_cons_zero, List.setIfInBounds_toArray, List.set_cons_zero, List.set_cons_succ])
  refine wpAnyH_take (i := 1) (oi := _) rfl (by kernel_rfl) (by kernel_rfl) (by kernel_rfl) (fun _ _ _ h => h) (yields_load_part (by rfl) 29 (.tmp 5) rfl (w.heap.size + 1) 0 rfl #[.bool wn, .bool we, .bool wi] _ Tryz.underlying29 rfl (by kernel_rfl) rfl (fun u hS => (Hid.out hS).2)) hHeld ?_
  (try simp only [Act.put, List.getElem_toArray, List.getElem_cons_zero, List.getElem_cons_succ, List.setIfInBounds_toArray, List.set_cons_zero, List.set_cons_succ])
  refine wpAnyH_ready (rs := [2]) (by kernel_rfl) (by simp) ?_
  refine AllReadyH.cons (o := _) rfl (fun K' hK' => ?_) AllReadyH.nil
  rw [if_pos (by rfl)]
  refine wp_store_row 27 (.tmp 6) (.tmp 21) rfl (w.heap.size + 1 + 1) (corC k) rfl rfl _ _ (show _ = some (Obj.cells #[.int .i64 0, .int .i64 0, .int .i64 0, .int .i64 0, .int .i64 0, .int .i64 0, .int .i64 0, .int .i64 0, .int .i64 0, .int .i64 0, .int .i64 0, .int .i64 0, .bool false, .int .i64 0, .bool false] 27 (0, 0)) by exact rowS) (by kernel_rfl) rfl (by rw [← Array.all_toList]; rfl) ?_
  refine hK'.out _ _ (Lib.hid ⟨row_row (Hid.out hHeld).1 (by omega), row_row (Hid.out hHeld).2 (by omega)⟩) (fun hHeld => ?_)
  clear hK' K'
  refine wpAnyH_ready (rs := [3]) (by kernel_rfl) (by simp) ?_
  refine AllReadyH.cons (o := _) rfl (fun K' hK' => ?_) AllReadyH.nil
  rw [if_pos (by rfl)]
  refine wp_store_row 29 (.tmp 7) (.tmp 22) rfl (w.heap.size + 1 + 1 + 1) #[.bool wn, .bool we, .bool wi] rfl rfl _ _ (show _ = some (Obj.cells #[.bool false, .bool false, .bool false] 29 (0, 0)) by exact rowS) (by kernel_rfl) rfl (by rw [← Array.all_toList]; rfl) ?_
  refine hK'.out _ _ (Lib.hid ⟨row_row (Hid.out hHeld).1 (by omega), row_row (Hid.out hHeld).2 (by omega)⟩) (fun hHeld => ?_)
  clear hK' K'
  refine wpAnyH_done (by kernel_rfl) ?_ _
  go_wp2
  exact rows_two_post rfl rfl rfl Tryz.underlying27 rfl (by kernel_rfl) Tryz.underlying29 rfl (by kernel_rfl) rfl (row_row (setRow_heap _ _ _ (corC k) _ _ (show _ = some (Obj.cells #[.int .i64 0, .int .i64 0, .int .i64 0, .int .i64 0, .int .i64 0, .int .i64 0, .int .i64 0, .int .i64 0, .int .i64 0, .int .i64 0, .int .i64 0, .int .i64 0, .bool false, .int .i64 0, .bool false] 27 (0, 0)) by exact rowS)) (by omega)) rfl (setRow_heap _ _ _ #[.bool wn, .bool we, .bool wi] _ _ (show _ = some (Obj.cells #[.bool false, .bool false, .bool false] 29 (0, 0)) by exact rowS)) rfl (cor_pair (below_row (below_row (by exact belS) (by omega)) (by omega)))
end Go.Proofs.YthklebkpoccblaaGreat
