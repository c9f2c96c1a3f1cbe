/-
  Texts put together by program: FdQ.
  Conditions: as each theorem says.
-/
import Derived.Test.YthklebkpoccblaaGreatRqav
namespace Go.Proofs.YthklebkpoccblaaGreat
open Go.RowKit
def CorWires (w : World) (e : Ending) (w' : World) : Prop := ∃ (k : CorI) (n2 e2 i2 d : Bool), e = .returned (.tuple #[.agg (corC k), .agg #[.bool n2, .bool e2, .bool i2], .bool d]) ∧ Below w.heap.size w w'
theorem cor_wires {w w' : World} {k : CorI} {n2 e2 i2 d : Bool} (hb : Below w.heap.size w w') : CorWires w (.returned (.tuple #[.agg (corC k), .agg #[.bool n2, .bool e2, .bool i2], .bool d])) w' := ⟨k, n2, e2, i2, d, rfl, hb⟩
theorem row_two_tmp_post {P : Program} {fn : Func} {R : Ending → World → Prop} {a : Act} {w : World} {p q s : Tmp} {T U : TypeId} {g h n m : Nat} {cs ds : Array Value} {t u : TypeId} {d e : TypeDesc} {v : Value} (hr : fn.results = #[.cell p T, .cell q U, .tmp s]) (hp : a.tmps.getD p undef = .pointer (some ⟨g, 0, none⟩)) (hq : a.tmps.getD q undef = .pointer (some ⟨h, 0, none⟩)) (hv : a.tmps.getD s undef = v)
  (hu : P.underlying T = some d) (hd : (match d with | .struct _ | .array _ _ => true | _ => false) = true) (hi : (P.info? T).map (·.size) = some n)
  (hu2 : P.underlying U = some e) (hd2 : (match e with | .struct _ | .array _ _ => true | _ => false) = true) (hi2 : (P.info? U).map (·.size) = some m) (hde : a.defers = [])
  (hg : w.heap[g]? = some (.cells cs t (0, 0))) (hn : cs.size = n) (hh : w.heap[h]? = some (.cells ds u (0, 0))) (hm : ds.size = m) (hR : R (.returned (.tuple #[.agg cs, .agg ds, v])) w) : bodyPost P fn R .ret a w := by
 refine bodyPost_ret ?_ hde hR
 have hp' : a.tmps[p]?.getD undef = .pointer (some ⟨g, 0, none⟩) := by simpa using hp
 have hq' : a.tmps[q]?.getD undef = .pointer (some ⟨h, 0, none⟩) := by simpa using hq
 have hv' : a.tmps[s]?.getD undef = v := by simpa using hv
 simp [results, hr, hp', hq', hv', asAddr, run_loadVar_row w g t T cs (0, 0) d hg hu hd (by rw [hi, hn]), run_loadVar_row w h u U ds (0, 0) e hh hu2 hd2 (by rw [hi2, hm])]
set_option maxRecDepth 100000 in
set_option maxHeartbeats 20000000 in
theorem s_broke0 (k : CorI) (v : Int) (wn we wi : Bool) (h5 : k.t ≠ 5) (h6 : k.t ≠ 6) (w : World) : Calls Tryz.prog 35 #[.agg (corC k), .int .i64 v, .agg #[.bool wn, .bool we, .bool wi]] w (CorWires w) := by
 go_enter Tryz.func35, Tryz.ntmps35
 go_upto_region 1 with fail
 have K0 : ((((w.alloc (.cells (corC k) 27)).alloc (.cells #[.bool wn, .bool we, .bool wi] 29)).alloc (.cells #[.int .i64 0, .int .i64 0, .int .i64 0, .int .i64 0, .int .i64 0, .int .i64 0, .int .i64 0, .int .i64 0, .int .i64 0, .int .i64 0, .int .i64 0, .int .i64 0, .bool false, .int .i64 0, .bool false] 27)).alloc (.cells #[.bool false, .bool false, .bool false] 29)).heap[w.heap.size]? = some (.cells (corC k) 27 (0, 0)) := by
  have h := blk_old (o := .cells #[.bool false, .bool false, .bool false] 29) (blk_old (o := .cells #[.int .i64 0, .int .i64 0, .int .i64 0, .int .i64 0, .int .i64 0, .int .i64 0, .int .i64 0, .int .i64 0, .int .i64 0, .int .i64 0, .int .i64 0, .int .i64 0, .bool false, .int .i64 0, .bool false] 27) (blk_old (o := .cells #[.bool wn, .bool we, .bool wi] 29) (blk_new w (.cells (corC k) 27))))
  try simp only [alloc_size] at h
  exact h
 have K1 : ((((w.alloc (.cells (corC k) 27)).alloc (.cells #[.bool wn, .bool we, .bool wi] 29)).alloc (.cells #[.int .i64 0, .int .i64 0, .int .i64 0, .int .i64 0, .int .i64 0, .int .i64 0, .int .i64 0, .int .i64 0, .int .i64 0, .int .i64 0, .int .i64 0, .int .i64 0, .bool false, .int .i64 0, .bool false] 27)).alloc (.cells #[.bool false, .bool false, .bool false] 29)).heap[w.heap.size + 1]? = some (.cells #[.bool wn, .bool we, .bool wi] 29 (0, 0)) := by
  have h := blk_old (o := .cells #[.bool false, .bool false, .bool false] 29) (blk_old (o := .cells #[.int .i64 0, .int .i64 0, .int .i64 0, .int .i64 0, .int .i64 0, .int .i64 0, .int .i64 0, .int .i64 0, .int .i64 0, .int .i64 0, .int .i64 0, .int .i64 0, .bool false, .int .i64 0, .bool false] 27) (blk_new (w.alloc (.cells (corC k) 27)) (.cells #[.bool wn, .bool we, .bool wi] 29)))
  try simp only [alloc_size] at h
  exact h
 have K2 : ((((w.alloc (.cells (corC k) 27)).alloc (.cells #[.bool wn, .bool we, .bool wi] 29)).alloc (.cells #[.int .i64 0, .int .i64 0, .int .i64 0, .int .i64 0, .int .i64 0, .int .i64 0, .int .i64 0, .int .i64 0, .int .i64 0, .int .i64 0, .int .i64 0, .int .i64 0, .bool false, .int .i64 0, .bool false] 27)).alloc (.cells #[.bool false, .bool false, .bool false] 29)).heap[w.heap.size + 1 + 1]? = some (.cells #[.int .i64 0, .int .i64 0, .int .i64 0, .int .i64 0, .int .i64 0, .int .i64 0, .int .i64 0, .int .i64 0, .int .i64 0, .int .i64 0, .int .i64 0, .int .i64 0, .bool false, .int .i64 0, .bool false] 27 (0, 0)) := by
  have h := blk_old (o := .cells #[.bool false, .bool false, .bool false] 29) (blk_new ((w.alloc (.cells (corC k) 27)).alloc (.cells #[.bool wn, .bool we, .bool wi] 29)) (.cells #[.int .i64 0, .int .i64 0, .int .i64 0, .int .i64 0, .int .i64 0, .int .i64 0, .int .i64 0, .int .i64 0, .int .i64 0, .int .i64 0, .int .i64 0, .int .i64 0, .bool false, .int .i64 0, .bool false] 27))
  try simp only [alloc_size] at h
  exact h
 have K3 : ((((w.alloc (.cells (corC k) 27)).alloc (.cells #[.bool wn, .bool we, .bool wi] 29)).alloc (.cells #[.int .i64 0, .int .i64 0, .int .i64 0, .int .i64 0, .int .i64 0, .int .i64 0, .int .i64 0, .int .i64 0, .int .i64 0, .int .i64 0, .int .i64 0, .int .i64 0, .bool false, .int .i64 0, .bool false] 27)).alloc (.cells #[.bool false, .bool false, .bool false] 29)).heap[w.heap.size + 1 + 1 + 1]? = some (.cells #[.bool false, .bool false, .bool false] 29 (0, 0)) := by
  have h := blk_new (((w.alloc (.cells (corC k) 27)).alloc (.cells #[.bool wn, .bool we, .bool wi] 29)).alloc (.cells #[.int .i64 0, .int .i64 0, .int .i64 0, .int .i64 0, .int .i64 0, .int .i64 0, .int .i64 0, .int .i64 0, .int .i64 0, .int .i64 0, .int .i64 0, .int .i64 0, .bool false, .int .i64 0, .bool false] 27)) (.cells #[.bool false, .bool false, .bool false] 29)
  try simp only [alloc_size] at h
  exact h
 have B0 := below_alloc (below_alloc (below_alloc (below_alloc (Below.refl w.heap.size w) (.cells (corC k) 27)) (.cells #[.bool wn, .bool we, .bool wi] 29)) (.cells #[.int .i64 0, .int .i64 0, .int .i64 0, .int .i64 0, .int .i64 0, .int .i64 0, .int .i64 0, .int .i64 0, .int .i64 0, .int .i64 0, .int .i64 0, .int .i64 0, .bool false, .int .i64 0, .bool false] 27)) (.cells #[.bool false, .bool false, .bool false] 29)
 generalize ((((w.alloc (.cells (corC k) 27)).alloc (.cells #[.bool wn, .bool we, .bool wi] 29)).alloc (.cells #[.int .i64 0, .int .i64 0, .int .i64 0, .int .i64 0, .int .i64 0, .int .i64 0, .int .i64 0, .int .i64 0, .int .i64 0, .int .i64 0, .int .i64 0, .int .i64 0, .bool false, .int .i64 0, .bool false] 27)).alloc (.cells #[.bool false, .bool false, .bool false] 29)) = w0 at K0 K1 K2 K3 B0 ⊢
 replace K0 : Hid (CorAt w.heap.size k w0) := Lib.hid K0
 replace K1 := Lib.hid K1
 replace K2 := Lib.hid K2
 replace K3 := Lib.hid K3
 replace B0 := Lib.hid B0
 have fz := CorAt.free K0.out
 have c_t := CorAt.c_t K0.out
 have c_sq := CorAt.c_sq K0.out
 have c_p := CorAt.c_p K0.out
 have c_lo := CorAt.c_lo K0.out
 have c_vl := CorAt.c_vl K0.out
 by_cases h1 : k.t = 1
 ·by_cases hs : k.sq = 0
  ·go_upto_region 4 with fail
   go_upto_region 18 with (first
    | (refine load_some (by rfl) _ (by rfl) _ (by rfl) (by exact someS) ?_; intro k2 hk2)
    | (go_at_call 63; refine (t_l10Up _ _).mono ?_; rintro e w1 ⟨k9, rfl, hb⟩)
    | (refine store_some (by rfl) (by rfl) _ _ (by rfl) _ (by rfl) _ (by rfl) (by exact someS; done) ?_)
    | (refine ldi_t (by rfl) _ (by rfl) _ (by rfl) (by exact someS) ?_; intro vt)
    | (refine sti_t (by rfl) (by rfl) _ _ (by rfl) _ (by rfl) _ (by rfl) (by exact someS) ?_; intro k3))
   refine settle4 (B := w.heap.size) (wb := w) (b0 := w.heap.size) (b1 := w.heap.size + 1) (o1 := Obj.cells #[.bool wn, .bool we, .bool wi] 29 (0, 0)) (b2 := w.heap.size + 1 + 1) (o2 := Obj.cells #[.int .i64 0, .int .i64 0, .int .i64 0, .int .i64 0, .int .i64 0, .int .i64 0, .int .i64 0, .int .i64 0, .int .i64 0, .int .i64 0, .int .i64 0, .int .i64 0, .bool false, .int .i64 0, .bool false] 27 (0, 0)) (b3 := w.heap.size + 1 + 1 + 1) (o3 := Obj.cells #[.bool false, .bool false, .bool false] 29 (0, 0)) (by exact someS) (by exact rowG) (by exact rowG) (by exact rowG) (by exact belS) ?_
   clear K0 K1 K2 K3 fz c_t c_sq c_p c_lo c_vl B0 
   intro k w9 K0 K1 K2 K3 B0
   replace K0 := Lib.hid K0
   replace K1 := Lib.hid K1
   replace K2 := Lib.hid K2
   replace K3 := Lib.hid K3
   replace B0 := Lib.hid B0
   have fz := CorAt.free K0.out
   have hlt := (Array.getElem?_eq_some_iff.1 K3.out).1
   refine wp_region_held_drew (S := fun w' => Hid (CorAt w.heap.size k w' ∧ w'.heap[w.heap.size + 1]? = some (Obj.cells #[.bool wn, .bool we, .bool wi] 29 (0, 0)))) (by kernel_rfl) (Lib.hid ⟨CorAt.drew K0.out, row_drew K1.out⟩) (fun hHeld => ?_)
   refine wpAnyH_take (i := 0) (oi := _) rfl (by kernel_rfl) (by kernel_rfl) (by kernel_rfl) (fun _ _ _ h => h) (yields_load_part (by rfl) 27 (.tmp 3) rfl w.heap.size 0 rfl (corC k) _ Tryz.underlying27 rfl (by kernel_rfl) rfl (fun u hS => (Hid.out hS).1)) hHeld ?_
   (try simp only [Act.put, List.getElem_toArray, List.getElem_cons_zero, List.setIfInBounds_toArray, List.set_cons_zero, List.set_cons_succ])
   refine wpAnyH_take (i := 1) (oi := _) rfl (by kernel_rfl) (by kernel_rfl) (by kernel_rfl) (fun _ _ _ h => h) (yields_load_part (by rfl) 29 (.tmp 5) rfl (w.heap.size + 1) 0 rfl #[.bool wn, .bool we, .bool wi] _ Tryz.underlying29 rfl (by kernel_rfl) rfl (fun u hS => (Hid.out hS).2)) hHeld ?_
   (try simp only [Act.put, List.getElem_toArray, List.getElem_cons_zero, List.getElem_cons_succ, List.setIfInBounds_toArray, List.set_cons_zero, List.set_cons_succ])
   refine wpAnyH_ready (rs := [2]) (by kernel_rfl) (by simp) ?_
   refine AllReadyH.cons (o := _) rfl (fun K' hK' => ?_) AllReadyH.nil
   rw [if_pos (by rfl)]
   refine wp_store_row 27 (.tmp 6) (.tmp 56) rfl (w.heap.size + 1 + 1) (corC k) rfl rfl _ _ (show _ = some (Obj.cells #[.int .i64 0, .int .i64 0, .int .i64 0, .int .i64 0, .int .i64 0, .int .i64 0, .int .i64 0, .int .i64 0, .int .i64 0, .int .i64 0, .int .i64 0, .int .i64 0, .bool false, .int .i64 0, .bool false] 27 (0, 0)) by exact rowS) (by kernel_rfl) rfl (by rw [← Array.all_toList]; rfl) ?_
   refine hK'.out _ _ (Lib.hid ⟨row_row (Hid.out hHeld).1 (by omega), row_row (Hid.out hHeld).2 (by omega)⟩) (fun hHeld => ?_)
   clear hK' K'
   refine wpAnyH_ready (rs := [3]) (by kernel_rfl) (by simp) ?_
   refine AllReadyH.cons (o := _) rfl (fun K' hK' => ?_) AllReadyH.nil
   rw [if_pos (by rfl)]
   refine wp_store_row 29 (.tmp 7) (.tmp 57) rfl (w.heap.size + 1 + 1 + 1) #[.bool wn, .bool we, .bool wi] rfl rfl _ _ (show _ = some (Obj.cells #[.bool false, .bool false, .bool false] 29 (0, 0)) by exact rowS) (by kernel_rfl) rfl (by rw [← Array.all_toList]; rfl) ?_
   refine hK'.out _ _ (Lib.hid ⟨row_row (Hid.out hHeld).1 (by omega), row_row (Hid.out hHeld).2 (by omega)⟩) (fun hHeld => ?_)
   clear hK' K'
   refine wpAnyH_take (i := 4) (oi := _) (v := ?_) rfl (by kernel_rfl) (by kernel_rfl) (by kernel_rfl) (fun _ _ _ h => h) (Or.inl ⟨by rfl, ?_⟩) hHeld ?_
   rotate_left 1
   ·intro wz hz
    (try dsimp only at hz)
    go_simp
    (try with_reducible rfl)
   (try simp only [Act.put, List.getElem_toArray, List.getElem_cons_zero, List.getElem_cons_succ, List.setIfInBounds_toArray, List.set_cons_zero, List.set_cons_succ])
   refine wpAnyH_done (by kernel_rfl) ?_ _
   go_wp2
   exact row_two_tmp_post rfl rfl rfl rfl Tryz.underlying27 rfl (by kernel_rfl) Tryz.underlying29 rfl (by kernel_rfl) rfl (row_row (setRow_heap _ _ _ (corC k) _ _ (show _ = some (Obj.cells #[.int .i64 0, .int .i64 0, .int .i64 0, .int .i64 0, .int .i64 0, .int .i64 0, .int .i64 0, .int .i64 0, .int .i64 0, .int .i64 0, .int .i64 0, .int .i64 0, .bool false, .int .i64 0, .bool false] 27 (0, 0)) by exact rowS)) (by omega)) rfl (setRow_heap _ _ _ #[.bool wn, .bool we, .bool wi] _ _ (show _ = some (Obj.cells #[.bool false, .bool false, .bool false] 29 (0, 0)) by exact rowS)) rfl (cor_wires (below_row (below_row (by exact belS) (by omega)) (by omega)))
  ·go_upto_region 17 with fail
   go_upto_region 18 with (first
    | (refine ldi_t (by rfl) _ (by rfl) _ (by rfl) (by exact someS) ?_; intro vt)
    | (refine sti_t (by rfl) (by rfl) _ _ (by rfl) _ (by rfl) _ (by rfl) (by exact someS) ?_; intro k3))
   refine settle4 (B := w.heap.size) (wb := w) (b0 := w.heap.size) (b1 := w.heap.size + 1) (o1 := Obj.cells #[.bool wn, .bool we, .bool wi] 29 (0, 0)) (b2 := w.heap.size + 1 + 1) (o2 := Obj.cells #[.int .i64 0, .int .i64 0, .int .i64 0, .int .i64 0, .int .i64 0, .int .i64 0, .int .i64 0, .int .i64 0, .int .i64 0, .int .i64 0, .int .i64 0, .int .i64 0, .bool false, .int .i64 0, .bool false] 27 (0, 0)) (b3 := w.heap.size + 1 + 1 + 1) (o3 := Obj.cells #[.bool false, .bool false, .bool false] 29 (0, 0)) (by exact someS) (by exact rowG) (by exact rowG) (by exact rowG) (by exact belS) ?_
   clear K0 K1 K2 K3 fz c_t c_sq c_p c_lo c_vl B0 
   intro k w9 K0 K1 K2 K3 B0
   replace K0 := Lib.hid K0
   replace K1 := Lib.hid K1
   replace K2 := Lib.hid K2
   replace K3 := Lib.hid K3
   replace B0 := Lib.hid B0
   have fz := CorAt.free K0.out
   have hlt := (Array.getElem?_eq_some_iff.1 K3.out).1
   refine wp_region_held_drew (S := fun w' => Hid (CorAt w.heap.size k w' ∧ w'.heap[w.heap.size + 1]? = some (Obj.cells #[.bool wn, .bool we, .bool wi] 29 (0, 0)))) (by kernel_rfl) (Lib.hid ⟨CorAt.drew K0.out, row_drew K1.out⟩) (fun hHeld => ?_)
   refine wpAnyH_take (i := 0) (oi := _) rfl (by kernel_rfl) (by kernel_rfl) (by kernel_rfl) (fun _ _ _ h => h) (yields_load_part (by rfl) 27 (.tmp 3) rfl w.heap.size 0 rfl (corC k) _ Tryz.underlying27 rfl (by kernel_rfl) rfl (fun u hS => (Hid.out hS).1)) hHeld ?_
   (try simp only [Act.put, List.getElem_toArray, List.getElem_cons_zero, List.setIfInBounds_toArray, List.set_cons_zero, List.set_cons_succ])
   refine wpAnyH_take (i := 1) (oi := _) rfl (by kernel_rfl) (by kernel_rfl) (by kernel_rfl) (fun _ _ _ h => h) (yields_load_part (by rfl) 29 (.tmp 5) rfl (w.heap.size + 1) 0 rfl #[.bool wn, .bool we, .bool wi] _ Tryz.underlying29 rfl (by kernel_rfl) rfl (fun u hS => (Hid.out hS).2)) hHeld ?_
   (try simp only [Act.put, List.getElem_toArray, List.getElem_cons_zero, List.getElem_cons_succ, List.setIfInBounds_toArray, List.set_cons_zero, List.set_cons_succ])
   refine wpAnyH_ready (rs := [2]) (by kernel_rfl) (by simp) ?_
   refine AllReadyH.cons (o := _) rfl (fun K' hK' => ?_) AllReadyH.nil
   rw [if_pos (by rfl)]
   refine wp_store_row 27 (.tmp 6) (.tmp 56) rfl (w.heap.size + 1 + 1) (corC k) rfl rfl _ _ (show _ = some (Obj.cells #[.int .i64 0, .int .i64 0, .int .i64 0, .int .i64 0, .int .i64 0, .int .i64 0, .int .i64 0, .int .i64 0, .int .i64 0, .int .i64 0, .int .i64 0, .int .i64 0, .bool false, .int .i64 0, .bool false] 27 (0, 0)) by exact rowS) (by kernel_rfl) rfl (by rw [← Array.all_toList]; rfl) ?_
   refine hK'.out _ _ (Lib.hid ⟨row_row (Hid.out hHeld).1 (by omega), row_row (Hid.out hHeld).2 (by omega)⟩) (fun hHeld => ?_)
   clear hK' K'
   refine wpAnyH_ready (rs := [3]) (by kernel_rfl) (by simp) ?_
   refine AllReadyH.cons (o := _) rfl (fun K' hK' => ?_) AllReadyH.nil
   rw [if_pos (by rfl)]
   refine wp_store_row 29 (.tmp 7) (.tmp 57) rfl (w.heap.size + 1 + 1 + 1) #[.bool wn, .bool we, .bool wi] rfl rfl _ _ (show _ = some (Obj.cells #[.bool false, .bool false, .bool false] 29 (0, 0)) by exact rowS) (by kernel_rfl) rfl (by rw [← Array.all_toList]; rfl) ?_
   refine hK'.out _ _ (Lib.hid ⟨row_row (Hid.out hHeld).1 (by omega), row_row (Hid.out hHeld).2 (by omega)⟩) (fun hHeld => ?_)
   clear hK' K'
   refine wpAnyH_take (i := 4) (oi := _) (v := ?_) rfl (by kernel_rfl) (by kernel_rfl) (by kernel_rfl) (fun _ _ _ h => h) (Or.inl ⟨by rfl, ?_⟩) hHeld ?_
   rotate_left 1
   ·intro wz hz
    (try dsimp only at hz)
    go_simp
    (try with_reducible rfl)
   (try simp only [Act.put, List.getElem_toArray, List.getElem_cons_zero, List.getElem_cons_succ, List.setIfInBounds_toArray, List.set_cons_zero, List.set_cons_succ])
   refine wpAnyH_done (by kernel_rfl) ?_ _
   go_wp2
   exact row_two_tmp_post rfl rfl rfl rfl Tryz.underlying27 rfl (by kernel_rfl) Tryz.underlying29 rfl (by kernel_rfl) rfl (row_row (setRow_heap _ _ _ (corC k) _ _ (show _ = some (Obj.cells #[.int .i64 0, .int .i64 0, .int .i64 0, .int .i64 0, .int .i64 0, .int .i64 0, .int .i64 0, .int .i64 0, .int .i64 0, .int .i64 0, .int .i64 0, .int .i64 0, .bool false, .int .i64 0, .bool false] 27 (0, 0)) by exact rowS)) (by omega)) rfl (setRow_heap _ _ _ #[.bool wn, .bool we, .bool wi] _ _ (show _ = some (Obj.cells #[.bool false, .bool false, .bool false] 29 (0, 0)) by exact rowS)) rfl (cor_wires (below_row (below_row (by exact belS) (by omega)) (by omega)))
 ·by_cases h2 : k.t = 2
  ·go_upto_region 8 with fail
   go_upto_region 18 with (first
    | (refine load_some (by rfl) _ (by rfl) _ (by rfl) (by exact someS) ?_; intro k2 hk2)
    | (go_at_call 66; refine (t_l10Drop _ _).mono ?_; rintro e w1 ⟨k9, rfl, hb⟩)
    | (refine store_some (by rfl) (by rfl) _ _ (by rfl) _ (by rfl) _ (by rfl) (by exact someS; done) ?_)
    | (refine ldi_t (by rfl) _ (by rfl) _ (by rfl) (by exact someS) ?_; intro vt)
    | (refine sti_t (by rfl) (by rfl) _ _ (by rfl) _ (by rfl) _ (by rfl) (by exact someS) ?_; intro k3))
   refine settle4 (B := w.heap.size) (wb := w) (b0 := w.heap.size) (b1 := w.heap.size + 1) (o1 := Obj.cells #[.bool wn, .bool we, .bool wi] 29 (0, 0)) (b2 := w.heap.size + 1 + 1) (o2 := Obj.cells #[.int .i64 0, .int .i64 0, .int .i64 0, .int .i64 0, .int .i64 0, .int .i64 0, .int .i64 0, .int .i64 0, .int .i64 0, .int .i64 0, .int .i64 0, .int .i64 0, .bool false, .int .i64 0, .bool false] 27 (0, 0)) (b3 := w.heap.size + 1 + 1 + 1) (o3 := Obj.cells #[.bool false, .bool false, .bool false] 29 (0, 0)) (by exact someS) (by exact rowG) (by exact rowG) (by exact rowG) (by exact belS) ?_
   clear K0 K1 K2 K3 fz c_t c_sq c_p c_lo c_vl B0 
   intro k w9 K0 K1 K2 K3 B0
   replace K0 := Lib.hid K0
   replace K1 := Lib.hid K1
   replace K2 := Lib.hid K2
   replace K3 := Lib.hid K3
   replace B0 := Lib.hid B0
   have fz := CorAt.free K0.out
   have hlt := (Array.getElem?_eq_some_iff.1 K3.out).1
   refine wp_region_held_drew (S := fun w' => Hid (CorAt w.heap.size k w' ∧ w'.heap[w.heap.size + 1]? = some (Obj.cells #[.bool wn, .bool we, .bool wi] 29 (0, 0)))) (by kernel_rfl) (Lib.hid ⟨CorAt.drew K0.out, row_drew K1.out⟩) (fun hHeld => ?_)
   refine wpAnyH_take (i := 0) (oi := _) rfl (by kernel_rfl) (by kernel_rfl) (by kernel_rfl) (fun _ _ _ h => h) (yields_load_part (by rfl) 27 (.tmp 3) rfl w.heap.size 0 rfl (corC k) _ Tryz.underlying27 rfl (by kernel_rfl) rfl (fun u hS => (Hid.out hS).1)) hHeld ?_
   (try simp only [Act.put, List.getElem_toArray, List.getElem_cons_zero, List.setIfInBounds_toArray, List.set_cons_zero, List.set_cons_succ])
   refine wpAnyH_take (i := 1) (oi := _) rfl (by kernel_rfl) (by kernel_rfl) (by kernel_rfl) (fun _ _ _ h => h) (yields_load_part (by rfl) 29 (.tmp 5) rfl (w.heap.size + 1) 0 rfl #[.bool wn, .bool we, .bool wi] _ Tryz.underlying29 rfl (by kernel_rfl) rfl (fun u hS => (Hid.out hS).2)) hHeld ?_
   (try simp only [Act.put, List.getElem_toArray, List.getElem_cons_zero, List.getElem_cons_succ, List.setIfInBounds_toArray, List.set_cons_zero, List.set_cons_succ])
   refine wpAnyH_ready (rs := [2]) (by kernel_rfl) (by simp) ?_
   refine AllReadyH.cons (o := _) rfl (fun K' hK' => ?_) AllReadyH.nil
   rw [if_pos (by rfl)]
   refine wp_store_row 27 (.tmp 6) (.tmp 56) rfl (w.heap.size + 1 + 1) (corC k) rfl rfl _ _ (show _ = some (Obj.cells #[.int .i64 0, .int .i64 0, .int .i64 0, .int .i64 0, .int .i64 0, .int .i64 0, .int .i64 0, .int .i64 0, .int .i64 0, .int .i64 0, .int .i64 0, .int .i64 0, .bool false, .int .i64 0, .bool false] 27 (0, 0)) by exact rowS) (by kernel_rfl) rfl (by rw [← Array.all_toList]; rfl) ?_
   refine hK'.out _ _ (Lib.hid ⟨row_row (Hid.out hHeld).1 (by omega), row_row (Hid.out hHeld).2 (by omega)⟩) (fun hHeld => ?_)
   clear hK' K'
   refine wpAnyH_ready (rs := [3]) (by kernel_rfl) (by simp) ?_
   refine AllReadyH.cons (o := _) rfl (fun K' hK' => ?_) AllReadyH.nil
   rw [if_pos (by rfl)]
   refine wp_store_row 29 (.tmp 7) (.tmp 57) rfl (w.heap.size + 1 + 1 + 1) #[.bool wn, .bool we, .bool wi] rfl rfl _ _ (show _ = some (Obj.cells #[.bool false, .bool false, .bool false] 29 (0, 0)) by exact rowS) (by kernel_rfl) rfl (by rw [← Array.all_toList]; rfl) ?_
   refine hK'.out _ _ (Lib.hid ⟨row_row (Hid.out hHeld).1 (by omega), row_row (Hid.out hHeld).2 (by omega)⟩) (fun hHeld => ?_)
   clear hK' K'
   refine wpAnyH_take (i := 4) (oi := _) (v := ?_) rfl (by kernel_rfl) (by kernel_rfl) (by kernel_rfl) (fun _ _ _ h => h) (Or.inl ⟨by rfl, ?_⟩) hHeld ?_
   rotate_left 1
   ·intro wz hz
    (try dsimp only at hz)
    go_simp
    (try with_reducible rfl)
   (try simp only [Act.put, List.getElem_toArray, List.getElem_cons_zero, List.getElem_cons_succ, List.setIfInBounds_toArray, List.set_cons_zero, List.set_cons_succ])
   refine wpAnyH_done (by kernel_rfl) ?_ _
   go_wp2
   exact row_two_tmp_post rfl rfl rfl rfl Tryz.underlying27 rfl (by kernel_rfl) Tryz.underlying29 rfl (by kernel_rfl) rfl (row_row (setRow_heap _ _ _ (corC k) _ _ (show _ = some (Obj.cells #[.int .i64 0, .int .i64 0, .int .i64 0, .int .i64 0, .int .i64 0, .int .i64 0, .int .i64 0, .int .i64 0, .int .i64 0, .int .i64 0, .int .i64 0, .int .i64 0, .bool false, .int .i64 0, .bool false] 27 (0, 0)) by exact rowS)) (by omega)) rfl (setRow_heap _ _ _ #[.bool wn, .bool we, .bool wi] _ _ (show _ = some (Obj.cells #[.bool false, .bool false, .bool false] 29 (0, 0)) by exact rowS)) rfl (cor_wires (below_row (below_row (by exact belS) (by omega)) (by omega)))
  ·by_cases h3 : k.t = 3
   ·go_upto_region 8 with fail
    go_upto_region 18 with (first
     | (refine load_some (by rfl) _ (by rfl) _ (by rfl) (by exact someS) ?_; intro k2 hk2)
     | (go_at_call 66; refine (t_l10Drop _ _).mono ?_; rintro e w1 ⟨k9, rfl, hb⟩)
     | (refine store_some (by rfl) (by rfl) _ _ (by rfl) _ (by rfl) _ (by rfl) (by exact someS; done) ?_)
     | (refine ldi_t (by rfl) _ (by rfl) _ (by rfl) (by exact someS) ?_; intro vt)
     | (refine sti_t (by rfl) (by rfl) _ _ (by rfl) _ (by rfl) _ (by rfl) (by exact someS) ?_; intro k3))
    refine settle4 (B := w.heap.size) (wb := w) (b0 := w.heap.size) (b1 := w.heap.size + 1) (o1 := Obj.cells #[.bool wn, .bool we, .bool wi] 29 (0, 0)) (b2 := w.heap.size + 1 + 1) (o2 := Obj.cells #[.int .i64 0, .int .i64 0, .int .i64 0, .int .i64 0, .int .i64 0, .int .i64 0, .int .i64 0, .int .i64 0, .int .i64 0, .int .i64 0, .int .i64 0, .int .i64 0, .bool false, .int .i64 0, .bool false] 27 (0, 0)) (b3 := w.heap.size + 1 + 1 + 1) (o3 := Obj.cells #[.bool false, .bool false, .bool false] 29 (0, 0)) (by exact someS) (by exact rowG) (by exact rowG) (by exact rowG) (by exact belS) ?_
    clear K0 K1 K2 K3 fz c_t c_sq c_p c_lo c_vl B0 
    intro k w9 K0 K1 K2 K3 B0
    replace K0 := Lib.hid K0
    replace K1 := Lib.hid K1
    replace K2 := Lib.hid K2
    replace K3 := Lib.hid K3
    replace B0 := Lib.hid B0
    have fz := CorAt.free K0.out
    have hlt := (Array.getElem?_eq_some_iff.1 K3.out).1
    refine wp_region_held_drew (S := fun w' => Hid (CorAt w.heap.size k w' ∧ w'.heap[w.heap.size + 1]? = some (Obj.cells #[.bool wn, .bool we, .bool wi] 29 (0, 0)))) (by kernel_rfl) (Lib.hid ⟨CorAt.drew K0.out, row_drew K1.out⟩) (fun hHeld => ?_)
    refine wpAnyH_take (i := 0) (oi := _) rfl (by kernel_rfl) (by kernel_rfl) (by kernel_rfl) (fun _ _ _ h => h) (yields_load_part (by rfl) 27 (.tmp 3) rfl w.heap.size 0 rfl (corC k) _ Tryz.underlying27 rfl (by kernel_rfl) rfl (fun u hS => (Hid.out hS).1)) hHeld ?_
    (try simp only [Act.put, List.getElem_toArray, List.getElem_cons_zero, List.setIfInBounds_toArray, List.set_cons_zero, List.set_cons_succ])
    refine wpAnyH_take (i := 1) (oi := _) rfl (by kernel_rfl) (by kernel_rfl) (by kernel_rfl) (fun _ _ _ h => h) (yields_load_part (by rfl) 29 (.tmp 5) rfl (w.heap.size + 1) 0 rfl #[.bool wn, .bool we, .bool wi] _ Tryz.underlying29 rfl (by kernel_rfl) rfl (fun u hS => (Hid.out hS).2)) hHeld ?_
    (try simp only [Act.put, List.getElem_toArray, List.getElem_cons_zero, List.getElem_cons_succ, List.setIfInBounds_toArray, List.set_cons_zero, List.set_cons_succ])
    refine wpAnyH_ready (rs := [2]) (by kernel_rfl) (by simp) ?_
    refine AllReadyH.cons (o := _) rfl (fun K' hK' => ?_) AllReadyH.nil
    rw [if_pos (by rfl)]
    refine wp_store_row 27 (.tmp 6) (.tmp 56) rfl (w.heap.size + 1 + 1) (corC k) rfl rfl _ _ (show _ = some (Obj.cells #[.int .i64 0, .int .i64 0, .int .i64 0, .int .i64 0, .int .i64 0, .int .i64 0, .int .i64 0, .int .i64 0, .int .i64 0, .int .i64 0, .int .i64 0, .int .i64 0, .bool false, .int .i64 0, .bool false] 27 (0, 0)) by exact rowS) (by kernel_rfl) rfl (by rw [← Array.all_toList]; rfl) ?_
    refine hK'.out _ _ (Lib.hid ⟨row_row (Hid.out hHeld).1 (by omega), row_row (Hid.out hHeld).2 (by omega)⟩) (fun hHeld => ?_)
    clear hK' K'
    refine wpAnyH_ready (rs := [3]) (by kernel_rfl) (by simp) ?_
    refine AllReadyH.cons (o := _) rfl (fun K' hK' => ?_) AllReadyH.nil
    rw [if_pos (by rfl)]
    refine wp_store_row 29 (.tmp 7) (.tmp 57) rfl (w.heap.size + 1 + 1 + 1) #[.bool wn, .bool we, .bool wi] rfl rfl _ _ (show _ = some (Obj.cells #[.bool false, .bool false, .bool false] 29 (0, 0)) by exact rowS) (by kernel_rfl) rfl (by rw [← Array.all_toList]; rfl) ?_
    refine hK'.out _ _ (Lib.hid ⟨row_row (Hid.out hHeld).1 (by omega), row_row (Hid.out hHeld).2 (by omega)⟩) (fun hHeld => ?_)
    clear hK' K'
    refine wpAnyH_take (i := 4) (oi := _) (v := ?_) rfl (by kernel_rfl) (by kernel_rfl) (by kernel_rfl) (fun _ _ _ h => h) (Or.inl ⟨by rfl, ?_⟩) hHeld ?_
    rotate_left 1
    ·intro wz hz
     (try dsimp only at hz)
     go_simp
     (try with_reducible rfl)
    (try simp only [Act.put, List.getElem_toArray, List.getElem_cons_zero, List.getElem_cons_succ, List.setIfInBounds_toArray, List.set_cons_zero, List.set_cons_succ])
    refine wpAnyH_done (by kernel_rfl) ?_ _
    go_wp2
    exact row_two_tmp_post rfl rfl rfl rfl Tryz.underlying27 rfl (by kernel_rfl) Tryz.underlying29 rfl (by kernel_rfl) rfl (row_row (setRow_heap _ _ _ (corC k) _ _ (show _ = some (Obj.cells #[.int .i64 0, .int .i64 0, .int .i64 0, .int .i64 0, .int .i64 0, .int .i64 0, .int .i64 0, .int .i64 0, .int .i64 0, .int .i64 0, .int .i64 0, .int .i64 0, .bool false, .int .i64 0, .bool false] 27 (0, 0)) by exact rowS)) (by omega)) rfl (setRow_heap _ _ _ #[.bool wn, .bool we, .bool wi] _ _ (show _ = some (Obj.cells #[.bool false, .bool false, .bool false] 29 (0, 0)) by exact rowS)) rfl (cor_wires (below_row (below_row (by exact belS) (by omega)) (by omega)))
   ·by_cases h4 : k.t = 4
    ·go_upto_region 8 with fail
     go_upto_region 18 with (first
      | (refine load_some (by rfl) _ (by rfl) _ (by rfl) (by exact someS) ?_; intro k2 hk2)
      | (go_at_call 66; refine (t_l10Drop _ _).mono ?_; rintro e w1 ⟨k9, rfl, hb⟩)
      | (refine store_some (by rfl) (by rfl) _ _ (by rfl) _ (by rfl) _ (by rfl) (by exact someS; done) ?_)
      | (refine ldi_t (by rfl) _ (by rfl) _ (by rfl) (by exact someS) ?_; intro vt)
      | (refine sti_t (by rfl) (by rfl) _ _ (by rfl) _ (by rfl) _ (by rfl) (by exact someS) ?_; intro k3))
     refine settle4 (B := w.heap.size) (wb := w) (b0 := w.heap.size) (b1 := w.heap.size + 1) (o1 := Obj.cells #[.bool wn, .bool we, .bool wi] 29 (0, 0)) (b2 := w.heap.size + 1 + 1) (o2 := Obj.cells #[.int .i64 0, .int .i64 0, .int .i64 0, .int .i64 0, .int .i64 0, .int .i64 0, .int .i64 0, .int .i64 0, .int .i64 0, .int .i64 0, .int .i64 0, .int .i64 0, .bool false, .int .i64 0, .bool false] 27 (0, 0)) (b3 := w.heap.size + 1 + 1 + 1) (o3 := Obj.cells #[.bool false, .bool false, .bool false] 29 (0, 0)) (by exact someS) (by exact rowG) (by exact rowG) (by exact rowG) (by exact belS) ?_
     clear K0 K1 K2 K3 fz c_t c_sq c_p c_lo c_vl B0 
     intro k w9 K0 K1 K2 K3 B0
     replace K0 := Lib.hid K0
     replace K1 := Lib.hid K1
     replace K2 := Lib.hid K2
     replace K3 := Lib.hid K3
     replace B0 := Lib.hid B0
     have fz := CorAt.free K0.out
     have hlt := (Array.getElem?_eq_some_iff.1 K3.out).1
     refine wp_region_held_drew (S := fun w' => Hid (CorAt w.heap.size k w' ∧ w'.heap[w.heap.size + 1]? = some (Obj.cells #[.bool wn, .bool we, .bool wi] 29 (0, 0)))) (by kernel_rfl) (Lib.hid ⟨CorAt.drew K0.out, row_drew K1.out⟩) (fun hHeld => ?_)
     refine wpAnyH_take (i := 0) (oi := _) rfl (by kernel_rfl) (by kernel_rfl) (by kernel_rfl) (fun _ _ _ h => h) (yields_load_part (by rfl) 27 (.tmp 3) rfl w.heap.size 0 rfl (corC k) _ Tryz.underlying27 rfl (by kernel_rfl) rfl (fun u hS => (Hid.out hS).1)) hHeld ?_
     (try simp only [Act.put, List.getElem_toArray, List.getElem_cons_zero, List.setIfInBounds_toArray, List.set_cons_zero, List.set_cons_succ])
     refine wpAnyH_take (i := 1) (oi := _) rfl (by kernel_rfl) (by kernel_rfl) (by kernel_rfl) (fun _ _ _ h => h) (yields_load_part (by rfl) 29 (.tmp 5) rfl (w.heap.size + 1) 0 rfl #[.bool wn, .bool we, .bool wi] _ Tryz.underlying29 rfl (by kernel_rfl) rfl (fun u hS => (Hid.out hS).2)) hHeld ?_
     (try simp only [Act.put, List.getElem_toArray, List.getElem_cons_zero, List.getElem_cons_succ, List.setIfInBounds_toArray, List.set_cons_zero, List.set_cons_succ])
     refine wpAnyH_ready (rs := [2]) (by kernel_rfl) (by simp) ?_
     refine AllReadyH.cons (o := _) rfl (fun K' hK' => ?_) AllReadyH.nil
     rw [if_pos (by rfl)]
     refine wp_store_row 27 (.tmp 6) (.tmp 56) rfl (w.heap.size + 1 + 1) (corC k) rfl rfl _ _ (show _ = some (Obj.cells #[.int .i64 0, .int .i64 0, .int .i64 0, .int .i64 0, .int .i64 0, .int .i64 0, .int .i64 0, .int .i64 0, .int .i64 0, .int .i64 0, .int .i64 0, .int .i64 0, .bool false, .int .i64 0, .bool false] 27 (0, 0)) by exact rowS) (by kernel_rfl) rfl (by rw [← Array.all_toList]; rfl) ?_
     refine hK'.out _ _ (Lib.hid ⟨row_row (Hid.out hHeld).1 (by omega), row_row (Hid.out hHeld).2 (by omega)⟩) (fun hHeld => ?_)
     clear hK' K'
     refine wpAnyH_ready (rs := [3]) (by kernel_rfl) (by simp) ?_
     refine AllReadyH.cons (o := _) rfl (fun K' hK' => ?_) AllReadyH.nil
     rw [if_pos (by rfl)]
     refine wp_store_row 29 (.tmp 7) (.tmp 57) rfl (w.heap.size + 1 + 1 + 1) #[.bool wn, .bool we, .bool wi] rfl rfl _ _ (show _ = some (Obj.cells #[.bool false, .bool false, .bool false] 29 (0, 0)) by exact rowS) (by kernel_rfl) rfl (by rw [← Array.all_toList]; rfl) ?_
     refine hK'.out _ _ (Lib.hid ⟨row_row (Hid.out hHeld).1 (by omega), row_row (Hid.out hHeld).2 (by omega)⟩) (fun hHeld => ?_)
     clear hK' K'
     refine wpAnyH_take (i := 4) (oi := _) (v := ?_) rfl (by kernel_rfl) (by kernel_rfl) (by kernel_rfl) (fun _ _ _ h => h) (Or.inl ⟨by rfl, ?_⟩) hHeld ?_
     rotate_left 1
     ·intro wz hz
      (try dsimp only at hz)
      go_simp
      (try with_reducible rfl)
     (try simp only [Act.put, List.getElem_toArray, List.getElem_cons_zero, List.getElem_cons_succ, List.setIfInBounds_toArray, List.set_cons_zero, List.set_cons_succ])
     refine wpAnyH_done (by kernel_rfl) ?_ _
     go_wp2
     exact row_two_tmp_post rfl rfl rfl rfl Tryz.underlying27 rfl (by kernel_rfl) Tryz.underlying29 rfl (by kernel_rfl) rfl (row_row (setRow_heap _ _ _ (corC k) _ _ (show _ = some (Obj.cells #[.int .i64 0, .int .i64 0, .int .i64 0, .int .i64 0, .int .i64 0, .int .i64 0, .int .i64 0, .int .i64 0, .int .i64 0, .int .i64 0, .int .i64 0, .int .i64 0, .bool false, .int .i64 0, .bool false] 27 (0, 0)) by exact rowS)) (by omega)) rfl (setRow_heap _ _ _ #[.bool wn, .bool we, .bool wi] _ _ (show _ = some (Obj.cells #[.bool false, .bool false, .bool false] 29 (0, 0)) by exact rowS)) rfl (cor_wires (below_row (below_row (by exact belS) (by omega)) (by omega)))
    ·go_upto_region 17 with fail
     go_upto_region 18 with (first
      | (refine ldi_t (by rfl) _ (by rfl) _ (by rfl) (by exact someS) ?_; intro vt)
      | (refine sti_t (by rfl) (by rfl) _ _ (by rfl) _ (by rfl) _ (by rfl) (by exact someS) ?_; intro k3))
     refine settle4 (B := w.heap.size) (wb := w) (b0 := w.heap.size) (b1 := w.heap.size + 1) (o1 := Obj.cells #[.bool wn, .bool we, .bool wi] 29 (0, 0)) (b2 := w.heap.size + 1 + 1) (o2 := Obj.cells #[.int .i64 0, .int .i64 0, .int .i64 0, .int .i64 0, .int .i64 0, .int .i64 0, .int .i64 0, .int .i64 0, .int .i64 0, .int .i64 0, .int .i64 0, .int .i64 0, .bool false, .int .i64 0, .bool false] 27 (0, 0)) (b3 := w.heap.size + 1 + 1 + 1) (o3 := Obj.cells #[.bool false, .bool false, .bool false] 29 (0, 0)) (by exact someS) (by exact rowG) (by exact rowG) (by exact rowG) (by exact belS) ?_
     clear K0 K1 K2 K3 fz c_t c_sq c_p c_lo c_vl B0 
     intro k w9 K0 K1 K2 K3 B0
     replace K0 := Lib.hid K0
     replace K1 := Lib.hid K1
     replace K2 := Lib.hid K2
     replace K3 := Lib.hid K3
     replace B0 := Lib.hid B0
     have fz := CorAt.free K0.out
     have hlt := (Array.getElem?_eq_some_iff.1 K3.out).1
     refine wp_region_held_drew (S := fun w' => Hid (CorAt w.heap.size k w' ∧ w'.heap[w.heap.size + 1]? = some (Obj.cells #[.bool wn, .bool we, .bool wi] 29 (0, 0)))) (by kernel_rfl) (Lib.hid ⟨CorAt.drew K0.out, row_drew K1.out⟩) (fun hHeld => ?_)
     refine wpAnyH_take (i := 0) (oi := _) rfl (by kernel_rfl) (by kernel_rfl) (by kernel_rfl) (fun _ _ _ h => h) (yields_load_part (by rfl) 27 (.tmp 3) rfl w.heap.size 0 rfl (corC k) _ Tryz.underlying27 rfl (by kernel_rfl) rfl (fun u hS => (Hid.out hS).1)) hHeld ?_
     (try simp only [Act.put, List.getElem_toArray, List.getElem_cons_zero, List.setIfInBounds_toArray, List.set_cons_zero, List.set_cons_succ])
     refine wpAnyH_take (i := 1) (oi := _) rfl (by kernel_rfl) (by kernel_rfl) (by kernel_rfl) (fun _ _ _ h => h) (yields_load_part (by rfl) 29 (.tmp 5) rfl (w.heap.size + 1) 0 rfl #[.bool wn, .bool we, .bool wi] _ Tryz.underlying29 rfl (by kernel_rfl) rfl (fun u hS => (Hid.out hS).2)) hHeld ?_
     (try simp only [Act.put, List.getElem_toArray, List.getElem_cons_zero, List.getElem_cons_succ, List.setIfInBounds_toArray, List.set_cons_zero, List.set_cons_succ])
     refine wpAnyH_ready (rs := [2]) (by kernel_rfl) (by simp) ?_
     refine AllReadyH.cons (o := _) rfl (fun K' hK' => ?_) AllReadyH.nil
     rw [if_pos (by rfl)]
     refine wp_store_row 27 (.tmp 6) (.tmp 56) rfl (w.heap.size + 1 + 1) (corC k) rfl rfl _ _ (show _ = some (Obj.cells #[.int .i64 0, .int .i64 0, .int .i64 0, .int .i64 0, .int .i64 0, .int .i64 0, .int .i64 0, .int .i64 0, .int .i64 0, .int .i64 0, .int .i64 0, .int .i64 0, .bool false, .int .i64 0, .bool false] 27 (0, 0)) by exact rowS) (by kernel_rfl) rfl (by rw [← Array.all_toList]; rfl) ?_
     refine hK'.out _ _ (Lib.hid ⟨row_row (Hid.out hHeld).1 (by omega), row_row (Hid.out hHeld).2 (by omega)⟩) (fun hHeld => ?_)
     clear hK' K'
     refine wpAnyH_ready (rs := [3]) (by kernel_rfl) (by simp) ?_
     refine AllReadyH.cons (o := _) rfl (fun K' hK' => ?_) AllReadyH.nil
     rw [if_pos (by rfl)]
     refine wp_store_row 29 (.tmp 7) (.tmp 57) rfl (w.heap.size + 1 + 1 + 1) #[.bool wn, .bool we, .bool wi] rfl rfl _ _ (show _ = some (Obj.cells #[.bool false, .bool false, .bool false] 29 (0, 0)) by exact rowS) (by kernel_rfl) rfl (by rw [← Array.all_toList]; rfl) ?_
     refine hK'.out _ _ (Lib.hid ⟨row_row (Hid.out hHeld).1 (by omega), row_row (Hid.out hHeld).2 (by omega)⟩) (fun hHeld => ?_)
     clear hK' K'
     refine wpAnyH_take (i := 4) (oi := _) (v := ?_) rfl (by kernel_rfl) (by kernel_rfl) (by kernel_rfl) (fun _ _ _ h => h) (Or.inl ⟨by rfl, ?_⟩) hHeld ?_
     rotate_left 1
     ·intro wz hz
      (try dsimp only at hz)
      go_simp
      (try with_reducible rfl)
     (try simp only [Act.put, List.getElem_toArray, List.getElem_cons_zero, List.getElem_cons_succ, List.setIfInBounds_toArray, List.set_cons_zero, List.set_cons_succ])
     refine wpAnyH_done (by kernel_rfl) ?_ _
     go_wp2
     exact row_two_tmp_post rfl rfl rfl rfl Tryz.underlying27 rfl (by kernel_rfl) Tryz.underlying29 rfl (by kernel_rfl) rfl (row_row (setRow_heap _ _ _ (corC k) _ _ (show _ = some (Obj.cells #[.int .i64 0, .int .i64 0, .int .i64 0, .int .i64 0, .int .i64 0, .int .i64 0, .int .i64 0, .int .i64 0, .int .i64 0, .int .i64 0, .int .i64 0, .int .i64 0, .bool false, .int .i64 0, .bool false] 27 (0, 0)) by exact rowS)) (by omega)) rfl (setRow_heap _ _ _ #[.bool wn, .bool we, .bool wi] _ _ (show _ = some (Obj.cells #[.bool false, .bool false, .bool false] 29 (0, 0)) by exact rowS)) rfl (cor_wires (below_row (below_row (by exact belS) (by omega)) (by omega)))
end Go.Proofs.YthklebkpoccblaaGreat
