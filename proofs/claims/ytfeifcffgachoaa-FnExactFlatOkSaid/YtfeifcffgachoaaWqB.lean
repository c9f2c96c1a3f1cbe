/-
  The walk of the law FnExactFlatOk.
  Conditions: as each says; each walk leaves old memory as it was.
-/
import Derived.Test.YtfeifcffgachoaaWqA
import Derived.Test.YtfeifcffgachoaaWoY
import Derived.Deep.Cut
namespace Go.Proofs.Ytfeifcffgachoaa
open Go.RowKit
theorem iflat_size : (Try.prog.info? 44).map (·.size) = some 10 := by kernel_rfl
theorem lflat_size : (Try.prog.info? 39).map (·.size) = some 10 := by kernel_rfl
theorem set4 {w : World} {b : Nat} {t : TypeId} {v0 v1 v2 v3 v4 v5 v6 v7 v8 v9 : Value} (h : w.heap[b]? = some (.cells #[v0, v1, v2, v3, v4, v5, v6, v7, v8, v9] t (0, 0))) (x6 x7 x8 x9 : Value) :
    ((((w.setCell ⟨b, 6, none⟩ x6).setCell ⟨b, 7, none⟩ x7).setCell ⟨b, 8, none⟩ x8).setCell ⟨b, 9, none⟩ x9).heap[b]? = some (.cells #[v0, v1, v2, v3, v4, v5, x6, x7, x8, x9] t (0, 0)) := by
  have e := row_set (i := 9) (v := x9) (row_set (i := 8) (v := x8) (row_set (i := 7) (v := x7) (row_set (i := 6) (v := x6) h)))
  simp only [List.setIfInBounds_toArray, List.set_cons_zero, List.set_cons_succ] at e
  exact e
set_option maxRecDepth 100000 in
set_option maxHeartbeats 4000000 in
theorem to_flat (a x y s p pc : Int) (r o : ByteArray) (n : Int) (j : Bool) (w : World) : Calls Try.prog 20 #[flatV a x y s p pc r o n j] w fun e w' => e = .returned (flatV a x y s p pc r o n j) ∧ Below w.heap.size w w' := by
  have hi := Lib.hid iflat_size
  have HR := fun w => to_regI ⟨a, x, y, s, p, pc⟩ w
  have HM := Lib.hid (fun w => to_mem r o w)
  simp only [regI_mk] at HR
  replace HR := Lib.hid HR
  unfold flatV
  go_enter Try.func20, Try.ntmps20
  go_wp2_with (go_at_call 14; refine (HR.out _).mono ?_; rintro e w1 ⟨rfl, hb⟩; refine Hid.out ?_)
  have Z0 := blk_below (blk_old (o := .cells #[.int .i64 0, .int .i64 0, .int .i64 0, .int .i64 0, .int .i64 0, .int .i64 0, .string ⟨#[]⟩, .string ⟨#[]⟩, .int .i64 0, .bool false] 44) (blk_old (o := .cells #[.int .i64 0, .int .i64 0, .int .i64 0, .int .i64 0, .int .i64 0, .int .i64 0, .string ⟨#[]⟩, .string ⟨#[]⟩, .int .i64 0, .bool false] 44) (blk_new w (.cells #[.int .i64 a, .int .i64 x, .int .i64 y, .int .i64 s, .int .i64 p, .int .i64 pc, .string r, .string o, .int .i64 n, .bool j] 39)))) hb
  have Z1 := blk_below (blk_old (o := .cells #[.int .i64 0, .int .i64 0, .int .i64 0, .int .i64 0, .int .i64 0, .int .i64 0, .string ⟨#[]⟩, .string ⟨#[]⟩, .int .i64 0, .bool false] 44) (blk_new2 w (.cells #[.int .i64 a, .int .i64 x, .int .i64 y, .int .i64 s, .int .i64 p, .int .i64 pc, .string r, .string o, .int .i64 n, .bool j] 39) (.cells #[.int .i64 0, .int .i64 0, .int .i64 0, .int .i64 0, .int .i64 0, .int .i64 0, .string ⟨#[]⟩, .string ⟨#[]⟩, .int .i64 0, .bool false] 44))) hb
  have Z2 := blk_new2 (w.alloc (.cells #[.int .i64 a, .int .i64 x, .int .i64 y, .int .i64 s, .int .i64 p, .int .i64 pc, .string r, .string o, .int .i64 n, .bool j] 39)) (.cells #[.int .i64 0, .int .i64 0, .int .i64 0, .int .i64 0, .int .i64 0, .int .i64 0, .string ⟨#[]⟩, .string ⟨#[]⟩, .int .i64 0, .bool false] 44) (.cells #[.int .i64 0, .int .i64 0, .int .i64 0, .int .i64 0, .int .i64 0, .int .i64 0, .string ⟨#[]⟩, .string ⟨#[]⟩, .int .i64 0, .bool false] 44)
  rw [alloc_size] at Z2
  replace Z2 := blk_below Z2 hb
  have B := Lib.hid (below_then (below_alloc (below_alloc (below_alloc (Below.refl w.heap.size w) (.cells #[.int .i64 a, .int .i64 x, .int .i64 y, .int .i64 s, .int .i64 p, .int .i64 pc, .string r, .string o, .int .i64 n, .bool j] 39)) (.cells #[.int .i64 0, .int .i64 0, .int .i64 0, .int .i64 0, .int .i64 0, .int .i64 0, .string ⟨#[]⟩, .string ⟨#[]⟩, .int .i64 0, .bool false] 44)) (.cells #[.int .i64 0, .int .i64 0, .int .i64 0, .int .i64 0, .int .i64 0, .int .i64 0, .string ⟨#[]⟩, .string ⟨#[]⟩, .int .i64 0, .bool false] 44)) hb)
  clear hb
  have c6 := cell_of_blk (i := 6) Z0 rfl
  have c7 := cell_of_blk (i := 7) Z0 rfl
  have z0 := cell_of_blk (i := 0) Z2 rfl
  have z1 := cell_of_blk (i := 1) Z2 rfl
  have z2 := cell_of_blk (i := 2) Z2 rfl
  have z3 := cell_of_blk (i := 3) Z2 rfl
  have z4 := cell_of_blk (i := 4) Z2 rfl
  have z5 := cell_of_blk (i := 5) Z2 rfl
  have f2 := fun i => free_of_blk (i := i) Z2
  have Z0 := Lib.hid Z0
  have Z1 := Lib.hid Z1
  have Z2 := Lib.hid Z2
  refine Lib.hid ?_
  go_wp2_with (go_at_call 49; refine (HM.out _).mono ?_; rintro e w2 ⟨rfl, hb⟩; refine Hid.out ?_)
  have Y0 := blk_below (row_far (row_far (row_far (row_far (row_far (row_far Z0.out (by omega)) (by omega)) (by omega)) (by omega)) (by omega)) (by omega)) hb
  have Y1 := blk_below (row_far (row_far (row_far (row_far (row_far (row_far Z1.out (by omega)) (by omega)) (by omega)) (by omega)) (by omega)) (by omega)) hb
  have Y2 := blk_below (row_set (row_set (row_set (row_set (row_set (row_set Z2.out)))))) hb
  simp only [List.setIfInBounds_toArray, List.set_cons_zero, List.set_cons_succ] at Y2
  have B := Lib.hid (B.out.trans ((below_put (below_put (below_put (below_put (below_put (below_put (Below.refl w.heap.size w1) (by omega)) (by omega)) (by omega)) (by omega)) (by omega)) (by omega)).trans (hb.mono (by simp; exact B.out.size))))
  clear hb Z0 Z1 Z2 c6 c7 z0 z1 z2 z3 z4 z5 f2
  have c8 := cell_of_blk (i := 8) Y0 rfl
  have c9 := cell_of_blk (i := 9) Y0 rfl
  have z6 := cell_of_blk (i := 6) Y2 rfl
  have z7 := cell_of_blk (i := 7) Y2 rfl
  have z8 := cell_of_blk (i := 8) Y2 rfl
  have z9 := cell_of_blk (i := 9) Y2 rfl
  have f2 := fun i => free_of_blk (i := i) Y2
  have Y1 := Lib.hid Y1
  have Y2 := Lib.hid Y2
  clear Y0
  refine Lib.hid ?_
  go_upto_region 6 with fail
  have hrow := Lib.hid (set4 Y2.out (.string r) (.string o) (.int .i64 n) (.bool j))
  have hres := Lib.hid (row_far (i := 9) (v := .bool j) (row_far (i := 8) (v := .int .i64 n) (row_far (i := 7) (v := .string o) (row_far (i := 6) (v := .string r) Y1.out (show w.heap.size + 1 ≠ w.heap.size + 1 + 1 by omega)) (show w.heap.size + 1 ≠ w.heap.size + 1 + 1 by omega)) (show w.heap.size + 1 ≠ w.heap.size + 1 + 1 by omega)) (show w.heap.size + 1 ≠ w.heap.size + 1 + 1 by omega))
  have B := Lib.hid (below_put (i := 9) (v := .bool j) (below_put (i := 8) (v := .int .i64 n) (below_put (i := 7) (v := .string o) (below_put (i := 6) (v := .string r) B.out (show w.heap.size ≤ w.heap.size + 1 + 1 by omega)) (show w.heap.size ≤ w.heap.size + 1 + 1 by omega)) (show w.heap.size ≤ w.heap.size + 1 + 1 by omega)) (show w.heap.size ≤ w.heap.size + 1 + 1 by omega))
  generalize hWW : (((w2.setCell ⟨w.heap.size + 1 + 1, 6, none⟩ (.string r)).setCell ⟨w.heap.size + 1 + 1, 7, none⟩ (.string o)).setCell ⟨w.heap.size + 1 + 1, 8, none⟩ (.int .i64 n)).setCell ⟨w.heap.size + 1 + 1, 9, none⟩ (.bool j) = w3 at hrow hres B ⊢
  clear hWW z6 z7 z8 z9 f2 c8 c9 Y1 Y2
  go_wp2_with (first | (refine load_row rfl 44 (.tmp 3) rfl (w.heap.size + 1 + 1) rfl 10 _ Try.underlying44 rfl hi.out hrow.out rfl ?_) | (refine store_row rfl 44 (.tmp 2) (.tmp 18) rfl (w.heap.size + 1) _ rfl rfl 10 hi.out hres.out rfl rfl (by rfl) ?_))
  exact row_post rfl rfl Try.underlying44 rfl iflat_size rfl rfl hres.out ⟨rfl, below_row B.out (by omega)⟩
set_option maxRecDepth 100000 in
set_option maxHeartbeats 4000000 in
theorem exact_flatOk (a x y s p pc : Int) (r : ByteArray) (hr : r.size ≤ maxLen) (o : ByteArray) (ho : o.size ≤ maxLen) (n : Int) (j : Bool) (w : World) : Calls Try.prog 7 #[.agg #[.int .i64 a, .int .i64 x, .int .i64 y, .int .i64 s, .int .i64 p, .int .i64 pc, .string r, .string o, .int .i64 n, .bool j]] w fun e w' => e = .returned (.bool true) ∧ Below w.heap.size w w' := by
  have hl := Lib.hid lflat_size
  have HZ := fun w => sz_flat a x y s p pc r o n j hr ho w
  have HT := fun w => to_flat a x y s p pc r o n j w
  have HS := fun w => spec_flatOk a x y s p pc r o n j w
  have HI := fun w => impl_flatOk a x y s p pc r o n j w
  unfold flatV at *
  unfold maxLen at hr ho
  generalize okF a x y s p pc r o n = K at *
  obtain ⟨z, hz⟩ : ∃ z : Int, z = if 1048576 < r.size + o.size then -1 else 1048576 - (r.size : Int) - (o.size : Int) := ⟨_, rfl⟩
  rw [← hz] at HZ
  clear hz
  replace HZ := Lib.hid HZ
  replace HT := Lib.hid HT
  replace HS := Lib.hid HS
  replace HI := Lib.hid HI
  have Z := Lib.hid (blk_new w (.cells #[.int .i64 a, .int .i64 x, .int .i64 y, .int .i64 s, .int .i64 p, .int .i64 pc, .string r, .string o, .int .i64 n, .bool j] 39))
  go_enter Try.func7, Try.ntmps7
  go_wp2_with (first | (refine load_row rfl 39 (.tmp 1) rfl w.heap.size rfl 10 _ Try.underlying39 rfl hl.out Z.out rfl ?_) | (go_at_call 18; refine (HZ.out _).mono ?_; rintro e w1 ⟨rfl, hb⟩; refine Hid.out ?_))
  have Z := Lib.hid (blk_below Z.out hb)
  have B := Lib.hid (below_then (below_alloc (Below.refl w.heap.size w) (.cells #[.int .i64 a, .int .i64 x, .int .i64 y, .int .i64 s, .int .i64 p, .int .i64 pc, .string r, .string o, .int .i64 n, .bool j] 39)) hb)
  clear hb
  by_cases hneg : z < 0
  · refine Lib.hid ?_
    go_wp2
    go_ret
    exact ⟨rfl, B.out⟩
  refine Lib.hid ?_
  go_wp2_with (first | (refine load_row rfl 39 (.tmp 1) rfl w.heap.size rfl 10 _ Try.underlying39 rfl hl.out Z.out rfl ?_) | (go_at_call 20; refine (HT.out _).mono ?_; rintro e w2 ⟨rfl, hb⟩; refine Hid.out ?_))
  have Z := Lib.hid (blk_below Z.out hb)
  have B := Lib.hid (below_then B.out hb)
  clear hb
  refine Lib.hid ?_
  go_wp2_with (go_at_call 19; refine (HS.out _).mono ?_; rintro e w3 ⟨rfl, hb⟩; refine Hid.out ?_)
  have Z := Lib.hid (blk_below Z.out hb)
  have B := Lib.hid (below_then B.out hb)
  clear hb
  refine Lib.hid ?_
  go_wp2_with (first | (refine load_row rfl 39 (.tmp 1) rfl w.heap.size rfl 10 _ Try.underlying39 rfl hl.out Z.out rfl ?_) | (go_at_call 20; refine (HT.out _).mono ?_; rintro e w4 ⟨rfl, hb⟩; refine Hid.out ?_))
  have B := Lib.hid (below_then B.out hb)
  clear hb
  refine Lib.hid ?_
  go_wp2_with (go_at_call 21; refine (HI.out _).mono ?_; rintro e w5 ⟨rfl, hb⟩; refine Hid.out ?_)
  have B := Lib.hid (below_then B.out hb)
  clear hb
  refine Lib.hid ?_
  go_wp2
  go_ret
  exact ⟨rfl, B.out⟩
end Go.Proofs.Ytfeifcffgachoaa
