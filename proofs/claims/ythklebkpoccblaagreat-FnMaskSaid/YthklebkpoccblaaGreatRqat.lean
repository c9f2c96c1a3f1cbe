/-
  Texts put together by program: FdB.
  Conditions: as each theorem says.
-/
import Derived.Test.YthklebkpoccblaaGreatRqao
import Derived.Test.YthklebkpoccblaaGreatRqas
namespace Go.Proofs.YthklebkpoccblaaGreat
open Go.RowKit
set_option maxRecDepth 100000 in
set_option maxHeartbeats 20000000 in
theorem s_push (k : CorI) (v : Int) (w : World) : Calls Tryz.prog 79 #[.agg (corC k), .int .i64 v] w (BusPost w) := by
 unfold BusPost
 by_cases h : k.sq = 3
 ·go_enter Tryz.func79, Tryz.ntmps79
  go_upto_region 1 with fail
  have K0 : ((w.alloc (.cells (corC k) 27)).alloc (.cells #[.int .i64 0, .int .i64 0, .bool false] 38)).heap[w.heap.size]? = some (.cells (corC k) 27 (0, 0)) := by
   have h := blk_old (o := .cells #[.int .i64 0, .int .i64 0, .bool false] 38) (blk_new w (.cells (corC k) 27))
   try simp only [alloc_size] at h
   exact h
  have K1 : ((w.alloc (.cells (corC k) 27)).alloc (.cells #[.int .i64 0, .int .i64 0, .bool false] 38)).heap[w.heap.size + 1]? = some (.cells #[.int .i64 0, .int .i64 0, .bool false] 38 (0, 0)) := by
   have h := blk_new (w.alloc (.cells (corC k) 27)) (.cells #[.int .i64 0, .int .i64 0, .bool false] 38)
   try simp only [alloc_size] at h
   exact h
  have B0 := below_alloc (below_alloc (Below.refl w.heap.size w) (.cells (corC k) 27)) (.cells #[.int .i64 0, .int .i64 0, .bool false] 38)
  generalize ((w.alloc (.cells (corC k) 27)).alloc (.cells #[.int .i64 0, .int .i64 0, .bool false] 38)) = w0 at K0 K1 B0 ⊢
  replace K0 : Hid (CorAt w.heap.size k w0) := Lib.hid K0
  replace K1 := Lib.hid K1
  replace B0 := Lib.hid B0
  have fz := CorAt.free K0.out
  have c_sq := CorAt.c_sq K0.out
  have c_s := CorAt.c_s K0.out
  go_wp2_with (first
   | (refine load_some (by rfl) _ (by rfl) _ (by rfl) (by exact someS) ?_; intro k2 hk2)
   | (refine store_row (by rfl) 38 _ _ (by rfl) _ _ (by rfl) (by rfl) 3 (by kernel_rfl) (by exact rowS; done) rfl rfl (by rfl) ?_)
   | (go_at_call 81; refine (s_l10Stack _ _).mono ?_; rintro e w1 ⟨x9, y9, z9, rfl, hb⟩))
  exact bodyPost_ret (results_cell_row rfl _ _ (w.heap.size + 1) _ _ _ _ rfl (setRow_heap _ _ _ _ _ _ (by exact rowS)) Tryz.underlying38 rfl (by kernel_rfl)) rfl ⟨_, _, _, rfl, below_row (by exact belS) (by omega)⟩
 ·go_enter Tryz.func79, Tryz.ntmps79
  go_upto_region 1 with fail
  have K0 : ((w.alloc (.cells (corC k) 27)).alloc (.cells #[.int .i64 0, .int .i64 0, .bool false] 38)).heap[w.heap.size]? = some (.cells (corC k) 27 (0, 0)) := by
   have h := blk_old (o := .cells #[.int .i64 0, .int .i64 0, .bool false] 38) (blk_new w (.cells (corC k) 27))
   try simp only [alloc_size] at h
   exact h
  have K1 : ((w.alloc (.cells (corC k) 27)).alloc (.cells #[.int .i64 0, .int .i64 0, .bool false] 38)).heap[w.heap.size + 1]? = some (.cells #[.int .i64 0, .int .i64 0, .bool false] 38 (0, 0)) := by
   have h := blk_new (w.alloc (.cells (corC k) 27)) (.cells #[.int .i64 0, .int .i64 0, .bool false] 38)
   try simp only [alloc_size] at h
   exact h
  have B0 := below_alloc (below_alloc (Below.refl w.heap.size w) (.cells (corC k) 27)) (.cells #[.int .i64 0, .int .i64 0, .bool false] 38)
  generalize ((w.alloc (.cells (corC k) 27)).alloc (.cells #[.int .i64 0, .int .i64 0, .bool false] 38)) = w0 at K0 K1 B0 ⊢
  replace K0 : Hid (CorAt w.heap.size k w0) := Lib.hid K0
  replace K1 := Lib.hid K1
  replace B0 := Lib.hid B0
  have fz := CorAt.free K0.out
  have c_sq := CorAt.c_sq K0.out
  have c_s := CorAt.c_s K0.out
  go_wp2_with (first
   | (refine load_some (by rfl) _ (by rfl) _ (by rfl) (by exact someS) ?_; intro k2 hk2)
   | (refine store_row (by rfl) 38 _ _ (by rfl) _ _ (by rfl) (by rfl) 3 (by kernel_rfl) (by exact rowS; done) rfl rfl (by rfl) ?_)
   | (go_at_call 81; refine (s_l10Stack _ _).mono ?_; rintro e w1 ⟨x9, y9, z9, rfl, hb⟩))
  exact bodyPost_ret (results_cell_row rfl _ _ (w.heap.size + 1) _ _ _ _ rfl (setRow_heap _ _ _ _ _ _ (by exact rowS)) Tryz.underlying38 rfl (by kernel_rfl)) rfl ⟨_, _, _, rfl, below_row (by exact belS) (by omega)⟩
def NumPost (w : World) (e : Ending) (w' : World) : Prop := ∃ x : Int, e = .returned (.int .i64 x) ∧ Below w.heap.size w w'
set_option maxRecDepth 100000 in
set_option maxHeartbeats 20000000 in
theorem s_leads (k : CorI) (wn we wi : Bool) (w : World) : Calls Tryz.prog 67 #[.agg (corC k), .agg #[.bool wn, .bool we, .bool wi]] w (NumPost w) := by
 unfold NumPost
 by_cases h : k.sq = 3
 ·by_cases hwe : we = true
  ·subst hwe
   go_enter Tryz.func67, Tryz.ntmps67
   go_upto_region 1 with fail
   have K0 : ((w.alloc (.cells (corC k) 27)).alloc (.cells #[.bool wn, .bool true, .bool wi] 29)).heap[w.heap.size]? = some (.cells (corC k) 27 (0, 0)) := by
    have h := blk_old (o := .cells #[.bool wn, .bool true, .bool wi] 29) (blk_new w (.cells (corC k) 27))
    try simp only [alloc_size] at h
    exact h
   have K1 : ((w.alloc (.cells (corC k) 27)).alloc (.cells #[.bool wn, .bool true, .bool wi] 29)).heap[w.heap.size + 1]? = some (.cells #[.bool wn, .bool true, .bool wi] 29 (0, 0)) := by
    have h := blk_new (w.alloc (.cells (corC k) 27)) (.cells #[.bool wn, .bool true, .bool wi] 29)
    try simp only [alloc_size] at h
    exact h
   have B0 := below_alloc (below_alloc (Below.refl w.heap.size w) (.cells (corC k) 27)) (.cells #[.bool wn, .bool true, .bool wi] 29)
   generalize ((w.alloc (.cells (corC k) 27)).alloc (.cells #[.bool wn, .bool true, .bool wi] 29)) = w0 at K0 K1 B0 ⊢
   replace K0 : Hid (CorAt w.heap.size k w0) := Lib.hid K0
   replace K1 := Lib.hid K1
   replace B0 := Lib.hid B0
   have fz := CorAt.free K0.out
   have c_sq := CorAt.c_sq K0.out
   have c1 := cell_of_blk (i := 1) (v := .bool true) K1.out rfl
   go_wp2_with (first
    | (go_at_call 93; refine (spec_vector _ _).mono ?_; rintro e w1 ⟨rfl, rfl⟩))
   go_ret
   exact ⟨_, rfl, B0.out⟩
  ·replace hwe := Bool.eq_false_iff.2 hwe
   subst hwe
   go_enter Tryz.func67, Tryz.ntmps67
   go_upto_region 1 with fail
   have K0 : ((w.alloc (.cells (corC k) 27)).alloc (.cells #[.bool wn, .bool false, .bool wi] 29)).heap[w.heap.size]? = some (.cells (corC k) 27 (0, 0)) := by
    have h := blk_old (o := .cells #[.bool wn, .bool false, .bool wi] 29) (blk_new w (.cells (corC k) 27))
    try simp only [alloc_size] at h
    exact h
   have K1 : ((w.alloc (.cells (corC k) 27)).alloc (.cells #[.bool wn, .bool false, .bool wi] 29)).heap[w.heap.size + 1]? = some (.cells #[.bool wn, .bool false, .bool wi] 29 (0, 0)) := by
    have h := blk_new (w.alloc (.cells (corC k) 27)) (.cells #[.bool wn, .bool false, .bool wi] 29)
    try simp only [alloc_size] at h
    exact h
   have B0 := below_alloc (below_alloc (Below.refl w.heap.size w) (.cells (corC k) 27)) (.cells #[.bool wn, .bool false, .bool wi] 29)
   generalize ((w.alloc (.cells (corC k) 27)).alloc (.cells #[.bool wn, .bool false, .bool wi] 29)) = w0 at K0 K1 B0 ⊢
   replace K0 : Hid (CorAt w.heap.size k w0) := Lib.hid K0
   replace K1 := Lib.hid K1
   replace B0 := Lib.hid B0
   have fz := CorAt.free K0.out
   have c_sq := CorAt.c_sq K0.out
   have c1 := cell_of_blk (i := 1) (v := .bool false) K1.out rfl
   go_wp2_with (first
    | (go_at_call 93; refine (spec_vector _ _).mono ?_; rintro e w1 ⟨rfl, rfl⟩))
   go_ret
   exact ⟨_, rfl, B0.out⟩
 ·by_cases hwe : we = true
  ·subst hwe
   go_enter Tryz.func67, Tryz.ntmps67
   go_upto_region 1 with fail
   have K0 : ((w.alloc (.cells (corC k) 27)).alloc (.cells #[.bool wn, .bool true, .bool wi] 29)).heap[w.heap.size]? = some (.cells (corC k) 27 (0, 0)) := by
    have h := blk_old (o := .cells #[.bool wn, .bool true, .bool wi] 29) (blk_new w (.cells (corC k) 27))
    try simp only [alloc_size] at h
    exact h
   have K1 : ((w.alloc (.cells (corC k) 27)).alloc (.cells #[.bool wn, .bool true, .bool wi] 29)).heap[w.heap.size + 1]? = some (.cells #[.bool wn, .bool true, .bool wi] 29 (0, 0)) := by
    have h := blk_new (w.alloc (.cells (corC k) 27)) (.cells #[.bool wn, .bool true, .bool wi] 29)
    try simp only [alloc_size] at h
    exact h
   have B0 := below_alloc (below_alloc (Below.refl w.heap.size w) (.cells (corC k) 27)) (.cells #[.bool wn, .bool true, .bool wi] 29)
   generalize ((w.alloc (.cells (corC k) 27)).alloc (.cells #[.bool wn, .bool true, .bool wi] 29)) = w0 at K0 K1 B0 ⊢
   replace K0 : Hid (CorAt w.heap.size k w0) := Lib.hid K0
   replace K1 := Lib.hid K1
   replace B0 := Lib.hid B0
   have fz := CorAt.free K0.out
   have c_sq := CorAt.c_sq K0.out
   have c1 := cell_of_blk (i := 1) (v := .bool true) K1.out rfl
   go_wp2_with (first
    | (go_at_call 93; refine (spec_vector _ _).mono ?_; rintro e w1 ⟨rfl, rfl⟩))
   go_ret
   exact ⟨_, rfl, B0.out⟩
  ·replace hwe := Bool.eq_false_iff.2 hwe
   subst hwe
   go_enter Tryz.func67, Tryz.ntmps67
   go_upto_region 1 with fail
   have K0 : ((w.alloc (.cells (corC k) 27)).alloc (.cells #[.bool wn, .bool false, .bool wi] 29)).heap[w.heap.size]? = some (.cells (corC k) 27 (0, 0)) := by
    have h := blk_old (o := .cells #[.bool wn, .bool false, .bool wi] 29) (blk_new w (.cells (corC k) 27))
    try simp only [alloc_size] at h
    exact h
   have K1 : ((w.alloc (.cells (corC k) 27)).alloc (.cells #[.bool wn, .bool false, .bool wi] 29)).heap[w.heap.size + 1]? = some (.cells #[.bool wn, .bool false, .bool wi] 29 (0, 0)) := by
    have h := blk_new (w.alloc (.cells (corC k) 27)) (.cells #[.bool wn, .bool false, .bool wi] 29)
    try simp only [alloc_size] at h
    exact h
   have B0 := below_alloc (below_alloc (Below.refl w.heap.size w) (.cells (corC k) 27)) (.cells #[.bool wn, .bool false, .bool wi] 29)
   generalize ((w.alloc (.cells (corC k) 27)).alloc (.cells #[.bool wn, .bool false, .bool wi] 29)) = w0 at K0 K1 B0 ⊢
   replace K0 : Hid (CorAt w.heap.size k w0) := Lib.hid K0
   replace K1 := Lib.hid K1
   replace B0 := Lib.hid B0
   have fz := CorAt.free K0.out
   have c_sq := CorAt.c_sq K0.out
   have c1 := cell_of_blk (i := 1) (v := .bool false) K1.out rfl
   go_wp2_with (first
    | (go_at_call 93; refine (spec_vector _ _).mono ?_; rintro e w1 ⟨rfl, rfl⟩))
   go_ret
   exact ⟨_, rfl, B0.out⟩
theorem CorAt.drew {b : Nat} {k : CorI} {w : World} (h : CorAt b k w) : CorAt b k w.drew := h
set_option maxRecDepth 100000 in
set_option maxHeartbeats 20000000 in
theorem s_break (k : CorI) (wn we wi : Bool) (w : World) : Calls Tryz.prog 47 #[.agg (corC k), .agg #[.bool wn, .bool we, .bool wi]] w (BusPost w) := by
 unfold BusPost
 by_cases h2 : k.t = 2
 ·go_enter Tryz.func47, Tryz.ntmps47
  go_upto_region 1 with fail
  have K0 : (((w.alloc (.cells (corC k) 27)).alloc (.cells #[.bool wn, .bool we, .bool wi] 29)).alloc (.cells #[.int .i64 0, .int .i64 0, .bool false] 38)).heap[w.heap.size]? = some (.cells (corC k) 27 (0, 0)) := by
   have h := blk_old (o := .cells #[.int .i64 0, .int .i64 0, .bool false] 38) (blk_old (o := .cells #[.bool wn, .bool we, .bool wi] 29) (blk_new w (.cells (corC k) 27)))
   try simp only [alloc_size] at h
   exact h
  have K1 : (((w.alloc (.cells (corC k) 27)).alloc (.cells #[.bool wn, .bool we, .bool wi] 29)).alloc (.cells #[.int .i64 0, .int .i64 0, .bool false] 38)).heap[w.heap.size + 1]? = some (.cells #[.bool wn, .bool we, .bool wi] 29 (0, 0)) := by
   have h := blk_old (o := .cells #[.int .i64 0, .int .i64 0, .bool false] 38) (blk_new (w.alloc (.cells (corC k) 27)) (.cells #[.bool wn, .bool we, .bool wi] 29))
   try simp only [alloc_size] at h
   exact h
  have K2 : (((w.alloc (.cells (corC k) 27)).alloc (.cells #[.bool wn, .bool we, .bool wi] 29)).alloc (.cells #[.int .i64 0, .int .i64 0, .bool false] 38)).heap[w.heap.size + 1 + 1]? = some (.cells #[.int .i64 0, .int .i64 0, .bool false] 38 (0, 0)) := by
   have h := blk_new ((w.alloc (.cells (corC k) 27)).alloc (.cells #[.bool wn, .bool we, .bool wi] 29)) (.cells #[.int .i64 0, .int .i64 0, .bool false] 38)
   try simp only [alloc_size] at h
   exact h
  have B0 := below_alloc (below_alloc (below_alloc (Below.refl w.heap.size w) (.cells (corC k) 27)) (.cells #[.bool wn, .bool we, .bool wi] 29)) (.cells #[.int .i64 0, .int .i64 0, .bool false] 38)
  generalize (((w.alloc (.cells (corC k) 27)).alloc (.cells #[.bool wn, .bool we, .bool wi] 29)).alloc (.cells #[.int .i64 0, .int .i64 0, .bool false] 38)) = w0 at K0 K1 K2 B0 ⊢
  replace K0 : Hid (CorAt w.heap.size k w0) := Lib.hid K0
  replace K1 := Lib.hid K1
  replace K2 := Lib.hid K2
  replace B0 := Lib.hid B0
  have fz := CorAt.free K0.out
  have c_t := CorAt.c_t K0.out
  have c_pc := CorAt.c_pc K0.out
  have c_vl := CorAt.c_vl K0.out
  go_wp2_with (first
   | (refine load_some (by rfl) _ (by rfl) _ (by rfl) (by exact someS) ?_; intro k2 hk2)
   | (refine store_row (by rfl) 38 _ _ (by rfl) _ _ (by rfl) (by rfl) 3 (by kernel_rfl) (by exact rowS; done) rfl rfl (by rfl) ?_)
   | (go_at_call 79; refine (s_push _ _ _).mono ?_; rintro e w1 ⟨x9, y9, z9, rfl, hb⟩)
   | (go_at_call 46; refine (s_l10Here _ _).mono ?_; rintro e w1 ⟨x9, y9, z9, rfl, hb⟩))
  exact bodyPost_ret (results_cell_row rfl _ _ (w.heap.size + 1 + 1) _ _ _ _ rfl (setRow_heap _ _ _ _ _ _ (by exact rowS)) Tryz.underlying38 rfl (by kernel_rfl)) rfl ⟨_, _, _, rfl, below_row (by exact belS) (by omega)⟩
 ·skip
  by_cases h3 : k.t = 3
  ·go_enter Tryz.func47, Tryz.ntmps47
   go_upto_region 1 with fail
   have K0 : (((w.alloc (.cells (corC k) 27)).alloc (.cells #[.bool wn, .bool we, .bool wi] 29)).alloc (.cells #[.int .i64 0, .int .i64 0, .bool false] 38)).heap[w.heap.size]? = some (.cells (corC k) 27 (0, 0)) := by
    have h := blk_old (o := .cells #[.int .i64 0, .int .i64 0, .bool false] 38) (blk_old (o := .cells #[.bool wn, .bool we, .bool wi] 29) (blk_new w (.cells (corC k) 27)))
    try simp only [alloc_size] at h
    exact h
   have K1 : (((w.alloc (.cells (corC k) 27)).alloc (.cells #[.bool wn, .bool we, .bool wi] 29)).alloc (.cells #[.int .i64 0, .int .i64 0, .bool false] 38)).heap[w.heap.size + 1]? = some (.cells #[.bool wn, .bool we, .bool wi] 29 (0, 0)) := by
    have h := blk_old (o := .cells #[.int .i64 0, .int .i64 0, .bool false] 38) (blk_new (w.alloc (.cells (corC k) 27)) (.cells #[.bool wn, .bool we, .bool wi] 29))
    try simp only [alloc_size] at h
    exact h
   have K2 : (((w.alloc (.cells (corC k) 27)).alloc (.cells #[.bool wn, .bool we, .bool wi] 29)).alloc (.cells #[.int .i64 0, .int .i64 0, .bool false] 38)).heap[w.heap.size + 1 + 1]? = some (.cells #[.int .i64 0, .int .i64 0, .bool false] 38 (0, 0)) := by
    have h := blk_new ((w.alloc (.cells (corC k) 27)).alloc (.cells #[.bool wn, .bool we, .bool wi] 29)) (.cells #[.int .i64 0, .int .i64 0, .bool false] 38)
    try simp only [alloc_size] at h
    exact h
   have B0 := below_alloc (below_alloc (below_alloc (Below.refl w.heap.size w) (.cells (corC k) 27)) (.cells #[.bool wn, .bool we, .bool wi] 29)) (.cells #[.int .i64 0, .int .i64 0, .bool false] 38)
   generalize (((w.alloc (.cells (corC k) 27)).alloc (.cells #[.bool wn, .bool we, .bool wi] 29)).alloc (.cells #[.int .i64 0, .int .i64 0, .bool false] 38)) = w0 at K0 K1 K2 B0 ⊢
   replace K0 : Hid (CorAt w.heap.size k w0) := Lib.hid K0
   replace K1 := Lib.hid K1
   replace K2 := Lib.hid K2
   replace B0 := Lib.hid B0
   have fz := CorAt.free K0.out
   have c_t := CorAt.c_t K0.out
   have c_pc := CorAt.c_pc K0.out
   have c_vl := CorAt.c_vl K0.out
   go_wp2_with (first
    | (refine load_some (by rfl) _ (by rfl) _ (by rfl) (by exact someS) ?_; intro k2 hk2)
    | (refine store_row (by rfl) 38 _ _ (by rfl) _ _ (by rfl) (by rfl) 3 (by kernel_rfl) (by exact rowS; done) rfl rfl (by rfl) ?_)
    | (go_at_call 79; refine (s_push _ _ _).mono ?_; rintro e w1 ⟨x9, y9, z9, rfl, hb⟩)
    | (go_at_call 46; refine (s_l10Here _ _).mono ?_; rintro e w1 ⟨x9, y9, z9, rfl, hb⟩))
   exact bodyPost_ret (results_cell_row rfl _ _ (w.heap.size + 1 + 1) _ _ _ _ rfl (setRow_heap _ _ _ _ _ _ (by exact rowS)) Tryz.underlying38 rfl (by kernel_rfl)) rfl ⟨_, _, _, rfl, below_row (by exact belS) (by omega)⟩
  ·skip
   by_cases h4 : k.t = 4
   ·go_enter Tryz.func47, Tryz.ntmps47
    go_upto_region 1 with fail
    have K0 : (((w.alloc (.cells (corC k) 27)).alloc (.cells #[.bool wn, .bool we, .bool wi] 29)).alloc (.cells #[.int .i64 0, .int .i64 0, .bool false] 38)).heap[w.heap.size]? = some (.cells (corC k) 27 (0, 0)) := by
     have h := blk_old (o := .cells #[.int .i64 0, .int .i64 0, .bool false] 38) (blk_old (o := .cells #[.bool wn, .bool we, .bool wi] 29) (blk_new w (.cells (corC k) 27)))
     try simp only [alloc_size] at h
     exact h
    have K1 : (((w.alloc (.cells (corC k) 27)).alloc (.cells #[.bool wn, .bool we, .bool wi] 29)).alloc (.cells #[.int .i64 0, .int .i64 0, .bool false] 38)).heap[w.heap.size + 1]? = some (.cells #[.bool wn, .bool we, .bool wi] 29 (0, 0)) := by
     have h := blk_old (o := .cells #[.int .i64 0, .int .i64 0, .bool false] 38) (blk_new (w.alloc (.cells (corC k) 27)) (.cells #[.bool wn, .bool we, .bool wi] 29))
     try simp only [alloc_size] at h
     exact h
    have K2 : (((w.alloc (.cells (corC k) 27)).alloc (.cells #[.bool wn, .bool we, .bool wi] 29)).alloc (.cells #[.int .i64 0, .int .i64 0, .bool false] 38)).heap[w.heap.size + 1 + 1]? = some (.cells #[.int .i64 0, .int .i64 0, .bool false] 38 (0, 0)) := by
     have h := blk_new ((w.alloc (.cells (corC k) 27)).alloc (.cells #[.bool wn, .bool we, .bool wi] 29)) (.cells #[.int .i64 0, .int .i64 0, .bool false] 38)
     try simp only [alloc_size] at h
     exact h
    have B0 := below_alloc (below_alloc (below_alloc (Below.refl w.heap.size w) (.cells (corC k) 27)) (.cells #[.bool wn, .bool we, .bool wi] 29)) (.cells #[.int .i64 0, .int .i64 0, .bool false] 38)
    generalize (((w.alloc (.cells (corC k) 27)).alloc (.cells #[.bool wn, .bool we, .bool wi] 29)).alloc (.cells #[.int .i64 0, .int .i64 0, .bool false] 38)) = w0 at K0 K1 K2 B0 ⊢
    replace K0 : Hid (CorAt w.heap.size k w0) := Lib.hid K0
    replace K1 := Lib.hid K1
    replace K2 := Lib.hid K2
    replace B0 := Lib.hid B0
    have fz := CorAt.free K0.out
    have c_t := CorAt.c_t K0.out
    have c_pc := CorAt.c_pc K0.out
    have c_vl := CorAt.c_vl K0.out
    go_upto_region 7 with fail
    refine wp_region_held_drew (S := fun w' => Hid (CorAt w.heap.size k w')) (by kernel_rfl) (Lib.hid (CorAt.drew K0.out)) (fun hHeld => ?_)
    refine wpAnyH_take (i := 0) (oi := _) rfl (by kernel_rfl) (by kernel_rfl) (by kernel_rfl) (fun _ _ _ h => h) (yields_load_part (by rfl) 27 (.tmp 2) rfl w.heap.size 0 rfl (corC k) _ Tryz.underlying27 rfl (by kernel_rfl) rfl (fun u hS => Hid.out hS)) hHeld ?_
    (try simp only [Act.put, List.getElem_toArray, List.getElem_cons_zero, List.setIfInBounds_toArray, List.set_cons_zero, List.set_cons_succ])
    refine wpAnyH_take (i := 1) (oi := _) (v := ?_) rfl (by kernel_rfl) (by kernel_rfl) (by kernel_rfl) (fun _ _ _ h => h) (Or.inl ⟨by rfl, ?_⟩) hHeld ?_
    rotate_left 1
    ·intro wz hz
     (try dsimp only at hz)
     go_simp
     (try with_reducible rfl)
    (try simp only [Act.put, List.getElem_toArray, List.getElem_cons_zero, List.getElem_cons_succ, List.setIfInBounds_toArray, List.set_cons_zero, List.set_cons_succ])
    refine wpAnyH_take (i := 2) (oi := _) (v := ?_) rfl (by kernel_rfl) (by kernel_rfl) (by kernel_rfl) (fun _ _ _ h => h) (Or.inl ⟨by rfl, ?_⟩) hHeld ?_
    rotate_left 1
    ·intro wz hz
     (try dsimp only at hz)
     go_simp
     (try with_reducible rfl)
    (try simp only [Act.put, List.getElem_toArray, List.getElem_cons_zero, List.getElem_cons_succ, List.setIfInBounds_toArray, List.set_cons_zero, List.set_cons_succ])
    refine wpAnyH_take (i := 3) (oi := _) (v := ?_) rfl (by kernel_rfl) (by kernel_rfl) (by kernel_rfl) (fun _ _ _ h => h) (Or.inl ⟨by rfl, ?_⟩) hHeld ?_
    rotate_left 1
    ·intro wz hz
     (try dsimp only at hz)
     have cc := CorAt.c_p (Hid.out hz)
     go_simp
     (try with_reducible rfl)
    (try simp only [Act.put, List.getElem_toArray, List.getElem_cons_zero, List.getElem_cons_succ, List.setIfInBounds_toArray, List.set_cons_zero, List.set_cons_succ])
    refine wpAnyH_take (i := 4) (oi := _) (v := ?_) rfl (by kernel_rfl) (by kernel_rfl) (by kernel_rfl) (fun _ _ _ h => h) (Or.inl ⟨by rfl, ?_⟩) hHeld ?_
    rotate_left 1
    ·intro wz hz
     (try dsimp only at hz)
     go_simp
     (try with_reducible rfl)
    (try simp only [Act.put, List.getElem_toArray, List.getElem_cons_zero, List.getElem_cons_succ, List.setIfInBounds_toArray, List.set_cons_zero, List.set_cons_succ])
    refine wpAnyH_take (i := 5) (oi := _) (v := ?_) rfl (by kernel_rfl) (by kernel_rfl) (by kernel_rfl) (fun _ _ _ h => h) (Or.inl ⟨by rfl, ?_⟩) hHeld ?_
    rotate_left 1
    ·intro wz hz
     (try dsimp only at hz)
     have cc := CorAt.c_sq (Hid.out hz)
     go_simp
     (try with_reducible rfl)
    (try simp only [Act.put, List.getElem_toArray, List.getElem_cons_zero, List.getElem_cons_succ, List.setIfInBounds_toArray, List.set_cons_zero, List.set_cons_succ])
    refine wpAnyH_take (i := 6) (oi := _) (v := ?_) rfl (by kernel_rfl) (by kernel_rfl) (by kernel_rfl) (fun _ _ _ h => h) (Or.inl ⟨by rfl, ?_⟩) hHeld ?_
    rotate_left 1
    ·intro wz hz
     (try dsimp only at hz)
     go_simp
     (try with_reducible rfl)
    (try simp only [Act.put, List.getElem_toArray, List.getElem_cons_zero, List.getElem_cons_succ, List.setIfInBounds_toArray, List.set_cons_zero, List.set_cons_succ])
    refine wpAnyH_ready (rs := [7]) (by kernel_rfl) (by simp) ?_
    refine AllReadyH.cons (o := _) rfl (fun K' hK' => ?_) AllReadyH.nil
    go_simp
    (go_at_call 80; refine (spec_pushed _ _ _).mono ?_; rintro e w1 ⟨rfl, rfl⟩)
    refine hK'.out _ _ (hHeld) (fun hHeld => ?_)
    clear hK' K'
    (try simp only [Act.put, List.getElem_toArray, List.getElem_cons_zero, List.getElem_cons_succ, List.setIfInBounds_toArray, List.set_cons_zero, List.set_cons_succ])
    refine wpAnyH_ready (rs := [8]) (by kernel_rfl) (by simp) ?_
    refine AllReadyH.cons (o := _) rfl (fun K' hK' => ?_) AllReadyH.nil
    go_simp
    (go_at_call 79; refine (s_push _ _ _).mono ?_; rintro e w1 ⟨x9, y9, z9, rfl, hb⟩)
    refine hK'.out _ _ (Lib.hid (CorAt.below (Hid.out hHeld) hb)) (fun hHeld => ?_)
    clear hK' K'
    (try simp only [Act.put, List.getElem_toArray, List.getElem_cons_zero, List.getElem_cons_succ, List.setIfInBounds_toArray, List.set_cons_zero, List.set_cons_succ])
    refine wpAnyH_ready (rs := [9]) (by kernel_rfl) (by simp) ?_
    refine AllReadyH.cons (o := _) rfl (fun K' hK' => ?_) AllReadyH.nil
    rw [if_pos (by rfl)]
    refine wp_store_row 38 (.tmp 4) (.tmp 32) rfl (w.heap.size + 1 + 1) #[.int .i64 x9, .int .i64 y9, .bool z9] rfl rfl _ _ (show _ = some (Obj.cells #[.int .i64 0, .int .i64 0, .bool false] 38 (0, 0)) by exact rowS) (by kernel_rfl) rfl (by rw [← Array.all_toList]; rfl) ?_
    refine hK'.out _ _ (Lib.hid (row_row (Hid.out hHeld) (by omega))) (fun hHeld => ?_)
    clear hK' K'
    refine wpAnyH_done (by kernel_rfl) ?_ _
    go_wp2
    exact bodyPost_ret (results_cell_row rfl _ _ (w.heap.size + 1 + 1) _ _ _ _ rfl (setRow_heap _ _ _ _ _ _ (by exact rowS)) Tryz.underlying38 rfl (by kernel_rfl)) rfl ⟨_, _, _, rfl, below_row (by exact belS) (by omega)⟩
   ·skip
    by_cases h5 : k.t = 5
    ·go_enter Tryz.func47, Tryz.ntmps47
     go_upto_region 1 with fail
     have K0 : (((w.alloc (.cells (corC k) 27)).alloc (.cells #[.bool wn, .bool we, .bool wi] 29)).alloc (.cells #[.int .i64 0, .int .i64 0, .bool false] 38)).heap[w.heap.size]? = some (.cells (corC k) 27 (0, 0)) := by
      have h := blk_old (o := .cells #[.int .i64 0, .int .i64 0, .bool false] 38) (blk_old (o := .cells #[.bool wn, .bool we, .bool wi] 29) (blk_new w (.cells (corC k) 27)))
      try simp only [alloc_size] at h
      exact h
     have K1 : (((w.alloc (.cells (corC k) 27)).alloc (.cells #[.bool wn, .bool we, .bool wi] 29)).alloc (.cells #[.int .i64 0, .int .i64 0, .bool false] 38)).heap[w.heap.size + 1]? = some (.cells #[.bool wn, .bool we, .bool wi] 29 (0, 0)) := by
      have h := blk_old (o := .cells #[.int .i64 0, .int .i64 0, .bool false] 38) (blk_new (w.alloc (.cells (corC k) 27)) (.cells #[.bool wn, .bool we, .bool wi] 29))
      try simp only [alloc_size] at h
      exact h
     have K2 : (((w.alloc (.cells (corC k) 27)).alloc (.cells #[.bool wn, .bool we, .bool wi] 29)).alloc (.cells #[.int .i64 0, .int .i64 0, .bool false] 38)).heap[w.heap.size + 1 + 1]? = some (.cells #[.int .i64 0, .int .i64 0, .bool false] 38 (0, 0)) := by
      have h := blk_new ((w.alloc (.cells (corC k) 27)).alloc (.cells #[.bool wn, .bool we, .bool wi] 29)) (.cells #[.int .i64 0, .int .i64 0, .bool false] 38)
      try simp only [alloc_size] at h
      exact h
     have B0 := below_alloc (below_alloc (below_alloc (Below.refl w.heap.size w) (.cells (corC k) 27)) (.cells #[.bool wn, .bool we, .bool wi] 29)) (.cells #[.int .i64 0, .int .i64 0, .bool false] 38)
     generalize (((w.alloc (.cells (corC k) 27)).alloc (.cells #[.bool wn, .bool we, .bool wi] 29)).alloc (.cells #[.int .i64 0, .int .i64 0, .bool false] 38)) = w0 at K0 K1 K2 B0 ⊢
     replace K0 : Hid (CorAt w.heap.size k w0) := Lib.hid K0
     replace K1 := Lib.hid K1
     replace K2 := Lib.hid K2
     replace B0 := Lib.hid B0
     have fz := CorAt.free K0.out
     have c_t := CorAt.c_t K0.out
     have c_pc := CorAt.c_pc K0.out
     have c_vl := CorAt.c_vl K0.out
     go_wp2_with (first
      | (refine load_some (by rfl) _ (by rfl) _ (by rfl) (by exact someS) ?_; intro k2 hk2)
      | (refine store_row (by rfl) 38 _ _ (by rfl) _ _ (by rfl) (by rfl) 3 (by kernel_rfl) (by exact rowS; done) rfl rfl (by rfl) ?_)
      | (refine load_row (by rfl) 29 _ (by rfl) _ (by rfl) 3 _ Tryz.underlying29 rfl (by kernel_rfl) (by exact rowS) rfl ?_)
      | (go_at_call 67; refine (s_leads _ _ _ _ _).mono ?_; rintro e w1 ⟨x9, rfl, hb⟩))
     exact bodyPost_ret (results_cell_row rfl _ _ (w.heap.size + 1 + 1) _ _ _ _ rfl (setRow_heap _ _ _ _ _ _ (by exact rowS)) Tryz.underlying38 rfl (by kernel_rfl)) rfl ⟨_, _, _, rfl, below_row (by exact belS) (by omega)⟩
    ·skip
     by_cases h6 : k.t = 6
     ·go_enter Tryz.func47, Tryz.ntmps47
      go_upto_region 1 with fail
      have K0 : (((w.alloc (.cells (corC k) 27)).alloc (.cells #[.bool wn, .bool we, .bool wi] 29)).alloc (.cells #[.int .i64 0, .int .i64 0, .bool false] 38)).heap[w.heap.size]? = some (.cells (corC k) 27 (0, 0)) := by
       have h := blk_old (o := .cells #[.int .i64 0, .int .i64 0, .bool false] 38) (blk_old (o := .cells #[.bool wn, .bool we, .bool wi] 29) (blk_new w (.cells (corC k) 27)))
       try simp only [alloc_size] at h
       exact h
      have K1 : (((w.alloc (.cells (corC k) 27)).alloc (.cells #[.bool wn, .bool we, .bool wi] 29)).alloc (.cells #[.int .i64 0, .int .i64 0, .bool false] 38)).heap[w.heap.size + 1]? = some (.cells #[.bool wn, .bool we, .bool wi] 29 (0, 0)) := by
       have h := blk_old (o := .cells #[.int .i64 0, .int .i64 0, .bool false] 38) (blk_new (w.alloc (.cells (corC k) 27)) (.cells #[.bool wn, .bool we, .bool wi] 29))
       try simp only [alloc_size] at h
       exact h
      have K2 : (((w.alloc (.cells (corC k) 27)).alloc (.cells #[.bool wn, .bool we, .bool wi] 29)).alloc (.cells #[.int .i64 0, .int .i64 0, .bool false] 38)).heap[w.heap.size + 1 + 1]? = some (.cells #[.int .i64 0, .int .i64 0, .bool false] 38 (0, 0)) := by
       have h := blk_new ((w.alloc (.cells (corC k) 27)).alloc (.cells #[.bool wn, .bool we, .bool wi] 29)) (.cells #[.int .i64 0, .int .i64 0, .bool false] 38)
       try simp only [alloc_size] at h
       exact h
      have B0 := below_alloc (below_alloc (below_alloc (Below.refl w.heap.size w) (.cells (corC k) 27)) (.cells #[.bool wn, .bool we, .bool wi] 29)) (.cells #[.int .i64 0, .int .i64 0, .bool false] 38)
      generalize (((w.alloc (.cells (corC k) 27)).alloc (.cells #[.bool wn, .bool we, .bool wi] 29)).alloc (.cells #[.int .i64 0, .int .i64 0, .bool false] 38)) = w0 at K0 K1 K2 B0 ⊢
      replace K0 : Hid (CorAt w.heap.size k w0) := Lib.hid K0
      replace K1 := Lib.hid K1
      replace K2 := Lib.hid K2
      replace B0 := Lib.hid B0
      have fz := CorAt.free K0.out
      have c_t := CorAt.c_t K0.out
      have c_pc := CorAt.c_pc K0.out
      have c_vl := CorAt.c_vl K0.out
      go_wp2_with (first
       | (refine load_some (by rfl) _ (by rfl) _ (by rfl) (by exact someS) ?_; intro k2 hk2)
       | (refine store_row (by rfl) 38 _ _ (by rfl) _ _ (by rfl) (by rfl) 3 (by kernel_rfl) (by exact rowS; done) rfl rfl (by rfl) ?_)
       | (go_at_call 79; refine (s_push _ _ _).mono ?_; rintro e w1 ⟨x9, y9, z9, rfl, hb⟩)
       | (go_at_call 46; refine (s_l10Here _ _).mono ?_; rintro e w1 ⟨x9, y9, z9, rfl, hb⟩))
      exact bodyPost_ret (results_cell_row rfl _ _ (w.heap.size + 1 + 1) _ _ _ _ rfl (setRow_heap _ _ _ _ _ _ (by exact rowS)) Tryz.underlying38 rfl (by kernel_rfl)) rfl ⟨_, _, _, rfl, below_row (by exact belS) (by omega)⟩
     ·go_enter Tryz.func47, Tryz.ntmps47
      go_upto_region 1 with fail
      have K0 : (((w.alloc (.cells (corC k) 27)).alloc (.cells #[.bool wn, .bool we, .bool wi] 29)).alloc (.cells #[.int .i64 0, .int .i64 0, .bool false] 38)).heap[w.heap.size]? = some (.cells (corC k) 27 (0, 0)) := by
       have h := blk_old (o := .cells #[.int .i64 0, .int .i64 0, .bool false] 38) (blk_old (o := .cells #[.bool wn, .bool we, .bool wi] 29) (blk_new w (.cells (corC k) 27)))
       try simp only [alloc_size] at h
       exact h
      have K1 : (((w.alloc (.cells (corC k) 27)).alloc (.cells #[.bool wn, .bool we, .bool wi] 29)).alloc (.cells #[.int .i64 0, .int .i64 0, .bool false] 38)).heap[w.heap.size + 1]? = some (.cells #[.bool wn, .bool we, .bool wi] 29 (0, 0)) := by
       have h := blk_old (o := .cells #[.int .i64 0, .int .i64 0, .bool false] 38) (blk_new (w.alloc (.cells (corC k) 27)) (.cells #[.bool wn, .bool we, .bool wi] 29))
       try simp only [alloc_size] at h
       exact h
      have K2 : (((w.alloc (.cells (corC k) 27)).alloc (.cells #[.bool wn, .bool we, .bool wi] 29)).alloc (.cells #[.int .i64 0, .int .i64 0, .bool false] 38)).heap[w.heap.size + 1 + 1]? = some (.cells #[.int .i64 0, .int .i64 0, .bool false] 38 (0, 0)) := by
       have h := blk_new ((w.alloc (.cells (corC k) 27)).alloc (.cells #[.bool wn, .bool we, .bool wi] 29)) (.cells #[.int .i64 0, .int .i64 0, .bool false] 38)
       try simp only [alloc_size] at h
       exact h
      have B0 := below_alloc (below_alloc (below_alloc (Below.refl w.heap.size w) (.cells (corC k) 27)) (.cells #[.bool wn, .bool we, .bool wi] 29)) (.cells #[.int .i64 0, .int .i64 0, .bool false] 38)
      generalize (((w.alloc (.cells (corC k) 27)).alloc (.cells #[.bool wn, .bool we, .bool wi] 29)).alloc (.cells #[.int .i64 0, .int .i64 0, .bool false] 38)) = w0 at K0 K1 K2 B0 ⊢
      replace K0 : Hid (CorAt w.heap.size k w0) := Lib.hid K0
      replace K1 := Lib.hid K1
      replace K2 := Lib.hid K2
      replace B0 := Lib.hid B0
      have fz := CorAt.free K0.out
      have c_t := CorAt.c_t K0.out
      have c_pc := CorAt.c_pc K0.out
      have c_vl := CorAt.c_vl K0.out
      go_wp2_with (first
       | (refine load_some (by rfl) _ (by rfl) _ (by rfl) (by exact someS) ?_; intro k2 hk2)
       | (refine store_row (by rfl) 38 _ _ (by rfl) _ _ (by rfl) (by rfl) 3 (by kernel_rfl) (by exact rowS; done) rfl rfl (by rfl) ?_)
       | (go_at_call 79; refine (s_push _ _ _).mono ?_; rintro e w1 ⟨x9, y9, z9, rfl, hb⟩)
       | (go_at_call 46; refine (s_l10Here _ _).mono ?_; rintro e w1 ⟨x9, y9, z9, rfl, hb⟩))
      exact bodyPost_ret (results_cell_row rfl _ _ (w.heap.size + 1 + 1) _ _ _ _ rfl (setRow_heap _ _ _ _ _ _ (by exact rowS)) Tryz.underlying38 rfl (by kernel_rfl)) rfl ⟨_, _, _, rfl, below_row (by exact belS) (by omega)⟩
set_option maxRecDepth 100000 in
set_option maxHeartbeats 20000000 in
theorem s_out (r : RegI) (n : ByteArray) (w : World) : Calls Tryz.prog 83 #[.agg (regC r), .string n] w (NumPost w) := by
 unfold NumPost regC
 by_cases h1 : n = ⟨#[83, 84, 88]⟩
 ·subst h1
  go_enter Tryz.func83, Tryz.ntmps83
  go_wp2
  go_ret
  exact ⟨_, rfl, below_alloc (Below.refl _ _) _⟩
 by_cases h2 : n = ⟨#[83, 84, 89]⟩
 ·subst h2
  go_enter Tryz.func83, Tryz.ntmps83
  go_wp2
  go_ret
  exact ⟨_, rfl, below_alloc (Below.refl _ _) _⟩
 have n1 := ne_list [83, 84, 88] h1
 have n2 := ne_list [83, 84, 89] h2
 clear h1 h2
 go_enter Tryz.func83, Tryz.ntmps83
 go_wp2
 go_ret
 exact ⟨_, rfl, below_alloc (Below.refl _ _) _⟩
theorem s_apply (r : RegI) (n : ByteArray) (v : Int) (w : World) : Calls Tryz.prog 72 #[.agg (regC r), .string n, .int .i64 v] w fun e w' => ∃ (r3 : RegI) (x : Int), e = .returned (.tuple #[.agg (regC r3), .int .i64 x]) ∧ Below w.heap.size w w' := (spec_apply r n v w).mono fun _ _ h => ⟨_, _, h.1, h.2⟩
set_option maxRecDepth 100000 in
set_option maxHeartbeats 20000000 in
theorem s_memory0 (k : CorI) (oa ob : ByteArray) (hT : k.t = 19 ∨ k.t = 20 ∨ k.t = 21 ∨ k.t = 22 ∨ k.t = 1) (w : World) : Calls Tryz.prog 49 #[.agg (corC k), .agg #[.string oa, .string ob]] w (BusPost w) := by
 unfold BusPost
 by_cases h19 : k.t = 19
 ·go_enter Tryz.func49, Tryz.ntmps49
  go_upto_region 1 with fail
  have K0 : (((w.alloc (.cells (corC k) 27)).alloc (.cells #[.string oa, .string ob] 55)).alloc (.cells #[.int .i64 0, .int .i64 0, .bool false] 38)).heap[w.heap.size]? = some (.cells (corC k) 27 (0, 0)) := by
   have h := blk_old (o := .cells #[.int .i64 0, .int .i64 0, .bool false] 38) (blk_old (o := .cells #[.string oa, .string ob] 55) (blk_new w (.cells (corC k) 27)))
   try simp only [alloc_size] at h
   exact h
  have K1 : (((w.alloc (.cells (corC k) 27)).alloc (.cells #[.string oa, .string ob] 55)).alloc (.cells #[.int .i64 0, .int .i64 0, .bool false] 38)).heap[w.heap.size + 1]? = some (.cells #[.string oa, .string ob] 55 (0, 0)) := by
   have h := blk_old (o := .cells #[.int .i64 0, .int .i64 0, .bool false] 38) (blk_new (w.alloc (.cells (corC k) 27)) (.cells #[.string oa, .string ob] 55))
   try simp only [alloc_size] at h
   exact h
  have K2 : (((w.alloc (.cells (corC k) 27)).alloc (.cells #[.string oa, .string ob] 55)).alloc (.cells #[.int .i64 0, .int .i64 0, .bool false] 38)).heap[w.heap.size + 1 + 1]? = some (.cells #[.int .i64 0, .int .i64 0, .bool false] 38 (0, 0)) := by
   have h := blk_new ((w.alloc (.cells (corC k) 27)).alloc (.cells #[.string oa, .string ob] 55)) (.cells #[.int .i64 0, .int .i64 0, .bool false] 38)
   try simp only [alloc_size] at h
   exact h
  have B0 := below_alloc (below_alloc (below_alloc (Below.refl w.heap.size w) (.cells (corC k) 27)) (.cells #[.string oa, .string ob] 55)) (.cells #[.int .i64 0, .int .i64 0, .bool false] 38)
  generalize (((w.alloc (.cells (corC k) 27)).alloc (.cells #[.string oa, .string ob] 55)).alloc (.cells #[.int .i64 0, .int .i64 0, .bool false] 38)) = w0 at K0 K1 K2 B0 ⊢
  replace K0 : Hid (CorAt w.heap.size k w0) := Lib.hid K0
  replace K1 := Lib.hid K1
  replace K2 := Lib.hid K2
  replace B0 := Lib.hid B0
  have fz := CorAt.free K0.out
  have c_t := CorAt.c_t K0.out
  have c_hi := CorAt.c_hi K0.out
  have c_lo := CorAt.c_lo K0.out
  have c_vl := CorAt.c_vl K0.out
  have o0 := cell_of_blk (i := 0) (v := .string oa) K1.out rfl
  have o1 := cell_of_blk (i := 1) (v := .string ob) K1.out rfl
  go_wp2_with (first
   | (refine load_some (by rfl) _ (by rfl) _ (by rfl) (by exact someS) ?_; intro k2 hk2)
   | (refine store_row (by rfl) 38 _ _ (by rfl) _ _ (by rfl) (by rfl) 3 (by kernel_rfl) (by exact rowS; done) rfl rfl (by rfl) ?_)
   | (go_at_call 82; refine (s_l10At _ _).mono ?_; rintro e w1 ⟨x9, y9, z9, rfl, hb⟩)
   | (go_at_call 46; refine (s_l10Here _ _).mono ?_; rintro e w1 ⟨x9, y9, z9, rfl, hb⟩))
  exact bodyPost_ret (results_cell_row rfl _ _ (w.heap.size + 1 + 1) _ _ _ _ rfl (setRow_heap _ _ _ _ _ _ (by exact rowS)) Tryz.underlying38 rfl (by kernel_rfl)) rfl ⟨_, _, _, rfl, below_row (by exact belS) (by omega)⟩
 ·skip
  by_cases h20 : k.t = 20
  ·by_cases hk : kindI oa ob = 1
   ·go_enter Tryz.func49, Tryz.ntmps49
    go_upto_region 1 with fail
    have K0 : (((w.alloc (.cells (corC k) 27)).alloc (.cells #[.string oa, .string ob] 55)).alloc (.cells #[.int .i64 0, .int .i64 0, .bool false] 38)).heap[w.heap.size]? = some (.cells (corC k) 27 (0, 0)) := by
     have h := blk_old (o := .cells #[.int .i64 0, .int .i64 0, .bool false] 38) (blk_old (o := .cells #[.string oa, .string ob] 55) (blk_new w (.cells (corC k) 27)))
     try simp only [alloc_size] at h
     exact h
    have K1 : (((w.alloc (.cells (corC k) 27)).alloc (.cells #[.string oa, .string ob] 55)).alloc (.cells #[.int .i64 0, .int .i64 0, .bool false] 38)).heap[w.heap.size + 1]? = some (.cells #[.string oa, .string ob] 55 (0, 0)) := by
     have h := blk_old (o := .cells #[.int .i64 0, .int .i64 0, .bool false] 38) (blk_new (w.alloc (.cells (corC k) 27)) (.cells #[.string oa, .string ob] 55))
     try simp only [alloc_size] at h
     exact h
    have K2 : (((w.alloc (.cells (corC k) 27)).alloc (.cells #[.string oa, .string ob] 55)).alloc (.cells #[.int .i64 0, .int .i64 0, .bool false] 38)).heap[w.heap.size + 1 + 1]? = some (.cells #[.int .i64 0, .int .i64 0, .bool false] 38 (0, 0)) := by
     have h := blk_new ((w.alloc (.cells (corC k) 27)).alloc (.cells #[.string oa, .string ob] 55)) (.cells #[.int .i64 0, .int .i64 0, .bool false] 38)
     try simp only [alloc_size] at h
     exact h
    have B0 := below_alloc (below_alloc (below_alloc (Below.refl w.heap.size w) (.cells (corC k) 27)) (.cells #[.string oa, .string ob] 55)) (.cells #[.int .i64 0, .int .i64 0, .bool false] 38)
    generalize (((w.alloc (.cells (corC k) 27)).alloc (.cells #[.string oa, .string ob] 55)).alloc (.cells #[.int .i64 0, .int .i64 0, .bool false] 38)) = w0 at K0 K1 K2 B0 ⊢
    replace K0 : Hid (CorAt w.heap.size k w0) := Lib.hid K0
    replace K1 := Lib.hid K1
    replace K2 := Lib.hid K2
    replace B0 := Lib.hid B0
    have fz := CorAt.free K0.out
    have c_t := CorAt.c_t K0.out
    have o0 := cell_of_blk (i := 0) (v := .string oa) K1.out rfl
    have o1 := cell_of_blk (i := 1) (v := .string ob) K1.out rfl
    go_wp2_with (first
     | (refine load_row (by rfl) 55 _ (by rfl) _ (by rfl) 2 _ Tryz.underlying55 rfl (by kernel_rfl) (by exact rowS) rfl ?_)
     | (go_at_call 36; refine ((fun w => show Calls Tryz.prog 36 #[.agg #[.string oa, .string ob]] w _ from spec_kindOf oa ob w) _).mono ?_; rintro e w1 ⟨rfl, hb⟩; refine Hid.out ?_))
    have K0 := Lib.hid (CorAt.below K0.out hb)
    have K1 := Lib.hid (blk_below (b := w.heap.size + 1) (show _ = some (Obj.cells #[.string oa, .string ob] 55 (0, 0)) by exact rowS) hb)
    have K2 := Lib.hid (blk_below (b := w.heap.size + 1 + 1) (show _ = some (Obj.cells #[.int .i64 0, .int .i64 0, .bool false] 38 (0, 0)) by exact rowS) hb)
    have B0 := Lib.hid (below_then (show Below w.heap.size w _ by exact belS) hb)
    clear hb fz c_t o0 o1
    have fz := CorAt.free K0.out
    have hlt := (Array.getElem?_eq_some_iff.1 K2.out).1
    have o0 := cell_of_blk (i := 0) (v := .string oa) K1.out rfl
    have o1 := cell_of_blk (i := 1) (v := .string ob) K1.out rfl
    refine Lib.hid ?_
    go_upto_region 6 with fail
    refine wp_region_held_drew (S := fun w' => Hid (CorAt w.heap.size k w' ∧ w'.heap[w.heap.size + 1]? = some (Obj.cells #[.string oa, .string ob] 55 (0, 0)))) (by kernel_rfl) (Lib.hid ⟨CorAt.drew K0.out, row_drew K1.out⟩) (fun hHeld => ?_)
    refine wpAnyH_take (i := 0) (oi := _) (v := ?_) rfl (by kernel_rfl) (by kernel_rfl) (by kernel_rfl) (fun _ _ _ h => h) (Or.inl ⟨by rfl, ?_⟩) hHeld ?_
    rotate_left 1
    ·intro wz hz
     (try dsimp only at hz)
     go_simp
     (try with_reducible rfl)
    (try simp only [Act.put, List.getElem_toArray, List.getElem_cons_zero, List.setIfInBounds_toArray, List.set_cons_zero, List.set_cons_succ])
    refine wpAnyH_take (i := 1) (oi := _) (v := ?_) rfl (by kernel_rfl) (by kernel_rfl) (by kernel_rfl) (fun _ _ _ h => h) (Or.inl ⟨by rfl, ?_⟩) hHeld ?_
    rotate_left 1
    ·intro wz hz
     (try dsimp only at hz)
     have cc := CorAt.c_hi (Hid.out hz).1
     go_simp
     (try with_reducible rfl)
    (try simp only [Act.put, List.getElem_toArray, List.getElem_cons_zero, List.getElem_cons_succ, List.setIfInBounds_toArray, List.set_cons_zero, List.set_cons_succ])
    refine wpAnyH_take (i := 2) (oi := _) (v := ?_) rfl (by kernel_rfl) (by kernel_rfl) (by kernel_rfl) (fun _ _ _ h => h) (Or.inl ⟨by rfl, ?_⟩) hHeld ?_
    rotate_left 1
    ·intro wz hz
     (try dsimp only at hz)
     go_simp
     (try with_reducible rfl)
    (try simp only [Act.put, List.getElem_toArray, List.getElem_cons_zero, List.getElem_cons_succ, List.setIfInBounds_toArray, List.set_cons_zero, List.set_cons_succ])
    refine wpAnyH_take (i := 3) (oi := _) (v := ?_) rfl (by kernel_rfl) (by kernel_rfl) (by kernel_rfl) (fun _ _ _ h => h) (Or.inl ⟨by rfl, ?_⟩) hHeld ?_
    rotate_left 1
    ·intro wz hz
     (try dsimp only at hz)
     go_simp
     (try with_reducible rfl)
    (try simp only [Act.put, List.getElem_toArray, List.getElem_cons_zero, List.getElem_cons_succ, List.setIfInBounds_toArray, List.set_cons_zero, List.set_cons_succ])
    refine wpAnyH_take (i := 4) (oi := _) (v := ?_) rfl (by kernel_rfl) (by kernel_rfl) (by kernel_rfl) (fun _ _ _ h => h) (Or.inl ⟨by rfl, ?_⟩) hHeld ?_
    rotate_left 1
    ·intro wz hz
     (try dsimp only at hz)
     have cc := CorAt.c_lo (Hid.out hz).1
     go_simp
     (try with_reducible rfl)
    (try simp only [Act.put, List.getElem_toArray, List.getElem_cons_zero, List.getElem_cons_succ, List.setIfInBounds_toArray, List.set_cons_zero, List.set_cons_succ])
    refine wpAnyH_take (i := 5) (oi := _) (v := ?_) rfl (by kernel_rfl) (by kernel_rfl) (by kernel_rfl) (fun _ _ _ h => h) (Or.inl ⟨by rfl, ?_⟩) hHeld ?_
    rotate_left 1
    ·intro wz hz
     (try dsimp only at hz)
     go_simp
     (try with_reducible rfl)
    (try simp only [Act.put, List.getElem_toArray, List.getElem_cons_zero, List.getElem_cons_succ, List.setIfInBounds_toArray, List.set_cons_zero, List.set_cons_succ])
    refine wpAnyH_take (i := 6) (oi := _) (v := ?_) rfl (by kernel_rfl) (by kernel_rfl) (by kernel_rfl) (fun _ _ _ h => h) (Or.inl ⟨by rfl, ?_⟩) hHeld ?_
    rotate_left 1
    ·intro wz hz
     (try dsimp only at hz)
     go_simp
     (try with_reducible rfl)
    (try simp only [Act.put, List.getElem_toArray, List.getElem_cons_zero, List.getElem_cons_succ, List.setIfInBounds_toArray, List.set_cons_zero, List.set_cons_succ])
    refine wpAnyH_take (i := 7) (oi := _) rfl (by kernel_rfl) (by kernel_rfl) (by kernel_rfl) (fun _ _ _ h => h) (yields_load_part (by rfl) 25 (.tmp 24) rfl w.heap.size 0 rfl (regC ⟨k.a, k.x, k.y, k.s, k.p, k.pc⟩) _ Tryz.underlying25 rfl (by kernel_rfl) rfl (fun u hS => (Hid.out hS).1)) hHeld ?_
    (try simp only [Act.put, List.getElem_toArray, List.getElem_cons_zero, List.getElem_cons_succ, List.setIfInBounds_toArray, List.set_cons_zero, List.set_cons_succ])
    refine wpAnyH_take (i := 8) (oi := _) (v := ?_) rfl (by kernel_rfl) (by kernel_rfl) (by kernel_rfl) (fun _ _ _ h => h) (Or.inl ⟨by rfl, ?_⟩) hHeld ?_
    rotate_left 1
    ·intro wz hz
     (try dsimp only at hz)
     go_simp
     (try with_reducible rfl)
    (try simp only [Act.put, List.getElem_toArray, List.getElem_cons_zero, List.getElem_cons_succ, List.setIfInBounds_toArray, List.set_cons_zero, List.set_cons_succ])
    refine wpAnyH_take (i := 9) (oi := _) (v := ?_) rfl (by kernel_rfl) (by kernel_rfl) (by kernel_rfl) (fun _ _ _ h => h) (Or.inl ⟨by rfl, ?_⟩) hHeld ?_
    rotate_left 1
    ·intro wz hz
     (try dsimp only at hz)
     have cc := cell_of_blk (i := 0) (v := .string oa) (Hid.out hz).2 rfl
     go_simp
     (try with_reducible rfl)
    (try simp only [Act.put, List.getElem_toArray, List.getElem_cons_zero, List.getElem_cons_succ, List.setIfInBounds_toArray, List.set_cons_zero, List.set_cons_succ])
    refine wpAnyH_ready (rs := [10]) (by kernel_rfl) (by simp) ?_
    refine AllReadyH.cons (o := _) rfl (fun K' hK' => ?_) AllReadyH.nil
    go_simp
    (go_at_call 83; refine (s_out _ _ _).mono ?_; rintro e w1 ⟨x9, rfl, hb⟩)
    refine hK'.out _ _ (Lib.hid ⟨CorAt.below (Hid.out hHeld).1 hb, blk_below (Hid.out hHeld).2 hb⟩) (fun hHeld => ?_)
    clear hK' K'
    (try simp only [Act.put, List.getElem_toArray, List.getElem_cons_zero, List.getElem_cons_succ, List.setIfInBounds_toArray, List.set_cons_zero, List.set_cons_succ])
    refine wpAnyH_take (i := 11) (oi := _) (v := ?_) rfl (by kernel_rfl) (by kernel_rfl) (by kernel_rfl) (fun _ _ _ h => h) (Or.inl ⟨by rfl, ?_⟩) hHeld ?_
    rotate_left 1
    ·intro wz hz
     (try dsimp only at hz)
     go_simp
     (try with_reducible rfl)
    (try simp only [Act.put, List.getElem_toArray, List.getElem_cons_zero, List.getElem_cons_succ, List.setIfInBounds_toArray, List.set_cons_zero, List.set_cons_succ])
    refine wpAnyH_ready (rs := [12]) (by kernel_rfl) (by simp) ?_
    refine AllReadyH.cons (o := _) rfl (fun K' hK' => ?_) AllReadyH.nil
    rw [if_pos (by rfl)]
    refine wp_store_row 38 (.tmp 4) (.tmp 29) rfl (w.heap.size + 1 + 1) _ rfl rfl _ _ (show _ = some (Obj.cells #[.int .i64 0, .int .i64 0, .bool false] 38 (0, 0)) by exact rowS) (by kernel_rfl) rfl (by rw [← Array.all_toList]; rfl) ?_
    refine hK'.out _ _ (Lib.hid ⟨row_row (Hid.out hHeld).1 (by omega), row_row (Hid.out hHeld).2 (by omega)⟩) (fun hHeld => ?_)
    clear hK' K'
    refine wpAnyH_done (by kernel_rfl) ?_ _
    go_wp2
    exact bodyPost_ret (results_cell_row rfl _ _ (w.heap.size + 1 + 1) _ _ _ _ rfl (setRow_heap _ _ _ _ _ _ (by exact rowS)) Tryz.underlying38 rfl (by kernel_rfl)) rfl ⟨_, _, _, rfl, below_row (by exact belS) (by omega)⟩
   ·go_enter Tryz.func49, Tryz.ntmps49
    go_upto_region 1 with fail
    have K0 : (((w.alloc (.cells (corC k) 27)).alloc (.cells #[.string oa, .string ob] 55)).alloc (.cells #[.int .i64 0, .int .i64 0, .bool false] 38)).heap[w.heap.size]? = some (.cells (corC k) 27 (0, 0)) := by
     have h := blk_old (o := .cells #[.int .i64 0, .int .i64 0, .bool false] 38) (blk_old (o := .cells #[.string oa, .string ob] 55) (blk_new w (.cells (corC k) 27)))
     try simp only [alloc_size] at h
     exact h
    have K1 : (((w.alloc (.cells (corC k) 27)).alloc (.cells #[.string oa, .string ob] 55)).alloc (.cells #[.int .i64 0, .int .i64 0, .bool false] 38)).heap[w.heap.size + 1]? = some (.cells #[.string oa, .string ob] 55 (0, 0)) := by
     have h := blk_old (o := .cells #[.int .i64 0, .int .i64 0, .bool false] 38) (blk_new (w.alloc (.cells (corC k) 27)) (.cells #[.string oa, .string ob] 55))
     try simp only [alloc_size] at h
     exact h
    have K2 : (((w.alloc (.cells (corC k) 27)).alloc (.cells #[.string oa, .string ob] 55)).alloc (.cells #[.int .i64 0, .int .i64 0, .bool false] 38)).heap[w.heap.size + 1 + 1]? = some (.cells #[.int .i64 0, .int .i64 0, .bool false] 38 (0, 0)) := by
     have h := blk_new ((w.alloc (.cells (corC k) 27)).alloc (.cells #[.string oa, .string ob] 55)) (.cells #[.int .i64 0, .int .i64 0, .bool false] 38)
     try simp only [alloc_size] at h
     exact h
    have B0 := below_alloc (below_alloc (below_alloc (Below.refl w.heap.size w) (.cells (corC k) 27)) (.cells #[.string oa, .string ob] 55)) (.cells #[.int .i64 0, .int .i64 0, .bool false] 38)
    generalize (((w.alloc (.cells (corC k) 27)).alloc (.cells #[.string oa, .string ob] 55)).alloc (.cells #[.int .i64 0, .int .i64 0, .bool false] 38)) = w0 at K0 K1 K2 B0 ⊢
    replace K0 : Hid (CorAt w.heap.size k w0) := Lib.hid K0
    replace K1 := Lib.hid K1
    replace K2 := Lib.hid K2
    replace B0 := Lib.hid B0
    have fz := CorAt.free K0.out
    have c_t := CorAt.c_t K0.out
    have o0 := cell_of_blk (i := 0) (v := .string oa) K1.out rfl
    have o1 := cell_of_blk (i := 1) (v := .string ob) K1.out rfl
    go_wp2_with (first
     | (refine load_row (by rfl) 55 _ (by rfl) _ (by rfl) 2 _ Tryz.underlying55 rfl (by kernel_rfl) (by exact rowS) rfl ?_)
     | (go_at_call 36; refine ((fun w => show Calls Tryz.prog 36 #[.agg #[.string oa, .string ob]] w _ from spec_kindOf oa ob w) _).mono ?_; rintro e w1 ⟨rfl, hb⟩; refine Hid.out ?_))
    have K0 := Lib.hid (CorAt.below K0.out hb)
    have K1 := Lib.hid (blk_below (b := w.heap.size + 1) (show _ = some (Obj.cells #[.string oa, .string ob] 55 (0, 0)) by exact rowS) hb)
    have K2 := Lib.hid (blk_below (b := w.heap.size + 1 + 1) (show _ = some (Obj.cells #[.int .i64 0, .int .i64 0, .bool false] 38 (0, 0)) by exact rowS) hb)
    have B0 := Lib.hid (below_then (show Below w.heap.size w _ by exact belS) hb)
    clear hb fz c_t o0 o1
    have fz := CorAt.free K0.out
    have hlt := (Array.getElem?_eq_some_iff.1 K2.out).1
    have o0 := cell_of_blk (i := 0) (v := .string oa) K1.out rfl
    have o1 := cell_of_blk (i := 1) (v := .string ob) K1.out rfl
    refine Lib.hid ?_
    go_wp2_with (first
     | (refine load_some (by rfl) _ (by rfl) _ (by rfl) (by exact someS) ?_; intro k2 hk2)
     | (refine store_row (by rfl) 38 _ _ (by rfl) _ _ (by rfl) (by rfl) 3 (by kernel_rfl) (by exact rowS; done) rfl rfl (by rfl) ?_)
     | (go_at_call 82; refine (s_l10At _ _).mono ?_; rintro e w1 ⟨x9, y9, z9, rfl, hb⟩))
    exact bodyPost_ret (results_cell_row rfl _ _ (w.heap.size + 1 + 1) _ _ _ _ rfl (setRow_heap _ _ _ _ _ _ (by exact rowS)) Tryz.underlying38 rfl (by kernel_rfl)) rfl ⟨_, _, _, rfl, below_row (by exact belS) (by omega)⟩
  ·skip
   by_cases h21 : k.t = 21
   ·go_enter Tryz.func49, Tryz.ntmps49
    go_upto_region 1 with fail
    have K0 : (((w.alloc (.cells (corC k) 27)).alloc (.cells #[.string oa, .string ob] 55)).alloc (.cells #[.int .i64 0, .int .i64 0, .bool false] 38)).heap[w.heap.size]? = some (.cells (corC k) 27 (0, 0)) := by
     have h := blk_old (o := .cells #[.int .i64 0, .int .i64 0, .bool false] 38) (blk_old (o := .cells #[.string oa, .string ob] 55) (blk_new w (.cells (corC k) 27)))
     try simp only [alloc_size] at h
     exact h
    have K1 : (((w.alloc (.cells (corC k) 27)).alloc (.cells #[.string oa, .string ob] 55)).alloc (.cells #[.int .i64 0, .int .i64 0, .bool false] 38)).heap[w.heap.size + 1]? = some (.cells #[.string oa, .string ob] 55 (0, 0)) := by
     have h := blk_old (o := .cells #[.int .i64 0, .int .i64 0, .bool false] 38) (blk_new (w.alloc (.cells (corC k) 27)) (.cells #[.string oa, .string ob] 55))
     try simp only [alloc_size] at h
     exact h
    have K2 : (((w.alloc (.cells (corC k) 27)).alloc (.cells #[.string oa, .string ob] 55)).alloc (.cells #[.int .i64 0, .int .i64 0, .bool false] 38)).heap[w.heap.size + 1 + 1]? = some (.cells #[.int .i64 0, .int .i64 0, .bool false] 38 (0, 0)) := by
     have h := blk_new ((w.alloc (.cells (corC k) 27)).alloc (.cells #[.string oa, .string ob] 55)) (.cells #[.int .i64 0, .int .i64 0, .bool false] 38)
     try simp only [alloc_size] at h
     exact h
    have B0 := below_alloc (below_alloc (below_alloc (Below.refl w.heap.size w) (.cells (corC k) 27)) (.cells #[.string oa, .string ob] 55)) (.cells #[.int .i64 0, .int .i64 0, .bool false] 38)
    generalize (((w.alloc (.cells (corC k) 27)).alloc (.cells #[.string oa, .string ob] 55)).alloc (.cells #[.int .i64 0, .int .i64 0, .bool false] 38)) = w0 at K0 K1 K2 B0 ⊢
    replace K0 : Hid (CorAt w.heap.size k w0) := Lib.hid K0
    replace K1 := Lib.hid K1
    replace K2 := Lib.hid K2
    replace B0 := Lib.hid B0
    have fz := CorAt.free K0.out
    have c_t := CorAt.c_t K0.out
    have c_hi := CorAt.c_hi K0.out
    have c_lo := CorAt.c_lo K0.out
    have c_vl := CorAt.c_vl K0.out
    have o0 := cell_of_blk (i := 0) (v := .string oa) K1.out rfl
    have o1 := cell_of_blk (i := 1) (v := .string ob) K1.out rfl
    go_wp2_with (first
     | (refine load_some (by rfl) _ (by rfl) _ (by rfl) (by exact someS) ?_; intro k2 hk2)
     | (refine store_row (by rfl) 38 _ _ (by rfl) _ _ (by rfl) (by rfl) 3 (by kernel_rfl) (by exact rowS; done) rfl rfl (by rfl) ?_)
     | (go_at_call 82; refine (s_l10At _ _).mono ?_; rintro e w1 ⟨x9, y9, z9, rfl, hb⟩)
     | (go_at_call 46; refine (s_l10Here _ _).mono ?_; rintro e w1 ⟨x9, y9, z9, rfl, hb⟩))
    exact bodyPost_ret (results_cell_row rfl _ _ (w.heap.size + 1 + 1) _ _ _ _ rfl (setRow_heap _ _ _ _ _ _ (by exact rowS)) Tryz.underlying38 rfl (by kernel_rfl)) rfl ⟨_, _, _, rfl, below_row (by exact belS) (by omega)⟩
   ·skip
    by_cases h22 : k.t = 22
    ·go_enter Tryz.func49, Tryz.ntmps49
     go_upto_region 1 with fail
     have K0 : (((w.alloc (.cells (corC k) 27)).alloc (.cells #[.string oa, .string ob] 55)).alloc (.cells #[.int .i64 0, .int .i64 0, .bool false] 38)).heap[w.heap.size]? = some (.cells (corC k) 27 (0, 0)) := by
      have h := blk_old (o := .cells #[.int .i64 0, .int .i64 0, .bool false] 38) (blk_old (o := .cells #[.string oa, .string ob] 55) (blk_new w (.cells (corC k) 27)))
      try simp only [alloc_size] at h
      exact h
     have K1 : (((w.alloc (.cells (corC k) 27)).alloc (.cells #[.string oa, .string ob] 55)).alloc (.cells #[.int .i64 0, .int .i64 0, .bool false] 38)).heap[w.heap.size + 1]? = some (.cells #[.string oa, .string ob] 55 (0, 0)) := by
      have h := blk_old (o := .cells #[.int .i64 0, .int .i64 0, .bool false] 38) (blk_new (w.alloc (.cells (corC k) 27)) (.cells #[.string oa, .string ob] 55))
      try simp only [alloc_size] at h
      exact h
     have K2 : (((w.alloc (.cells (corC k) 27)).alloc (.cells #[.string oa, .string ob] 55)).alloc (.cells #[.int .i64 0, .int .i64 0, .bool false] 38)).heap[w.heap.size + 1 + 1]? = some (.cells #[.int .i64 0, .int .i64 0, .bool false] 38 (0, 0)) := by
      have h := blk_new ((w.alloc (.cells (corC k) 27)).alloc (.cells #[.string oa, .string ob] 55)) (.cells #[.int .i64 0, .int .i64 0, .bool false] 38)
      try simp only [alloc_size] at h
      exact h
     have B0 := below_alloc (below_alloc (below_alloc (Below.refl w.heap.size w) (.cells (corC k) 27)) (.cells #[.string oa, .string ob] 55)) (.cells #[.int .i64 0, .int .i64 0, .bool false] 38)
     generalize (((w.alloc (.cells (corC k) 27)).alloc (.cells #[.string oa, .string ob] 55)).alloc (.cells #[.int .i64 0, .int .i64 0, .bool false] 38)) = w0 at K0 K1 K2 B0 ⊢
     replace K0 : Hid (CorAt w.heap.size k w0) := Lib.hid K0
     replace K1 := Lib.hid K1
     replace K2 := Lib.hid K2
     replace B0 := Lib.hid B0
     have fz := CorAt.free K0.out
     have c_t := CorAt.c_t K0.out
     have c_vl := CorAt.c_vl K0.out
     have o0 := cell_of_blk (i := 0) (v := .string oa) K1.out rfl
     have o1 := cell_of_blk (i := 1) (v := .string ob) K1.out rfl
     go_wp2_with (first
      | (refine load_rsome (by rfl) _ (by rfl) _ (by rfl) (by exact someS) ?_; intro r2)
      | (go_at_call 72; refine (s_apply _ _ _ _).mono ?_; rintro e w1 ⟨r3, x9, rfl, hb⟩; refine Hid.out ?_))
     have K0 := Lib.hid (CorAt.below K0.out hb)
     have K1 := Lib.hid (blk_below (b := w.heap.size + 1) (show _ = some (Obj.cells #[.string oa, .string ob] 55 (0, 0)) by exact rowS) hb)
     have K2 := Lib.hid (blk_below (b := w.heap.size + 1 + 1) (show _ = some (Obj.cells #[.int .i64 0, .int .i64 0, .bool false] 38 (0, 0)) by exact rowS) hb)
     have B0 := Lib.hid (below_then (show Below w.heap.size w _ by exact belS) hb)
     clear hb fz c_t c_vl o0 o1
     have fz := CorAt.free K0.out
     have hlt := (Array.getElem?_eq_some_iff.1 K2.out).1
     have o0 := cell_of_blk (i := 0) (v := .string oa) K1.out rfl
     have o1 := cell_of_blk (i := 1) (v := .string ob) K1.out rfl
     refine Lib.hid ?_
     go_wp2_with (first
      | (refine ldi_hi (by rfl) _ (by rfl) _ (by rfl) (by exact someS) ?_; intro vhi)
      | (refine ldi_lo (by rfl) _ (by rfl) _ (by rfl) (by exact someS) ?_; intro vlo)
      | (refine store_row (by rfl) 25 _ _ (by rfl) _ _ (by rfl) (by rfl) 6 (by kernel_rfl) (by exact rowS; done) rfl rfl (by rfl) ?_)
      | (refine store_row (by rfl) 38 _ _ (by rfl) _ _ (by rfl) (by rfl) 3 (by kernel_rfl) (by exact rowS; done) rfl rfl (by rfl) ?_))
     exact bodyPost_ret (results_cell_row rfl _ _ (w.heap.size + 1 + 1) _ _ _ _ rfl (setRow_heap _ _ _ _ _ _ (by exact rowS)) Tryz.underlying38 rfl (by kernel_rfl)) rfl ⟨_, _, _, rfl, below_row (by exact belS) (by omega)⟩
    ·skip
     by_cases h1 : k.t = 1
     ·go_enter Tryz.func49, Tryz.ntmps49
      go_upto_region 1 with fail
      have K0 : (((w.alloc (.cells (corC k) 27)).alloc (.cells #[.string oa, .string ob] 55)).alloc (.cells #[.int .i64 0, .int .i64 0, .bool false] 38)).heap[w.heap.size]? = some (.cells (corC k) 27 (0, 0)) := by
       have h := blk_old (o := .cells #[.int .i64 0, .int .i64 0, .bool false] 38) (blk_old (o := .cells #[.string oa, .string ob] 55) (blk_new w (.cells (corC k) 27)))
       try simp only [alloc_size] at h
       exact h
      have K1 : (((w.alloc (.cells (corC k) 27)).alloc (.cells #[.string oa, .string ob] 55)).alloc (.cells #[.int .i64 0, .int .i64 0, .bool false] 38)).heap[w.heap.size + 1]? = some (.cells #[.string oa, .string ob] 55 (0, 0)) := by
       have h := blk_old (o := .cells #[.int .i64 0, .int .i64 0, .bool false] 38) (blk_new (w.alloc (.cells (corC k) 27)) (.cells #[.string oa, .string ob] 55))
       try simp only [alloc_size] at h
       exact h
      have K2 : (((w.alloc (.cells (corC k) 27)).alloc (.cells #[.string oa, .string ob] 55)).alloc (.cells #[.int .i64 0, .int .i64 0, .bool false] 38)).heap[w.heap.size + 1 + 1]? = some (.cells #[.int .i64 0, .int .i64 0, .bool false] 38 (0, 0)) := by
       have h := blk_new ((w.alloc (.cells (corC k) 27)).alloc (.cells #[.string oa, .string ob] 55)) (.cells #[.int .i64 0, .int .i64 0, .bool false] 38)
       try simp only [alloc_size] at h
       exact h
      have B0 := below_alloc (below_alloc (below_alloc (Below.refl w.heap.size w) (.cells (corC k) 27)) (.cells #[.string oa, .string ob] 55)) (.cells #[.int .i64 0, .int .i64 0, .bool false] 38)
      generalize (((w.alloc (.cells (corC k) 27)).alloc (.cells #[.string oa, .string ob] 55)).alloc (.cells #[.int .i64 0, .int .i64 0, .bool false] 38)) = w0 at K0 K1 K2 B0 ⊢
      replace K0 : Hid (CorAt w.heap.size k w0) := Lib.hid K0
      replace K1 := Lib.hid K1
      replace K2 := Lib.hid K2
      replace B0 := Lib.hid B0
      have fz := CorAt.free K0.out
      have c_t := CorAt.c_t K0.out
      have c_hi := CorAt.c_hi K0.out
      have c_lo := CorAt.c_lo K0.out
      have c_vl := CorAt.c_vl K0.out
      have o0 := cell_of_blk (i := 0) (v := .string oa) K1.out rfl
      have o1 := cell_of_blk (i := 1) (v := .string ob) K1.out rfl
      go_wp2_with (first
       | (refine load_some (by rfl) _ (by rfl) _ (by rfl) (by exact someS) ?_; intro k2 hk2)
       | (refine store_row (by rfl) 38 _ _ (by rfl) _ _ (by rfl) (by rfl) 3 (by kernel_rfl) (by exact rowS; done) rfl rfl (by rfl) ?_)
       | (go_at_call 82; refine (s_l10At _ _).mono ?_; rintro e w1 ⟨x9, y9, z9, rfl, hb⟩)
       | (go_at_call 46; refine (s_l10Here _ _).mono ?_; rintro e w1 ⟨x9, y9, z9, rfl, hb⟩))
      exact bodyPost_ret (results_cell_row rfl _ _ (w.heap.size + 1 + 1) _ _ _ _ rfl (setRow_heap _ _ _ _ _ _ (by exact rowS)) Tryz.underlying38 rfl (by kernel_rfl)) rfl ⟨_, _, _, rfl, below_row (by exact belS) (by omega)⟩
     ·omega
end Go.Proofs.YthklebkpoccblaaGreat
