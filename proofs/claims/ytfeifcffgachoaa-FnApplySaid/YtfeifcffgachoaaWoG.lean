/-
  What an instruction does (chapter 9, the program).
  Conditions: as each says; each walk leaves old memory as it was.
-/
import Derived.Test.YtfeifcffgachoaaWoD
import Derived.Test.YtfeifcffgachoaaRow
namespace Go.Proofs.Ytfeifcffgachoaa
open Go.RowKit
/-- What an instruction does: the registers, and the byte that comes. -/
def applyI (k : RegI) (n : ByteArray) (v : Int) : RegI × Int :=
  ({ moveI (byteI k n (v % 256)) n with p := (changeI (flagI (moveI (byteI k n (v % 256)) n).p n) n (v % 256)).1 }, (changeI (flagI (moveI (byteI k n (v % 256)) n).p n) n (v % 256)).2)
set_option maxRecDepth 100000 in
set_option maxHeartbeats 4000000 in
theorem impl_apply (k : RegI) (n : ByteArray) (v : Int) (w : World) : Calls Try.prog 11 #[regI k, .string n, .int .i64 v] w fun e w' => e = .returned (.tuple #[regI (applyI k n v).1, .int .i64 (applyI k n v).2]) ∧ Below w.heap.size w w' := by
  have hi := Lib.hid reg_size
  have hV : 0 ≤ v % 256 ∧ v % 256 < 256 := by omega
  unfold applyI
  obtain ⟨V, eV⟩ : ∃ V, v % 256 = V := ⟨_, rfl⟩
  rw [eV] at hV ⊢
  have H1 := fun w => with_byte k V n w
  generalize byteI k n V = k1 at *
  have H2 := fun w => with_move k1 n w
  generalize moveI k1 n = k2 at *
  obtain ⟨a, x, y, s, p, pc⟩ := k
  obtain ⟨a1, x1, y1, s1, p1, pc1⟩ := k1
  obtain ⟨a2, x2, y2, s2, p2, pc2⟩ := k2
  simp only []
  have H3 := fun w => with_flag9 p2 n w
  generalize flagI p2 n = p3 at *
  have H4 := fun w => with_change p3 V hV n w
  generalize changeI p3 n V = c at *
  obtain ⟨p4, c4⟩ := c
  simp only [regI_mk] at H1 H2 H4 ⊢
  replace H1 := Lib.hid H1
  replace H2 := Lib.hid H2
  replace H3 := Lib.hid H3
  replace H4 := Lib.hid H4
  go_enter Try.func11, Try.ntmps11
  go_wp2_with (go_at_call 28; refine (H1.out _).mono ?_; rintro e w1 ⟨rfl, hb⟩; refine Hid.out ?_)
  have K0 := Lib.hid (blk_below (blk_old (blk_new w _)) hb)
  have K1 := Lib.hid (blk_below (blk_new2 w _ _) hb)
  have B := Lib.hid (below_then (below_alloc (below_alloc (Below.refl w.heap.size w) _) _) hb)
  clear hb
  refine Lib.hid ?_
  go_wp2_with (first
    | (refine store_row rfl 25 (.tmp 3) (.tmp 14) rfl w.heap.size _ rfl rfl 6 hi.out K0.out rfl rfl (by rfl) ?_)
    | (refine load_row rfl 25 (.tmp 3) rfl w.heap.size rfl 6 _ Try.underlying25 rfl hi.out (setRow_heap _ _ _ _ _ _ K0.out) rfl ?_)
    | (go_at_call 29; refine (H2.out _).mono ?_; rintro e w2 ⟨rfl, hb⟩; refine Hid.out ?_))
  have K0 := Lib.hid (blk_below (setRow_heap _ _ _ _ _ _ K0.out) hb)
  have K1 := Lib.hid (blk_below (row_row K1.out (by omega)) hb)
  have B := Lib.hid (B.out.trans ((below_row (Below.refl _ _) (Nat.le_refl _)).trans (hb.mono (by rw [setRow_size]; exact B.out.size))))
  clear hb
  refine Lib.hid ?_
  go_wp2_with (refine store_row rfl 25 (.tmp 3) (.tmp 17) rfl w.heap.size _ rfl rfl 6 hi.out K0.out rfl rfl (by rfl) ?_; refine Hid.out ?_)
  have K0 := setRow_heap _ _ _ #[.int .i64 a2, .int .i64 x2, .int .i64 y2, .int .i64 s2, .int .i64 p2, .int .i64 pc2] _ _ K0.out
  have K1 := row_row (cs := #[.int .i64 a2, .int .i64 x2, .int .i64 y2, .int .i64 s2, .int .i64 p2, .int .i64 pc2]) K1.out (show w.heap.size + 1 ≠ w.heap.size by omega)
  have B := Lib.hid (below_row (cs := #[.int .i64 a2, .int .i64 x2, .int .i64 y2, .int .i64 s2, .int .i64 p2, .int .i64 pc2]) B.out (Nat.le_refl _))
  generalize w2.setRow w.heap.size #[.int .i64 a2, .int .i64 x2, .int .i64 y2, .int .i64 s2, .int .i64 p2, .int .i64 pc2] = w3 at *
  have c4' := cell_of_blk (i := 4) K0 rfl
  have f4 := free_of_blk (i := 4) K0
  have K0 := Lib.hid K0
  have K1 := Lib.hid K1
  refine Lib.hid ?_
  go_wp2_with (first
    | (go_at_call 30; refine (H3.out _).mono ?_; rintro e w4 ⟨rfl, rfl⟩)
    | (go_at_call 31; refine (H4.out _).mono ?_; rintro e w4 ⟨rfl, hb⟩; refine Hid.out ?_))
  have K0 := blk_below (row_set K0.out) hb
  have K1 := Lib.hid (blk_below (row_far K1.out (by omega)) hb)
  have B := Lib.hid (B.out.trans ((below_put (Below.refl _ _) (Nat.le_refl _)).trans (hb.mono (by simp; exact B.out.size))))
  clear hb c4' f4
  simp only [List.setIfInBounds_toArray, List.set_cons_succ, List.set_cons_zero] at K0
  have c4' := cell_of_blk (i := 4) K0 rfl
  have f4 := free_of_blk (i := 4) K0
  have K0 := Lib.hid K0
  refine Lib.hid ?_
  go_wp2_with (first
    | (refine load_row rfl 25 (.tmp 3) rfl w.heap.size rfl 6 _ Try.underlying25 rfl hi.out (row_set K0.out) rfl ?_)
    | (refine store_row rfl 25 (.tmp 6) (.tmp 32) rfl (w.heap.size + 1) _ rfl rfl 6 hi.out (row_far K1.out (by omega)) rfl rfl (by rfl) ?_))
  exact row_tmp_post rfl rfl rfl Try.underlying25 rfl reg_size rfl (setRow_heap _ _ _ _ _ _ (row_far K1.out (by omega))) rfl ⟨rfl, below_row (below_put B.out (by omega)) (by omega)⟩
end Go.Proofs.Ytfeifcffgachoaa
