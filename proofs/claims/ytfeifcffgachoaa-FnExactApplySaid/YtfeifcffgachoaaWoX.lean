/-
  The walks of the exact laws of Apply and Takes (chapter 9).
  Conditions: as each says; each walk leaves old memory as it was.
-/
import Derived.Test.YtfeifcffgachoaaWoG
import Derived.Test.YtfeifcffgachoaaWoP
namespace Go.Proofs.Ytfeifcffgachoaa
open Go.RowKit
theorem lreg_size : (Try.prog.info? 31).map (·.size) = some 6 := by kernel_rfl
theorem to_regI (k : RegI) (w : World) : Calls Try.prog 14 #[regI k] w fun e w' => e = .returned (regI k) ∧ Below w.heap.size w w' := by
  obtain ⟨a, x, y, s, p, pc⟩ := k
  rw [regI_mk]
  go_enter Try.func14, Try.ntmps14
  go_wp2
  exact bodyPost_ret (v := .agg #[.int .i64 a, .int .i64 x, .int .i64 y, .int .i64 s, .int .i64 p, .int .i64 pc]) (by simp [results, Try.results14, go_sem]) rfl ⟨rfl, (((Below.refl _ _).alloc (Nat.le_refl _) _).alloc (by simp) _).alloc (by simp; omega) _⟩
theorem eq_regI (k : RegI) (w : World) : Calls Try.prog 15 #[regI k, regI k] w fun e w' => e = .returned (.bool true) ∧ Below w.heap.size w w' := by
  obtain ⟨a, x, y, s, p, pc⟩ := k
  rw [regI_mk]
  go_enter Try.func15, Try.ntmps15
  go_wp2
  go_ret
  exact ⟨rfl, below_alloc (below_alloc (Below.refl _ _) _) _⟩
theorem exact_takes (n : ByteArray) (hn : n.size ≤ maxLen) (p : Int) (w : World) : Calls Try.prog 6 #[.string n, .int .i64 p] w fun e w' => e = .returned (.bool true) ∧ Below w.heap.size w w' := by
  have HS := Lib.hid (fun w => spec_takes p n w)
  have HI := Lib.hid (fun w => impl_takes p n w)
  unfold maxLen at hn
  generalize takesI n p = t at *
  by_cases hbig : 1048576 < n.size
  · go_enter Try.func6, Try.ntmps6
    go_wp2
    go_ret
    exact ⟨rfl, Below.refl _ _⟩
  · go_enter Try.func6, Try.ntmps6
    go_wp2_with (first
      | (go_at_call 16; refine (HS.out _).mono ?_; rintro e w' ⟨rfl, rfl⟩)
      | (go_at_call 17; refine (HI.out _).mono ?_; rintro e w' ⟨rfl, rfl⟩))
    go_ret
    exact ⟨rfl, Below.refl _ _⟩
set_option maxRecDepth 100000 in
set_option maxHeartbeats 4000000 in
theorem exact_apply (k : RegI) (n : ByteArray) (hn : n.size ≤ maxLen) (v : Int) (W : World) : Calls Try.prog 5 #[regI k, .string n, .int .i64 v] W fun e w' => e = .returned (.bool true) ∧ Below W.heap.size W w' := by
  have hl := Lib.hid lreg_size
  have hi := Lib.hid reg_size
  have HT := to_regI k
  have HS := spec_apply k n v
  unfold ApplyPost at HS
  have HI := impl_apply k n v
  unfold maxLen at hn
  generalize applyI k n v = d at *
  obtain ⟨d, q⟩ := d
  have HE := eq_regI d
  obtain ⟨a', x', y', s', p', pc'⟩ := d
  obtain ⟨a, x, y, s, p, pc⟩ := k
  simp only [regI_mk] at HT HS HI HE ⊢
  replace HT := Lib.hid HT
  replace HS := Lib.hid HS
  replace HI := Lib.hid HI
  replace HE := Lib.hid HE
  by_cases hbig : 1048576 < n.size
  · go_enter Try.func5, Try.ntmps5
    go_wp2
    go_ret
    exact ⟨rfl, below_alloc (Below.refl _ _) _⟩
  go_enter Try.func5, Try.ntmps5
  go_wp2_with (go_at_call 14; refine (HT.out _).mono ?_; rintro e w1 ⟨rfl, hb1⟩; refine Hid.out ?_)
  have K := Lib.hid (blk_below (blk_new W (.cells #[.int .i64 a, .int .i64 x, .int .i64 y, .int .i64 s, .int .i64 p, .int .i64 pc] 31)) hb1)
  have B := Lib.hid (below_then ((Below.refl W.heap.size W).alloc (Nat.le_refl _) _) hb1)
  clear hb1
  refine Lib.hid ?_
  go_wp2_with (go_at_call 12; refine (HS.out _).mono ?_; rintro e w2 ⟨rfl, hb2⟩; refine Hid.out ?_)
  have K := Lib.hid (blk_below K.out hb2)
  have B := Lib.hid (below_then B.out hb2)
  clear hb2
  refine Lib.hid ?_
  go_wp2_with (first
    | (refine load_row rfl 31 (.tmp 3) rfl W.heap.size rfl 6 _ Try.underlying31 rfl hl.out (blk_old K.out) rfl ?_)
    | (go_at_call 14; refine (HT.out _).mono ?_; rintro e w3 ⟨rfl, hb3⟩; refine Hid.out ?_))
  have K0 := Lib.hid (blk_below (blk_new w2 (.cells #[.int .i64 a', .int .i64 x', .int .i64 y', .int .i64 s', .int .i64 p', .int .i64 pc'] 25)) hb3)
  have B := Lib.hid (below_then (below_alloc B.out _) hb3)
  clear hb3 K
  refine Lib.hid ?_
  go_wp2_with (go_at_call 11; refine (HI.out _).mono ?_; rintro e w4 ⟨rfl, hb4⟩; refine Hid.out ?_)
  have B := Lib.hid (below_then B.out hb4)
  have K0 := Lib.hid (blk_below K0.out hb4)
  clear hb4
  refine Lib.hid ?_
  go_wp2_with (first
    | (refine load_row rfl 25 (.tmp 7) rfl w2.heap.size rfl 6 _ Try.underlying25 rfl hi.out (blk_old K0.out) rfl ?_)
    | (go_at_call 15; refine (HE.out _).mono ?_; rintro e w5 ⟨rfl, hb5⟩))
  go_ret
  exact ⟨rfl, below_then (below_alloc B.out _) hb5⟩
theorem law_apply (a x y s p pc : Int) (n : ByteArray) (hn : n.size ≤ maxLen) (v : Int) (W : World) : Calls Try.prog 5 #[.agg #[.int .i64 a, .int .i64 x, .int .i64 y, .int .i64 s, .int .i64 p, .int .i64 pc], .string n, .int .i64 v] W fun e w' => e = .returned (.bool true) ∧ Below W.heap.size W w' :=
  exact_apply ⟨a, x, y, s, p, pc⟩ n hn v W
end Go.Proofs.Ytfeifcffgachoaa
