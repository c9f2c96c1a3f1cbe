/-
  The walks of both Copied (chapter 8).
  Conditions: as each says; each walk leaves old memory as it was.
-/
import Derived.Test.YtcnajmmpijhniaaKpC
import Derived.Test.YtcnajmmpijhniaaHxN
namespace Go.Proofs.Ytcnajmmpijhniaa
open Go.RowKit
theorem and_ad (n : Int) : bits .and .i64 n 65535 = n % 65536 := i64_mask 16 (by omega) n 65535 (by decide)
theorem and_3 (n : Int) : bits .and .i64 n 3 = n % 4 := i64_mask 2 (by omega) n 3 (by decide)
theorem copy_no {k : KeepI} (h : okK k = false) (v : Int) : copyI k v = k := by unfold copyI; rw [h]; rfl
theorem copy_ways {k : KeepI} (hr : k.right) (v : Int) : (k.lf = 0 ∧ k = copyI k v) ∨ (¬ k.lf = 0 ∧ copyR k v = copyI k v) := by
  unfold copyI
  rw [(okK_iff k).2 hr]
  by_cases h : k.lf = 0
  · exact .inl ⟨h, by simp [h]⟩
  · exact .inr ⟨h, by simp [h]⟩
set_option maxRecDepth 100000 in
set_option maxHeartbeats 4000000 in
theorem spec_copied (k : KeepI) (v : Int) (w : World) : Calls Try.prog 24 #[keepV k, .int .i64 v] w fun e w' => e = .returned (keepV (copyI k v)) ∧ Below w.heap.size w w' := by
  have HO := Lib.hid (spec_keeperOk k)
  have hi := Lib.hid keep_size
  cases hok : okK k
  · have HT := Lib.hid (copy_no hok v)
    rw [hok] at HO
    clear hok
    obtain ⟨ws, bu, wl, bl, ad, lf, sm⟩ := k
    rw [keepV_mk] at HO ⊢
    go_enter Try.func24, Try.ntmps24
    go_wp2_with (go_at_call 18; refine (HO.out _).mono ?_; rintro e w1 ⟨rfl, hb⟩; refine Hid.out ?_)
    have k0 := blk_below (blk_old (blk_new w _)) hb
    have k1 := blk_below (blk_new _ _) hb
    rw [alloc_size] at k1
    have K0 := Lib.hid k0
    have K1 := Lib.hid k1
    have B := Lib.hid (below_then (below_alloc ((Below.refl w.heap.size w).alloc (Nat.le_refl _) _) _) hb)
    clear hb k0 k1
    refine Lib.hid ?_
    go_wp2_with (first
      | (refine load_row rfl 25 (.tmp 2) rfl w.heap.size rfl 7 _ Try.underlying25 rfl hi.out (by repeat (first | apply row_set | exact K0.out)) rfl ?_)
      | (refine store_row rfl 25 (.tmp 4) (.tmp 13) rfl (w.heap.size + 1) _ rfl rfl 7 hi.out (by repeat (first | apply row_far (hne := by omega) | exact K1.out)) rfl rfl (by rfl) ?_))
    (try simp only [Exit.inBlock, Exit.then])
    refine row_post rfl rfl Try.underlying25 rfl keep_size rfl rfl (by repeat (first | apply row_far (hne := by omega) | exact K1.out)) ⟨?_, ?_⟩
    · rw [HT.out]
      rfl
    · exact below_row (by repeat (first | apply below_put (hb := by omega) | exact B.out)) (by omega)
  · have hr := (okK_iff k).1 hok
    have hw := copy_ways hr v
    generalize hd : copyI k v = d at hw
    clear hd
    rw [hok] at HO
    have r1 := hr.wl
    have r2 := hr.bl
    have r3 := hr.ws
    have r4 := hr.bu
    have r5 := hr.ad
    have r6 := hr.lf
    have r7 := hr.sm
    clear hok hr
    obtain ⟨ws, bu, wl, bl, ad, lf, sm⟩ := k
    simp only [] at hw r1 r2 r3 r4 r5 r6 r7
    rw [keepV_mk] at HO ⊢
    have e1 := and_255 v
    have e2 := and_255 (sm + v % 256)
    have e3 := and_ad (ad + 1)
    rcases hw with ⟨rfl, rfl⟩ | ⟨g1, rfl⟩
    all_goals
      go_enter Try.func24, Try.ntmps24
      go_wp2_with (go_at_call 18; refine (HO.out _).mono ?_; rintro e w1 ⟨rfl, hb⟩; refine Hid.out ?_)
      have k0 := blk_below (blk_old (blk_new w _)) hb
      have k1 := blk_below (blk_new _ _) hb
      rw [alloc_size] at k1
      have K0 := Lib.hid k0
      have K1 := Lib.hid k1
      have B := Lib.hid (below_then (below_alloc ((Below.refl w.heap.size w).alloc (Nat.le_refl _) _) _) hb)
      have a2 := cell_of_blk (i := 2) k0 rfl
      have a3 := cell_of_blk (i := 3) k0 rfl
      have a4 := cell_of_blk (i := 4) k0 rfl
      have a5 := cell_of_blk (i := 5) k0 rfl
      have a6 := cell_of_blk (i := 6) k0 rfl
      have a0 := cell_of_blk (i := 0) k0 rfl
      have a1 := cell_of_blk (i := 1) k0 rfl
      have hz := fun i => free_of_blk (i := i) k0
      clear hb k0 k1
      refine Lib.hid ?_
      go_wp2_with (first
        | (refine store_row rfl 25 (.tmp 4) (.tmp 13) rfl (w.heap.size + 1) _ rfl rfl 7 hi.out (by repeat (first | apply row_far (hne := by omega) | exact K1.out)) rfl rfl (by rfl) ?_)
        | (refine load_row rfl 25 (.tmp 2) rfl w.heap.size rfl 7 _ Try.underlying25 rfl hi.out (by repeat (first | apply row_set | exact K0.out)) rfl ?_)
        | (refine store_row rfl 25 (.tmp 4) (.tmp 30) rfl (w.heap.size + 1) _ rfl rfl 7 hi.out (by repeat (first | apply row_far (hne := by omega) | exact K1.out)) rfl rfl (by rfl) ?_))
      (try simp only [Exit.inBlock, Exit.then])
      refine row_post rfl rfl Try.underlying25 rfl keep_size rfl rfl (by repeat (first | apply row_far (hne := by omega) | exact K1.out)) ⟨?_, ?_⟩
      · simp [*, keepV, keepC, copyR]
      · exact below_row (by repeat (first | apply below_put (hb := by omega) | exact B.out)) (by omega)
set_option maxRecDepth 100000 in
set_option maxHeartbeats 4000000 in
theorem impl_copied (k : KeepI) (v : Int) (w : World) : Calls Try.prog 23 #[keepV k, .int .i64 v] w fun e w' => e = .returned (keepV (copyI k v)) ∧ Below w.heap.size w w' := by
  have HO := Lib.hid (impl_keeperOk k)
  have hi := Lib.hid keep_size
  cases hok : okK k
  · have HT := Lib.hid (copy_no hok v)
    rw [hok] at HO
    clear hok
    obtain ⟨ws, bu, wl, bl, ad, lf, sm⟩ := k
    rw [keepV_mk] at HO ⊢
    go_enter Try.func23, Try.ntmps23
    go_wp2_with (go_at_call 17; refine (HO.out _).mono ?_; rintro e w1 ⟨rfl, hb⟩; refine Hid.out ?_)
    have k0 := blk_below (blk_old (blk_new w _)) hb
    have k1 := blk_below (blk_new _ _) hb
    rw [alloc_size] at k1
    have K0 := Lib.hid k0
    have K1 := Lib.hid k1
    have B := Lib.hid (below_then (below_alloc ((Below.refl w.heap.size w).alloc (Nat.le_refl _) _) _) hb)
    clear hb k0 k1
    refine Lib.hid ?_
    go_wp2_with (first
      | (refine load_row rfl 25 (.tmp 2) rfl w.heap.size rfl 7 _ Try.underlying25 rfl hi.out (by repeat (first | apply row_set | exact K0.out)) rfl ?_)
      | (refine store_row rfl 25 (.tmp 4) (.tmp 13) rfl (w.heap.size + 1) _ rfl rfl 7 hi.out (by repeat (first | apply row_far (hne := by omega) | exact K1.out)) rfl rfl (by rfl) ?_))
    (try simp only [Exit.inBlock, Exit.then])
    refine row_post rfl rfl Try.underlying25 rfl keep_size rfl rfl (by repeat (first | apply row_far (hne := by omega) | exact K1.out)) ⟨?_, ?_⟩
    · rw [HT.out]
      rfl
    · exact below_row (by repeat (first | apply below_put (hb := by omega) | exact B.out)) (by omega)
  · have hr := (okK_iff k).1 hok
    have hw := copy_ways hr v
    generalize hd : copyI k v = d at hw
    clear hd
    rw [hok] at HO
    have r1 := hr.wl
    have r2 := hr.bl
    have r3 := hr.ws
    have r4 := hr.bu
    have r5 := hr.ad
    have r6 := hr.lf
    have r7 := hr.sm
    clear hok hr
    obtain ⟨ws, bu, wl, bl, ad, lf, sm⟩ := k
    simp only [] at hw r1 r2 r3 r4 r5 r6 r7
    rw [keepV_mk] at HO ⊢
    rcases hw with ⟨rfl, rfl⟩ | ⟨g1, rfl⟩
    all_goals
      go_enter Try.func23, Try.ntmps23
      go_wp2_with (go_at_call 17; refine (HO.out _).mono ?_; rintro e w1 ⟨rfl, hb⟩; refine Hid.out ?_)
      have k0 := blk_below (blk_old (blk_new w _)) hb
      have k1 := blk_below (blk_new _ _) hb
      rw [alloc_size] at k1
      have K0 := Lib.hid k0
      have K1 := Lib.hid k1
      have B := Lib.hid (below_then (below_alloc ((Below.refl w.heap.size w).alloc (Nat.le_refl _) _) _) hb)
      have a2 := cell_of_blk (i := 2) k0 rfl
      have a3 := cell_of_blk (i := 3) k0 rfl
      have a4 := cell_of_blk (i := 4) k0 rfl
      have a5 := cell_of_blk (i := 5) k0 rfl
      have a6 := cell_of_blk (i := 6) k0 rfl
      have a0 := cell_of_blk (i := 0) k0 rfl
      have a1 := cell_of_blk (i := 1) k0 rfl
      have hz := fun i => free_of_blk (i := i) k0
      clear hb k0 k1
      refine Lib.hid ?_
      go_wp2_with (first
        | (refine store_row rfl 25 (.tmp 4) (.tmp 13) rfl (w.heap.size + 1) _ rfl rfl 7 hi.out (by repeat (first | apply row_far (hne := by omega) | exact K1.out)) rfl rfl (by rfl) ?_)
        | (refine load_row rfl 25 (.tmp 2) rfl w.heap.size rfl 7 _ Try.underlying25 rfl hi.out (by repeat (first | apply row_set | exact K0.out)) rfl ?_)
        | (refine store_row rfl 25 (.tmp 4) (.tmp 31) rfl (w.heap.size + 1) _ rfl rfl 7 hi.out (by repeat (first | apply row_far (hne := by omega) | exact K1.out)) rfl rfl (by rfl) ?_))
      (try simp only [Exit.inBlock, Exit.then])
      refine row_post rfl rfl Try.underlying25 rfl keep_size rfl rfl (by repeat (first | apply row_far (hne := by omega) | exact K1.out)) ⟨?_, ?_⟩
      · simp [*, keepV, keepC, copyR]
        (try (simp only [wrap64, IntKind.wrap_u16]; omega))
      · exact below_row (by repeat (first | apply below_put (hb := by omega) | exact B.out)) (by omega)
end Go.Proofs.Ytcnajmmpijhniaa
