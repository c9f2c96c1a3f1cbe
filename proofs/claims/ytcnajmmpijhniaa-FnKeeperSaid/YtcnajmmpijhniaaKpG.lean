/-
  The walks of both WriteKeeper (chapter 8).
  Conditions: as each says; each walk leaves old memory as it was.
-/
import Derived.Test.YtcnajmmpijhniaaKpF
namespace Go.Proofs.Ytcnajmmpijhniaa
open Go.RowKit
theorem keep_write_no {k : KeepI} (h : okK k = false) (r v : Int) : writeKI k r v = k := by unfold writeKI; rw [h]; rfl
theorem keep_write_ways {k : KeepI} (hr : k.right) (r v : Int) : (r % 4 = 0 ∧ { k with ad := k.ad / 256 * 256 + v % 256 } = writeKI k r v) ∨ (r % 4 = 1 ∧ { k with ad := v % 256 * 256 + k.ad % 256 } = writeKI k r v) ∨ (r % 4 = 2 ∧ { k with lf := v % 256 } = writeKI k r v) ∨ (r % 4 = 3 ∧ { k with sm := v % 256 } = writeKI k r v) := by
  have h : r % 4 = 0 ∨ r % 4 = 1 ∨ r % 4 = 2 ∨ r % 4 = 3 := by omega
  unfold writeKI writeKR
  rw [(okK_iff k).2 hr]
  rcases h with h | h | h | h
  · exact .inl ⟨h, by simp [h]⟩
  · exact .inr (.inl ⟨h, by simp [h]⟩)
  · exact .inr (.inr (.inl ⟨h, by simp [h]⟩))
  · exact .inr (.inr (.inr ⟨h, by simp [h]⟩))
set_option maxRecDepth 100000 in
set_option maxHeartbeats 4000000 in
theorem spec_writeK (k : KeepI) (r v : Int) (w : World) : Calls Try.prog 29 #[keepV k, .int .i64 r, .int .i64 v] w fun e w' => e = .returned (keepV (writeKI k r v)) ∧ Below w.heap.size w w' := by
  have HO := Lib.hid (spec_keeperOk k)
  have hi := Lib.hid keep_size
  cases hok : okK k
  · have HT := Lib.hid (keep_write_no hok r v)
    rw [hok] at HO
    clear hok
    obtain ⟨ws, bu, wl, bl, ad, lf, sm⟩ := k
    rw [keepV_mk] at HO ⊢
    go_enter Try.func29, Try.ntmps29
    go_wp2_with (go_at_call 18; refine (HO.out _).mono ?_; rintro e w1 ⟨rfl, hb⟩; refine Hid.out ?_)
    have k0 := blk_below (blk_old (blk_new w _)) hb
    have k1 := blk_below (blk_new _ _) hb
    rw [alloc_size] at k1
    have K0 := Lib.hid k0
    have K1 := Lib.hid k1
    have B := Lib.hid (below_then (below_alloc ((Below.refl w.heap.size w).alloc (Nat.le_refl _) _) _) hb)
    clear hb k0 k1
    refine Lib.hid ?_
    go_wp2_with (first
      | (refine load_row rfl 25 (.tmp 3) rfl w.heap.size rfl 7 _ Try.underlying25 rfl hi.out (by repeat (first | apply row_set | exact K0.out)) rfl ?_)
      | (refine store_row rfl 25 (.tmp 6) (.tmp 12) rfl (w.heap.size + 1) _ rfl rfl 7 hi.out (by repeat (first | apply row_far (hne := by omega) | exact K1.out)) rfl rfl (by rfl) ?_))
    (try simp only [Exit.inBlock, Exit.then])
    refine row_post rfl rfl Try.underlying25 rfl keep_size rfl rfl (by repeat (first | apply row_far (hne := by omega) | exact K1.out)) ⟨?_, ?_⟩
    · rw [HT.out]
      rfl
    · exact below_row (by repeat (first | apply below_put (hb := by omega) | exact B.out)) (by omega)
  · have hr := (okK_iff k).1 hok
    have hw := keep_write_ways hr r v
    generalize hd : writeKI k r v = d at hw
    clear hd
    rw [hok] at HO
    have r1 := hr.wl
    have r2 := hr.bl
    have r3 := hr.ws
    have r4 := hr.bu
    have r5 := hr.ad
    have r6 := hr.lf
    have r7 := hr.sm
    clear hok hr
    obtain ⟨ws, bu, wl, bl, ad, lf, sm⟩ := k
    simp only [] at hw r1 r2 r3 r4 r5 r6 r7
    rw [keepV_mk] at HO ⊢
    have e3 := and_3 r
    have hv : 0 ≤ v % 256 ∧ v % 256 ≤ 255 := by omega
    obtain ⟨V, hV⟩ : ∃ V, v % 256 = V := ⟨_, rfl⟩
    rw [hV] at hw hv
    have e1 := and_255 v
    rw [hV] at e1
    have e4 := w_high words_i64 r5
    have e5 := and_255 ad
    have e6 := w_or words_i64 (q := ad / 256) (v := V) (by omega) hv
    have e7 := w_or' words_i64 (q := V) (v := ad % 256) hv (by omega)
    rcases hw with ⟨hk, rfl⟩ | ⟨hk, rfl⟩ | ⟨hk, rfl⟩ | ⟨hk, rfl⟩
    all_goals
      rw [hk] at e3
      go_enter Try.func29, Try.ntmps29
      go_wp2_with (go_at_call 18; refine (HO.out _).mono ?_; rintro e w1 ⟨rfl, hb⟩; refine Hid.out ?_)
      have k0 := blk_below (blk_old (blk_new w _)) hb
      have k1 := blk_below (blk_new _ _) hb
      rw [alloc_size] at k1
      have K0 := Lib.hid k0
      have K1 := Lib.hid k1
      have B := Lib.hid (below_then (below_alloc ((Below.refl w.heap.size w).alloc (Nat.le_refl _) _) _) hb)
      have a2 := cell_of_blk (i := 2) k0 rfl
      have a3 := cell_of_blk (i := 3) k0 rfl
      have a4 := cell_of_blk (i := 4) k0 rfl
      have a5 := cell_of_blk (i := 5) k0 rfl
      have a6 := cell_of_blk (i := 6) k0 rfl
      have a0 := cell_of_blk (i := 0) k0 rfl
      have a1 := cell_of_blk (i := 1) k0 rfl
      have hz := fun i => free_of_blk (i := i) k0
      clear hb k0 k1
      refine Lib.hid ?_
      go_wp2_with (first
        | (refine load_row rfl 25 (.tmp 3) rfl w.heap.size rfl 7 _ Try.underlying25 rfl hi.out (by repeat (first | apply row_set | exact K0.out)) rfl ?_)
        | (refine store_row rfl 25 (.tmp 6) (.tmp 40) rfl (w.heap.size + 1) _ rfl rfl 7 hi.out (by repeat (first | apply row_far (hne := by omega) | exact K1.out)) rfl rfl (by rfl) ?_))
      (try simp only [Exit.inBlock, Exit.then])
      refine row_post rfl rfl Try.underlying25 rfl keep_size rfl rfl (by repeat (first | apply row_far (hne := by omega) | exact K1.out)) ⟨?_, ?_⟩
      · simp [*, keepV, keepC]
      · exact below_row (by repeat (first | apply below_put (hb := by omega) | exact B.out)) (by omega)
set_option maxRecDepth 100000 in
set_option maxHeartbeats 4000000 in
theorem impl_writeK (k : KeepI) (r v : Int) (w : World) : Calls Try.prog 27 #[keepV k, .int .i64 r, .int .i64 v] w fun e w' => e = .returned (keepV (writeKI k r v)) ∧ Below w.heap.size w w' := by
  have HO := Lib.hid (impl_keeperOk k)
  have hi := Lib.hid keep_size
  cases hok : okK k
  · have HT := Lib.hid (keep_write_no hok r v)
    rw [hok] at HO
    clear hok
    obtain ⟨ws, bu, wl, bl, ad, lf, sm⟩ := k
    rw [keepV_mk] at HO ⊢
    go_enter Try.func27, Try.ntmps27
    go_wp2_with (go_at_call 17; refine (HO.out _).mono ?_; rintro e w1 ⟨rfl, hb⟩; refine Hid.out ?_)
    have k0 := blk_below (blk_old (blk_new w _)) hb
    have k1 := blk_below (blk_new _ _) hb
    rw [alloc_size] at k1
    have K0 := Lib.hid k0
    have K1 := Lib.hid k1
    have B := Lib.hid (below_then (below_alloc ((Below.refl w.heap.size w).alloc (Nat.le_refl _) _) _) hb)
    clear hb k0 k1
    refine Lib.hid ?_
    go_wp2_with (first
      | (refine load_row rfl 25 (.tmp 3) rfl w.heap.size rfl 7 _ Try.underlying25 rfl hi.out (by repeat (first | apply row_set | exact K0.out)) rfl ?_)
      | (refine store_row rfl 25 (.tmp 6) (.tmp 10) rfl (w.heap.size + 1) _ rfl rfl 7 hi.out (by repeat (first | apply row_far (hne := by omega) | exact K1.out)) rfl rfl (by rfl) ?_))
    (try simp only [Exit.inBlock, Exit.then])
    refine row_post rfl rfl Try.underlying25 rfl keep_size rfl rfl (by repeat (first | apply row_far (hne := by omega) | exact K1.out)) ⟨?_, ?_⟩
    · rw [HT.out]
      rfl
    · exact below_row (by repeat (first | apply below_put (hb := by omega) | exact B.out)) (by omega)
  · have hr := (okK_iff k).1 hok
    have hw := keep_write_ways hr r v
    generalize hd : writeKI k r v = d at hw
    clear hd
    rw [hok] at HO
    have r1 := hr.wl
    have r2 := hr.bl
    have r3 := hr.ws
    have r4 := hr.bu
    have r5 := hr.ad
    have r6 := hr.lf
    have r7 := hr.sm
    clear hok hr
    obtain ⟨ws, bu, wl, bl, ad, lf, sm⟩ := k
    simp only [] at hw r1 r2 r3 r4 r5 r6 r7
    rw [keepV_mk] at HO ⊢
    have e3 := and_3 r
    have hv : 0 ≤ v % 256 ∧ v % 256 ≤ 255 := by omega
    obtain ⟨V, hV⟩ : ∃ V, v % 256 = V := ⟨_, rfl⟩
    rw [hV] at hw hv
    have HH := Lib.hid (fun w => high_of ad r5.1 r5.2 w)
    have HL := Lib.hid (fun w => low_of ad w)
    have HW1 := Lib.hid (fun w => word_of (ad / 256) V (by omega) (by omega) hv.1 hv.2 w)
    have HW2 := Lib.hid (fun w => word_of V (ad % 256) hv.1 hv.2 (by omega) (by omega) w)
    rcases hw with ⟨hk, rfl⟩ | ⟨hk, rfl⟩ | ⟨hk, rfl⟩ | ⟨hk, rfl⟩
    all_goals
      rw [hk] at e3
      go_enter Try.func27, Try.ntmps27
      go_wp2_with (go_at_call 17; refine (HO.out _).mono ?_; rintro e w1 ⟨rfl, hb⟩; refine Hid.out ?_)
      have k0 := blk_below (blk_old (blk_new w _)) hb
      have k1 := blk_below (blk_new _ _) hb
      rw [alloc_size] at k1
      have K0 := Lib.hid k0
      have K1 := Lib.hid k1
      have B := Lib.hid (below_then (below_alloc ((Below.refl w.heap.size w).alloc (Nat.le_refl _) _) _) hb)
      have a2 := cell_of_blk (i := 2) k0 rfl
      have a3 := cell_of_blk (i := 3) k0 rfl
      have a4 := cell_of_blk (i := 4) k0 rfl
      have a5 := cell_of_blk (i := 5) k0 rfl
      have a6 := cell_of_blk (i := 6) k0 rfl
      have a0 := cell_of_blk (i := 0) k0 rfl
      have a1 := cell_of_blk (i := 1) k0 rfl
      have hz := fun i => free_of_blk (i := i) k0
      clear hb k0 k1
      refine Lib.hid ?_
      go_wp2_with (first
        | (go_at_call 50; refine (HH.out _).mono ?_; rintro e w2 ⟨rfl, rfl⟩)
        | (go_at_call 51; refine (HL.out _).mono ?_; rintro e w2 ⟨rfl, rfl⟩)
        | (go_at_call 49; refine (HW1.out _).mono ?_; rintro e w2 ⟨rfl, rfl⟩)
        | (go_at_call 49; refine (HW2.out _).mono ?_; rintro e w2 ⟨rfl, rfl⟩)
        | (refine load_row rfl 25 (.tmp 3) rfl w.heap.size rfl 7 _ Try.underlying25 rfl hi.out (by repeat (first | apply row_set | exact K0.out)) rfl ?_)
        | (refine store_row rfl 25 (.tmp 6) (.tmp 40) rfl (w.heap.size + 1) _ rfl rfl 7 hi.out (by repeat (first | apply row_far (hne := by omega) | exact K1.out)) rfl rfl (by rfl) ?_))
      (try simp only [Exit.inBlock, Exit.then])
      refine row_post rfl rfl Try.underlying25 rfl keep_size rfl rfl (by repeat (first | apply row_far (hne := by omega) | exact K1.out)) ⟨?_, ?_⟩
      · simp [*, keepV, keepC]
      · exact below_row (by repeat (first | apply below_put (hb := by omega) | exact B.out)) (by omega)
end Go.Proofs.Ytcnajmmpijhniaa
