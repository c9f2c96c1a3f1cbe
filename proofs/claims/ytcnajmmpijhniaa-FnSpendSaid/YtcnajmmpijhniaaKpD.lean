/-
  The walks of both Spend (chapter 8).
  Conditions: as each says; each walk leaves old memory as it was.
-/
import Derived.Test.YtcnajmmpijhniaaKpT
namespace Go.Proofs.Ytcnajmmpijhniaa
open Go.RowKit
theorem spend_no {k : KeepI} (h : okK k = false) (o : Int) : spendI k o = k := by unfold spendI; rw [h]; rfl
theorem spend_ways {k : KeepI} (hr : k.right) (o : Int) : (o = 0 ∧ { k with wl := k.ws, bl := k.bu } = spendI k o) ∨ (o = 1 ∧ ¬ 0 < k.wl ∧ k.wl = 0 ∧ k = spendI k o) ∨ (o = 1 ∧ 0 < k.wl ∧ ¬ k.wl = 0 ∧ { k with wl := k.wl - 1 } = spendI k o) ∨
    (o = 2 ∧ ¬ 0 < k.bl ∧ k.bl = 0 ∧ k = spendI k o) ∨ (o = 2 ∧ 0 < k.bl ∧ ¬ k.bl = 0 ∧ { k with bl := k.bl - 1 } = spendI k o) ∨ (¬ o = 0 ∧ ¬ o = 1 ∧ ¬ o = 2 ∧ k = spendI k o) := by
  have e : spendI k o = spendR k o := by unfold spendI; rw [(okK_iff k).2 hr]; rfl
  rw [e]
  have h1 := hr.wl
  have h2 := hr.bl
  obtain ⟨ws, bu, wl, bl, ad, lf, sm⟩ := k
  simp only [] at h1 h2
  unfold spendR lessI
  by_cases h0 : o = 0
  · exact .inl ⟨h0, by simp [h0]⟩
  by_cases h1 : o = 1
  · by_cases hz : wl = 0
    · exact .inr (.inl ⟨h1, by show ¬ 0 < wl; omega, hz, by simp [h1, hz]⟩)
    · exact .inr (.inr (.inl ⟨h1, by show 0 < wl; omega, hz, by simp [h1, hz]⟩))
  by_cases h2 : o = 2
  · by_cases hz : bl = 0
    · exact .inr (.inr (.inr (.inl ⟨h2, by show ¬ 0 < bl; omega, hz, by simp [h2, hz]⟩)))
    · exact .inr (.inr (.inr (.inr (.inl ⟨h2, by show 0 < bl; omega, hz, by simp [h2, hz]⟩))))
  exact .inr (.inr (.inr (.inr (.inr ⟨h0, h1, h2, by simp [h0, h1, h2]⟩))))
set_option maxRecDepth 100000 in
set_option maxHeartbeats 4000000 in
theorem spec_spend (k : KeepI) (o : Int) (w : World) : Calls Try.prog 21 #[keepV k, .int .i64 o] w fun e w' => e = .returned (keepV (spendI k o)) ∧ Below w.heap.size w w' := by
  have HO := Lib.hid (spec_keeperOk k)
  have hi := Lib.hid keep_size
  cases hok : okK k
  · have HT := Lib.hid (spend_no hok o)
    rw [hok] at HO
    clear hok
    obtain ⟨ws, bu, wl, bl, ad, lf, sm⟩ := k
    rw [keepV_mk] at HO ⊢
    go_enter Try.func21, Try.ntmps21
    go_wp2_with (go_at_call 18; refine (HO.out _).mono ?_; rintro e w1 ⟨rfl, hb⟩; refine Hid.out ?_)
    have k0 := blk_below (blk_old (blk_new w _)) hb
    have k1 := blk_below (blk_new _ _) hb
    rw [alloc_size] at k1
    have K0 := Lib.hid k0
    have K1 := Lib.hid k1
    have B := Lib.hid (below_then (below_alloc ((Below.refl w.heap.size w).alloc (Nat.le_refl _) _) _) hb)
    clear hb k0 k1
    refine Lib.hid ?_
    go_wp2_with (first
      | (refine load_row rfl 25 (.tmp 2) rfl w.heap.size rfl 7 _ Try.underlying25 rfl hi.out (by repeat (first | apply row_set | exact K0.out)) rfl ?_)
      | (refine store_row rfl 25 (.tmp 4) (.tmp 8) rfl (w.heap.size + 1) _ rfl rfl 7 hi.out (by repeat (first | apply row_far (hne := by omega) | exact K1.out)) rfl rfl (by rfl) ?_))
    (try simp only [Exit.inBlock, Exit.then])
    refine row_post rfl rfl Try.underlying25 rfl keep_size rfl rfl (by repeat (first | apply row_far (hne := by omega) | exact K1.out)) ⟨?_, ?_⟩
    · rw [HT.out]
      rfl
    · exact below_row (by repeat (first | apply below_put (hb := by omega) | exact B.out)) (by omega)
  · have hr := (okK_iff k).1 hok
    have hw := spend_ways hr o
    generalize hd : spendI k o = d at hw
    clear hd
    rw [hok] at HO
    have r1 := hr.wl
    have r2 := hr.bl
    have r3 := hr.ws
    have r4 := hr.bu
    have r5 := hr.ad
    have r6 := hr.lf
    have r7 := hr.sm
    clear hok hr
    obtain ⟨ws, bu, wl, bl, ad, lf, sm⟩ := k
    simp only [] at hw r1 r2 r3 r4 r5 r6 r7
    rw [keepV_mk] at HO ⊢
    rcases hw with ⟨rfl, rfl⟩ | ⟨rfl, g1, rfl, rfl⟩ | ⟨rfl, g1, g2, rfl⟩ | ⟨rfl, g1, rfl, rfl⟩ | ⟨rfl, g1, g2, rfl⟩ | ⟨g1, g2, g3, rfl⟩
    all_goals
      go_enter Try.func21, Try.ntmps21
      go_wp2_with (go_at_call 18; refine (HO.out _).mono ?_; rintro e w1 ⟨rfl, hb⟩; refine Hid.out ?_)
      have k0 := blk_below (blk_old (blk_new w _)) hb
      have k1 := blk_below (blk_new _ _) hb
      rw [alloc_size] at k1
      have K0 := Lib.hid k0
      have K1 := Lib.hid k1
      have B := Lib.hid (below_then (below_alloc ((Below.refl w.heap.size w).alloc (Nat.le_refl _) _) _) hb)
      have a2 := cell_of_blk (i := 2) k0 rfl
      have a3 := cell_of_blk (i := 3) k0 rfl
      have a4 := cell_of_blk (i := 4) k0 rfl
      have a5 := cell_of_blk (i := 5) k0 rfl
      have a6 := cell_of_blk (i := 6) k0 rfl
      have a0 := cell_of_blk (i := 0) k0 rfl
      have a1 := cell_of_blk (i := 1) k0 rfl
      have hz := fun i => free_of_blk (i := i) k0
      clear hb k0 k1
      refine Lib.hid ?_
      go_wp2_with (first
        | (refine load_row rfl 25 (.tmp 2) rfl w.heap.size rfl 7 _ Try.underlying25 rfl hi.out (by repeat (first | apply row_set | exact K0.out)) rfl ?_)
        | (refine store_row rfl 25 (.tmp 4) (.tmp 36) rfl (w.heap.size + 1) _ rfl rfl 7 hi.out (by repeat (first | apply row_far (hne := by omega) | exact K1.out)) rfl rfl (by rfl) ?_))
      (try simp only [Exit.inBlock, Exit.then])
      refine row_post rfl rfl Try.underlying25 rfl keep_size rfl rfl (by repeat (first | apply row_far (hne := by omega) | exact K1.out)) ⟨?_, ?_⟩
      · simp [*, keepV, keepC]
      · exact below_row (by repeat (first | apply below_put (hb := by omega) | exact B.out)) (by omega)
end Go.Proofs.Ytcnajmmpijhniaa
