/-
  The walks of both ReadKeeper (chapter 8), and of the laws' own readings of a keeper.
  Conditions: none; each walk leaves old memory as it was.
-/
import Derived.Test.YtcnajmmpijhniaaKpF
namespace Go.Proofs.Ytcnajmmpijhniaa
open Go.RowKit
theorem keep_read_no {k : KeepI} (h : okK k = false) (r : Int) : readKI k r = 0 := by unfold readKI; rw [h]; rfl
theorem keep_read_ways {k : KeepI} (hr : k.right) (r : Int) : (r % 4 = 0 ∧ k.ad % 256 = readKI k r) ∨ (r % 4 = 1 ∧ k.ad / 256 = readKI k r) ∨ (r % 4 = 2 ∧ k.lf = readKI k r) ∨ (r % 4 = 3 ∧ k.sm = readKI k r) := by
  have h : r % 4 = 0 ∨ r % 4 = 1 ∨ r % 4 = 2 ∨ r % 4 = 3 := by omega
  unfold readKI readKR
  rw [(okK_iff k).2 hr]
  rcases h with h | h | h | h
  · exact .inl ⟨h, by simp [h]⟩
  · exact .inr (.inl ⟨h, by simp [h]⟩)
  · exact .inr (.inr (.inl ⟨h, by simp [h]⟩))
  · exact .inr (.inr (.inr ⟨h, by simp [h]⟩))
set_option maxRecDepth 100000 in
set_option maxHeartbeats 2000000 in
theorem spec_readK (k : KeepI) (r : Int) (w : World) : Calls Try.prog 31 #[keepV k, .int .i64 r] w fun e w' => e = .returned (.int .i64 (readKI k r)) ∧ Below w.heap.size w w' := by
  have HO := Lib.hid (spec_keeperOk k)
  cases hok : okK k
  · rw [keep_read_no hok]
    rw [hok] at HO
    clear hok
    obtain ⟨ws, bu, wl, bl, ad, lf, sm⟩ := k
    rw [keepV_mk] at HO ⊢
    go_enter Try.func31, Try.ntmps31
    go_wp2_with (go_at_call 18; refine (HO.out _).mono ?_; rintro e w1 ⟨rfl, hb⟩)
    go_ret
    exact ⟨rfl, below_then (below_alloc (Below.refl _ _) _) hb⟩
  · have hr := (okK_iff k).1 hok
    have hw := keep_read_ways hr r
    rw [hok] at HO
    have r5 := hr.ad
    clear hok hr
    generalize readKI k r = d at hw ⊢
    obtain ⟨ws, bu, wl, bl, ad, lf, sm⟩ := k
    simp only [] at hw r5
    rw [keepV_mk] at HO ⊢
    have e1 := and_255 ad
    have e3 := and_3 r
    rcases hw with ⟨hk, rfl⟩ | ⟨hk, rfl⟩ | ⟨hk, rfl⟩ | ⟨hk, rfl⟩
    all_goals
      rw [hk] at e3
      clear hk
      go_enter Try.func31, Try.ntmps31
      go_wp2_with (go_at_call 18; refine (HO.out _).mono ?_; rintro e w1 ⟨rfl, hb⟩; refine Hid.out ?_)
      have k0 := blk_below (blk_new w _) hb
      have B := Lib.hid (below_then (below_alloc (Below.refl w.heap.size w) _) hb)
      have a4 := cell_of_blk (i := 4) k0 rfl
      have a5 := cell_of_blk (i := 5) k0 rfl
      have a6 := cell_of_blk (i := 6) k0 rfl
      clear hb k0
      refine Lib.hid ?_
      go_wp2
      go_ret
      refine ⟨rfl, ?_⟩
      repeat (first | exact B.out | apply below_alloc)
set_option maxRecDepth 100000 in
set_option maxHeartbeats 2000000 in
theorem impl_readK (k : KeepI) (r : Int) (w : World) : Calls Try.prog 30 #[keepV k, .int .i64 r] w fun e w' => e = .returned (.int .i64 (readKI k r)) ∧ Below w.heap.size w w' := by
  have HO := Lib.hid (impl_keeperOk k)
  cases hok : okK k
  · rw [keep_read_no hok]
    rw [hok] at HO
    clear hok
    obtain ⟨ws, bu, wl, bl, ad, lf, sm⟩ := k
    rw [keepV_mk] at HO ⊢
    go_enter Try.func30, Try.ntmps30
    go_wp2_with (go_at_call 17; refine (HO.out _).mono ?_; rintro e w1 ⟨rfl, hb⟩)
    go_ret
    exact ⟨rfl, below_then (below_alloc (Below.refl _ _) _) hb⟩
  · have hr := (okK_iff k).1 hok
    have hw := keep_read_ways hr r
    rw [hok] at HO
    have r5 := hr.ad
    clear hok hr
    generalize readKI k r = d at hw ⊢
    obtain ⟨ws, bu, wl, bl, ad, lf, sm⟩ := k
    simp only [] at hw r5
    rw [keepV_mk] at HO ⊢
    have HH := Lib.hid (fun w => high_of ad r5.1 r5.2 w)
    have HL := Lib.hid (fun w => low_of ad w)
    have e3 := and_3 r
    rcases hw with ⟨hk, rfl⟩ | ⟨hk, rfl⟩ | ⟨hk, rfl⟩ | ⟨hk, rfl⟩
    all_goals
      rw [hk] at e3
      clear hk
      go_enter Try.func30, Try.ntmps30
      go_wp2_with (go_at_call 17; refine (HO.out _).mono ?_; rintro e w1 ⟨rfl, hb⟩; refine Hid.out ?_)
      have k0 := blk_below (blk_new w _) hb
      have B := Lib.hid (below_then (below_alloc (Below.refl w.heap.size w) _) hb)
      have a4 := cell_of_blk (i := 4) k0 rfl
      have a5 := cell_of_blk (i := 5) k0 rfl
      have a6 := cell_of_blk (i := 6) k0 rfl
      clear hb k0
      refine Lib.hid ?_
      go_wp2_with (first
        | (go_at_call 51; refine (HL.out _).mono ?_; rintro e w2 ⟨rfl, rfl⟩)
        | (go_at_call 50; refine (HH.out _).mono ?_; rintro e w2 ⟨rfl, rfl⟩))
      go_ret
      exact ⟨rfl, B.out⟩
theorem lkeep_size : (Try.prog.info? 38).map (·.size) = some 7 := by kernel_rfl
set_option maxRecDepth 100000 in
set_option maxHeartbeats 1000000 in
theorem to_keep (k : KeepI) (w : World) : Calls Try.prog 32 #[keepV k] w fun e w' => e = .returned (keepV k) ∧ Below w.heap.size w w' := by
  obtain ⟨ws, bu, wl, bl, ad, lf, sm⟩ := k
  rw [keepV_mk]
  go_enter Try.func32, Try.ntmps32
  go_wp2_with fail
  exact bodyPost_ret (v := .agg #[.int .i64 ws, .int .i64 bu, .int .i64 wl, .int .i64 bl, .int .i64 ad, .int .i64 lf, .int .i64 sm]) (by simp [results, Try.results32, go_sem]) rfl ⟨rfl, (((Below.refl _ _).alloc (Nat.le_refl _) _).alloc (by simp) _).alloc (by simp; omega) _⟩
set_option maxRecDepth 100000 in
set_option maxHeartbeats 1000000 in
theorem eq_keep (k : KeepI) (w : World) : Calls Try.prog 33 #[keepV k, keepV k] w fun e w' => e = .returned (.bool true) ∧ Below w.heap.size w w' := by
  obtain ⟨ws, bu, wl, bl, ad, lf, sm⟩ := k
  rw [keepV_mk]
  go_enter Try.func33, Try.ntmps33
  go_wp2
  go_ret
  exact ⟨rfl, below_alloc (below_alloc (Below.refl _ _) _) _⟩
end Go.Proofs.Ytcnajmmpijhniaa
