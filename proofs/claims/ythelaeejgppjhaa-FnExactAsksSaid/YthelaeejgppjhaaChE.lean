/-
  The walk of spec.WriteChip (chapter 6), register by register.
  Conditions: the numbers are those of their kind; the walk leaves old memory as it was.
-/
import Derived.Test.YthelaeejgppjhaaChC
namespace Go.Proofs.Ythelaeejgppjhaa
open Go.RowKit
theorem write_no {c : ChipI} (h : okC c = false) (r v : Int) : writeI c r v = c := by unfold writeI; rw [h]; rfl
theorem write_yes {c : ChipI} (h : okC c = true) (r v : Int) : writeI c r v = writeR c (r % 16) (v % 256) := by unfold writeI; rw [h]; rfl
set_option maxRecDepth 100000 in
set_option maxHeartbeats 400000 in
theorem spec_write_no (c : ChipI) (hf : c.fits) (r n : Int) (hok : okC c = false) (w : World) : Calls Try.prog 19 #[chipV c, .int .i64 r, .int .i64 n] w fun e w' => e = .returned (chipV (writeI c r n)) ∧ Below w.heap.size w w' := by
  have HO := Lib.hid (spec_chipOk c hf)
  have hi := Lib.hid chip_size
  have e255 := and_255 n
  have HT := Lib.hid (write_no hok r n)
  rw [hok] at HO
  clear hok hf
  obtain ⟨c1, l1, v1, ag, c2, o2, v2, pt, dr, fl, ms⟩ := c
  rw [chipV_mk] at HO ⊢
  generalize n % 256 = V at *
  go_enter Try.func19, Try.ntmps19
  go_wp2_with (go_at_call 14; refine (HO.out _).mono ?_; rintro e w1 ⟨rfl, hb⟩; refine Hid.out ?_)
  have k0 := blk_below (blk_old (blk_new w _)) hb
  have k1 := blk_below (blk_new _ _) hb
  rw [alloc_size] at k1
  have B := below_then (below_alloc ((Below.refl w.heap.size w).alloc (Nat.le_refl _) _) _) hb
  have H0 : Hid (ChipRows w w.heap.size (w.heap.size + 1) ⟨c1, l1, v1, ag, c2, o2, v2, pt, dr, fl, ms⟩ w1) := Lib.hid ⟨k0, k1, B⟩
  clear hb k0 k1 B
  refine Lib.hid ?_
  have K0 := Lib.hid (rows_lit H0.out)
  have K1 := Lib.hid (res_lit H0.out)
  have B := Lib.hid H0.out.old
  go_wp2_with (first
    | (refine load_row rfl 25 (.tmp 3) rfl w.heap.size rfl 11 _ Try.underlying25 rfl hi.out (by repeat (first | apply row_set | exact K0.out)) rfl ?_)
    | (refine store_row rfl 25 (.tmp 6) _ rfl (w.heap.size + 1) _ rfl rfl 11 hi.out (by repeat (first | apply row_far (hne := by omega) | exact K1.out)) rfl rfl (by rfl) ?_))
  (try simp only [Exit.inBlock, Exit.then])
  refine row_post rfl rfl Try.underlying25 rfl chip_size rfl rfl (by repeat (first | apply row_far (hne := by omega) | exact K1.out)) ⟨?_, ?_⟩
  · rw [HT.out]
    simp [chipV, chipC]
  · exact below_row (by repeat (first | apply below_put (hb := by omega) | exact B.out)) (by omega)
set_option maxRecDepth 100000 in
set_option maxHeartbeats 400000 in
theorem spec_write_0 (c : ChipI) (hf : c.fits) (r n : Int) (hok : okC c = true) (hk : r % 16 = 0) (w : World) : Calls Try.prog 19 #[chipV c, .int .i64 r, .int .i64 n] w fun e w' => e = .returned (chipV (writeI c r n)) ∧ Below w.heap.size w w' := by
  have HO := Lib.hid (spec_chipOk c hf)
  have hi := Lib.hid chip_size
  have e255 := and_255 n
  have hr := (okC_iff c).1 hok
  have HT := Lib.hid (write_yes hok r n)
  rw [hok] at HO
  obtain ⟨p, q, hpq⟩ : ∃ p q, c.fl = mkF p q := ⟨_, _, mk_isF hr.fl⟩
  obtain ⟨p', q', hpm⟩ : ∃ p q, c.ms = mkF p q := ⟨_, _, mk_isF hr.ms⟩
  have r1 := hr.c1
  have r2 := hr.c2
  have r3 := hr.l1
  have r4 := hr.dr
  have r5 := hr.o2
  clear hok hf hr
  obtain ⟨c1, l1, v1, ag, c2, o2, v2, pt, dr, fl, ms⟩ := c
  simp only [] at hpq hpm r1 r2 r3 r4 r5
  subst hpq
  subst hpm
  rw [chipV_mk] at HO ⊢
  have e15 := and_15 r
  rw [hk] at e15
  have hv : 0 ≤ n % 256 ∧ n % 256 ≤ 255 := by omega
  generalize n % 256 = V at *
  go_enter Try.func19, Try.ntmps19
  go_wp2_with (go_at_call 14; refine (HO.out _).mono ?_; rintro e w1 ⟨rfl, hb⟩; refine Hid.out ?_)
  have k0 := blk_below (blk_old (blk_new w _)) hb
  have k1 := blk_below (blk_new _ _) hb
  rw [alloc_size] at k1
  have B := below_then (below_alloc ((Below.refl w.heap.size w).alloc (Nat.le_refl _) _) _) hb
  have H0 : Hid (ChipRows w w.heap.size (w.heap.size + 1) ⟨c1, l1, v1, ag, c2, o2, v2, pt, dr, mkF p q, mkF p' q'⟩ w1) := Lib.hid ⟨k0, k1, B⟩
  clear hb k0 k1 B
  refine Lib.hid ?_
  have K0 := Lib.hid (rows_lit H0.out)
  have K1 := Lib.hid (res_lit H0.out)
  have B := Lib.hid H0.out.old
  have a0 := cell_of_blk (i := 0) K0.out rfl
  have a1 := cell_of_blk (i := 1) K0.out rfl
  have a2 := cell_of_blk (i := 2) K0.out rfl
  have a3 := cell_of_blk (i := 3) K0.out rfl
  have a4 := cell_of_blk (i := 4) K0.out rfl
  have a5 := cell_of_blk (i := 5) K0.out rfl
  have a6 := cell_of_blk (i := 6) K0.out rfl
  have a7 := cell_of_blk (i := 7) K0.out rfl
  have a8 := cell_of_blk (i := 8) K0.out rfl
  have a9 := cell_of_blk (i := 9) K0.out rfl
  have a10 := cell_of_blk (i := 10) K0.out rfl
  have zz := fun i => free_of_blk (i := i) K0.out
  go_wp2_with (first
    | (refine load_row rfl 25 (.tmp 3) rfl w.heap.size rfl 11 _ Try.underlying25 rfl hi.out (by repeat (first | apply row_set | exact K0.out)) rfl ?_)
    | (refine store_row rfl 25 (.tmp 6) _ rfl (w.heap.size + 1) _ rfl rfl 11 hi.out (by repeat (first | apply row_far (hne := by omega) | exact K1.out)) rfl rfl (by rfl) ?_))
  clear zz a0 a1 a2 a3 a4 a5 a6 a7 a8 a9 a10
  (try simp only [Exit.inBlock, Exit.then])
  refine row_post rfl rfl Try.underlying25 rfl chip_size rfl rfl (by repeat (first | apply row_far (hne := by omega) | exact K1.out)) ⟨?_, ?_⟩
  · rw [HT.out]
    simp [writeR, chipV, chipC, hk]
  · exact below_row (by repeat (first | apply below_put (hb := by omega) | exact B.out)) (by omega)
set_option maxRecDepth 100000 in
set_option maxHeartbeats 400000 in
theorem spec_write_2 (c : ChipI) (hf : c.fits) (r n : Int) (hok : okC c = true) (hk : r % 16 = 2) (w : World) : Calls Try.prog 19 #[chipV c, .int .i64 r, .int .i64 n] w fun e w' => e = .returned (chipV (writeI c r n)) ∧ Below w.heap.size w w' := by
  have HO := Lib.hid (spec_chipOk c hf)
  have hi := Lib.hid chip_size
  have e255 := and_255 n
  have hr := (okC_iff c).1 hok
  have HT := Lib.hid (write_yes hok r n)
  rw [hok] at HO
  obtain ⟨p, q, hpq⟩ : ∃ p q, c.fl = mkF p q := ⟨_, _, mk_isF hr.fl⟩
  obtain ⟨p', q', hpm⟩ : ∃ p q, c.ms = mkF p q := ⟨_, _, mk_isF hr.ms⟩
  have r1 := hr.c1
  have r2 := hr.c2
  have r3 := hr.l1
  have r4 := hr.dr
  have r5 := hr.o2
  clear hok hf hr
  obtain ⟨c1, l1, v1, ag, c2, o2, v2, pt, dr, fl, ms⟩ := c
  simp only [] at hpq hpm r1 r2 r3 r4 r5
  subst hpq
  subst hpm
  rw [chipV_mk] at HO ⊢
  have e15 := and_15 r
  rw [hk] at e15
  have hv : 0 ≤ n % 256 ∧ n % 256 ≤ 255 := by omega
  generalize n % 256 = V at *
  go_enter Try.func19, Try.ntmps19
  go_wp2_with (go_at_call 14; refine (HO.out _).mono ?_; rintro e w1 ⟨rfl, hb⟩; refine Hid.out ?_)
  have k0 := blk_below (blk_old (blk_new w _)) hb
  have k1 := blk_below (blk_new _ _) hb
  rw [alloc_size] at k1
  have B := below_then (below_alloc ((Below.refl w.heap.size w).alloc (Nat.le_refl _) _) _) hb
  have H0 : Hid (ChipRows w w.heap.size (w.heap.size + 1) ⟨c1, l1, v1, ag, c2, o2, v2, pt, dr, mkF p q, mkF p' q'⟩ w1) := Lib.hid ⟨k0, k1, B⟩
  clear hb k0 k1 B
  refine Lib.hid ?_
  have K0 := Lib.hid (rows_lit H0.out)
  have K1 := Lib.hid (res_lit H0.out)
  have B := Lib.hid H0.out.old
  have a0 := cell_of_blk (i := 0) K0.out rfl
  have a1 := cell_of_blk (i := 1) K0.out rfl
  have a2 := cell_of_blk (i := 2) K0.out rfl
  have a3 := cell_of_blk (i := 3) K0.out rfl
  have a4 := cell_of_blk (i := 4) K0.out rfl
  have a5 := cell_of_blk (i := 5) K0.out rfl
  have a6 := cell_of_blk (i := 6) K0.out rfl
  have a7 := cell_of_blk (i := 7) K0.out rfl
  have a8 := cell_of_blk (i := 8) K0.out rfl
  have a9 := cell_of_blk (i := 9) K0.out rfl
  have a10 := cell_of_blk (i := 10) K0.out rfl
  have zz := fun i => free_of_blk (i := i) K0.out
  go_wp2_with (first
    | (refine load_row rfl 25 (.tmp 3) rfl w.heap.size rfl 11 _ Try.underlying25 rfl hi.out (by repeat (first | apply row_set | exact K0.out)) rfl ?_)
    | (refine store_row rfl 25 (.tmp 6) _ rfl (w.heap.size + 1) _ rfl rfl 11 hi.out (by repeat (first | apply row_far (hne := by omega) | exact K1.out)) rfl rfl (by rfl) ?_))
  clear zz a0 a1 a2 a3 a4 a5 a6 a7 a8 a9 a10
  (try simp only [Exit.inBlock, Exit.then])
  refine row_post rfl rfl Try.underlying25 rfl chip_size rfl rfl (by repeat (first | apply row_far (hne := by omega) | exact K1.out)) ⟨?_, ?_⟩
  · rw [HT.out]
    simp [writeR, chipV, chipC, hk]
  · exact below_row (by repeat (first | apply below_put (hb := by omega) | exact B.out)) (by omega)
set_option maxRecDepth 100000 in
set_option maxHeartbeats 400000 in
theorem spec_write_4 (c : ChipI) (hf : c.fits) (r n : Int) (hok : okC c = true) (hk : r % 16 = 4) (w : World) : Calls Try.prog 19 #[chipV c, .int .i64 r, .int .i64 n] w fun e w' => e = .returned (chipV (writeI c r n)) ∧ Below w.heap.size w w' := by
  have HO := Lib.hid (spec_chipOk c hf)
  have hi := Lib.hid chip_size
  have e255 := and_255 n
  have hr := (okC_iff c).1 hok
  have HT := Lib.hid (write_yes hok r n)
  rw [hok] at HO
  obtain ⟨p, q, hpq⟩ : ∃ p q, c.fl = mkF p q := ⟨_, _, mk_isF hr.fl⟩
  obtain ⟨p', q', hpm⟩ : ∃ p q, c.ms = mkF p q := ⟨_, _, mk_isF hr.ms⟩
  have r1 := hr.c1
  have r2 := hr.c2
  have r3 := hr.l1
  have r4 := hr.dr
  have r5 := hr.o2
  clear hok hf hr
  obtain ⟨c1, l1, v1, ag, c2, o2, v2, pt, dr, fl, ms⟩ := c
  simp only [] at hpq hpm r1 r2 r3 r4 r5
  subst hpq
  subst hpm
  rw [chipV_mk] at HO ⊢
  have e15 := and_15 r
  rw [hk] at e15
  have hv : 0 ≤ n % 256 ∧ n % 256 ≤ 255 := by omega
  generalize n % 256 = V at *
  have eh := w_high words_i64 r3
  have eo := w_or words_i64 (q := l1 / 256) (v := V) (by omega) hv
  go_enter Try.func19, Try.ntmps19
  go_wp2_with (go_at_call 14; refine (HO.out _).mono ?_; rintro e w1 ⟨rfl, hb⟩; refine Hid.out ?_)
  have k0 := blk_below (blk_old (blk_new w _)) hb
  have k1 := blk_below (blk_new _ _) hb
  rw [alloc_size] at k1
  have B := below_then (below_alloc ((Below.refl w.heap.size w).alloc (Nat.le_refl _) _) _) hb
  have H0 : Hid (ChipRows w w.heap.size (w.heap.size + 1) ⟨c1, l1, v1, ag, c2, o2, v2, pt, dr, mkF p q, mkF p' q'⟩ w1) := Lib.hid ⟨k0, k1, B⟩
  clear hb k0 k1 B
  refine Lib.hid ?_
  have K0 := Lib.hid (rows_lit H0.out)
  have K1 := Lib.hid (res_lit H0.out)
  have B := Lib.hid H0.out.old
  have a0 := cell_of_blk (i := 0) K0.out rfl
  have a1 := cell_of_blk (i := 1) K0.out rfl
  have a2 := cell_of_blk (i := 2) K0.out rfl
  have a3 := cell_of_blk (i := 3) K0.out rfl
  have a4 := cell_of_blk (i := 4) K0.out rfl
  have a5 := cell_of_blk (i := 5) K0.out rfl
  have a6 := cell_of_blk (i := 6) K0.out rfl
  have a7 := cell_of_blk (i := 7) K0.out rfl
  have a8 := cell_of_blk (i := 8) K0.out rfl
  have a9 := cell_of_blk (i := 9) K0.out rfl
  have a10 := cell_of_blk (i := 10) K0.out rfl
  have zz := fun i => free_of_blk (i := i) K0.out
  go_wp2_with (first
    | (refine load_row rfl 25 (.tmp 3) rfl w.heap.size rfl 11 _ Try.underlying25 rfl hi.out (by repeat (first | apply row_set | exact K0.out)) rfl ?_)
    | (refine store_row rfl 25 (.tmp 6) _ rfl (w.heap.size + 1) _ rfl rfl 11 hi.out (by repeat (first | apply row_far (hne := by omega) | exact K1.out)) rfl rfl (by rfl) ?_))
  clear zz a0 a1 a2 a3 a4 a5 a6 a7 a8 a9 a10
  (try simp only [Exit.inBlock, Exit.then])
  refine row_post rfl rfl Try.underlying25 rfl chip_size rfl rfl (by repeat (first | apply row_far (hne := by omega) | exact K1.out)) ⟨?_, ?_⟩
  · rw [HT.out]
    simp [writeR, chipV, chipC, hk]
  · exact below_row (by repeat (first | apply below_put (hb := by omega) | exact B.out)) (by omega)
set_option maxRecDepth 100000 in
set_option maxHeartbeats 400000 in
theorem spec_write_6 (c : ChipI) (hf : c.fits) (r n : Int) (hok : okC c = true) (hk : r % 16 = 6) (w : World) : Calls Try.prog 19 #[chipV c, .int .i64 r, .int .i64 n] w fun e w' => e = .returned (chipV (writeI c r n)) ∧ Below w.heap.size w w' := by
  have HO := Lib.hid (spec_chipOk c hf)
  have hi := Lib.hid chip_size
  have e255 := and_255 n
  have hr := (okC_iff c).1 hok
  have HT := Lib.hid (write_yes hok r n)
  rw [hok] at HO
  obtain ⟨p, q, hpq⟩ : ∃ p q, c.fl = mkF p q := ⟨_, _, mk_isF hr.fl⟩
  obtain ⟨p', q', hpm⟩ : ∃ p q, c.ms = mkF p q := ⟨_, _, mk_isF hr.ms⟩
  have r1 := hr.c1
  have r2 := hr.c2
  have r3 := hr.l1
  have r4 := hr.dr
  have r5 := hr.o2
  clear hok hf hr
  obtain ⟨c1, l1, v1, ag, c2, o2, v2, pt, dr, fl, ms⟩ := c
  simp only [] at hpq hpm r1 r2 r3 r4 r5
  subst hpq
  subst hpm
  rw [chipV_mk] at HO ⊢
  have e15 := and_15 r
  rw [hk] at e15
  have hv : 0 ≤ n % 256 ∧ n % 256 ≤ 255 := by omega
  generalize n % 256 = V at *
  have eh := w_high words_i64 r3
  have eo := w_or words_i64 (q := l1 / 256) (v := V) (by omega) hv
  go_enter Try.func19, Try.ntmps19
  go_wp2_with (go_at_call 14; refine (HO.out _).mono ?_; rintro e w1 ⟨rfl, hb⟩; refine Hid.out ?_)
  have k0 := blk_below (blk_old (blk_new w _)) hb
  have k1 := blk_below (blk_new _ _) hb
  rw [alloc_size] at k1
  have B := below_then (below_alloc ((Below.refl w.heap.size w).alloc (Nat.le_refl _) _) _) hb
  have H0 : Hid (ChipRows w w.heap.size (w.heap.size + 1) ⟨c1, l1, v1, ag, c2, o2, v2, pt, dr, mkF p q, mkF p' q'⟩ w1) := Lib.hid ⟨k0, k1, B⟩
  clear hb k0 k1 B
  refine Lib.hid ?_
  have K0 := Lib.hid (rows_lit H0.out)
  have K1 := Lib.hid (res_lit H0.out)
  have B := Lib.hid H0.out.old
  have a0 := cell_of_blk (i := 0) K0.out rfl
  have a1 := cell_of_blk (i := 1) K0.out rfl
  have a2 := cell_of_blk (i := 2) K0.out rfl
  have a3 := cell_of_blk (i := 3) K0.out rfl
  have a4 := cell_of_blk (i := 4) K0.out rfl
  have a5 := cell_of_blk (i := 5) K0.out rfl
  have a6 := cell_of_blk (i := 6) K0.out rfl
  have a7 := cell_of_blk (i := 7) K0.out rfl
  have a8 := cell_of_blk (i := 8) K0.out rfl
  have a9 := cell_of_blk (i := 9) K0.out rfl
  have a10 := cell_of_blk (i := 10) K0.out rfl
  have zz := fun i => free_of_blk (i := i) K0.out
  go_wp2_with (first
    | (refine load_row rfl 25 (.tmp 3) rfl w.heap.size rfl 11 _ Try.underlying25 rfl hi.out (by repeat (first | apply row_set | exact K0.out)) rfl ?_)
    | (refine store_row rfl 25 (.tmp 6) _ rfl (w.heap.size + 1) _ rfl rfl 11 hi.out (by repeat (first | apply row_far (hne := by omega) | exact K1.out)) rfl rfl (by rfl) ?_))
  clear zz a0 a1 a2 a3 a4 a5 a6 a7 a8 a9 a10
  (try simp only [Exit.inBlock, Exit.then])
  refine row_post rfl rfl Try.underlying25 rfl chip_size rfl rfl (by repeat (first | apply row_far (hne := by omega) | exact K1.out)) ⟨?_, ?_⟩
  · rw [HT.out]
    simp [writeR, chipV, chipC, hk]
  · exact below_row (by repeat (first | apply below_put (hb := by omega) | exact B.out)) (by omega)
set_option maxRecDepth 100000 in
set_option maxHeartbeats 2000000 in
theorem spec_write_5 (c : ChipI) (hf : c.fits) (r n : Int) (hok : okC c = true) (hk : r % 16 = 5) (w : World) : Calls Try.prog 19 #[chipV c, .int .i64 r, .int .i64 n] w fun e w' => e = .returned (chipV (writeI c r n)) ∧ Below w.heap.size w w' := by
  have HO := Lib.hid (spec_chipOk c hf)
  have hi := Lib.hid chip_size
  have e255 := and_255 n
  have hr := (okC_iff c).1 hok
  have HT := Lib.hid (write_yes hok r n)
  rw [hok] at HO
  obtain ⟨p, q, hpq⟩ : ∃ p q, c.fl = mkF p q := ⟨_, _, mk_isF hr.fl⟩
  obtain ⟨p', q', hpm⟩ : ∃ p q, c.ms = mkF p q := ⟨_, _, mk_isF hr.ms⟩
  have r1 := hr.c1
  have r2 := hr.c2
  have r3 := hr.l1
  have r4 := hr.dr
  have r5 := hr.o2
  clear hok hf hr
  obtain ⟨c1, l1, v1, ag, c2, o2, v2, pt, dr, fl, ms⟩ := c
  simp only [] at hpq hpm r1 r2 r3 r4 r5
  subst hpq
  subst hpm
  rw [chipV_mk] at HO ⊢
  have e15 := and_15 r
  rw [hk] at e15
  have hv : 0 ≤ n % 256 ∧ n % 256 ≤ 255 := by omega
  generalize n % 256 = V at *
  have el := w_low words_i64 r3
  have eo := w_or' words_i64 (q := V) (v := l1 % 256) hv (by omega)
  have e64 := not64_mk
  go_enter Try.func19, Try.ntmps19
  go_wp2_with (go_at_call 14; refine (HO.out _).mono ?_; rintro e w1 ⟨rfl, hb⟩; refine Hid.out ?_)
  have k0 := blk_below (blk_old (blk_new w _)) hb
  have k1 := blk_below (blk_new _ _) hb
  rw [alloc_size] at k1
  have B := below_then (below_alloc ((Below.refl w.heap.size w).alloc (Nat.le_refl _) _) _) hb
  have H0 : Hid (ChipRows w w.heap.size (w.heap.size + 1) ⟨c1, l1, v1, ag, c2, o2, v2, pt, dr, mkF p q, mkF p' q'⟩ w1) := Lib.hid ⟨k0, k1, B⟩
  clear hb k0 k1 B
  refine Lib.hid ?_
  have K0 := Lib.hid (rows_lit H0.out)
  have K1 := Lib.hid (res_lit H0.out)
  have B := Lib.hid H0.out.old
  have a0 := cell_of_blk (i := 0) K0.out rfl
  have a1 := cell_of_blk (i := 1) K0.out rfl
  have a2 := cell_of_blk (i := 2) K0.out rfl
  have a3 := cell_of_blk (i := 3) K0.out rfl
  have a4 := cell_of_blk (i := 4) K0.out rfl
  have a5 := cell_of_blk (i := 5) K0.out rfl
  have a6 := cell_of_blk (i := 6) K0.out rfl
  have a7 := cell_of_blk (i := 7) K0.out rfl
  have a8 := cell_of_blk (i := 8) K0.out rfl
  have a9 := cell_of_blk (i := 9) K0.out rfl
  have a10 := cell_of_blk (i := 10) K0.out rfl
  have zz := fun i => free_of_blk (i := i) K0.out
  go_wp2_with (first
    | (refine load_row rfl 25 (.tmp 3) rfl w.heap.size rfl 11 _ Try.underlying25 rfl hi.out (by repeat (first | apply row_set | exact K0.out)) rfl ?_)
    | (refine store_row rfl 25 (.tmp 6) _ rfl (w.heap.size + 1) _ rfl rfl 11 hi.out (by repeat (first | apply row_far (hne := by omega) | exact K1.out)) rfl rfl (by rfl) ?_))
  clear zz a0 a1 a2 a3 a4 a5 a6 a7 a8 a9 a10
  (try simp only [Exit.inBlock, Exit.then])
  refine row_post rfl rfl Try.underlying25 rfl chip_size rfl rfl (by repeat (first | apply row_far (hne := by omega) | exact K1.out)) ⟨?_, ?_⟩
  · rw [HT.out]
    simp [writeR, chipV, chipC, hk, f5_mk]
  · exact below_row (by repeat (first | apply below_put (hb := by omega) | exact B.out)) (by omega)
set_option maxRecDepth 100000 in
set_option maxHeartbeats 400000 in
theorem spec_write_7 (c : ChipI) (hf : c.fits) (r n : Int) (hok : okC c = true) (hk : r % 16 = 7) (w : World) : Calls Try.prog 19 #[chipV c, .int .i64 r, .int .i64 n] w fun e w' => e = .returned (chipV (writeI c r n)) ∧ Below w.heap.size w w' := by
  have HO := Lib.hid (spec_chipOk c hf)
  have hi := Lib.hid chip_size
  have e255 := and_255 n
  have hr := (okC_iff c).1 hok
  have HT := Lib.hid (write_yes hok r n)
  rw [hok] at HO
  obtain ⟨p, q, hpq⟩ : ∃ p q, c.fl = mkF p q := ⟨_, _, mk_isF hr.fl⟩
  obtain ⟨p', q', hpm⟩ : ∃ p q, c.ms = mkF p q := ⟨_, _, mk_isF hr.ms⟩
  have r1 := hr.c1
  have r2 := hr.c2
  have r3 := hr.l1
  have r4 := hr.dr
  have r5 := hr.o2
  clear hok hf hr
  obtain ⟨c1, l1, v1, ag, c2, o2, v2, pt, dr, fl, ms⟩ := c
  simp only [] at hpq hpm r1 r2 r3 r4 r5
  subst hpq
  subst hpm
  rw [chipV_mk] at HO ⊢
  have e15 := and_15 r
  rw [hk] at e15
  have hv : 0 ≤ n % 256 ∧ n % 256 ≤ 255 := by omega
  generalize n % 256 = V at *
  have el := w_low words_i64 r3
  have eo := w_or' words_i64 (q := V) (v := l1 % 256) hv (by omega)
  have e64 := not64_mk
  go_enter Try.func19, Try.ntmps19
  go_wp2_with (go_at_call 14; refine (HO.out _).mono ?_; rintro e w1 ⟨rfl, hb⟩; refine Hid.out ?_)
  have k0 := blk_below (blk_old (blk_new w _)) hb
  have k1 := blk_below (blk_new _ _) hb
  rw [alloc_size] at k1
  have B := below_then (below_alloc ((Below.refl w.heap.size w).alloc (Nat.le_refl _) _) _) hb
  have H0 : Hid (ChipRows w w.heap.size (w.heap.size + 1) ⟨c1, l1, v1, ag, c2, o2, v2, pt, dr, mkF p q, mkF p' q'⟩ w1) := Lib.hid ⟨k0, k1, B⟩
  clear hb k0 k1 B
  refine Lib.hid ?_
  have K0 := Lib.hid (rows_lit H0.out)
  have K1 := Lib.hid (res_lit H0.out)
  have B := Lib.hid H0.out.old
  have a0 := cell_of_blk (i := 0) K0.out rfl
  have a1 := cell_of_blk (i := 1) K0.out rfl
  have a2 := cell_of_blk (i := 2) K0.out rfl
  have a3 := cell_of_blk (i := 3) K0.out rfl
  have a4 := cell_of_blk (i := 4) K0.out rfl
  have a5 := cell_of_blk (i := 5) K0.out rfl
  have a6 := cell_of_blk (i := 6) K0.out rfl
  have a7 := cell_of_blk (i := 7) K0.out rfl
  have a8 := cell_of_blk (i := 8) K0.out rfl
  have a9 := cell_of_blk (i := 9) K0.out rfl
  have a10 := cell_of_blk (i := 10) K0.out rfl
  have zz := fun i => free_of_blk (i := i) K0.out
  go_wp2_with (first
    | (refine load_row rfl 25 (.tmp 3) rfl w.heap.size rfl 11 _ Try.underlying25 rfl hi.out (by repeat (first | apply row_set | exact K0.out)) rfl ?_)
    | (refine store_row rfl 25 (.tmp 6) _ rfl (w.heap.size + 1) _ rfl rfl 11 hi.out (by repeat (first | apply row_far (hne := by omega) | exact K1.out)) rfl rfl (by rfl) ?_))
  clear zz a0 a1 a2 a3 a4 a5 a6 a7 a8 a9 a10
  (try simp only [Exit.inBlock, Exit.then])
  refine row_post rfl rfl Try.underlying25 rfl chip_size rfl rfl (by repeat (first | apply row_far (hne := by omega) | exact K1.out)) ⟨?_, ?_⟩
  · rw [HT.out]
    simp [writeR, chipV, chipC, hk, f5_mk]
  · exact below_row (by repeat (first | apply below_put (hb := by omega) | exact B.out)) (by omega)
set_option maxRecDepth 100000 in
set_option maxHeartbeats 400000 in
theorem spec_write_8 (c : ChipI) (hf : c.fits) (r n : Int) (hok : okC c = true) (hk : r % 16 = 8) (w : World) : Calls Try.prog 19 #[chipV c, .int .i64 r, .int .i64 n] w fun e w' => e = .returned (chipV (writeI c r n)) ∧ Below w.heap.size w w' := by
  have HO := Lib.hid (spec_chipOk c hf)
  have hi := Lib.hid chip_size
  have e255 := and_255 n
  have hr := (okC_iff c).1 hok
  have HT := Lib.hid (write_yes hok r n)
  rw [hok] at HO
  obtain ⟨p, q, hpq⟩ : ∃ p q, c.fl = mkF p q := ⟨_, _, mk_isF hr.fl⟩
  obtain ⟨p', q', hpm⟩ : ∃ p q, c.ms = mkF p q := ⟨_, _, mk_isF hr.ms⟩
  have r1 := hr.c1
  have r2 := hr.c2
  have r3 := hr.l1
  have r4 := hr.dr
  have r5 := hr.o2
  clear hok hf hr
  obtain ⟨c1, l1, v1, ag, c2, o2, v2, pt, dr, fl, ms⟩ := c
  simp only [] at hpq hpm r1 r2 r3 r4 r5
  subst hpq
  subst hpm
  rw [chipV_mk] at HO ⊢
  have e15 := and_15 r
  rw [hk] at e15
  have hv : 0 ≤ n % 256 ∧ n % 256 ≤ 255 := by omega
  generalize n % 256 = V at *
  go_enter Try.func19, Try.ntmps19
  go_wp2_with (go_at_call 14; refine (HO.out _).mono ?_; rintro e w1 ⟨rfl, hb⟩; refine Hid.out ?_)
  have k0 := blk_below (blk_old (blk_new w _)) hb
  have k1 := blk_below (blk_new _ _) hb
  rw [alloc_size] at k1
  have B := below_then (below_alloc ((Below.refl w.heap.size w).alloc (Nat.le_refl _) _) _) hb
  have H0 : Hid (ChipRows w w.heap.size (w.heap.size + 1) ⟨c1, l1, v1, ag, c2, o2, v2, pt, dr, mkF p q, mkF p' q'⟩ w1) := Lib.hid ⟨k0, k1, B⟩
  clear hb k0 k1 B
  refine Lib.hid ?_
  have K0 := Lib.hid (rows_lit H0.out)
  have K1 := Lib.hid (res_lit H0.out)
  have B := Lib.hid H0.out.old
  have a0 := cell_of_blk (i := 0) K0.out rfl
  have a1 := cell_of_blk (i := 1) K0.out rfl
  have a2 := cell_of_blk (i := 2) K0.out rfl
  have a3 := cell_of_blk (i := 3) K0.out rfl
  have a4 := cell_of_blk (i := 4) K0.out rfl
  have a5 := cell_of_blk (i := 5) K0.out rfl
  have a6 := cell_of_blk (i := 6) K0.out rfl
  have a7 := cell_of_blk (i := 7) K0.out rfl
  have a8 := cell_of_blk (i := 8) K0.out rfl
  have a9 := cell_of_blk (i := 9) K0.out rfl
  have a10 := cell_of_blk (i := 10) K0.out rfl
  have zz := fun i => free_of_blk (i := i) K0.out
  go_wp2_with (first
    | (refine load_row rfl 25 (.tmp 3) rfl w.heap.size rfl 11 _ Try.underlying25 rfl hi.out (by repeat (first | apply row_set | exact K0.out)) rfl ?_)
    | (refine store_row rfl 25 (.tmp 6) _ rfl (w.heap.size + 1) _ rfl rfl 11 hi.out (by repeat (first | apply row_far (hne := by omega) | exact K1.out)) rfl rfl (by rfl) ?_))
  clear zz a0 a1 a2 a3 a4 a5 a6 a7 a8 a9 a10
  (try simp only [Exit.inBlock, Exit.then])
  refine row_post rfl rfl Try.underlying25 rfl chip_size rfl rfl (by repeat (first | apply row_far (hne := by omega) | exact K1.out)) ⟨?_, ?_⟩
  · rw [HT.out]
    simp [writeR, chipV, chipC, hk]
  · exact below_row (by repeat (first | apply below_put (hb := by omega) | exact B.out)) (by omega)
set_option maxRecDepth 100000 in
set_option maxHeartbeats 400000 in
theorem spec_write_9 (c : ChipI) (hf : c.fits) (r n : Int) (hok : okC c = true) (hk : r % 16 = 9) (w : World) : Calls Try.prog 19 #[chipV c, .int .i64 r, .int .i64 n] w fun e w' => e = .returned (chipV (writeI c r n)) ∧ Below w.heap.size w w' := by
  have HO := Lib.hid (spec_chipOk c hf)
  have hi := Lib.hid chip_size
  have e255 := and_255 n
  have hr := (okC_iff c).1 hok
  have HT := Lib.hid (write_yes hok r n)
  rw [hok] at HO
  obtain ⟨p, q, hpq⟩ : ∃ p q, c.fl = mkF p q := ⟨_, _, mk_isF hr.fl⟩
  obtain ⟨p', q', hpm⟩ : ∃ p q, c.ms = mkF p q := ⟨_, _, mk_isF hr.ms⟩
  have r1 := hr.c1
  have r2 := hr.c2
  have r3 := hr.l1
  have r4 := hr.dr
  have r5 := hr.o2
  clear hok hf hr
  obtain ⟨c1, l1, v1, ag, c2, o2, v2, pt, dr, fl, ms⟩ := c
  simp only [] at hpq hpm r1 r2 r3 r4 r5
  subst hpq
  subst hpm
  rw [chipV_mk] at HO ⊢
  have e15 := and_15 r
  rw [hk] at e15
  have hv : 0 ≤ n % 256 ∧ n % 256 ≤ 255 := by omega
  generalize n % 256 = V at *
  have eo := w_or words_i64 (q := V) (v := o2) hv r5
  have e32 := not32_mk
  go_enter Try.func19, Try.ntmps19
  go_wp2_with (go_at_call 14; refine (HO.out _).mono ?_; rintro e w1 ⟨rfl, hb⟩; refine Hid.out ?_)
  have k0 := blk_below (blk_old (blk_new w _)) hb
  have k1 := blk_below (blk_new _ _) hb
  rw [alloc_size] at k1
  have B := below_then (below_alloc ((Below.refl w.heap.size w).alloc (Nat.le_refl _) _) _) hb
  have H0 : Hid (ChipRows w w.heap.size (w.heap.size + 1) ⟨c1, l1, v1, ag, c2, o2, v2, pt, dr, mkF p q, mkF p' q'⟩ w1) := Lib.hid ⟨k0, k1, B⟩
  clear hb k0 k1 B
  refine Lib.hid ?_
  have K0 := Lib.hid (rows_lit H0.out)
  have K1 := Lib.hid (res_lit H0.out)
  have B := Lib.hid H0.out.old
  have a0 := cell_of_blk (i := 0) K0.out rfl
  have a1 := cell_of_blk (i := 1) K0.out rfl
  have a2 := cell_of_blk (i := 2) K0.out rfl
  have a3 := cell_of_blk (i := 3) K0.out rfl
  have a4 := cell_of_blk (i := 4) K0.out rfl
  have a5 := cell_of_blk (i := 5) K0.out rfl
  have a6 := cell_of_blk (i := 6) K0.out rfl
  have a7 := cell_of_blk (i := 7) K0.out rfl
  have a8 := cell_of_blk (i := 8) K0.out rfl
  have a9 := cell_of_blk (i := 9) K0.out rfl
  have a10 := cell_of_blk (i := 10) K0.out rfl
  have zz := fun i => free_of_blk (i := i) K0.out
  go_wp2_with (first
    | (refine load_row rfl 25 (.tmp 3) rfl w.heap.size rfl 11 _ Try.underlying25 rfl hi.out (by repeat (first | apply row_set | exact K0.out)) rfl ?_)
    | (refine store_row rfl 25 (.tmp 6) _ rfl (w.heap.size + 1) _ rfl rfl 11 hi.out (by repeat (first | apply row_far (hne := by omega) | exact K1.out)) rfl rfl (by rfl) ?_))
  clear zz a0 a1 a2 a3 a4 a5 a6 a7 a8 a9 a10
  (try simp only [Exit.inBlock, Exit.then])
  refine row_post rfl rfl Try.underlying25 rfl chip_size rfl rfl (by repeat (first | apply row_far (hne := by omega) | exact K1.out)) ⟨?_, ?_⟩
  · rw [HT.out]
    simp [writeR, chipV, chipC, hk, f6_mk]
  · exact below_row (by repeat (first | apply below_put (hb := by omega) | exact B.out)) (by omega)
set_option maxRecDepth 100000 in
set_option maxHeartbeats 400000 in
theorem spec_write_11 (c : ChipI) (hf : c.fits) (r n : Int) (hok : okC c = true) (hk : r % 16 = 11) (w : World) : Calls Try.prog 19 #[chipV c, .int .i64 r, .int .i64 n] w fun e w' => e = .returned (chipV (writeI c r n)) ∧ Below w.heap.size w w' := by
  have HO := Lib.hid (spec_chipOk c hf)
  have hi := Lib.hid chip_size
  have e255 := and_255 n
  have hr := (okC_iff c).1 hok
  have HT := Lib.hid (write_yes hok r n)
  rw [hok] at HO
  obtain ⟨p, q, hpq⟩ : ∃ p q, c.fl = mkF p q := ⟨_, _, mk_isF hr.fl⟩
  obtain ⟨p', q', hpm⟩ : ∃ p q, c.ms = mkF p q := ⟨_, _, mk_isF hr.ms⟩
  have r1 := hr.c1
  have r2 := hr.c2
  have r3 := hr.l1
  have r4 := hr.dr
  have r5 := hr.o2
  clear hok hf hr
  obtain ⟨c1, l1, v1, ag, c2, o2, v2, pt, dr, fl, ms⟩ := c
  simp only [] at hpq hpm r1 r2 r3 r4 r5
  subst hpq
  subst hpm
  rw [chipV_mk] at HO ⊢
  have e15 := and_15 r
  rw [hk] at e15
  have hv : 0 ≤ n % 256 ∧ n % 256 ≤ 255 := by omega
  generalize n % 256 = V at *
  have e64 := tst_i64 V 64 (by omega)
  go_enter Try.func19, Try.ntmps19
  go_wp2_with (go_at_call 14; refine (HO.out _).mono ?_; rintro e w1 ⟨rfl, hb⟩; refine Hid.out ?_)
  have k0 := blk_below (blk_old (blk_new w _)) hb
  have k1 := blk_below (blk_new _ _) hb
  rw [alloc_size] at k1
  have B := below_then (below_alloc ((Below.refl w.heap.size w).alloc (Nat.le_refl _) _) _) hb
  have H0 : Hid (ChipRows w w.heap.size (w.heap.size + 1) ⟨c1, l1, v1, ag, c2, o2, v2, pt, dr, mkF p q, mkF p' q'⟩ w1) := Lib.hid ⟨k0, k1, B⟩
  clear hb k0 k1 B
  refine Lib.hid ?_
  have K0 := Lib.hid (rows_lit H0.out)
  have K1 := Lib.hid (res_lit H0.out)
  have B := Lib.hid H0.out.old
  have a0 := cell_of_blk (i := 0) K0.out rfl
  have a1 := cell_of_blk (i := 1) K0.out rfl
  have a2 := cell_of_blk (i := 2) K0.out rfl
  have a3 := cell_of_blk (i := 3) K0.out rfl
  have a4 := cell_of_blk (i := 4) K0.out rfl
  have a5 := cell_of_blk (i := 5) K0.out rfl
  have a6 := cell_of_blk (i := 6) K0.out rfl
  have a7 := cell_of_blk (i := 7) K0.out rfl
  have a8 := cell_of_blk (i := 8) K0.out rfl
  have a9 := cell_of_blk (i := 9) K0.out rfl
  have a10 := cell_of_blk (i := 10) K0.out rfl
  have zz := fun i => free_of_blk (i := i) K0.out
  go_wp2_with (first
    | (refine load_row rfl 25 (.tmp 3) rfl w.heap.size rfl 11 _ Try.underlying25 rfl hi.out (by repeat (first | apply row_set | exact K0.out)) rfl ?_)
    | (refine store_row rfl 25 (.tmp 6) _ rfl (w.heap.size + 1) _ rfl rfl 11 hi.out (by repeat (first | apply row_far (hne := by omega) | exact K1.out)) rfl rfl (by rfl) ?_))
  clear zz a0 a1 a2 a3 a4 a5 a6 a7 a8 a9 a10
  (try simp only [Exit.inBlock, Exit.then])
  refine row_post rfl rfl Try.underlying25 rfl chip_size rfl rfl (by repeat (first | apply row_far (hne := by omega) | exact K1.out)) ⟨?_, ?_⟩
  · rw [HT.out]
    simp [writeR, chipV, chipC, hk]
  · exact below_row (by repeat (first | apply below_put (hb := by omega) | exact B.out)) (by omega)
set_option maxRecDepth 100000 in
set_option maxHeartbeats 400000 in
theorem spec_write_13 (c : ChipI) (hf : c.fits) (r n : Int) (hok : okC c = true) (hk : r % 16 = 13) (w : World) : Calls Try.prog 19 #[chipV c, .int .i64 r, .int .i64 n] w fun e w' => e = .returned (chipV (writeI c r n)) ∧ Below w.heap.size w w' := by
  have HO := Lib.hid (spec_chipOk c hf)
  have hi := Lib.hid chip_size
  have e255 := and_255 n
  have hr := (okC_iff c).1 hok
  have HT := Lib.hid (write_yes hok r n)
  rw [hok] at HO
  obtain ⟨p, q, hpq⟩ : ∃ p q, c.fl = mkF p q := ⟨_, _, mk_isF hr.fl⟩
  obtain ⟨p', q', hpm⟩ : ∃ p q, c.ms = mkF p q := ⟨_, _, mk_isF hr.ms⟩
  have r1 := hr.c1
  have r2 := hr.c2
  have r3 := hr.l1
  have r4 := hr.dr
  have r5 := hr.o2
  clear hok hf hr
  obtain ⟨c1, l1, v1, ag, c2, o2, v2, pt, dr, fl, ms⟩ := c
  simp only [] at hpq hpm r1 r2 r3 r4 r5
  subst hpq
  subst hpm
  rw [chipV_mk] at HO ⊢
  have e15 := and_15 r
  rw [hk] at e15
  have hv : 0 ≤ n % 256 ∧ n % 256 ≤ 255 := by omega
  generalize n % 256 = V at *
  have en := notv_mk p q hv
  go_enter Try.func19, Try.ntmps19
  go_wp2_with (go_at_call 14; refine (HO.out _).mono ?_; rintro e w1 ⟨rfl, hb⟩; refine Hid.out ?_)
  have k0 := blk_below (blk_old (blk_new w _)) hb
  have k1 := blk_below (blk_new _ _) hb
  rw [alloc_size] at k1
  have B := below_then (below_alloc ((Below.refl w.heap.size w).alloc (Nat.le_refl _) _) _) hb
  have H0 : Hid (ChipRows w w.heap.size (w.heap.size + 1) ⟨c1, l1, v1, ag, c2, o2, v2, pt, dr, mkF p q, mkF p' q'⟩ w1) := Lib.hid ⟨k0, k1, B⟩
  clear hb k0 k1 B
  refine Lib.hid ?_
  have K0 := Lib.hid (rows_lit H0.out)
  have K1 := Lib.hid (res_lit H0.out)
  have B := Lib.hid H0.out.old
  have a0 := cell_of_blk (i := 0) K0.out rfl
  have a1 := cell_of_blk (i := 1) K0.out rfl
  have a2 := cell_of_blk (i := 2) K0.out rfl
  have a3 := cell_of_blk (i := 3) K0.out rfl
  have a4 := cell_of_blk (i := 4) K0.out rfl
  have a5 := cell_of_blk (i := 5) K0.out rfl
  have a6 := cell_of_blk (i := 6) K0.out rfl
  have a7 := cell_of_blk (i := 7) K0.out rfl
  have a8 := cell_of_blk (i := 8) K0.out rfl
  have a9 := cell_of_blk (i := 9) K0.out rfl
  have a10 := cell_of_blk (i := 10) K0.out rfl
  have zz := fun i => free_of_blk (i := i) K0.out
  go_wp2_with (first
    | (refine load_row rfl 25 (.tmp 3) rfl w.heap.size rfl 11 _ Try.underlying25 rfl hi.out (by repeat (first | apply row_set | exact K0.out)) rfl ?_)
    | (refine store_row rfl 25 (.tmp 6) _ rfl (w.heap.size + 1) _ rfl rfl 11 hi.out (by repeat (first | apply row_far (hne := by omega) | exact K1.out)) rfl rfl (by rfl) ?_))
  clear zz a0 a1 a2 a3 a4 a5 a6 a7 a8 a9 a10
  (try simp only [Exit.inBlock, Exit.then])
  refine row_post rfl rfl Try.underlying25 rfl chip_size rfl rfl (by repeat (first | apply row_far (hne := by omega) | exact K1.out)) ⟨?_, ?_⟩
  · rw [HT.out]
    simp [writeR, chipV, chipC, hk, f6_mk, f5_mk]
  · exact below_row (by repeat (first | apply below_put (hb := by omega) | exact B.out)) (by omega)
set_option maxRecDepth 100000 in
set_option maxHeartbeats 400000 in
theorem spec_write_14_true (c : ChipI) (hf : c.fits) (r n : Int) (hok : okC c = true) (hk : r % 16 = 14) (hb7 : tst (n % 256) 128 = true) (w : World) : Calls Try.prog 19 #[chipV c, .int .i64 r, .int .i64 n] w fun e w' => e = .returned (chipV (writeI c r n)) ∧ Below w.heap.size w w' := by
  have HO := Lib.hid (spec_chipOk c hf)
  have hi := Lib.hid chip_size
  have e255 := and_255 n
  have hr := (okC_iff c).1 hok
  have HT := Lib.hid (write_yes hok r n)
  rw [hok] at HO
  obtain ⟨p, q, hpq⟩ : ∃ p q, c.fl = mkF p q := ⟨_, _, mk_isF hr.fl⟩
  obtain ⟨p', q', hpm⟩ : ∃ p q, c.ms = mkF p q := ⟨_, _, mk_isF hr.ms⟩
  have r1 := hr.c1
  have r2 := hr.c2
  have r3 := hr.l1
  have r4 := hr.dr
  have r5 := hr.o2
  clear hok hf hr
  obtain ⟨c1, l1, v1, ag, c2, o2, v2, pt, dr, fl, ms⟩ := c
  simp only [] at hpq hpm r1 r2 r3 r4 r5
  subst hpq
  subst hpm
  rw [chipV_mk] at HO ⊢
  have e15 := and_15 r
  rw [hk] at e15
  have hv : 0 ≤ n % 256 ∧ n % 256 ≤ 255 := by omega
  generalize n % 256 = V at *
  have e128 := tst_i64 V 128 (by omega)
  rw [hb7] at e128
  have HX := Lib.hid hb7
  clear hb7
  have eo := orv_mk p' q' V
  go_enter Try.func19, Try.ntmps19
  go_wp2_with (go_at_call 14; refine (HO.out _).mono ?_; rintro e w1 ⟨rfl, hb⟩; refine Hid.out ?_)
  have k0 := blk_below (blk_old (blk_new w _)) hb
  have k1 := blk_below (blk_new _ _) hb
  rw [alloc_size] at k1
  have B := below_then (below_alloc ((Below.refl w.heap.size w).alloc (Nat.le_refl _) _) _) hb
  have H0 : Hid (ChipRows w w.heap.size (w.heap.size + 1) ⟨c1, l1, v1, ag, c2, o2, v2, pt, dr, mkF p q, mkF p' q'⟩ w1) := Lib.hid ⟨k0, k1, B⟩
  clear hb k0 k1 B
  refine Lib.hid ?_
  have K0 := Lib.hid (rows_lit H0.out)
  have K1 := Lib.hid (res_lit H0.out)
  have B := Lib.hid H0.out.old
  have a0 := cell_of_blk (i := 0) K0.out rfl
  have a1 := cell_of_blk (i := 1) K0.out rfl
  have a2 := cell_of_blk (i := 2) K0.out rfl
  have a3 := cell_of_blk (i := 3) K0.out rfl
  have a4 := cell_of_blk (i := 4) K0.out rfl
  have a5 := cell_of_blk (i := 5) K0.out rfl
  have a6 := cell_of_blk (i := 6) K0.out rfl
  have a7 := cell_of_blk (i := 7) K0.out rfl
  have a8 := cell_of_blk (i := 8) K0.out rfl
  have a9 := cell_of_blk (i := 9) K0.out rfl
  have a10 := cell_of_blk (i := 10) K0.out rfl
  have zz := fun i => free_of_blk (i := i) K0.out
  go_wp2_with (first
    | (refine load_row rfl 25 (.tmp 3) rfl w.heap.size rfl 11 _ Try.underlying25 rfl hi.out (by repeat (first | apply row_set | exact K0.out)) rfl ?_)
    | (refine store_row rfl 25 (.tmp 6) _ rfl (w.heap.size + 1) _ rfl rfl 11 hi.out (by repeat (first | apply row_far (hne := by omega) | exact K1.out)) rfl rfl (by rfl) ?_))
  clear zz a0 a1 a2 a3 a4 a5 a6 a7 a8 a9 a10
  (try simp only [Exit.inBlock, Exit.then])
  refine row_post rfl rfl Try.underlying25 rfl chip_size rfl rfl (by repeat (first | apply row_far (hne := by omega) | exact K1.out)) ⟨?_, ?_⟩
  · rw [HT.out]
    simp [writeR, chipV, chipC, hk, f6_mk, f5_mk, HX.out]
  · exact below_row (by repeat (first | apply below_put (hb := by omega) | exact B.out)) (by omega)
set_option maxRecDepth 100000 in
set_option maxHeartbeats 400000 in
theorem spec_write_14_false (c : ChipI) (hf : c.fits) (r n : Int) (hok : okC c = true) (hk : r % 16 = 14) (hb7 : tst (n % 256) 128 = false) (w : World) : Calls Try.prog 19 #[chipV c, .int .i64 r, .int .i64 n] w fun e w' => e = .returned (chipV (writeI c r n)) ∧ Below w.heap.size w w' := by
  have HO := Lib.hid (spec_chipOk c hf)
  have hi := Lib.hid chip_size
  have e255 := and_255 n
  have hr := (okC_iff c).1 hok
  have HT := Lib.hid (write_yes hok r n)
  rw [hok] at HO
  obtain ⟨p, q, hpq⟩ : ∃ p q, c.fl = mkF p q := ⟨_, _, mk_isF hr.fl⟩
  obtain ⟨p', q', hpm⟩ : ∃ p q, c.ms = mkF p q := ⟨_, _, mk_isF hr.ms⟩
  have r1 := hr.c1
  have r2 := hr.c2
  have r3 := hr.l1
  have r4 := hr.dr
  have r5 := hr.o2
  clear hok hf hr
  obtain ⟨c1, l1, v1, ag, c2, o2, v2, pt, dr, fl, ms⟩ := c
  simp only [] at hpq hpm r1 r2 r3 r4 r5
  subst hpq
  subst hpm
  rw [chipV_mk] at HO ⊢
  have e15 := and_15 r
  rw [hk] at e15
  have hv : 0 ≤ n % 256 ∧ n % 256 ≤ 255 := by omega
  generalize n % 256 = V at *
  have e128 := tst_i64 V 128 (by omega)
  rw [hb7] at e128
  have HX := Lib.hid hb7
  clear hb7
  have eo := notv_mk p' q' hv
  go_enter Try.func19, Try.ntmps19
  go_wp2_with (go_at_call 14; refine (HO.out _).mono ?_; rintro e w1 ⟨rfl, hb⟩; refine Hid.out ?_)
  have k0 := blk_below (blk_old (blk_new w _)) hb
  have k1 := blk_below (blk_new _ _) hb
  rw [alloc_size] at k1
  have B := below_then (below_alloc ((Below.refl w.heap.size w).alloc (Nat.le_refl _) _) _) hb
  have H0 : Hid (ChipRows w w.heap.size (w.heap.size + 1) ⟨c1, l1, v1, ag, c2, o2, v2, pt, dr, mkF p q, mkF p' q'⟩ w1) := Lib.hid ⟨k0, k1, B⟩
  clear hb k0 k1 B
  refine Lib.hid ?_
  have K0 := Lib.hid (rows_lit H0.out)
  have K1 := Lib.hid (res_lit H0.out)
  have B := Lib.hid H0.out.old
  have a0 := cell_of_blk (i := 0) K0.out rfl
  have a1 := cell_of_blk (i := 1) K0.out rfl
  have a2 := cell_of_blk (i := 2) K0.out rfl
  have a3 := cell_of_blk (i := 3) K0.out rfl
  have a4 := cell_of_blk (i := 4) K0.out rfl
  have a5 := cell_of_blk (i := 5) K0.out rfl
  have a6 := cell_of_blk (i := 6) K0.out rfl
  have a7 := cell_of_blk (i := 7) K0.out rfl
  have a8 := cell_of_blk (i := 8) K0.out rfl
  have a9 := cell_of_blk (i := 9) K0.out rfl
  have a10 := cell_of_blk (i := 10) K0.out rfl
  have zz := fun i => free_of_blk (i := i) K0.out
  go_wp2_with (first
    | (refine load_row rfl 25 (.tmp 3) rfl w.heap.size rfl 11 _ Try.underlying25 rfl hi.out (by repeat (first | apply row_set | exact K0.out)) rfl ?_)
    | (refine store_row rfl 25 (.tmp 6) _ rfl (w.heap.size + 1) _ rfl rfl 11 hi.out (by repeat (first | apply row_far (hne := by omega) | exact K1.out)) rfl rfl (by rfl) ?_))
  clear zz a0 a1 a2 a3 a4 a5 a6 a7 a8 a9 a10
  (try simp only [Exit.inBlock, Exit.then])
  refine row_post rfl rfl Try.underlying25 rfl chip_size rfl rfl (by repeat (first | apply row_far (hne := by omega) | exact K1.out)) ⟨?_, ?_⟩
  · rw [HT.out]
    simp [writeR, chipV, chipC, hk, f6_mk, f5_mk, HX.out]
  · exact below_row (by repeat (first | apply below_put (hb := by omega) | exact B.out)) (by omega)
set_option maxRecDepth 100000 in
set_option maxHeartbeats 400000 in
theorem spec_write_none (c : ChipI) (hf : c.fits) (r n : Int) (hok : okC c = true) (hk : ¬ r % 16 = 0 ∧ ¬ r % 16 = 2 ∧ ¬ r % 16 = 4 ∧ ¬ r % 16 = 6 ∧ ¬ r % 16 = 5 ∧ ¬ r % 16 = 7 ∧ ¬ r % 16 = 8 ∧ ¬ r % 16 = 9 ∧ ¬ r % 16 = 11 ∧ ¬ r % 16 = 13 ∧ ¬ r % 16 = 14) (w : World) : Calls Try.prog 19 #[chipV c, .int .i64 r, .int .i64 n] w fun e w' => e = .returned (chipV (writeI c r n)) ∧ Below w.heap.size w w' := by
  have HO := Lib.hid (spec_chipOk c hf)
  have hi := Lib.hid chip_size
  have e255 := and_255 n
  have hr := (okC_iff c).1 hok
  have HT := Lib.hid (write_yes hok r n)
  rw [hok] at HO
  obtain ⟨p, q, hpq⟩ : ∃ p q, c.fl = mkF p q := ⟨_, _, mk_isF hr.fl⟩
  obtain ⟨p', q', hpm⟩ : ∃ p q, c.ms = mkF p q := ⟨_, _, mk_isF hr.ms⟩
  have r1 := hr.c1
  have r2 := hr.c2
  have r3 := hr.l1
  have r4 := hr.dr
  have r5 := hr.o2
  clear hok hf hr
  obtain ⟨c1, l1, v1, ag, c2, o2, v2, pt, dr, fl, ms⟩ := c
  simp only [] at hpq hpm r1 r2 r3 r4 r5
  subst hpq
  subst hpm
  rw [chipV_mk] at HO ⊢
  have e15 := and_15 r
  have hv : 0 ≤ n % 256 ∧ n % 256 ≤ 255 := by omega
  generalize n % 256 = V at *
  obtain ⟨n0, n2, n4, n6, n5, n7, n8, n9, n11, n13, n14⟩ := hk
  go_enter Try.func19, Try.ntmps19
  go_wp2_with (go_at_call 14; refine (HO.out _).mono ?_; rintro e w1 ⟨rfl, hb⟩; refine Hid.out ?_)
  have k0 := blk_below (blk_old (blk_new w _)) hb
  have k1 := blk_below (blk_new _ _) hb
  rw [alloc_size] at k1
  have B := below_then (below_alloc ((Below.refl w.heap.size w).alloc (Nat.le_refl _) _) _) hb
  have H0 : Hid (ChipRows w w.heap.size (w.heap.size + 1) ⟨c1, l1, v1, ag, c2, o2, v2, pt, dr, mkF p q, mkF p' q'⟩ w1) := Lib.hid ⟨k0, k1, B⟩
  clear hb k0 k1 B
  refine Lib.hid ?_
  have K0 := Lib.hid (rows_lit H0.out)
  have K1 := Lib.hid (res_lit H0.out)
  have B := Lib.hid H0.out.old
  go_wp2_with (first
    | (refine load_row rfl 25 (.tmp 3) rfl w.heap.size rfl 11 _ Try.underlying25 rfl hi.out (by repeat (first | apply row_set | exact K0.out)) rfl ?_)
    | (refine store_row rfl 25 (.tmp 6) _ rfl (w.heap.size + 1) _ rfl rfl 11 hi.out (by repeat (first | apply row_far (hne := by omega) | exact K1.out)) rfl rfl (by rfl) ?_))
  (try simp only [Exit.inBlock, Exit.then])
  refine row_post rfl rfl Try.underlying25 rfl chip_size rfl rfl (by repeat (first | apply row_far (hne := by omega) | exact K1.out)) ⟨?_, ?_⟩
  · rw [HT.out]
    simp [writeR, chipV, chipC, *]
  · exact below_row (by repeat (first | apply below_put (hb := by omega) | exact B.out)) (by omega)
theorem spec_write (c : ChipI) (hf : c.fits) (r n : Int) (w : World) : Calls Try.prog 19 #[chipV c, .int .i64 r, .int .i64 n] w fun e w' => e = .returned (chipV (writeI c r n)) ∧ Below w.heap.size w w' := by
  cases hok : okC c
  · exact spec_write_no c hf r n hok w
  by_cases h0 : r % 16 = 0
  · exact spec_write_0 c hf r n hok h0 w
  by_cases h2 : r % 16 = 2
  · exact spec_write_2 c hf r n hok h2 w
  by_cases h4 : r % 16 = 4
  · exact spec_write_4 c hf r n hok h4 w
  by_cases h6 : r % 16 = 6
  · exact spec_write_6 c hf r n hok h6 w
  by_cases h5 : r % 16 = 5
  · exact spec_write_5 c hf r n hok h5 w
  by_cases h7 : r % 16 = 7
  · exact spec_write_7 c hf r n hok h7 w
  by_cases h8 : r % 16 = 8
  · exact spec_write_8 c hf r n hok h8 w
  by_cases h9 : r % 16 = 9
  · exact spec_write_9 c hf r n hok h9 w
  by_cases h11 : r % 16 = 11
  · exact spec_write_11 c hf r n hok h11 w
  by_cases h13 : r % 16 = 13
  · exact spec_write_13 c hf r n hok h13 w
  by_cases h14 : r % 16 = 14
  · cases hb : tst (n % 256) 128
    · exact spec_write_14_false c hf r n hok h14 hb w
    · exact spec_write_14_true c hf r n hok h14 hb w
  exact spec_write_none c hf r n hok ⟨h0, h2, h4, h6, h5, h7, h8, h9, h11, h13, h14⟩ w
end Go.Proofs.Ythelaeejgppjhaa
