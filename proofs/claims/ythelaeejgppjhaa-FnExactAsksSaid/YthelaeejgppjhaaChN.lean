/-
  The walk of impl.WriteChip (chapter 6), register by register.
  Conditions: the numbers are those of their kind; the walk leaves old memory as it was.
-/
import Derived.Test.YthelaeejgppjhaaChL
import Derived.Test.YthelaeejgppjhaaChE
namespace Go.Proofs.Ythelaeejgppjhaa
open Go.RowKit
set_option maxRecDepth 100000 in
set_option maxHeartbeats 1000000 in
theorem impl_write_no (c : ChipI) (hf : c.fits) (r n : Int) (hok : okC c = false) (w : World) : Calls Try.prog 20 #[chipV c, .int .i64 r, .int .i64 n] w fun e w' => e = .returned (chipV (writeI c r n)) ∧ Below w.heap.size w w' := by
  have HO := Lib.hid (impl_chipOk c hf)
  have hi := Lib.hid chip_size
  have HT := Lib.hid (write_no hok r n)
  rw [hok] at HO
  clear hok hf
  obtain ⟨c1, l1, v1, ag, c2, o2, v2, pt, dr, fl, ms⟩ := c
  rw [chipV_mk] at HO ⊢
  go_enter Try.func20, Try.ntmps20
  go_wp2_with (go_at_call 13; refine (HO.out _).mono ?_; rintro e w1 ⟨rfl, hb⟩; refine Hid.out ?_)
  have K0 := Lib.hid (blk_below (blk_old (blk_new w _)) hb)
  have k1 := blk_below (blk_new _ _) hb
  rw [alloc_size] at k1
  have K1 := Lib.hid k1
  have B := Lib.hid (below_then (below_alloc ((Below.refl w.heap.size w).alloc (Nat.le_refl _) _) _) hb)
  clear hb k1
  refine Lib.hid ?_
  go_wp2_with (first
    | (refine load_row rfl 25 (.tmp 3) rfl w.heap.size rfl 11 _ Try.underlying25 rfl hi.out K0.out rfl ?_)
    | (refine store_row rfl 25 (.tmp 6) (.tmp 11) rfl (w.heap.size + 1) _ rfl rfl 11 hi.out K1.out rfl rfl (by rfl) ?_))
  exact bodyPost_ret (v := chipV ⟨c1, l1, v1, ag, c2, o2, v2, pt, dr, fl, ms⟩) (results_cell_row rfl _ _ (w.heap.size + 1) _ _ _ _ rfl (setRow_heap _ _ _ _ _ _ K1.out) Try.underlying25 rfl chip_size) rfl ⟨by rw [HT.out], below_row B.out (by omega)⟩
set_option maxRecDepth 100000 in
set_option maxHeartbeats 1000000 in
theorem impl_write_0 (c : ChipI) (hf : c.fits) (r n : Int) (hok : okC c = true) (hk : r % 16 = 0) (w : World) : Calls Try.prog 20 #[chipV c, .int .i64 r, .int .i64 n] w fun e w' => e = .returned (chipV (writeI c r n)) ∧ Below w.heap.size w w' := by
  have HO := Lib.hid (impl_chipOk c hf)
  have hi := Lib.hid chip_size
  have ht := Lib.hid tim_size
  have hr := (okC_iff c).1 hok
  have HT := Lib.hid (write_yes hok r n)
  have HM := Lib.hid (timers_of c)
  rw [hok] at HO
  obtain ⟨p, q, hpq⟩ : ∃ p q, c.fl = mkF p q := ⟨_, _, mk_isF hr.fl⟩
  obtain ⟨p', q', hpm⟩ : ∃ p q, c.ms = mkF p q := ⟨_, _, mk_isF hr.ms⟩
  have r3 := hr.l1
  have r5 := hr.o2
  clear hok hf hr
  obtain ⟨c1, l1, v1, ag, c2, o2, v2, pt, dr, fl, ms⟩ := c
  simp only [] at hpq hpm r3 r5
  subst hpq
  subst hpm
  rw [chipV_mk] at HO HM ⊢
  rw [timV_mk] at HM
  have e15 := and_15 r
  rw [hk] at e15
  have hv : 0 ≤ n % 256 ∧ n % 256 ≤ 255 := by omega
  obtain ⟨V, hV⟩ : ∃ V, n % 256 = V := ⟨_, rfl⟩
  rw [hV] at hv HT
  have HK := Lib.hid hk
  clear hk
  have HD : Hid (∀ w : World, Calls Try.prog 26 #[.agg #[.int .i64 c1, .bool v1, .int .i64 l1, .bool ag, .int .i64 c2, .bool v2, .int .i64 o2], .agg #[.int .i64 c1, .int .i64 l1, .bool v1, .bool ag, .int .i64 c2, .int .i64 o2, .bool v2, .int .i64 V, .int .i64 dr, .int .i64 (mkF p q), .int .i64 (mkF p' q')]] w fun e w' => e = .returned (.agg #[.int .i64 c1, .int .i64 l1, .bool v1, .bool ag, .int .i64 c2, .int .i64 o2, .bool v2, .int .i64 V, .int .i64 dr, .int .i64 (mkF p q), .int .i64 (mkF p' q')]) ∧ Below w.heap.size w w') := Lib.hid (fun w => put_into ⟨c1, l1, v1, ag, c2, o2, v2, 0, 0, 0, 0⟩ ⟨c1, l1, v1, ag, c2, o2, v2, V, dr, (mkF p q), (mkF p' q')⟩ w)
  have HX : Hid (chipV (writeI ⟨c1, l1, v1, ag, c2, o2, v2, pt, dr, (mkF p q), (mkF p' q')⟩ r n) = .agg #[.int .i64 c1, .int .i64 l1, .bool v1, .bool ag, .int .i64 c2, .int .i64 o2, .bool v2, .int .i64 V, .int .i64 dr, .int .i64 (mkF p q), .int .i64 (mkF p' q')]) := Lib.hid (by rw [HT.out]; simp [writeR, chipV, chipC, HK.out])
  rw [HX.out]
  clear HX HT
  go_enter Try.func20, Try.ntmps20
  go_wp2_with (go_at_call 13; refine (HO.out _).mono ?_; rintro e w1 ⟨rfl, hb⟩; refine Hid.out ?_)
  have K0 := Lib.hid (blk_below (blk_old (blk_new w _)) hb)
  have k1' := blk_below (blk_new _ _) hb
  rw [alloc_size] at k1'
  have K1 := Lib.hid k1'
  have B := Lib.hid (below_then (below_alloc ((Below.refl w.heap.size w).alloc (Nat.le_refl _) _) _) hb)
  clear hb k1' HO
  refine Lib.hid ?_
  go_wp2_with (first
    | (refine load_row rfl 25 (.tmp 3) rfl w.heap.size rfl 11 _ Try.underlying25 rfl hi.out K0.out rfl ?_)
    | (go_at_call 23; (with_reducible refine (HM.out _).mono ?_); rintro e w2 ⟨rfl, hb2⟩; refine Hid.out ?_))
  have hlt : w.heap.size + 1 < w2.heap.size := blk_in (blk_below K1.out hb2)
  have k0 := blk_old (o := .cells #[.int .i64 c1, .bool v1, .int .i64 l1, .bool ag, .int .i64 c2, .bool v2, .int .i64 o2] 45) (blk_below K0.out hb2)
  have k1 := blk_old (o := .cells #[.int .i64 c1, .bool v1, .int .i64 l1, .bool ag, .int .i64 c2, .bool v2, .int .i64 o2] 45) (blk_below K1.out hb2)
  have kt := blk_new w2 (.cells #[.int .i64 c1, .bool v1, .int .i64 l1, .bool ag, .int .i64 c2, .bool v2, .int .i64 o2] 45)
  have B := below_alloc (below_then B.out hb2) (.cells #[.int .i64 c1, .bool v1, .int .i64 l1, .bool ag, .int .i64 c2, .bool v2, .int .i64 o2] 45)
  clear hb2 K0 K1 HM
  refine Lib.hid ?_
  go_upto_region 5 with (fail)
  generalize hW : w2.alloc (.cells #[.int .i64 c1, .bool v1, .int .i64 l1, .bool ag, .int .i64 c2, .bool v2, .int .i64 o2] 45) = W2 at k0 k1 kt B
  generalize hTT : w2.heap.size = T at kt hlt
  clear hW hTT
  have K0 := Lib.hid k0
  have K1 := Lib.hid k1
  have KT := Lib.hid kt
  have BB := Lib.hid B
  clear k0 k1 kt B
  have hne : ¬ w.heap.size = T := by omega
  have hne2 : ¬ T = w.heap.size := by omega
  have a7 := cell_of_blk (i := 7) (v := .int .i64 pt) K0.out rfl
  have zz := fun i => free_of_blk (i := i) K0.out
  have yc0 : (W2.setCell ⟨w.heap.size, 7, none⟩ (.int .i64 V)).heap[w.heap.size]? = some (.cells #[.int .i64 c1, .int .i64 l1, .bool v1, .bool ag, .int .i64 c2, .int .i64 o2, .bool v2, .int .i64 V, .int .i64 dr, .int .i64 (mkF p q), .int .i64 (mkF p' q')] 25 (0, 0)) := tim_set K0.out rfl
  have yt0 : (W2.setCell ⟨w.heap.size, 7, none⟩ (.int .i64 V)).heap[T]? = some (.cells #[.int .i64 c1, .bool v1, .int .i64 l1, .bool ag, .int .i64 c2, .bool v2, .int .i64 o2] 45 (0, 0)) := row_far KT.out (by omega)
  have yr0 : (W2.setCell ⟨w.heap.size, 7, none⟩ (.int .i64 V)).heap[w.heap.size + 1]? = some (.cells #[.int .i64 0, .int .i64 0, .bool false, .bool false, .int .i64 0, .int .i64 0, .bool false, .int .i64 0, .int .i64 0, .int .i64 0, .int .i64 0] 25 (0, 0)) := row_far K1.out (by omega)
  have yb0 : Below w.heap.size w (W2.setCell ⟨w.heap.size, 7, none⟩ (.int .i64 V)) := below_put BB.out (by omega)
  have F0 := Lib.hid (yc0)
  have FT := Lib.hid (yt0)
  have F1 := Lib.hid (yr0)
  have FB := Lib.hid (yb0)
  clear yc0 yt0 yr0 yb0
  go_wp2_with (first
    | (refine load_row rfl 45 (.tmp 7) rfl T rfl 7 _ Try.underlying45 rfl ht.out FT.out rfl ?_)
    | (refine load_row rfl 25 (.tmp 3) rfl w.heap.size rfl 11 _ Try.underlying25 rfl hi.out F0.out rfl ?_)
    | (go_at_call 26; (with_reducible refine (HD.out _).mono ?_); rintro e w5 ⟨rfl, hb5⟩; refine Hid.out ?_))
  have K8 := Lib.hid (blk_below F1.out hb5)
  have B8 := Lib.hid (below_then FB.out hb5)
  clear hb5 F0 FT F1 FB HD K0 K1 KT BB a7 zz
  refine Lib.hid ?_
  go_wp2_with (refine store_row rfl 25 (.tmp 6) (.tmp 105) rfl (w.heap.size + 1) _ rfl rfl 11 hi.out K8.out rfl rfl (by rfl) ?_)
  (try simp only [Exit.inBlock, Exit.then])
  refine row_post rfl rfl Try.underlying25 rfl chip_size rfl rfl (by exact K8.out) ⟨?_, ?_⟩
  · rfl
  · exact below_row B8.out (by omega)
set_option maxRecDepth 100000 in
set_option maxHeartbeats 1000000 in
theorem impl_write_2 (c : ChipI) (hf : c.fits) (r n : Int) (hok : okC c = true) (hk : r % 16 = 2) (w : World) : Calls Try.prog 20 #[chipV c, .int .i64 r, .int .i64 n] w fun e w' => e = .returned (chipV (writeI c r n)) ∧ Below w.heap.size w w' := by
  have HO := Lib.hid (impl_chipOk c hf)
  have hi := Lib.hid chip_size
  have ht := Lib.hid tim_size
  have hr := (okC_iff c).1 hok
  have HT := Lib.hid (write_yes hok r n)
  have HM := Lib.hid (timers_of c)
  rw [hok] at HO
  obtain ⟨p, q, hpq⟩ : ∃ p q, c.fl = mkF p q := ⟨_, _, mk_isF hr.fl⟩
  obtain ⟨p', q', hpm⟩ : ∃ p q, c.ms = mkF p q := ⟨_, _, mk_isF hr.ms⟩
  have r3 := hr.l1
  have r5 := hr.o2
  clear hok hf hr
  obtain ⟨c1, l1, v1, ag, c2, o2, v2, pt, dr, fl, ms⟩ := c
  simp only [] at hpq hpm r3 r5
  subst hpq
  subst hpm
  rw [chipV_mk] at HO HM ⊢
  rw [timV_mk] at HM
  have e15 := and_15 r
  rw [hk] at e15
  have hv : 0 ≤ n % 256 ∧ n % 256 ≤ 255 := by omega
  obtain ⟨V, hV⟩ : ∃ V, n % 256 = V := ⟨_, rfl⟩
  rw [hV] at hv HT
  have HK := Lib.hid hk
  clear hk
  have HD : Hid (∀ w : World, Calls Try.prog 26 #[.agg #[.int .i64 c1, .bool v1, .int .i64 l1, .bool ag, .int .i64 c2, .bool v2, .int .i64 o2], .agg #[.int .i64 c1, .int .i64 l1, .bool v1, .bool ag, .int .i64 c2, .int .i64 o2, .bool v2, .int .i64 pt, .int .i64 V, .int .i64 (mkF p q), .int .i64 (mkF p' q')]] w fun e w' => e = .returned (.agg #[.int .i64 c1, .int .i64 l1, .bool v1, .bool ag, .int .i64 c2, .int .i64 o2, .bool v2, .int .i64 pt, .int .i64 V, .int .i64 (mkF p q), .int .i64 (mkF p' q')]) ∧ Below w.heap.size w w') := Lib.hid (fun w => put_into ⟨c1, l1, v1, ag, c2, o2, v2, 0, 0, 0, 0⟩ ⟨c1, l1, v1, ag, c2, o2, v2, pt, V, (mkF p q), (mkF p' q')⟩ w)
  have HX : Hid (chipV (writeI ⟨c1, l1, v1, ag, c2, o2, v2, pt, dr, (mkF p q), (mkF p' q')⟩ r n) = .agg #[.int .i64 c1, .int .i64 l1, .bool v1, .bool ag, .int .i64 c2, .int .i64 o2, .bool v2, .int .i64 pt, .int .i64 V, .int .i64 (mkF p q), .int .i64 (mkF p' q')]) := Lib.hid (by rw [HT.out]; simp [writeR, chipV, chipC, HK.out])
  rw [HX.out]
  clear HX HT
  go_enter Try.func20, Try.ntmps20
  go_wp2_with (go_at_call 13; refine (HO.out _).mono ?_; rintro e w1 ⟨rfl, hb⟩; refine Hid.out ?_)
  have K0 := Lib.hid (blk_below (blk_old (blk_new w _)) hb)
  have k1' := blk_below (blk_new _ _) hb
  rw [alloc_size] at k1'
  have K1 := Lib.hid k1'
  have B := Lib.hid (below_then (below_alloc ((Below.refl w.heap.size w).alloc (Nat.le_refl _) _) _) hb)
  clear hb k1' HO
  refine Lib.hid ?_
  go_wp2_with (first
    | (refine load_row rfl 25 (.tmp 3) rfl w.heap.size rfl 11 _ Try.underlying25 rfl hi.out K0.out rfl ?_)
    | (go_at_call 23; (with_reducible refine (HM.out _).mono ?_); rintro e w2 ⟨rfl, hb2⟩; refine Hid.out ?_))
  have hlt : w.heap.size + 1 < w2.heap.size := blk_in (blk_below K1.out hb2)
  have k0 := blk_old (o := .cells #[.int .i64 c1, .bool v1, .int .i64 l1, .bool ag, .int .i64 c2, .bool v2, .int .i64 o2] 45) (blk_below K0.out hb2)
  have k1 := blk_old (o := .cells #[.int .i64 c1, .bool v1, .int .i64 l1, .bool ag, .int .i64 c2, .bool v2, .int .i64 o2] 45) (blk_below K1.out hb2)
  have kt := blk_new w2 (.cells #[.int .i64 c1, .bool v1, .int .i64 l1, .bool ag, .int .i64 c2, .bool v2, .int .i64 o2] 45)
  have B := below_alloc (below_then B.out hb2) (.cells #[.int .i64 c1, .bool v1, .int .i64 l1, .bool ag, .int .i64 c2, .bool v2, .int .i64 o2] 45)
  clear hb2 K0 K1 HM
  refine Lib.hid ?_
  go_upto_region 5 with (fail)
  generalize hW : w2.alloc (.cells #[.int .i64 c1, .bool v1, .int .i64 l1, .bool ag, .int .i64 c2, .bool v2, .int .i64 o2] 45) = W2 at k0 k1 kt B
  generalize hTT : w2.heap.size = T at kt hlt
  clear hW hTT
  have K0 := Lib.hid k0
  have K1 := Lib.hid k1
  have KT := Lib.hid kt
  have BB := Lib.hid B
  clear k0 k1 kt B
  have hne : ¬ w.heap.size = T := by omega
  have hne2 : ¬ T = w.heap.size := by omega
  have a8 := cell_of_blk (i := 8) (v := .int .i64 dr) K0.out rfl
  have zz := fun i => free_of_blk (i := i) K0.out
  have yc0 : (W2.setCell ⟨w.heap.size, 8, none⟩ (.int .i64 V)).heap[w.heap.size]? = some (.cells #[.int .i64 c1, .int .i64 l1, .bool v1, .bool ag, .int .i64 c2, .int .i64 o2, .bool v2, .int .i64 pt, .int .i64 V, .int .i64 (mkF p q), .int .i64 (mkF p' q')] 25 (0, 0)) := tim_set K0.out rfl
  have yt0 : (W2.setCell ⟨w.heap.size, 8, none⟩ (.int .i64 V)).heap[T]? = some (.cells #[.int .i64 c1, .bool v1, .int .i64 l1, .bool ag, .int .i64 c2, .bool v2, .int .i64 o2] 45 (0, 0)) := row_far KT.out (by omega)
  have yr0 : (W2.setCell ⟨w.heap.size, 8, none⟩ (.int .i64 V)).heap[w.heap.size + 1]? = some (.cells #[.int .i64 0, .int .i64 0, .bool false, .bool false, .int .i64 0, .int .i64 0, .bool false, .int .i64 0, .int .i64 0, .int .i64 0, .int .i64 0] 25 (0, 0)) := row_far K1.out (by omega)
  have yb0 : Below w.heap.size w (W2.setCell ⟨w.heap.size, 8, none⟩ (.int .i64 V)) := below_put BB.out (by omega)
  have F0 := Lib.hid (yc0)
  have FT := Lib.hid (yt0)
  have F1 := Lib.hid (yr0)
  have FB := Lib.hid (yb0)
  clear yc0 yt0 yr0 yb0
  go_wp2_with (first
    | (refine load_row rfl 45 (.tmp 7) rfl T rfl 7 _ Try.underlying45 rfl ht.out FT.out rfl ?_)
    | (refine load_row rfl 25 (.tmp 3) rfl w.heap.size rfl 11 _ Try.underlying25 rfl hi.out F0.out rfl ?_)
    | (go_at_call 26; (with_reducible refine (HD.out _).mono ?_); rintro e w5 ⟨rfl, hb5⟩; refine Hid.out ?_))
  have K8 := Lib.hid (blk_below F1.out hb5)
  have B8 := Lib.hid (below_then FB.out hb5)
  clear hb5 F0 FT F1 FB HD K0 K1 KT BB a8 zz
  refine Lib.hid ?_
  go_wp2_with (refine store_row rfl 25 (.tmp 6) (.tmp 105) rfl (w.heap.size + 1) _ rfl rfl 11 hi.out K8.out rfl rfl (by rfl) ?_)
  (try simp only [Exit.inBlock, Exit.then])
  refine row_post rfl rfl Try.underlying25 rfl chip_size rfl rfl (by exact K8.out) ⟨?_, ?_⟩
  · rfl
  · exact below_row B8.out (by omega)
set_option maxRecDepth 100000 in
set_option maxHeartbeats 1000000 in
theorem impl_write_4 (c : ChipI) (hf : c.fits) (r n : Int) (hok : okC c = true) (hk : r % 16 = 4) (w : World) : Calls Try.prog 20 #[chipV c, .int .i64 r, .int .i64 n] w fun e w' => e = .returned (chipV (writeI c r n)) ∧ Below w.heap.size w w' := by
  have HO := Lib.hid (impl_chipOk c hf)
  have hi := Lib.hid chip_size
  have ht := Lib.hid tim_size
  have hr := (okC_iff c).1 hok
  have HT := Lib.hid (write_yes hok r n)
  have HM := Lib.hid (timers_of c)
  rw [hok] at HO
  obtain ⟨p, q, hpq⟩ : ∃ p q, c.fl = mkF p q := ⟨_, _, mk_isF hr.fl⟩
  obtain ⟨p', q', hpm⟩ : ∃ p q, c.ms = mkF p q := ⟨_, _, mk_isF hr.ms⟩
  have r3 := hr.l1
  have r5 := hr.o2
  clear hok hf hr
  obtain ⟨c1, l1, v1, ag, c2, o2, v2, pt, dr, fl, ms⟩ := c
  simp only [] at hpq hpm r3 r5
  subst hpq
  subst hpm
  rw [chipV_mk] at HO HM ⊢
  rw [timV_mk] at HM
  have e15 := and_15 r
  rw [hk] at e15
  have hv : 0 ≤ n % 256 ∧ n % 256 ≤ 255 := by omega
  obtain ⟨V, hV⟩ : ∃ V, n % 256 = V := ⟨_, rfl⟩
  rw [hV] at hv HT
  have HK := Lib.hid hk
  clear hk
  have HH := Lib.hid (fun w => high_of l1 r3.1 r3.2 w)
  have HWD := Lib.hid (fun w => word_of (l1 / 256) V (by omega) (by omega) hv.1 hv.2 w)
  have HD : Hid (∀ w : World, Calls Try.prog 26 #[.agg #[.int .i64 c1, .bool v1, .int .i64 (l1 / 256 * 256 + V), .bool ag, .int .i64 c2, .bool v2, .int .i64 o2], .agg #[.int .i64 c1, .int .i64 l1, .bool v1, .bool ag, .int .i64 c2, .int .i64 o2, .bool v2, .int .i64 pt, .int .i64 dr, .int .i64 (mkF p q), .int .i64 (mkF p' q')]] w fun e w' => e = .returned (.agg #[.int .i64 c1, .int .i64 (l1 / 256 * 256 + V), .bool v1, .bool ag, .int .i64 c2, .int .i64 o2, .bool v2, .int .i64 pt, .int .i64 dr, .int .i64 (mkF p q), .int .i64 (mkF p' q')]) ∧ Below w.heap.size w w') := Lib.hid (fun w => put_into ⟨c1, (l1 / 256 * 256 + V), v1, ag, c2, o2, v2, 0, 0, 0, 0⟩ ⟨c1, l1, v1, ag, c2, o2, v2, pt, dr, (mkF p q), (mkF p' q')⟩ w)
  have HX : Hid (chipV (writeI ⟨c1, l1, v1, ag, c2, o2, v2, pt, dr, (mkF p q), (mkF p' q')⟩ r n) = .agg #[.int .i64 c1, .int .i64 (l1 / 256 * 256 + V), .bool v1, .bool ag, .int .i64 c2, .int .i64 o2, .bool v2, .int .i64 pt, .int .i64 dr, .int .i64 (mkF p q), .int .i64 (mkF p' q')]) := Lib.hid (by rw [HT.out]; simp [writeR, chipV, chipC, HK.out])
  rw [HX.out]
  clear HX HT
  go_enter Try.func20, Try.ntmps20
  go_wp2_with (go_at_call 13; refine (HO.out _).mono ?_; rintro e w1 ⟨rfl, hb⟩; refine Hid.out ?_)
  have K0 := Lib.hid (blk_below (blk_old (blk_new w _)) hb)
  have k1' := blk_below (blk_new _ _) hb
  rw [alloc_size] at k1'
  have K1 := Lib.hid k1'
  have B := Lib.hid (below_then (below_alloc ((Below.refl w.heap.size w).alloc (Nat.le_refl _) _) _) hb)
  clear hb k1' HO
  refine Lib.hid ?_
  go_wp2_with (first
    | (refine load_row rfl 25 (.tmp 3) rfl w.heap.size rfl 11 _ Try.underlying25 rfl hi.out K0.out rfl ?_)
    | (go_at_call 23; (with_reducible refine (HM.out _).mono ?_); rintro e w2 ⟨rfl, hb2⟩; refine Hid.out ?_))
  have hlt : w.heap.size + 1 < w2.heap.size := blk_in (blk_below K1.out hb2)
  have k0 := blk_old (o := .cells #[.int .i64 c1, .bool v1, .int .i64 l1, .bool ag, .int .i64 c2, .bool v2, .int .i64 o2] 45) (blk_below K0.out hb2)
  have k1 := blk_old (o := .cells #[.int .i64 c1, .bool v1, .int .i64 l1, .bool ag, .int .i64 c2, .bool v2, .int .i64 o2] 45) (blk_below K1.out hb2)
  have kt := blk_new w2 (.cells #[.int .i64 c1, .bool v1, .int .i64 l1, .bool ag, .int .i64 c2, .bool v2, .int .i64 o2] 45)
  have B := below_alloc (below_then B.out hb2) (.cells #[.int .i64 c1, .bool v1, .int .i64 l1, .bool ag, .int .i64 c2, .bool v2, .int .i64 o2] 45)
  clear hb2 K0 K1 HM
  refine Lib.hid ?_
  go_upto_region 5 with (fail)
  generalize hW : w2.alloc (.cells #[.int .i64 c1, .bool v1, .int .i64 l1, .bool ag, .int .i64 c2, .bool v2, .int .i64 o2] 45) = W2 at k0 k1 kt B
  generalize hTT : w2.heap.size = T at kt hlt
  clear hW hTT
  have K0 := Lib.hid k0
  have K1 := Lib.hid k1
  have KT := Lib.hid kt
  have BB := Lib.hid B
  clear k0 k1 kt B
  have hne : ¬ w.heap.size = T := by omega
  have hne2 : ¬ T = w.heap.size := by omega
  have t2 := cell_of_blk (i := 2) (v := .int .i64 l1) KT.out rfl
  have t6 := cell_of_blk (i := 6) (v := .int .i64 o2) KT.out rfl
  have yy := fun i => free_of_blk (i := i) KT.out
  have yc0 : (W2.setCell ⟨T, 2, none⟩ (.int .i64 (l1 / 256 * 256 + V))).heap[w.heap.size]? = some (.cells #[.int .i64 c1, .int .i64 l1, .bool v1, .bool ag, .int .i64 c2, .int .i64 o2, .bool v2, .int .i64 pt, .int .i64 dr, .int .i64 (mkF p q), .int .i64 (mkF p' q')] 25 (0, 0)) := row_far K0.out (by omega)
  have yt0 : (W2.setCell ⟨T, 2, none⟩ (.int .i64 (l1 / 256 * 256 + V))).heap[T]? = some (.cells #[.int .i64 c1, .bool v1, .int .i64 (l1 / 256 * 256 + V), .bool ag, .int .i64 c2, .bool v2, .int .i64 o2] 45 (0, 0)) := tim_set KT.out rfl
  have yr0 : (W2.setCell ⟨T, 2, none⟩ (.int .i64 (l1 / 256 * 256 + V))).heap[w.heap.size + 1]? = some (.cells #[.int .i64 0, .int .i64 0, .bool false, .bool false, .int .i64 0, .int .i64 0, .bool false, .int .i64 0, .int .i64 0, .int .i64 0, .int .i64 0] 25 (0, 0)) := row_far K1.out (by omega)
  have yb0 : Below w.heap.size w (W2.setCell ⟨T, 2, none⟩ (.int .i64 (l1 / 256 * 256 + V))) := below_put BB.out (by omega)
  have F0 := Lib.hid (yc0)
  have FT := Lib.hid (yt0)
  have F1 := Lib.hid (yr0)
  have FB := Lib.hid (yb0)
  clear yc0 yt0 yr0 yb0
  go_wp2_with (first
    | (refine load_row rfl 45 (.tmp 7) rfl T rfl 7 _ Try.underlying45 rfl ht.out FT.out rfl ?_)
    | (refine load_row rfl 25 (.tmp 3) rfl w.heap.size rfl 11 _ Try.underlying25 rfl hi.out F0.out rfl ?_)
    | (go_at_call 26; (with_reducible refine (HD.out _).mono ?_); rintro e w5 ⟨rfl, hb5⟩; refine Hid.out ?_)
    | (go_at_call 32; (with_reducible refine (HH.out _).mono ?_); rintro e wq ⟨rfl, rfl⟩)
    | (go_at_call 31; (with_reducible refine (HWD.out _).mono ?_); rintro e wq ⟨rfl, rfl⟩))
  have K8 := Lib.hid (blk_below F1.out hb5)
  have B8 := Lib.hid (below_then FB.out hb5)
  clear hb5 F0 FT F1 FB HD K0 K1 KT BB t2 t6 yy
  refine Lib.hid ?_
  go_wp2_with (refine store_row rfl 25 (.tmp 6) (.tmp 105) rfl (w.heap.size + 1) _ rfl rfl 11 hi.out K8.out rfl rfl (by rfl) ?_)
  (try simp only [Exit.inBlock, Exit.then])
  refine row_post rfl rfl Try.underlying25 rfl chip_size rfl rfl (by exact K8.out) ⟨?_, ?_⟩
  · rfl
  · exact below_row B8.out (by omega)
set_option maxRecDepth 100000 in
set_option maxHeartbeats 1000000 in
theorem impl_write_6 (c : ChipI) (hf : c.fits) (r n : Int) (hok : okC c = true) (hk : r % 16 = 6) (w : World) : Calls Try.prog 20 #[chipV c, .int .i64 r, .int .i64 n] w fun e w' => e = .returned (chipV (writeI c r n)) ∧ Below w.heap.size w w' := by
  have HO := Lib.hid (impl_chipOk c hf)
  have hi := Lib.hid chip_size
  have ht := Lib.hid tim_size
  have hr := (okC_iff c).1 hok
  have HT := Lib.hid (write_yes hok r n)
  have HM := Lib.hid (timers_of c)
  rw [hok] at HO
  obtain ⟨p, q, hpq⟩ : ∃ p q, c.fl = mkF p q := ⟨_, _, mk_isF hr.fl⟩
  obtain ⟨p', q', hpm⟩ : ∃ p q, c.ms = mkF p q := ⟨_, _, mk_isF hr.ms⟩
  have r3 := hr.l1
  have r5 := hr.o2
  clear hok hf hr
  obtain ⟨c1, l1, v1, ag, c2, o2, v2, pt, dr, fl, ms⟩ := c
  simp only [] at hpq hpm r3 r5
  subst hpq
  subst hpm
  rw [chipV_mk] at HO HM ⊢
  rw [timV_mk] at HM
  have e15 := and_15 r
  rw [hk] at e15
  have hv : 0 ≤ n % 256 ∧ n % 256 ≤ 255 := by omega
  obtain ⟨V, hV⟩ : ∃ V, n % 256 = V := ⟨_, rfl⟩
  rw [hV] at hv HT
  have HK := Lib.hid hk
  clear hk
  have HH := Lib.hid (fun w => high_of l1 r3.1 r3.2 w)
  have HWD := Lib.hid (fun w => word_of (l1 / 256) V (by omega) (by omega) hv.1 hv.2 w)
  have HD : Hid (∀ w : World, Calls Try.prog 26 #[.agg #[.int .i64 c1, .bool v1, .int .i64 (l1 / 256 * 256 + V), .bool ag, .int .i64 c2, .bool v2, .int .i64 o2], .agg #[.int .i64 c1, .int .i64 l1, .bool v1, .bool ag, .int .i64 c2, .int .i64 o2, .bool v2, .int .i64 pt, .int .i64 dr, .int .i64 (mkF p q), .int .i64 (mkF p' q')]] w fun e w' => e = .returned (.agg #[.int .i64 c1, .int .i64 (l1 / 256 * 256 + V), .bool v1, .bool ag, .int .i64 c2, .int .i64 o2, .bool v2, .int .i64 pt, .int .i64 dr, .int .i64 (mkF p q), .int .i64 (mkF p' q')]) ∧ Below w.heap.size w w') := Lib.hid (fun w => put_into ⟨c1, (l1 / 256 * 256 + V), v1, ag, c2, o2, v2, 0, 0, 0, 0⟩ ⟨c1, l1, v1, ag, c2, o2, v2, pt, dr, (mkF p q), (mkF p' q')⟩ w)
  have HX : Hid (chipV (writeI ⟨c1, l1, v1, ag, c2, o2, v2, pt, dr, (mkF p q), (mkF p' q')⟩ r n) = .agg #[.int .i64 c1, .int .i64 (l1 / 256 * 256 + V), .bool v1, .bool ag, .int .i64 c2, .int .i64 o2, .bool v2, .int .i64 pt, .int .i64 dr, .int .i64 (mkF p q), .int .i64 (mkF p' q')]) := Lib.hid (by rw [HT.out]; simp [writeR, chipV, chipC, HK.out])
  rw [HX.out]
  clear HX HT
  go_enter Try.func20, Try.ntmps20
  go_wp2_with (go_at_call 13; refine (HO.out _).mono ?_; rintro e w1 ⟨rfl, hb⟩; refine Hid.out ?_)
  have K0 := Lib.hid (blk_below (blk_old (blk_new w _)) hb)
  have k1' := blk_below (blk_new _ _) hb
  rw [alloc_size] at k1'
  have K1 := Lib.hid k1'
  have B := Lib.hid (below_then (below_alloc ((Below.refl w.heap.size w).alloc (Nat.le_refl _) _) _) hb)
  clear hb k1' HO
  refine Lib.hid ?_
  go_wp2_with (first
    | (refine load_row rfl 25 (.tmp 3) rfl w.heap.size rfl 11 _ Try.underlying25 rfl hi.out K0.out rfl ?_)
    | (go_at_call 23; (with_reducible refine (HM.out _).mono ?_); rintro e w2 ⟨rfl, hb2⟩; refine Hid.out ?_))
  have hlt : w.heap.size + 1 < w2.heap.size := blk_in (blk_below K1.out hb2)
  have k0 := blk_old (o := .cells #[.int .i64 c1, .bool v1, .int .i64 l1, .bool ag, .int .i64 c2, .bool v2, .int .i64 o2] 45) (blk_below K0.out hb2)
  have k1 := blk_old (o := .cells #[.int .i64 c1, .bool v1, .int .i64 l1, .bool ag, .int .i64 c2, .bool v2, .int .i64 o2] 45) (blk_below K1.out hb2)
  have kt := blk_new w2 (.cells #[.int .i64 c1, .bool v1, .int .i64 l1, .bool ag, .int .i64 c2, .bool v2, .int .i64 o2] 45)
  have B := below_alloc (below_then B.out hb2) (.cells #[.int .i64 c1, .bool v1, .int .i64 l1, .bool ag, .int .i64 c2, .bool v2, .int .i64 o2] 45)
  clear hb2 K0 K1 HM
  refine Lib.hid ?_
  go_upto_region 5 with (fail)
  generalize hW : w2.alloc (.cells #[.int .i64 c1, .bool v1, .int .i64 l1, .bool ag, .int .i64 c2, .bool v2, .int .i64 o2] 45) = W2 at k0 k1 kt B
  generalize hTT : w2.heap.size = T at kt hlt
  clear hW hTT
  have K0 := Lib.hid k0
  have K1 := Lib.hid k1
  have KT := Lib.hid kt
  have BB := Lib.hid B
  clear k0 k1 kt B
  have hne : ¬ w.heap.size = T := by omega
  have hne2 : ¬ T = w.heap.size := by omega
  have t2 := cell_of_blk (i := 2) (v := .int .i64 l1) KT.out rfl
  have t6 := cell_of_blk (i := 6) (v := .int .i64 o2) KT.out rfl
  have yy := fun i => free_of_blk (i := i) KT.out
  have yc0 : (W2.setCell ⟨T, 2, none⟩ (.int .i64 (l1 / 256 * 256 + V))).heap[w.heap.size]? = some (.cells #[.int .i64 c1, .int .i64 l1, .bool v1, .bool ag, .int .i64 c2, .int .i64 o2, .bool v2, .int .i64 pt, .int .i64 dr, .int .i64 (mkF p q), .int .i64 (mkF p' q')] 25 (0, 0)) := row_far K0.out (by omega)
  have yt0 : (W2.setCell ⟨T, 2, none⟩ (.int .i64 (l1 / 256 * 256 + V))).heap[T]? = some (.cells #[.int .i64 c1, .bool v1, .int .i64 (l1 / 256 * 256 + V), .bool ag, .int .i64 c2, .bool v2, .int .i64 o2] 45 (0, 0)) := tim_set KT.out rfl
  have yr0 : (W2.setCell ⟨T, 2, none⟩ (.int .i64 (l1 / 256 * 256 + V))).heap[w.heap.size + 1]? = some (.cells #[.int .i64 0, .int .i64 0, .bool false, .bool false, .int .i64 0, .int .i64 0, .bool false, .int .i64 0, .int .i64 0, .int .i64 0, .int .i64 0] 25 (0, 0)) := row_far K1.out (by omega)
  have yb0 : Below w.heap.size w (W2.setCell ⟨T, 2, none⟩ (.int .i64 (l1 / 256 * 256 + V))) := below_put BB.out (by omega)
  have F0 := Lib.hid (yc0)
  have FT := Lib.hid (yt0)
  have F1 := Lib.hid (yr0)
  have FB := Lib.hid (yb0)
  clear yc0 yt0 yr0 yb0
  go_wp2_with (first
    | (refine load_row rfl 45 (.tmp 7) rfl T rfl 7 _ Try.underlying45 rfl ht.out FT.out rfl ?_)
    | (refine load_row rfl 25 (.tmp 3) rfl w.heap.size rfl 11 _ Try.underlying25 rfl hi.out F0.out rfl ?_)
    | (go_at_call 26; (with_reducible refine (HD.out _).mono ?_); rintro e w5 ⟨rfl, hb5⟩; refine Hid.out ?_)
    | (go_at_call 32; (with_reducible refine (HH.out _).mono ?_); rintro e wq ⟨rfl, rfl⟩)
    | (go_at_call 31; (with_reducible refine (HWD.out _).mono ?_); rintro e wq ⟨rfl, rfl⟩))
  have K8 := Lib.hid (blk_below F1.out hb5)
  have B8 := Lib.hid (below_then FB.out hb5)
  clear hb5 F0 FT F1 FB HD K0 K1 KT BB t2 t6 yy
  refine Lib.hid ?_
  go_wp2_with (refine store_row rfl 25 (.tmp 6) (.tmp 105) rfl (w.heap.size + 1) _ rfl rfl 11 hi.out K8.out rfl rfl (by rfl) ?_)
  (try simp only [Exit.inBlock, Exit.then])
  refine row_post rfl rfl Try.underlying25 rfl chip_size rfl rfl (by exact K8.out) ⟨?_, ?_⟩
  · rfl
  · exact below_row B8.out (by omega)
set_option maxRecDepth 100000 in
set_option maxHeartbeats 1000000 in
theorem impl_write_5 (c : ChipI) (hf : c.fits) (r n : Int) (hok : okC c = true) (hk : r % 16 = 5) (w : World) : Calls Try.prog 20 #[chipV c, .int .i64 r, .int .i64 n] w fun e w' => e = .returned (chipV (writeI c r n)) ∧ Below w.heap.size w w' := by
  have HO := Lib.hid (impl_chipOk c hf)
  have hi := Lib.hid chip_size
  have ht := Lib.hid tim_size
  have hr := (okC_iff c).1 hok
  have HT := Lib.hid (write_yes hok r n)
  have HM := Lib.hid (timers_of c)
  rw [hok] at HO
  obtain ⟨p, q, hpq⟩ : ∃ p q, c.fl = mkF p q := ⟨_, _, mk_isF hr.fl⟩
  obtain ⟨p', q', hpm⟩ : ∃ p q, c.ms = mkF p q := ⟨_, _, mk_isF hr.ms⟩
  have r3 := hr.l1
  have r5 := hr.o2
  clear hok hf hr
  obtain ⟨c1, l1, v1, ag, c2, o2, v2, pt, dr, fl, ms⟩ := c
  simp only [] at hpq hpm r3 r5
  subst hpq
  subst hpm
  rw [chipV_mk] at HO HM ⊢
  rw [timV_mk] at HM
  have e15 := and_15 r
  rw [hk] at e15
  have hv : 0 ≤ n % 256 ∧ n % 256 ≤ 255 := by omega
  obtain ⟨V, hV⟩ : ∃ V, n % 256 = V := ⟨_, rfl⟩
  rw [hV] at hv HT
  have HK := Lib.hid hk
  clear hk
  have HL := Lib.hid (fun w => low_of l1 w)
  have HWD := Lib.hid (fun w => word_of V (l1 % 256) hv.1 hv.2 (by omega) (by omega) w)
  have en := not64_mk p q
  have HD : Hid (∀ w : World, Calls Try.prog 26 #[.agg #[.int .i64 (V * 256 + l1 % 256), .bool true, .int .i64 (V * 256 + l1 % 256), .bool ag, .int .i64 c2, .bool v2, .int .i64 o2], .agg #[.int .i64 c1, .int .i64 l1, .bool v1, .bool ag, .int .i64 c2, .int .i64 o2, .bool v2, .int .i64 pt, .int .i64 dr, .int .i64 (mkF false q), .int .i64 (mkF p' q')]] w fun e w' => e = .returned (.agg #[.int .i64 (V * 256 + l1 % 256), .int .i64 (V * 256 + l1 % 256), .bool true, .bool ag, .int .i64 c2, .int .i64 o2, .bool v2, .int .i64 pt, .int .i64 dr, .int .i64 (mkF false q), .int .i64 (mkF p' q')]) ∧ Below w.heap.size w w') := Lib.hid (fun w => put_into ⟨(V * 256 + l1 % 256), (V * 256 + l1 % 256), true, ag, c2, o2, v2, 0, 0, 0, 0⟩ ⟨c1, l1, v1, ag, c2, o2, v2, pt, dr, (mkF false q), (mkF p' q')⟩ w)
  have HX : Hid (chipV (writeI ⟨c1, l1, v1, ag, c2, o2, v2, pt, dr, (mkF p q), (mkF p' q')⟩ r n) = .agg #[.int .i64 (V * 256 + l1 % 256), .int .i64 (V * 256 + l1 % 256), .bool true, .bool ag, .int .i64 c2, .int .i64 o2, .bool v2, .int .i64 pt, .int .i64 dr, .int .i64 (mkF false q), .int .i64 (mkF p' q')]) := Lib.hid (by rw [HT.out]; simp [writeR, chipV, chipC, HK.out, f5_mk])
  rw [HX.out]
  clear HX HT
  go_enter Try.func20, Try.ntmps20
  go_wp2_with (go_at_call 13; refine (HO.out _).mono ?_; rintro e w1 ⟨rfl, hb⟩; refine Hid.out ?_)
  have K0 := Lib.hid (blk_below (blk_old (blk_new w _)) hb)
  have k1' := blk_below (blk_new _ _) hb
  rw [alloc_size] at k1'
  have K1 := Lib.hid k1'
  have B := Lib.hid (below_then (below_alloc ((Below.refl w.heap.size w).alloc (Nat.le_refl _) _) _) hb)
  clear hb k1' HO
  refine Lib.hid ?_
  go_wp2_with (first
    | (refine load_row rfl 25 (.tmp 3) rfl w.heap.size rfl 11 _ Try.underlying25 rfl hi.out K0.out rfl ?_)
    | (go_at_call 23; (with_reducible refine (HM.out _).mono ?_); rintro e w2 ⟨rfl, hb2⟩; refine Hid.out ?_))
  have hlt : w.heap.size + 1 < w2.heap.size := blk_in (blk_below K1.out hb2)
  have k0 := blk_old (o := .cells #[.int .i64 c1, .bool v1, .int .i64 l1, .bool ag, .int .i64 c2, .bool v2, .int .i64 o2] 45) (blk_below K0.out hb2)
  have k1 := blk_old (o := .cells #[.int .i64 c1, .bool v1, .int .i64 l1, .bool ag, .int .i64 c2, .bool v2, .int .i64 o2] 45) (blk_below K1.out hb2)
  have kt := blk_new w2 (.cells #[.int .i64 c1, .bool v1, .int .i64 l1, .bool ag, .int .i64 c2, .bool v2, .int .i64 o2] 45)
  have B := below_alloc (below_then B.out hb2) (.cells #[.int .i64 c1, .bool v1, .int .i64 l1, .bool ag, .int .i64 c2, .bool v2, .int .i64 o2] 45)
  clear hb2 K0 K1 HM
  refine Lib.hid ?_
  go_upto_region 5 with (fail)
  generalize hW : w2.alloc (.cells #[.int .i64 c1, .bool v1, .int .i64 l1, .bool ag, .int .i64 c2, .bool v2, .int .i64 o2] 45) = W2 at k0 k1 kt B
  generalize hTT : w2.heap.size = T at kt hlt
  clear hW hTT
  have K0 := Lib.hid k0
  have K1 := Lib.hid k1
  have KT := Lib.hid kt
  have BB := Lib.hid B
  clear k0 k1 kt B
  have hne : ¬ w.heap.size = T := by omega
  have hne2 : ¬ T = w.heap.size := by omega
  have a9 := cell_of_blk (i := 9) (v := .int .i64 (mkF p q)) K0.out rfl
  have t0 := cell_of_blk (i := 0) (v := .int .i64 c1) KT.out rfl
  have t1 := cell_of_blk (i := 1) (v := .bool v1) KT.out rfl
  have t2 := cell_of_blk (i := 2) (v := .int .i64 l1) KT.out rfl
  have t6 := cell_of_blk (i := 6) (v := .int .i64 o2) KT.out rfl
  have zz := fun i => free_of_blk (i := i) K0.out
  have yy := fun i => free_of_blk (i := i) KT.out
  have HST := Lib.hid (timer_start T 0 (V * 256 + l1 % 256) c1 v1 W2 t0 (yy 0) t1 (yy 1))
  go_wp2_with (first
    | (go_at_call 33; (with_reducible refine HST.out.mono ?_); rintro e w3 ⟨rfl, hw3⟩; refine Hid.out ?_)
    | (go_at_call 34; (with_reducible refine (HL.out _).mono ?_); rintro e wq ⟨rfl, rfl⟩)
    | (go_at_call 31; (with_reducible refine (HWD.out _).mono ?_); rintro e wq ⟨rfl, rfl⟩))
  clear HST a9 t0 t1 t2 t6 zz yy
  have xc0 : (W2.setCell ⟨T, 0, none⟩ (.int .i64 (V * 256 + l1 % 256))).heap[w.heap.size]? = some (.cells #[.int .i64 c1, .int .i64 l1, .bool v1, .bool ag, .int .i64 c2, .int .i64 o2, .bool v2, .int .i64 pt, .int .i64 dr, .int .i64 (mkF p q), .int .i64 (mkF p' q')] 25 (0, 0)) := row_far K0.out (by omega)
  have xt0 : (W2.setCell ⟨T, 0, none⟩ (.int .i64 (V * 256 + l1 % 256))).heap[T]? = some (.cells #[.int .i64 (V * 256 + l1 % 256), .bool v1, .int .i64 l1, .bool ag, .int .i64 c2, .bool v2, .int .i64 o2] 45 (0, 0)) := tim_set KT.out rfl
  have xr0 : (W2.setCell ⟨T, 0, none⟩ (.int .i64 (V * 256 + l1 % 256))).heap[w.heap.size + 1]? = some (.cells #[.int .i64 0, .int .i64 0, .bool false, .bool false, .int .i64 0, .int .i64 0, .bool false, .int .i64 0, .int .i64 0, .int .i64 0, .int .i64 0] 25 (0, 0)) := row_far K1.out (by omega)
  have xb0 : Below w.heap.size w (W2.setCell ⟨T, 0, none⟩ (.int .i64 (V * 256 + l1 % 256))) := below_put BB.out (by omega)
  have xc1 : ((W2.setCell ⟨T, 0, none⟩ (.int .i64 (V * 256 + l1 % 256))).setCell ⟨T, 1, none⟩ (.bool true)).heap[w.heap.size]? = some (.cells #[.int .i64 c1, .int .i64 l1, .bool v1, .bool ag, .int .i64 c2, .int .i64 o2, .bool v2, .int .i64 pt, .int .i64 dr, .int .i64 (mkF p q), .int .i64 (mkF p' q')] 25 (0, 0)) := row_far xc0 (by omega)
  have xt1 : ((W2.setCell ⟨T, 0, none⟩ (.int .i64 (V * 256 + l1 % 256))).setCell ⟨T, 1, none⟩ (.bool true)).heap[T]? = some (.cells #[.int .i64 (V * 256 + l1 % 256), .bool true, .int .i64 l1, .bool ag, .int .i64 c2, .bool v2, .int .i64 o2] 45 (0, 0)) := tim_set xt0 rfl
  have xr1 : ((W2.setCell ⟨T, 0, none⟩ (.int .i64 (V * 256 + l1 % 256))).setCell ⟨T, 1, none⟩ (.bool true)).heap[w.heap.size + 1]? = some (.cells #[.int .i64 0, .int .i64 0, .bool false, .bool false, .int .i64 0, .int .i64 0, .bool false, .int .i64 0, .int .i64 0, .int .i64 0, .int .i64 0] 25 (0, 0)) := row_far xr0 (by omega)
  have xb1 : Below w.heap.size w ((W2.setCell ⟨T, 0, none⟩ (.int .i64 (V * 256 + l1 % 256))).setCell ⟨T, 1, none⟩ (.bool true)) := below_put xb0 (by omega)
  have F0 := Lib.hid (xc1)
  have FT := Lib.hid (xt1)
  have F1 := Lib.hid (xr1)
  have FB := Lib.hid (xb1)
  clear xc0 xt0 xr0 xb0
  clear xc1 xt1 xr1 xb1
  clear K0 KT K1 BB
  have k0 := F0.out
  have kt := FT.out
  have k1 := F1.out
  have B := FB.out
  clear F0 FT F1 FB
  rw [hw3] at k0 kt k1 B
  clear hw3
  have K0 := Lib.hid k0
  have K1 := Lib.hid k1
  have KT := Lib.hid kt
  have BB := Lib.hid B
  clear k0 k1 kt B
  have a9 := cell_of_blk (i := 9) (v := .int .i64 (mkF p q)) K0.out rfl
  have t2 := cell_of_blk (i := 2) (v := .int .i64 l1) KT.out rfl
  have t6 := cell_of_blk (i := 6) (v := .int .i64 o2) KT.out rfl
  have zz := fun i => free_of_blk (i := i) K0.out
  have yy := fun i => free_of_blk (i := i) KT.out
  have yc0 : (w3.setCell ⟨T, 2, none⟩ (.int .i64 (V * 256 + l1 % 256))).heap[w.heap.size]? = some (.cells #[.int .i64 c1, .int .i64 l1, .bool v1, .bool ag, .int .i64 c2, .int .i64 o2, .bool v2, .int .i64 pt, .int .i64 dr, .int .i64 (mkF p q), .int .i64 (mkF p' q')] 25 (0, 0)) := row_far K0.out (by omega)
  have yt0 : (w3.setCell ⟨T, 2, none⟩ (.int .i64 (V * 256 + l1 % 256))).heap[T]? = some (.cells #[.int .i64 (V * 256 + l1 % 256), .bool true, .int .i64 (V * 256 + l1 % 256), .bool ag, .int .i64 c2, .bool v2, .int .i64 o2] 45 (0, 0)) := tim_set KT.out rfl
  have yr0 : (w3.setCell ⟨T, 2, none⟩ (.int .i64 (V * 256 + l1 % 256))).heap[w.heap.size + 1]? = some (.cells #[.int .i64 0, .int .i64 0, .bool false, .bool false, .int .i64 0, .int .i64 0, .bool false, .int .i64 0, .int .i64 0, .int .i64 0, .int .i64 0] 25 (0, 0)) := row_far K1.out (by omega)
  have yb0 : Below w.heap.size w (w3.setCell ⟨T, 2, none⟩ (.int .i64 (V * 256 + l1 % 256))) := below_put BB.out (by omega)
  have yc1 : ((w3.setCell ⟨T, 2, none⟩ (.int .i64 (V * 256 + l1 % 256))).setCell ⟨w.heap.size, 9, none⟩ (.int .i64 (mkF false q))).heap[w.heap.size]? = some (.cells #[.int .i64 c1, .int .i64 l1, .bool v1, .bool ag, .int .i64 c2, .int .i64 o2, .bool v2, .int .i64 pt, .int .i64 dr, .int .i64 (mkF false q), .int .i64 (mkF p' q')] 25 (0, 0)) := tim_set yc0 rfl
  have yt1 : ((w3.setCell ⟨T, 2, none⟩ (.int .i64 (V * 256 + l1 % 256))).setCell ⟨w.heap.size, 9, none⟩ (.int .i64 (mkF false q))).heap[T]? = some (.cells #[.int .i64 (V * 256 + l1 % 256), .bool true, .int .i64 (V * 256 + l1 % 256), .bool ag, .int .i64 c2, .bool v2, .int .i64 o2] 45 (0, 0)) := row_far yt0 (by omega)
  have yr1 : ((w3.setCell ⟨T, 2, none⟩ (.int .i64 (V * 256 + l1 % 256))).setCell ⟨w.heap.size, 9, none⟩ (.int .i64 (mkF false q))).heap[w.heap.size + 1]? = some (.cells #[.int .i64 0, .int .i64 0, .bool false, .bool false, .int .i64 0, .int .i64 0, .bool false, .int .i64 0, .int .i64 0, .int .i64 0, .int .i64 0] 25 (0, 0)) := row_far yr0 (by omega)
  have yb1 : Below w.heap.size w ((w3.setCell ⟨T, 2, none⟩ (.int .i64 (V * 256 + l1 % 256))).setCell ⟨w.heap.size, 9, none⟩ (.int .i64 (mkF false q))) := below_put yb0 (by omega)
  have F0 := Lib.hid (yc1)
  have FT := Lib.hid (yt1)
  have F1 := Lib.hid (yr1)
  have FB := Lib.hid (yb1)
  clear yc0 yt0 yr0 yb0
  clear yc1 yt1 yr1 yb1
  refine Lib.hid ?_
  go_wp2_with (first
    | (refine load_row rfl 45 (.tmp 7) rfl T rfl 7 _ Try.underlying45 rfl ht.out FT.out rfl ?_)
    | (refine load_row rfl 25 (.tmp 3) rfl w.heap.size rfl 11 _ Try.underlying25 rfl hi.out F0.out rfl ?_)
    | (go_at_call 26; (with_reducible refine (HD.out _).mono ?_); rintro e w5 ⟨rfl, hb5⟩; refine Hid.out ?_)
    | (go_at_call 34; (with_reducible refine (HL.out _).mono ?_); rintro e wq ⟨rfl, rfl⟩)
    | (go_at_call 31; (with_reducible refine (HWD.out _).mono ?_); rintro e wq ⟨rfl, rfl⟩))
  have K8 := Lib.hid (blk_below F1.out hb5)
  have B8 := Lib.hid (below_then FB.out hb5)
  clear hb5 F0 FT F1 FB HD K0 K1 KT BB a9 t2 t6 zz yy
  refine Lib.hid ?_
  go_wp2_with (refine store_row rfl 25 (.tmp 6) (.tmp 105) rfl (w.heap.size + 1) _ rfl rfl 11 hi.out K8.out rfl rfl (by rfl) ?_)
  (try simp only [Exit.inBlock, Exit.then])
  refine row_post rfl rfl Try.underlying25 rfl chip_size rfl rfl (by exact K8.out) ⟨?_, ?_⟩
  · rfl
  · exact below_row B8.out (by omega)
set_option maxRecDepth 100000 in
set_option maxHeartbeats 1000000 in
theorem impl_write_7 (c : ChipI) (hf : c.fits) (r n : Int) (hok : okC c = true) (hk : r % 16 = 7) (w : World) : Calls Try.prog 20 #[chipV c, .int .i64 r, .int .i64 n] w fun e w' => e = .returned (chipV (writeI c r n)) ∧ Below w.heap.size w w' := by
  have HO := Lib.hid (impl_chipOk c hf)
  have hi := Lib.hid chip_size
  have ht := Lib.hid tim_size
  have hr := (okC_iff c).1 hok
  have HT := Lib.hid (write_yes hok r n)
  have HM := Lib.hid (timers_of c)
  rw [hok] at HO
  obtain ⟨p, q, hpq⟩ : ∃ p q, c.fl = mkF p q := ⟨_, _, mk_isF hr.fl⟩
  obtain ⟨p', q', hpm⟩ : ∃ p q, c.ms = mkF p q := ⟨_, _, mk_isF hr.ms⟩
  have r3 := hr.l1
  have r5 := hr.o2
  clear hok hf hr
  obtain ⟨c1, l1, v1, ag, c2, o2, v2, pt, dr, fl, ms⟩ := c
  simp only [] at hpq hpm r3 r5
  subst hpq
  subst hpm
  rw [chipV_mk] at HO HM ⊢
  rw [timV_mk] at HM
  have e15 := and_15 r
  rw [hk] at e15
  have hv : 0 ≤ n % 256 ∧ n % 256 ≤ 255 := by omega
  obtain ⟨V, hV⟩ : ∃ V, n % 256 = V := ⟨_, rfl⟩
  rw [hV] at hv HT
  have HK := Lib.hid hk
  clear hk
  have HL := Lib.hid (fun w => low_of l1 w)
  have HWD := Lib.hid (fun w => word_of V (l1 % 256) hv.1 hv.2 (by omega) (by omega) w)
  have en := not64_mk p q
  have HD : Hid (∀ w : World, Calls Try.prog 26 #[.agg #[.int .i64 c1, .bool v1, .int .i64 (V * 256 + l1 % 256), .bool ag, .int .i64 c2, .bool v2, .int .i64 o2], .agg #[.int .i64 c1, .int .i64 l1, .bool v1, .bool ag, .int .i64 c2, .int .i64 o2, .bool v2, .int .i64 pt, .int .i64 dr, .int .i64 (mkF false q), .int .i64 (mkF p' q')]] w fun e w' => e = .returned (.agg #[.int .i64 c1, .int .i64 (V * 256 + l1 % 256), .bool v1, .bool ag, .int .i64 c2, .int .i64 o2, .bool v2, .int .i64 pt, .int .i64 dr, .int .i64 (mkF false q), .int .i64 (mkF p' q')]) ∧ Below w.heap.size w w') := Lib.hid (fun w => put_into ⟨c1, (V * 256 + l1 % 256), v1, ag, c2, o2, v2, 0, 0, 0, 0⟩ ⟨c1, l1, v1, ag, c2, o2, v2, pt, dr, (mkF false q), (mkF p' q')⟩ w)
  have HX : Hid (chipV (writeI ⟨c1, l1, v1, ag, c2, o2, v2, pt, dr, (mkF p q), (mkF p' q')⟩ r n) = .agg #[.int .i64 c1, .int .i64 (V * 256 + l1 % 256), .bool v1, .bool ag, .int .i64 c2, .int .i64 o2, .bool v2, .int .i64 pt, .int .i64 dr, .int .i64 (mkF false q), .int .i64 (mkF p' q')]) := Lib.hid (by rw [HT.out]; simp [writeR, chipV, chipC, HK.out, f5_mk])
  rw [HX.out]
  clear HX HT
  go_enter Try.func20, Try.ntmps20
  go_wp2_with (go_at_call 13; refine (HO.out _).mono ?_; rintro e w1 ⟨rfl, hb⟩; refine Hid.out ?_)
  have K0 := Lib.hid (blk_below (blk_old (blk_new w _)) hb)
  have k1' := blk_below (blk_new _ _) hb
  rw [alloc_size] at k1'
  have K1 := Lib.hid k1'
  have B := Lib.hid (below_then (below_alloc ((Below.refl w.heap.size w).alloc (Nat.le_refl _) _) _) hb)
  clear hb k1' HO
  refine Lib.hid ?_
  go_wp2_with (first
    | (refine load_row rfl 25 (.tmp 3) rfl w.heap.size rfl 11 _ Try.underlying25 rfl hi.out K0.out rfl ?_)
    | (go_at_call 23; (with_reducible refine (HM.out _).mono ?_); rintro e w2 ⟨rfl, hb2⟩; refine Hid.out ?_))
  have hlt : w.heap.size + 1 < w2.heap.size := blk_in (blk_below K1.out hb2)
  have k0 := blk_old (o := .cells #[.int .i64 c1, .bool v1, .int .i64 l1, .bool ag, .int .i64 c2, .bool v2, .int .i64 o2] 45) (blk_below K0.out hb2)
  have k1 := blk_old (o := .cells #[.int .i64 c1, .bool v1, .int .i64 l1, .bool ag, .int .i64 c2, .bool v2, .int .i64 o2] 45) (blk_below K1.out hb2)
  have kt := blk_new w2 (.cells #[.int .i64 c1, .bool v1, .int .i64 l1, .bool ag, .int .i64 c2, .bool v2, .int .i64 o2] 45)
  have B := below_alloc (below_then B.out hb2) (.cells #[.int .i64 c1, .bool v1, .int .i64 l1, .bool ag, .int .i64 c2, .bool v2, .int .i64 o2] 45)
  clear hb2 K0 K1 HM
  refine Lib.hid ?_
  go_upto_region 5 with (fail)
  generalize hW : w2.alloc (.cells #[.int .i64 c1, .bool v1, .int .i64 l1, .bool ag, .int .i64 c2, .bool v2, .int .i64 o2] 45) = W2 at k0 k1 kt B
  generalize hTT : w2.heap.size = T at kt hlt
  clear hW hTT
  have K0 := Lib.hid k0
  have K1 := Lib.hid k1
  have KT := Lib.hid kt
  have BB := Lib.hid B
  clear k0 k1 kt B
  have hne : ¬ w.heap.size = T := by omega
  have hne2 : ¬ T = w.heap.size := by omega
  have a9 := cell_of_blk (i := 9) (v := .int .i64 (mkF p q)) K0.out rfl
  have t2 := cell_of_blk (i := 2) (v := .int .i64 l1) KT.out rfl
  have t6 := cell_of_blk (i := 6) (v := .int .i64 o2) KT.out rfl
  have zz := fun i => free_of_blk (i := i) K0.out
  have yy := fun i => free_of_blk (i := i) KT.out
  have yc0 : (W2.setCell ⟨T, 2, none⟩ (.int .i64 (V * 256 + l1 % 256))).heap[w.heap.size]? = some (.cells #[.int .i64 c1, .int .i64 l1, .bool v1, .bool ag, .int .i64 c2, .int .i64 o2, .bool v2, .int .i64 pt, .int .i64 dr, .int .i64 (mkF p q), .int .i64 (mkF p' q')] 25 (0, 0)) := row_far K0.out (by omega)
  have yt0 : (W2.setCell ⟨T, 2, none⟩ (.int .i64 (V * 256 + l1 % 256))).heap[T]? = some (.cells #[.int .i64 c1, .bool v1, .int .i64 (V * 256 + l1 % 256), .bool ag, .int .i64 c2, .bool v2, .int .i64 o2] 45 (0, 0)) := tim_set KT.out rfl
  have yr0 : (W2.setCell ⟨T, 2, none⟩ (.int .i64 (V * 256 + l1 % 256))).heap[w.heap.size + 1]? = some (.cells #[.int .i64 0, .int .i64 0, .bool false, .bool false, .int .i64 0, .int .i64 0, .bool false, .int .i64 0, .int .i64 0, .int .i64 0, .int .i64 0] 25 (0, 0)) := row_far K1.out (by omega)
  have yb0 : Below w.heap.size w (W2.setCell ⟨T, 2, none⟩ (.int .i64 (V * 256 + l1 % 256))) := below_put BB.out (by omega)
  have yc1 : ((W2.setCell ⟨T, 2, none⟩ (.int .i64 (V * 256 + l1 % 256))).setCell ⟨w.heap.size, 9, none⟩ (.int .i64 (mkF false q))).heap[w.heap.size]? = some (.cells #[.int .i64 c1, .int .i64 l1, .bool v1, .bool ag, .int .i64 c2, .int .i64 o2, .bool v2, .int .i64 pt, .int .i64 dr, .int .i64 (mkF false q), .int .i64 (mkF p' q')] 25 (0, 0)) := tim_set yc0 rfl
  have yt1 : ((W2.setCell ⟨T, 2, none⟩ (.int .i64 (V * 256 + l1 % 256))).setCell ⟨w.heap.size, 9, none⟩ (.int .i64 (mkF false q))).heap[T]? = some (.cells #[.int .i64 c1, .bool v1, .int .i64 (V * 256 + l1 % 256), .bool ag, .int .i64 c2, .bool v2, .int .i64 o2] 45 (0, 0)) := row_far yt0 (by omega)
  have yr1 : ((W2.setCell ⟨T, 2, none⟩ (.int .i64 (V * 256 + l1 % 256))).setCell ⟨w.heap.size, 9, none⟩ (.int .i64 (mkF false q))).heap[w.heap.size + 1]? = some (.cells #[.int .i64 0, .int .i64 0, .bool false, .bool false, .int .i64 0, .int .i64 0, .bool false, .int .i64 0, .int .i64 0, .int .i64 0, .int .i64 0] 25 (0, 0)) := row_far yr0 (by omega)
  have yb1 : Below w.heap.size w ((W2.setCell ⟨T, 2, none⟩ (.int .i64 (V * 256 + l1 % 256))).setCell ⟨w.heap.size, 9, none⟩ (.int .i64 (mkF false q))) := below_put yb0 (by omega)
  have F0 := Lib.hid (yc1)
  have FT := Lib.hid (yt1)
  have F1 := Lib.hid (yr1)
  have FB := Lib.hid (yb1)
  clear yc0 yt0 yr0 yb0
  clear yc1 yt1 yr1 yb1
  go_wp2_with (first
    | (refine load_row rfl 45 (.tmp 7) rfl T rfl 7 _ Try.underlying45 rfl ht.out FT.out rfl ?_)
    | (refine load_row rfl 25 (.tmp 3) rfl w.heap.size rfl 11 _ Try.underlying25 rfl hi.out F0.out rfl ?_)
    | (go_at_call 26; (with_reducible refine (HD.out _).mono ?_); rintro e w5 ⟨rfl, hb5⟩; refine Hid.out ?_)
    | (go_at_call 34; (with_reducible refine (HL.out _).mono ?_); rintro e wq ⟨rfl, rfl⟩)
    | (go_at_call 31; (with_reducible refine (HWD.out _).mono ?_); rintro e wq ⟨rfl, rfl⟩))
  have K8 := Lib.hid (blk_below F1.out hb5)
  have B8 := Lib.hid (below_then FB.out hb5)
  clear hb5 F0 FT F1 FB HD K0 K1 KT BB a9 t2 t6 zz yy
  refine Lib.hid ?_
  go_wp2_with (refine store_row rfl 25 (.tmp 6) (.tmp 105) rfl (w.heap.size + 1) _ rfl rfl 11 hi.out K8.out rfl rfl (by rfl) ?_)
  (try simp only [Exit.inBlock, Exit.then])
  refine row_post rfl rfl Try.underlying25 rfl chip_size rfl rfl (by exact K8.out) ⟨?_, ?_⟩
  · rfl
  · exact below_row B8.out (by omega)
set_option maxRecDepth 100000 in
set_option maxHeartbeats 1000000 in
theorem impl_write_8 (c : ChipI) (hf : c.fits) (r n : Int) (hok : okC c = true) (hk : r % 16 = 8) (w : World) : Calls Try.prog 20 #[chipV c, .int .i64 r, .int .i64 n] w fun e w' => e = .returned (chipV (writeI c r n)) ∧ Below w.heap.size w w' := by
  have HO := Lib.hid (impl_chipOk c hf)
  have hi := Lib.hid chip_size
  have ht := Lib.hid tim_size
  have hr := (okC_iff c).1 hok
  have HT := Lib.hid (write_yes hok r n)
  have HM := Lib.hid (timers_of c)
  rw [hok] at HO
  obtain ⟨p, q, hpq⟩ : ∃ p q, c.fl = mkF p q := ⟨_, _, mk_isF hr.fl⟩
  obtain ⟨p', q', hpm⟩ : ∃ p q, c.ms = mkF p q := ⟨_, _, mk_isF hr.ms⟩
  have r3 := hr.l1
  have r5 := hr.o2
  clear hok hf hr
  obtain ⟨c1, l1, v1, ag, c2, o2, v2, pt, dr, fl, ms⟩ := c
  simp only [] at hpq hpm r3 r5
  subst hpq
  subst hpm
  rw [chipV_mk] at HO HM ⊢
  rw [timV_mk] at HM
  have e15 := and_15 r
  rw [hk] at e15
  have hv : 0 ≤ n % 256 ∧ n % 256 ≤ 255 := by omega
  obtain ⟨V, hV⟩ : ∃ V, n % 256 = V := ⟨_, rfl⟩
  rw [hV] at hv HT
  have HK := Lib.hid hk
  clear hk
  have HD : Hid (∀ w : World, Calls Try.prog 26 #[.agg #[.int .i64 c1, .bool v1, .int .i64 l1, .bool ag, .int .i64 c2, .bool v2, .int .i64 V], .agg #[.int .i64 c1, .int .i64 l1, .bool v1, .bool ag, .int .i64 c2, .int .i64 o2, .bool v2, .int .i64 pt, .int .i64 dr, .int .i64 (mkF p q), .int .i64 (mkF p' q')]] w fun e w' => e = .returned (.agg #[.int .i64 c1, .int .i64 l1, .bool v1, .bool ag, .int .i64 c2, .int .i64 V, .bool v2, .int .i64 pt, .int .i64 dr, .int .i64 (mkF p q), .int .i64 (mkF p' q')]) ∧ Below w.heap.size w w') := Lib.hid (fun w => put_into ⟨c1, l1, v1, ag, c2, V, v2, 0, 0, 0, 0⟩ ⟨c1, l1, v1, ag, c2, o2, v2, pt, dr, (mkF p q), (mkF p' q')⟩ w)
  have HX : Hid (chipV (writeI ⟨c1, l1, v1, ag, c2, o2, v2, pt, dr, (mkF p q), (mkF p' q')⟩ r n) = .agg #[.int .i64 c1, .int .i64 l1, .bool v1, .bool ag, .int .i64 c2, .int .i64 V, .bool v2, .int .i64 pt, .int .i64 dr, .int .i64 (mkF p q), .int .i64 (mkF p' q')]) := Lib.hid (by rw [HT.out]; simp [writeR, chipV, chipC, HK.out])
  rw [HX.out]
  clear HX HT
  go_enter Try.func20, Try.ntmps20
  go_wp2_with (go_at_call 13; refine (HO.out _).mono ?_; rintro e w1 ⟨rfl, hb⟩; refine Hid.out ?_)
  have K0 := Lib.hid (blk_below (blk_old (blk_new w _)) hb)
  have k1' := blk_below (blk_new _ _) hb
  rw [alloc_size] at k1'
  have K1 := Lib.hid k1'
  have B := Lib.hid (below_then (below_alloc ((Below.refl w.heap.size w).alloc (Nat.le_refl _) _) _) hb)
  clear hb k1' HO
  refine Lib.hid ?_
  go_wp2_with (first
    | (refine load_row rfl 25 (.tmp 3) rfl w.heap.size rfl 11 _ Try.underlying25 rfl hi.out K0.out rfl ?_)
    | (go_at_call 23; (with_reducible refine (HM.out _).mono ?_); rintro e w2 ⟨rfl, hb2⟩; refine Hid.out ?_))
  have hlt : w.heap.size + 1 < w2.heap.size := blk_in (blk_below K1.out hb2)
  have k0 := blk_old (o := .cells #[.int .i64 c1, .bool v1, .int .i64 l1, .bool ag, .int .i64 c2, .bool v2, .int .i64 o2] 45) (blk_below K0.out hb2)
  have k1 := blk_old (o := .cells #[.int .i64 c1, .bool v1, .int .i64 l1, .bool ag, .int .i64 c2, .bool v2, .int .i64 o2] 45) (blk_below K1.out hb2)
  have kt := blk_new w2 (.cells #[.int .i64 c1, .bool v1, .int .i64 l1, .bool ag, .int .i64 c2, .bool v2, .int .i64 o2] 45)
  have B := below_alloc (below_then B.out hb2) (.cells #[.int .i64 c1, .bool v1, .int .i64 l1, .bool ag, .int .i64 c2, .bool v2, .int .i64 o2] 45)
  clear hb2 K0 K1 HM
  refine Lib.hid ?_
  go_upto_region 5 with (fail)
  generalize hW : w2.alloc (.cells #[.int .i64 c1, .bool v1, .int .i64 l1, .bool ag, .int .i64 c2, .bool v2, .int .i64 o2] 45) = W2 at k0 k1 kt B
  generalize hTT : w2.heap.size = T at kt hlt
  clear hW hTT
  have K0 := Lib.hid k0
  have K1 := Lib.hid k1
  have KT := Lib.hid kt
  have BB := Lib.hid B
  clear k0 k1 kt B
  have hne : ¬ w.heap.size = T := by omega
  have hne2 : ¬ T = w.heap.size := by omega
  have t6 := cell_of_blk (i := 6) (v := .int .i64 o2) KT.out rfl
  have yy := fun i => free_of_blk (i := i) KT.out
  have yc0 : (W2.setCell ⟨T, 6, none⟩ (.int .i64 V)).heap[w.heap.size]? = some (.cells #[.int .i64 c1, .int .i64 l1, .bool v1, .bool ag, .int .i64 c2, .int .i64 o2, .bool v2, .int .i64 pt, .int .i64 dr, .int .i64 (mkF p q), .int .i64 (mkF p' q')] 25 (0, 0)) := row_far K0.out (by omega)
  have yt0 : (W2.setCell ⟨T, 6, none⟩ (.int .i64 V)).heap[T]? = some (.cells #[.int .i64 c1, .bool v1, .int .i64 l1, .bool ag, .int .i64 c2, .bool v2, .int .i64 V] 45 (0, 0)) := tim_set KT.out rfl
  have yr0 : (W2.setCell ⟨T, 6, none⟩ (.int .i64 V)).heap[w.heap.size + 1]? = some (.cells #[.int .i64 0, .int .i64 0, .bool false, .bool false, .int .i64 0, .int .i64 0, .bool false, .int .i64 0, .int .i64 0, .int .i64 0, .int .i64 0] 25 (0, 0)) := row_far K1.out (by omega)
  have yb0 : Below w.heap.size w (W2.setCell ⟨T, 6, none⟩ (.int .i64 V)) := below_put BB.out (by omega)
  have F0 := Lib.hid (yc0)
  have FT := Lib.hid (yt0)
  have F1 := Lib.hid (yr0)
  have FB := Lib.hid (yb0)
  clear yc0 yt0 yr0 yb0
  go_wp2_with (first
    | (refine load_row rfl 45 (.tmp 7) rfl T rfl 7 _ Try.underlying45 rfl ht.out FT.out rfl ?_)
    | (refine load_row rfl 25 (.tmp 3) rfl w.heap.size rfl 11 _ Try.underlying25 rfl hi.out F0.out rfl ?_)
    | (go_at_call 26; (with_reducible refine (HD.out _).mono ?_); rintro e w5 ⟨rfl, hb5⟩; refine Hid.out ?_))
  have K8 := Lib.hid (blk_below F1.out hb5)
  have B8 := Lib.hid (below_then FB.out hb5)
  clear hb5 F0 FT F1 FB HD K0 K1 KT BB t6 yy
  refine Lib.hid ?_
  go_wp2_with (refine store_row rfl 25 (.tmp 6) (.tmp 105) rfl (w.heap.size + 1) _ rfl rfl 11 hi.out K8.out rfl rfl (by rfl) ?_)
  (try simp only [Exit.inBlock, Exit.then])
  refine row_post rfl rfl Try.underlying25 rfl chip_size rfl rfl (by exact K8.out) ⟨?_, ?_⟩
  · rfl
  · exact below_row B8.out (by omega)
set_option maxRecDepth 100000 in
set_option maxHeartbeats 1000000 in
theorem impl_write_9 (c : ChipI) (hf : c.fits) (r n : Int) (hok : okC c = true) (hk : r % 16 = 9) (w : World) : Calls Try.prog 20 #[chipV c, .int .i64 r, .int .i64 n] w fun e w' => e = .returned (chipV (writeI c r n)) ∧ Below w.heap.size w w' := by
  have HO := Lib.hid (impl_chipOk c hf)
  have hi := Lib.hid chip_size
  have ht := Lib.hid tim_size
  have hr := (okC_iff c).1 hok
  have HT := Lib.hid (write_yes hok r n)
  have HM := Lib.hid (timers_of c)
  rw [hok] at HO
  obtain ⟨p, q, hpq⟩ : ∃ p q, c.fl = mkF p q := ⟨_, _, mk_isF hr.fl⟩
  obtain ⟨p', q', hpm⟩ : ∃ p q, c.ms = mkF p q := ⟨_, _, mk_isF hr.ms⟩
  have r3 := hr.l1
  have r5 := hr.o2
  clear hok hf hr
  obtain ⟨c1, l1, v1, ag, c2, o2, v2, pt, dr, fl, ms⟩ := c
  simp only [] at hpq hpm r3 r5
  subst hpq
  subst hpm
  rw [chipV_mk] at HO HM ⊢
  rw [timV_mk] at HM
  have e15 := and_15 r
  rw [hk] at e15
  have hv : 0 ≤ n % 256 ∧ n % 256 ≤ 255 := by omega
  obtain ⟨V, hV⟩ : ∃ V, n % 256 = V := ⟨_, rfl⟩
  rw [hV] at hv HT
  have HK := Lib.hid hk
  clear hk
  have HWD := Lib.hid (fun w => word_of V o2 hv.1 hv.2 r5.1 r5.2 w)
  have en := not32_mk p q
  have HD : Hid (∀ w : World, Calls Try.prog 26 #[.agg #[.int .i64 c1, .bool v1, .int .i64 l1, .bool ag, .int .i64 (V * 256 + o2), .bool true, .int .i64 o2], .agg #[.int .i64 c1, .int .i64 l1, .bool v1, .bool ag, .int .i64 c2, .int .i64 o2, .bool v2, .int .i64 pt, .int .i64 dr, .int .i64 (mkF p false), .int .i64 (mkF p' q')]] w fun e w' => e = .returned (.agg #[.int .i64 c1, .int .i64 l1, .bool v1, .bool ag, .int .i64 (V * 256 + o2), .int .i64 o2, .bool true, .int .i64 pt, .int .i64 dr, .int .i64 (mkF p false), .int .i64 (mkF p' q')]) ∧ Below w.heap.size w w') := Lib.hid (fun w => put_into ⟨c1, l1, v1, ag, (V * 256 + o2), o2, true, 0, 0, 0, 0⟩ ⟨c1, l1, v1, ag, c2, o2, v2, pt, dr, (mkF p false), (mkF p' q')⟩ w)
  have HX : Hid (chipV (writeI ⟨c1, l1, v1, ag, c2, o2, v2, pt, dr, (mkF p q), (mkF p' q')⟩ r n) = .agg #[.int .i64 c1, .int .i64 l1, .bool v1, .bool ag, .int .i64 (V * 256 + o2), .int .i64 o2, .bool true, .int .i64 pt, .int .i64 dr, .int .i64 (mkF p false), .int .i64 (mkF p' q')]) := Lib.hid (by rw [HT.out]; simp [writeR, chipV, chipC, HK.out, f6_mk])
  rw [HX.out]
  clear HX HT
  go_enter Try.func20, Try.ntmps20
  go_wp2_with (go_at_call 13; refine (HO.out _).mono ?_; rintro e w1 ⟨rfl, hb⟩; refine Hid.out ?_)
  have K0 := Lib.hid (blk_below (blk_old (blk_new w _)) hb)
  have k1' := blk_below (blk_new _ _) hb
  rw [alloc_size] at k1'
  have K1 := Lib.hid k1'
  have B := Lib.hid (below_then (below_alloc ((Below.refl w.heap.size w).alloc (Nat.le_refl _) _) _) hb)
  clear hb k1' HO
  refine Lib.hid ?_
  go_wp2_with (first
    | (refine load_row rfl 25 (.tmp 3) rfl w.heap.size rfl 11 _ Try.underlying25 rfl hi.out K0.out rfl ?_)
    | (go_at_call 23; (with_reducible refine (HM.out _).mono ?_); rintro e w2 ⟨rfl, hb2⟩; refine Hid.out ?_))
  have hlt : w.heap.size + 1 < w2.heap.size := blk_in (blk_below K1.out hb2)
  have k0 := blk_old (o := .cells #[.int .i64 c1, .bool v1, .int .i64 l1, .bool ag, .int .i64 c2, .bool v2, .int .i64 o2] 45) (blk_below K0.out hb2)
  have k1 := blk_old (o := .cells #[.int .i64 c1, .bool v1, .int .i64 l1, .bool ag, .int .i64 c2, .bool v2, .int .i64 o2] 45) (blk_below K1.out hb2)
  have kt := blk_new w2 (.cells #[.int .i64 c1, .bool v1, .int .i64 l1, .bool ag, .int .i64 c2, .bool v2, .int .i64 o2] 45)
  have B := below_alloc (below_then B.out hb2) (.cells #[.int .i64 c1, .bool v1, .int .i64 l1, .bool ag, .int .i64 c2, .bool v2, .int .i64 o2] 45)
  clear hb2 K0 K1 HM
  refine Lib.hid ?_
  go_upto_region 5 with (fail)
  generalize hW : w2.alloc (.cells #[.int .i64 c1, .bool v1, .int .i64 l1, .bool ag, .int .i64 c2, .bool v2, .int .i64 o2] 45) = W2 at k0 k1 kt B
  generalize hTT : w2.heap.size = T at kt hlt
  clear hW hTT
  have K0 := Lib.hid k0
  have K1 := Lib.hid k1
  have KT := Lib.hid kt
  have BB := Lib.hid B
  clear k0 k1 kt B
  have hne : ¬ w.heap.size = T := by omega
  have hne2 : ¬ T = w.heap.size := by omega
  have a9 := cell_of_blk (i := 9) (v := .int .i64 (mkF p q)) K0.out rfl
  have t2 := cell_of_blk (i := 2) (v := .int .i64 l1) KT.out rfl
  have t4 := cell_of_blk (i := 4) (v := .int .i64 c2) KT.out rfl
  have t5 := cell_of_blk (i := 5) (v := .bool v2) KT.out rfl
  have t6 := cell_of_blk (i := 6) (v := .int .i64 o2) KT.out rfl
  have zz := fun i => free_of_blk (i := i) K0.out
  have yy := fun i => free_of_blk (i := i) KT.out
  have HST := Lib.hid (timer_start T 4 (V * 256 + o2) c2 v2 W2 t4 (yy 4) t5 (yy 5))
  go_wp2_with (first
    | (go_at_call 33; (with_reducible refine HST.out.mono ?_); rintro e w3 ⟨rfl, hw3⟩; refine Hid.out ?_)
    | (go_at_call 31; (with_reducible refine (HWD.out _).mono ?_); rintro e wq ⟨rfl, rfl⟩))
  clear HST a9 t2 t4 t5 t6 zz yy
  have xc0 : (W2.setCell ⟨T, 4, none⟩ (.int .i64 (V * 256 + o2))).heap[w.heap.size]? = some (.cells #[.int .i64 c1, .int .i64 l1, .bool v1, .bool ag, .int .i64 c2, .int .i64 o2, .bool v2, .int .i64 pt, .int .i64 dr, .int .i64 (mkF p q), .int .i64 (mkF p' q')] 25 (0, 0)) := row_far K0.out (by omega)
  have xt0 : (W2.setCell ⟨T, 4, none⟩ (.int .i64 (V * 256 + o2))).heap[T]? = some (.cells #[.int .i64 c1, .bool v1, .int .i64 l1, .bool ag, .int .i64 (V * 256 + o2), .bool v2, .int .i64 o2] 45 (0, 0)) := tim_set KT.out rfl
  have xr0 : (W2.setCell ⟨T, 4, none⟩ (.int .i64 (V * 256 + o2))).heap[w.heap.size + 1]? = some (.cells #[.int .i64 0, .int .i64 0, .bool false, .bool false, .int .i64 0, .int .i64 0, .bool false, .int .i64 0, .int .i64 0, .int .i64 0, .int .i64 0] 25 (0, 0)) := row_far K1.out (by omega)
  have xb0 : Below w.heap.size w (W2.setCell ⟨T, 4, none⟩ (.int .i64 (V * 256 + o2))) := below_put BB.out (by omega)
  have xc1 : ((W2.setCell ⟨T, 4, none⟩ (.int .i64 (V * 256 + o2))).setCell ⟨T, 5, none⟩ (.bool true)).heap[w.heap.size]? = some (.cells #[.int .i64 c1, .int .i64 l1, .bool v1, .bool ag, .int .i64 c2, .int .i64 o2, .bool v2, .int .i64 pt, .int .i64 dr, .int .i64 (mkF p q), .int .i64 (mkF p' q')] 25 (0, 0)) := row_far xc0 (by omega)
  have xt1 : ((W2.setCell ⟨T, 4, none⟩ (.int .i64 (V * 256 + o2))).setCell ⟨T, 5, none⟩ (.bool true)).heap[T]? = some (.cells #[.int .i64 c1, .bool v1, .int .i64 l1, .bool ag, .int .i64 (V * 256 + o2), .bool true, .int .i64 o2] 45 (0, 0)) := tim_set xt0 rfl
  have xr1 : ((W2.setCell ⟨T, 4, none⟩ (.int .i64 (V * 256 + o2))).setCell ⟨T, 5, none⟩ (.bool true)).heap[w.heap.size + 1]? = some (.cells #[.int .i64 0, .int .i64 0, .bool false, .bool false, .int .i64 0, .int .i64 0, .bool false, .int .i64 0, .int .i64 0, .int .i64 0, .int .i64 0] 25 (0, 0)) := row_far xr0 (by omega)
  have xb1 : Below w.heap.size w ((W2.setCell ⟨T, 4, none⟩ (.int .i64 (V * 256 + o2))).setCell ⟨T, 5, none⟩ (.bool true)) := below_put xb0 (by omega)
  have F0 := Lib.hid (xc1)
  have FT := Lib.hid (xt1)
  have F1 := Lib.hid (xr1)
  have FB := Lib.hid (xb1)
  clear xc0 xt0 xr0 xb0
  clear xc1 xt1 xr1 xb1
  clear K0 KT K1 BB
  have k0 := F0.out
  have kt := FT.out
  have k1 := F1.out
  have B := FB.out
  clear F0 FT F1 FB
  rw [hw3] at k0 kt k1 B
  clear hw3
  have K0 := Lib.hid k0
  have K1 := Lib.hid k1
  have KT := Lib.hid kt
  have BB := Lib.hid B
  clear k0 k1 kt B
  have a9 := cell_of_blk (i := 9) (v := .int .i64 (mkF p q)) K0.out rfl
  have t2 := cell_of_blk (i := 2) (v := .int .i64 l1) KT.out rfl
  have t6 := cell_of_blk (i := 6) (v := .int .i64 o2) KT.out rfl
  have zz := fun i => free_of_blk (i := i) K0.out
  have yc0 : (w3.setCell ⟨w.heap.size, 9, none⟩ (.int .i64 (mkF p false))).heap[w.heap.size]? = some (.cells #[.int .i64 c1, .int .i64 l1, .bool v1, .bool ag, .int .i64 c2, .int .i64 o2, .bool v2, .int .i64 pt, .int .i64 dr, .int .i64 (mkF p false), .int .i64 (mkF p' q')] 25 (0, 0)) := tim_set K0.out rfl
  have yt0 : (w3.setCell ⟨w.heap.size, 9, none⟩ (.int .i64 (mkF p false))).heap[T]? = some (.cells #[.int .i64 c1, .bool v1, .int .i64 l1, .bool ag, .int .i64 (V * 256 + o2), .bool true, .int .i64 o2] 45 (0, 0)) := row_far KT.out (by omega)
  have yr0 : (w3.setCell ⟨w.heap.size, 9, none⟩ (.int .i64 (mkF p false))).heap[w.heap.size + 1]? = some (.cells #[.int .i64 0, .int .i64 0, .bool false, .bool false, .int .i64 0, .int .i64 0, .bool false, .int .i64 0, .int .i64 0, .int .i64 0, .int .i64 0] 25 (0, 0)) := row_far K1.out (by omega)
  have yb0 : Below w.heap.size w (w3.setCell ⟨w.heap.size, 9, none⟩ (.int .i64 (mkF p false))) := below_put BB.out (by omega)
  have F0 := Lib.hid (yc0)
  have FT := Lib.hid (yt0)
  have F1 := Lib.hid (yr0)
  have FB := Lib.hid (yb0)
  clear yc0 yt0 yr0 yb0
  refine Lib.hid ?_
  go_wp2_with (first
    | (refine load_row rfl 45 (.tmp 7) rfl T rfl 7 _ Try.underlying45 rfl ht.out FT.out rfl ?_)
    | (refine load_row rfl 25 (.tmp 3) rfl w.heap.size rfl 11 _ Try.underlying25 rfl hi.out F0.out rfl ?_)
    | (go_at_call 26; (with_reducible refine (HD.out _).mono ?_); rintro e w5 ⟨rfl, hb5⟩; refine Hid.out ?_)
    | (go_at_call 31; (with_reducible refine (HWD.out _).mono ?_); rintro e wq ⟨rfl, rfl⟩))
  have K8 := Lib.hid (blk_below F1.out hb5)
  have B8 := Lib.hid (below_then FB.out hb5)
  clear hb5 F0 FT F1 FB HD K0 K1 KT BB a9 t2 t6 zz
  refine Lib.hid ?_
  go_wp2_with (refine store_row rfl 25 (.tmp 6) (.tmp 105) rfl (w.heap.size + 1) _ rfl rfl 11 hi.out K8.out rfl rfl (by rfl) ?_)
  (try simp only [Exit.inBlock, Exit.then])
  refine row_post rfl rfl Try.underlying25 rfl chip_size rfl rfl (by exact K8.out) ⟨?_, ?_⟩
  · rfl
  · exact below_row B8.out (by omega)
set_option maxRecDepth 100000 in
set_option maxHeartbeats 1000000 in
theorem impl_write_11 (c : ChipI) (hf : c.fits) (r n : Int) (hok : okC c = true) (hk : r % 16 = 11) (w : World) : Calls Try.prog 20 #[chipV c, .int .i64 r, .int .i64 n] w fun e w' => e = .returned (chipV (writeI c r n)) ∧ Below w.heap.size w w' := by
  have HO := Lib.hid (impl_chipOk c hf)
  have hi := Lib.hid chip_size
  have ht := Lib.hid tim_size
  have hr := (okC_iff c).1 hok
  have HT := Lib.hid (write_yes hok r n)
  have HM := Lib.hid (timers_of c)
  rw [hok] at HO
  obtain ⟨p, q, hpq⟩ : ∃ p q, c.fl = mkF p q := ⟨_, _, mk_isF hr.fl⟩
  obtain ⟨p', q', hpm⟩ : ∃ p q, c.ms = mkF p q := ⟨_, _, mk_isF hr.ms⟩
  have r3 := hr.l1
  have r5 := hr.o2
  clear hok hf hr
  obtain ⟨c1, l1, v1, ag, c2, o2, v2, pt, dr, fl, ms⟩ := c
  simp only [] at hpq hpm r3 r5
  subst hpq
  subst hpm
  rw [chipV_mk] at HO HM ⊢
  rw [timV_mk] at HM
  have e15 := and_15 r
  rw [hk] at e15
  have hv : 0 ≤ n % 256 ∧ n % 256 ≤ 255 := by omega
  obtain ⟨V, hV⟩ : ∃ V, n % 256 = V := ⟨_, rfl⟩
  rw [hV] at hv HT
  have HK := Lib.hid hk
  clear hk
  have e64 := tst_i64 V 64 (by omega)
  have HD : Hid (∀ w : World, Calls Try.prog 26 #[.agg #[.int .i64 c1, .bool v1, .int .i64 l1, .bool (tst V 64), .int .i64 c2, .bool v2, .int .i64 o2], .agg #[.int .i64 c1, .int .i64 l1, .bool v1, .bool ag, .int .i64 c2, .int .i64 o2, .bool v2, .int .i64 pt, .int .i64 dr, .int .i64 (mkF p q), .int .i64 (mkF p' q')]] w fun e w' => e = .returned (.agg #[.int .i64 c1, .int .i64 l1, .bool v1, .bool (tst V 64), .int .i64 c2, .int .i64 o2, .bool v2, .int .i64 pt, .int .i64 dr, .int .i64 (mkF p q), .int .i64 (mkF p' q')]) ∧ Below w.heap.size w w') := Lib.hid (fun w => put_into ⟨c1, l1, v1, (tst V 64), c2, o2, v2, 0, 0, 0, 0⟩ ⟨c1, l1, v1, ag, c2, o2, v2, pt, dr, (mkF p q), (mkF p' q')⟩ w)
  have HX : Hid (chipV (writeI ⟨c1, l1, v1, ag, c2, o2, v2, pt, dr, (mkF p q), (mkF p' q')⟩ r n) = .agg #[.int .i64 c1, .int .i64 l1, .bool v1, .bool (tst V 64), .int .i64 c2, .int .i64 o2, .bool v2, .int .i64 pt, .int .i64 dr, .int .i64 (mkF p q), .int .i64 (mkF p' q')]) := Lib.hid (by rw [HT.out]; simp [writeR, chipV, chipC, HK.out])
  rw [HX.out]
  clear HX HT
  go_enter Try.func20, Try.ntmps20
  go_wp2_with (go_at_call 13; refine (HO.out _).mono ?_; rintro e w1 ⟨rfl, hb⟩; refine Hid.out ?_)
  have K0 := Lib.hid (blk_below (blk_old (blk_new w _)) hb)
  have k1' := blk_below (blk_new _ _) hb
  rw [alloc_size] at k1'
  have K1 := Lib.hid k1'
  have B := Lib.hid (below_then (below_alloc ((Below.refl w.heap.size w).alloc (Nat.le_refl _) _) _) hb)
  clear hb k1' HO
  refine Lib.hid ?_
  go_wp2_with (first
    | (refine load_row rfl 25 (.tmp 3) rfl w.heap.size rfl 11 _ Try.underlying25 rfl hi.out K0.out rfl ?_)
    | (go_at_call 23; (with_reducible refine (HM.out _).mono ?_); rintro e w2 ⟨rfl, hb2⟩; refine Hid.out ?_))
  have hlt : w.heap.size + 1 < w2.heap.size := blk_in (blk_below K1.out hb2)
  have k0 := blk_old (o := .cells #[.int .i64 c1, .bool v1, .int .i64 l1, .bool ag, .int .i64 c2, .bool v2, .int .i64 o2] 45) (blk_below K0.out hb2)
  have k1 := blk_old (o := .cells #[.int .i64 c1, .bool v1, .int .i64 l1, .bool ag, .int .i64 c2, .bool v2, .int .i64 o2] 45) (blk_below K1.out hb2)
  have kt := blk_new w2 (.cells #[.int .i64 c1, .bool v1, .int .i64 l1, .bool ag, .int .i64 c2, .bool v2, .int .i64 o2] 45)
  have B := below_alloc (below_then B.out hb2) (.cells #[.int .i64 c1, .bool v1, .int .i64 l1, .bool ag, .int .i64 c2, .bool v2, .int .i64 o2] 45)
  clear hb2 K0 K1 HM
  refine Lib.hid ?_
  go_upto_region 5 with (fail)
  generalize hW : w2.alloc (.cells #[.int .i64 c1, .bool v1, .int .i64 l1, .bool ag, .int .i64 c2, .bool v2, .int .i64 o2] 45) = W2 at k0 k1 kt B
  generalize hTT : w2.heap.size = T at kt hlt
  clear hW hTT
  have K0 := Lib.hid k0
  have K1 := Lib.hid k1
  have KT := Lib.hid kt
  have BB := Lib.hid B
  clear k0 k1 kt B
  have hne : ¬ w.heap.size = T := by omega
  have hne2 : ¬ T = w.heap.size := by omega
  have t3 := cell_of_blk (i := 3) (v := .bool ag) KT.out rfl
  have yy := fun i => free_of_blk (i := i) KT.out
  have yc0 : (W2.setCell ⟨T, 3, none⟩ (.bool (tst V 64))).heap[w.heap.size]? = some (.cells #[.int .i64 c1, .int .i64 l1, .bool v1, .bool ag, .int .i64 c2, .int .i64 o2, .bool v2, .int .i64 pt, .int .i64 dr, .int .i64 (mkF p q), .int .i64 (mkF p' q')] 25 (0, 0)) := row_far K0.out (by omega)
  have yt0 : (W2.setCell ⟨T, 3, none⟩ (.bool (tst V 64))).heap[T]? = some (.cells #[.int .i64 c1, .bool v1, .int .i64 l1, .bool (tst V 64), .int .i64 c2, .bool v2, .int .i64 o2] 45 (0, 0)) := tim_set KT.out rfl
  have yr0 : (W2.setCell ⟨T, 3, none⟩ (.bool (tst V 64))).heap[w.heap.size + 1]? = some (.cells #[.int .i64 0, .int .i64 0, .bool false, .bool false, .int .i64 0, .int .i64 0, .bool false, .int .i64 0, .int .i64 0, .int .i64 0, .int .i64 0] 25 (0, 0)) := row_far K1.out (by omega)
  have yb0 : Below w.heap.size w (W2.setCell ⟨T, 3, none⟩ (.bool (tst V 64))) := below_put BB.out (by omega)
  have F0 := Lib.hid (yc0)
  have FT := Lib.hid (yt0)
  have F1 := Lib.hid (yr0)
  have FB := Lib.hid (yb0)
  clear yc0 yt0 yr0 yb0
  go_wp2_with (first
    | (refine load_row rfl 45 (.tmp 7) rfl T rfl 7 _ Try.underlying45 rfl ht.out FT.out rfl ?_)
    | (refine load_row rfl 25 (.tmp 3) rfl w.heap.size rfl 11 _ Try.underlying25 rfl hi.out F0.out rfl ?_)
    | (go_at_call 26; (with_reducible refine (HD.out _).mono ?_); rintro e w5 ⟨rfl, hb5⟩; refine Hid.out ?_))
  have K8 := Lib.hid (blk_below F1.out hb5)
  have B8 := Lib.hid (below_then FB.out hb5)
  clear hb5 F0 FT F1 FB HD K0 K1 KT BB t3 yy
  refine Lib.hid ?_
  go_wp2_with (refine store_row rfl 25 (.tmp 6) (.tmp 105) rfl (w.heap.size + 1) _ rfl rfl 11 hi.out K8.out rfl rfl (by rfl) ?_)
  (try simp only [Exit.inBlock, Exit.then])
  refine row_post rfl rfl Try.underlying25 rfl chip_size rfl rfl (by exact K8.out) ⟨?_, ?_⟩
  · rfl
  · exact below_row B8.out (by omega)
set_option maxRecDepth 100000 in
set_option maxHeartbeats 1000000 in
theorem impl_write_13 (c : ChipI) (hf : c.fits) (r n : Int) (hok : okC c = true) (hk : r % 16 = 13) (w : World) : Calls Try.prog 20 #[chipV c, .int .i64 r, .int .i64 n] w fun e w' => e = .returned (chipV (writeI c r n)) ∧ Below w.heap.size w w' := by
  have HO := Lib.hid (impl_chipOk c hf)
  have hi := Lib.hid chip_size
  have ht := Lib.hid tim_size
  have hr := (okC_iff c).1 hok
  have HT := Lib.hid (write_yes hok r n)
  have HM := Lib.hid (timers_of c)
  rw [hok] at HO
  obtain ⟨p, q, hpq⟩ : ∃ p q, c.fl = mkF p q := ⟨_, _, mk_isF hr.fl⟩
  obtain ⟨p', q', hpm⟩ : ∃ p q, c.ms = mkF p q := ⟨_, _, mk_isF hr.ms⟩
  have r3 := hr.l1
  have r5 := hr.o2
  clear hok hf hr
  obtain ⟨c1, l1, v1, ag, c2, o2, v2, pt, dr, fl, ms⟩ := c
  simp only [] at hpq hpm r3 r5
  subst hpq
  subst hpm
  rw [chipV_mk] at HO HM ⊢
  rw [timV_mk] at HM
  have e15 := and_15 r
  rw [hk] at e15
  have hv : 0 ≤ n % 256 ∧ n % 256 ≤ 255 := by omega
  obtain ⟨V, hV⟩ : ∃ V, n % 256 = V := ⟨_, rfl⟩
  rw [hV] at hv HT
  have HK := Lib.hid hk
  clear hk
  have en := notv_mk p q hv
  have HD : Hid (∀ w : World, Calls Try.prog 26 #[.agg #[.int .i64 c1, .bool v1, .int .i64 l1, .bool ag, .int .i64 c2, .bool v2, .int .i64 o2], .agg #[.int .i64 c1, .int .i64 l1, .bool v1, .bool ag, .int .i64 c2, .int .i64 o2, .bool v2, .int .i64 pt, .int .i64 dr, .int .i64 (mkF (p && !tst V 64) (q && !tst V 32)), .int .i64 (mkF p' q')]] w fun e w' => e = .returned (.agg #[.int .i64 c1, .int .i64 l1, .bool v1, .bool ag, .int .i64 c2, .int .i64 o2, .bool v2, .int .i64 pt, .int .i64 dr, .int .i64 (mkF (p && !tst V 64) (q && !tst V 32)), .int .i64 (mkF p' q')]) ∧ Below w.heap.size w w') := Lib.hid (fun w => put_into ⟨c1, l1, v1, ag, c2, o2, v2, 0, 0, 0, 0⟩ ⟨c1, l1, v1, ag, c2, o2, v2, pt, dr, (mkF (p && !tst V 64) (q && !tst V 32)), (mkF p' q')⟩ w)
  have HX : Hid (chipV (writeI ⟨c1, l1, v1, ag, c2, o2, v2, pt, dr, (mkF p q), (mkF p' q')⟩ r n) = .agg #[.int .i64 c1, .int .i64 l1, .bool v1, .bool ag, .int .i64 c2, .int .i64 o2, .bool v2, .int .i64 pt, .int .i64 dr, .int .i64 (mkF (p && !tst V 64) (q && !tst V 32)), .int .i64 (mkF p' q')]) := Lib.hid (by rw [HT.out]; simp [writeR, chipV, chipC, HK.out, f6_mk, f5_mk])
  rw [HX.out]
  clear HX HT
  go_enter Try.func20, Try.ntmps20
  go_wp2_with (go_at_call 13; refine (HO.out _).mono ?_; rintro e w1 ⟨rfl, hb⟩; refine Hid.out ?_)
  have K0 := Lib.hid (blk_below (blk_old (blk_new w _)) hb)
  have k1' := blk_below (blk_new _ _) hb
  rw [alloc_size] at k1'
  have K1 := Lib.hid k1'
  have B := Lib.hid (below_then (below_alloc ((Below.refl w.heap.size w).alloc (Nat.le_refl _) _) _) hb)
  clear hb k1' HO
  refine Lib.hid ?_
  go_wp2_with (first
    | (refine load_row rfl 25 (.tmp 3) rfl w.heap.size rfl 11 _ Try.underlying25 rfl hi.out K0.out rfl ?_)
    | (go_at_call 23; (with_reducible refine (HM.out _).mono ?_); rintro e w2 ⟨rfl, hb2⟩; refine Hid.out ?_))
  have hlt : w.heap.size + 1 < w2.heap.size := blk_in (blk_below K1.out hb2)
  have k0 := blk_old (o := .cells #[.int .i64 c1, .bool v1, .int .i64 l1, .bool ag, .int .i64 c2, .bool v2, .int .i64 o2] 45) (blk_below K0.out hb2)
  have k1 := blk_old (o := .cells #[.int .i64 c1, .bool v1, .int .i64 l1, .bool ag, .int .i64 c2, .bool v2, .int .i64 o2] 45) (blk_below K1.out hb2)
  have kt := blk_new w2 (.cells #[.int .i64 c1, .bool v1, .int .i64 l1, .bool ag, .int .i64 c2, .bool v2, .int .i64 o2] 45)
  have B := below_alloc (below_then B.out hb2) (.cells #[.int .i64 c1, .bool v1, .int .i64 l1, .bool ag, .int .i64 c2, .bool v2, .int .i64 o2] 45)
  clear hb2 K0 K1 HM
  refine Lib.hid ?_
  go_upto_region 5 with (fail)
  generalize hW : w2.alloc (.cells #[.int .i64 c1, .bool v1, .int .i64 l1, .bool ag, .int .i64 c2, .bool v2, .int .i64 o2] 45) = W2 at k0 k1 kt B
  generalize hTT : w2.heap.size = T at kt hlt
  clear hW hTT
  have K0 := Lib.hid k0
  have K1 := Lib.hid k1
  have KT := Lib.hid kt
  have BB := Lib.hid B
  clear k0 k1 kt B
  have hne : ¬ w.heap.size = T := by omega
  have hne2 : ¬ T = w.heap.size := by omega
  have a9 := cell_of_blk (i := 9) (v := .int .i64 (mkF p q)) K0.out rfl
  have zz := fun i => free_of_blk (i := i) K0.out
  have yc0 : (W2.setCell ⟨w.heap.size, 9, none⟩ (.int .i64 (mkF (p && !tst V 64) (q && !tst V 32)))).heap[w.heap.size]? = some (.cells #[.int .i64 c1, .int .i64 l1, .bool v1, .bool ag, .int .i64 c2, .int .i64 o2, .bool v2, .int .i64 pt, .int .i64 dr, .int .i64 (mkF (p && !tst V 64) (q && !tst V 32)), .int .i64 (mkF p' q')] 25 (0, 0)) := tim_set K0.out rfl
  have yt0 : (W2.setCell ⟨w.heap.size, 9, none⟩ (.int .i64 (mkF (p && !tst V 64) (q && !tst V 32)))).heap[T]? = some (.cells #[.int .i64 c1, .bool v1, .int .i64 l1, .bool ag, .int .i64 c2, .bool v2, .int .i64 o2] 45 (0, 0)) := row_far KT.out (by omega)
  have yr0 : (W2.setCell ⟨w.heap.size, 9, none⟩ (.int .i64 (mkF (p && !tst V 64) (q && !tst V 32)))).heap[w.heap.size + 1]? = some (.cells #[.int .i64 0, .int .i64 0, .bool false, .bool false, .int .i64 0, .int .i64 0, .bool false, .int .i64 0, .int .i64 0, .int .i64 0, .int .i64 0] 25 (0, 0)) := row_far K1.out (by omega)
  have yb0 : Below w.heap.size w (W2.setCell ⟨w.heap.size, 9, none⟩ (.int .i64 (mkF (p && !tst V 64) (q && !tst V 32)))) := below_put BB.out (by omega)
  have F0 := Lib.hid (yc0)
  have FT := Lib.hid (yt0)
  have F1 := Lib.hid (yr0)
  have FB := Lib.hid (yb0)
  clear yc0 yt0 yr0 yb0
  go_wp2_with (first
    | (refine load_row rfl 45 (.tmp 7) rfl T rfl 7 _ Try.underlying45 rfl ht.out FT.out rfl ?_)
    | (refine load_row rfl 25 (.tmp 3) rfl w.heap.size rfl 11 _ Try.underlying25 rfl hi.out F0.out rfl ?_)
    | (go_at_call 26; (with_reducible refine (HD.out _).mono ?_); rintro e w5 ⟨rfl, hb5⟩; refine Hid.out ?_))
  have K8 := Lib.hid (blk_below F1.out hb5)
  have B8 := Lib.hid (below_then FB.out hb5)
  clear hb5 F0 FT F1 FB HD K0 K1 KT BB a9 zz
  refine Lib.hid ?_
  go_wp2_with (refine store_row rfl 25 (.tmp 6) (.tmp 105) rfl (w.heap.size + 1) _ rfl rfl 11 hi.out K8.out rfl rfl (by rfl) ?_)
  (try simp only [Exit.inBlock, Exit.then])
  refine row_post rfl rfl Try.underlying25 rfl chip_size rfl rfl (by exact K8.out) ⟨?_, ?_⟩
  · rfl
  · exact below_row B8.out (by omega)
set_option maxRecDepth 100000 in
set_option maxHeartbeats 1000000 in
theorem impl_write_14 (c : ChipI) (hf : c.fits) (r n : Int) (hok : okC c = true) (hk : r % 16 = 14) (w : World) : Calls Try.prog 20 #[chipV c, .int .i64 r, .int .i64 n] w fun e w' => e = .returned (chipV (writeI c r n)) ∧ Below w.heap.size w w' := by
  have HO := Lib.hid (impl_chipOk c hf)
  have hi := Lib.hid chip_size
  have ht := Lib.hid tim_size
  have hr := (okC_iff c).1 hok
  have HT := Lib.hid (write_yes hok r n)
  have HM := Lib.hid (timers_of c)
  rw [hok] at HO
  obtain ⟨p, q, hpq⟩ : ∃ p q, c.fl = mkF p q := ⟨_, _, mk_isF hr.fl⟩
  obtain ⟨p', q', hpm⟩ : ∃ p q, c.ms = mkF p q := ⟨_, _, mk_isF hr.ms⟩
  have r3 := hr.l1
  have r5 := hr.o2
  clear hok hf hr
  obtain ⟨c1, l1, v1, ag, c2, o2, v2, pt, dr, fl, ms⟩ := c
  simp only [] at hpq hpm r3 r5
  subst hpq
  subst hpm
  rw [chipV_mk] at HO HM ⊢
  rw [timV_mk] at HM
  have e15 := and_15 r
  rw [hk] at e15
  have hv : 0 ≤ n % 256 ∧ n % 256 ≤ 255 := by omega
  obtain ⟨V, hV⟩ : ∃ V, n % 256 = V := ⟨_, rfl⟩
  rw [hV] at hv HT
  have HK := Lib.hid hk
  clear hk
  obtain ⟨M, hM⟩ : ∃ M, M = (if tst V 128 then mkF (p' || tst V 64) (q' || tst V 32) else mkF (p' && !tst V 64) (q' && !tst V 32)) := ⟨_, rfl⟩
  have hmb := fun w => mask_behind p' q' V hv.1 hv.2 w
  rw [← hM] at hmb
  have HMB := Lib.hid hmb
  have HMV := Lib.hid hM
  clear hmb hM
  have HD : Hid (∀ w : World, Calls Try.prog 26 #[.agg #[.int .i64 c1, .bool v1, .int .i64 l1, .bool ag, .int .i64 c2, .bool v2, .int .i64 o2], .agg #[.int .i64 c1, .int .i64 l1, .bool v1, .bool ag, .int .i64 c2, .int .i64 o2, .bool v2, .int .i64 pt, .int .i64 dr, .int .i64 (mkF p q), .int .i64 M]] w fun e w' => e = .returned (.agg #[.int .i64 c1, .int .i64 l1, .bool v1, .bool ag, .int .i64 c2, .int .i64 o2, .bool v2, .int .i64 pt, .int .i64 dr, .int .i64 (mkF p q), .int .i64 M]) ∧ Below w.heap.size w w') := Lib.hid (fun w => put_into ⟨c1, l1, v1, ag, c2, o2, v2, 0, 0, 0, 0⟩ ⟨c1, l1, v1, ag, c2, o2, v2, pt, dr, (mkF p q), M⟩ w)
  have HX : Hid (chipV (writeI ⟨c1, l1, v1, ag, c2, o2, v2, pt, dr, (mkF p q), (mkF p' q')⟩ r n) = .agg #[.int .i64 c1, .int .i64 l1, .bool v1, .bool ag, .int .i64 c2, .int .i64 o2, .bool v2, .int .i64 pt, .int .i64 dr, .int .i64 (mkF p q), .int .i64 M]) := Lib.hid (by rw [HT.out]; simp [writeR, chipV, chipC, HK.out, f6_mk, f5_mk, HMV.out])
  rw [HX.out]
  clear HX HT
  go_enter Try.func20, Try.ntmps20
  go_wp2_with (go_at_call 13; refine (HO.out _).mono ?_; rintro e w1 ⟨rfl, hb⟩; refine Hid.out ?_)
  have K0 := Lib.hid (blk_below (blk_old (blk_new w _)) hb)
  have k1' := blk_below (blk_new _ _) hb
  rw [alloc_size] at k1'
  have K1 := Lib.hid k1'
  have B := Lib.hid (below_then (below_alloc ((Below.refl w.heap.size w).alloc (Nat.le_refl _) _) _) hb)
  clear hb k1' HO
  refine Lib.hid ?_
  go_wp2_with (first
    | (refine load_row rfl 25 (.tmp 3) rfl w.heap.size rfl 11 _ Try.underlying25 rfl hi.out K0.out rfl ?_)
    | (go_at_call 23; (with_reducible refine (HM.out _).mono ?_); rintro e w2 ⟨rfl, hb2⟩; refine Hid.out ?_))
  have hlt : w.heap.size + 1 < w2.heap.size := blk_in (blk_below K1.out hb2)
  have k0 := blk_old (o := .cells #[.int .i64 c1, .bool v1, .int .i64 l1, .bool ag, .int .i64 c2, .bool v2, .int .i64 o2] 45) (blk_below K0.out hb2)
  have k1 := blk_old (o := .cells #[.int .i64 c1, .bool v1, .int .i64 l1, .bool ag, .int .i64 c2, .bool v2, .int .i64 o2] 45) (blk_below K1.out hb2)
  have kt := blk_new w2 (.cells #[.int .i64 c1, .bool v1, .int .i64 l1, .bool ag, .int .i64 c2, .bool v2, .int .i64 o2] 45)
  have B := below_alloc (below_then B.out hb2) (.cells #[.int .i64 c1, .bool v1, .int .i64 l1, .bool ag, .int .i64 c2, .bool v2, .int .i64 o2] 45)
  clear hb2 K0 K1 HM
  refine Lib.hid ?_
  go_upto_region 5 with (fail)
  generalize hW : w2.alloc (.cells #[.int .i64 c1, .bool v1, .int .i64 l1, .bool ag, .int .i64 c2, .bool v2, .int .i64 o2] 45) = W2 at k0 k1 kt B
  generalize hTT : w2.heap.size = T at kt hlt
  clear hW hTT
  have K0 := Lib.hid k0
  have K1 := Lib.hid k1
  have KT := Lib.hid kt
  have BB := Lib.hid B
  clear k0 k1 kt B
  have hne : ¬ w.heap.size = T := by omega
  have hne2 : ¬ T = w.heap.size := by omega
  have a10 := cell_of_blk (i := 10) (v := .int .i64 (mkF p' q')) K0.out rfl
  have t2 := cell_of_blk (i := 2) (v := .int .i64 l1) KT.out rfl
  have t6 := cell_of_blk (i := 6) (v := .int .i64 o2) KT.out rfl
  have zz := fun i => free_of_blk (i := i) K0.out
  have yc0 : (W2.setCell ⟨w.heap.size, 10, none⟩ (.int .i64 M)).heap[w.heap.size]? = some (.cells #[.int .i64 c1, .int .i64 l1, .bool v1, .bool ag, .int .i64 c2, .int .i64 o2, .bool v2, .int .i64 pt, .int .i64 dr, .int .i64 (mkF p q), .int .i64 M] 25 (0, 0)) := tim_set K0.out rfl
  have yt0 : (W2.setCell ⟨w.heap.size, 10, none⟩ (.int .i64 M)).heap[T]? = some (.cells #[.int .i64 c1, .bool v1, .int .i64 l1, .bool ag, .int .i64 c2, .bool v2, .int .i64 o2] 45 (0, 0)) := row_far KT.out (by omega)
  have yr0 : (W2.setCell ⟨w.heap.size, 10, none⟩ (.int .i64 M)).heap[w.heap.size + 1]? = some (.cells #[.int .i64 0, .int .i64 0, .bool false, .bool false, .int .i64 0, .int .i64 0, .bool false, .int .i64 0, .int .i64 0, .int .i64 0, .int .i64 0] 25 (0, 0)) := row_far K1.out (by omega)
  have yb0 : Below w.heap.size w (W2.setCell ⟨w.heap.size, 10, none⟩ (.int .i64 M)) := below_put BB.out (by omega)
  have F0 := Lib.hid (yc0)
  have FT := Lib.hid (yt0)
  have F1 := Lib.hid (yr0)
  have FB := Lib.hid (yb0)
  clear yc0 yt0 yr0 yb0
  go_wp2_with (first
    | (refine load_row rfl 45 (.tmp 7) rfl T rfl 7 _ Try.underlying45 rfl ht.out FT.out rfl ?_)
    | (refine load_row rfl 25 (.tmp 3) rfl w.heap.size rfl 11 _ Try.underlying25 rfl hi.out F0.out rfl ?_)
    | (go_at_call 26; (with_reducible refine (HD.out _).mono ?_); rintro e w5 ⟨rfl, hb5⟩; refine Hid.out ?_)
    | (go_at_call 35; (with_reducible refine (HMB.out _).mono ?_); rintro e wq ⟨rfl, rfl⟩))
  have K8 := Lib.hid (blk_below F1.out hb5)
  have B8 := Lib.hid (below_then FB.out hb5)
  clear hb5 F0 FT F1 FB HD K0 K1 KT BB a10 t2 t6 zz
  refine Lib.hid ?_
  go_wp2_with (refine store_row rfl 25 (.tmp 6) (.tmp 105) rfl (w.heap.size + 1) _ rfl rfl 11 hi.out K8.out rfl rfl (by rfl) ?_)
  (try simp only [Exit.inBlock, Exit.then])
  refine row_post rfl rfl Try.underlying25 rfl chip_size rfl rfl (by exact K8.out) ⟨?_, ?_⟩
  · rfl
  · exact below_row B8.out (by omega)
set_option maxRecDepth 100000 in
set_option maxHeartbeats 1000000 in
theorem impl_write_none (c : ChipI) (hf : c.fits) (r n : Int) (hok : okC c = true) (hk : ¬ r % 16 = 0 ∧ ¬ r % 16 = 2 ∧ ¬ r % 16 = 4 ∧ ¬ r % 16 = 6 ∧ ¬ r % 16 = 5 ∧ ¬ r % 16 = 7 ∧ ¬ r % 16 = 8 ∧ ¬ r % 16 = 9 ∧ ¬ r % 16 = 11 ∧ ¬ r % 16 = 13 ∧ ¬ r % 16 = 14) (w : World) : Calls Try.prog 20 #[chipV c, .int .i64 r, .int .i64 n] w fun e w' => e = .returned (chipV (writeI c r n)) ∧ Below w.heap.size w w' := by
  have HO := Lib.hid (impl_chipOk c hf)
  have hi := Lib.hid chip_size
  have ht := Lib.hid tim_size
  have hr := (okC_iff c).1 hok
  have HT := Lib.hid (write_yes hok r n)
  have HM := Lib.hid (timers_of c)
  rw [hok] at HO
  obtain ⟨p, q, hpq⟩ : ∃ p q, c.fl = mkF p q := ⟨_, _, mk_isF hr.fl⟩
  obtain ⟨p', q', hpm⟩ : ∃ p q, c.ms = mkF p q := ⟨_, _, mk_isF hr.ms⟩
  have r3 := hr.l1
  have r5 := hr.o2
  clear hok hf hr
  obtain ⟨c1, l1, v1, ag, c2, o2, v2, pt, dr, fl, ms⟩ := c
  simp only [] at hpq hpm r3 r5
  subst hpq
  subst hpm
  rw [chipV_mk] at HO HM ⊢
  rw [timV_mk] at HM
  have e15 := and_15 r
  have hv : 0 ≤ n % 256 ∧ n % 256 ≤ 255 := by omega
  obtain ⟨V, hV⟩ : ∃ V, n % 256 = V := ⟨_, rfl⟩
  rw [hV] at hv HT
  obtain ⟨n0, n2, n4, n6, n5, n7, n8, n9, n11, n13, n14⟩ := hk
  have HD : Hid (∀ w : World, Calls Try.prog 26 #[.agg #[.int .i64 c1, .bool v1, .int .i64 l1, .bool ag, .int .i64 c2, .bool v2, .int .i64 o2], .agg #[.int .i64 c1, .int .i64 l1, .bool v1, .bool ag, .int .i64 c2, .int .i64 o2, .bool v2, .int .i64 pt, .int .i64 dr, .int .i64 (mkF p q), .int .i64 (mkF p' q')]] w fun e w' => e = .returned (.agg #[.int .i64 c1, .int .i64 l1, .bool v1, .bool ag, .int .i64 c2, .int .i64 o2, .bool v2, .int .i64 pt, .int .i64 dr, .int .i64 (mkF p q), .int .i64 (mkF p' q')]) ∧ Below w.heap.size w w') := Lib.hid (fun w => put_into ⟨c1, l1, v1, ag, c2, o2, v2, 0, 0, 0, 0⟩ ⟨c1, l1, v1, ag, c2, o2, v2, pt, dr, (mkF p q), (mkF p' q')⟩ w)
  have HX : Hid (chipV (writeI ⟨c1, l1, v1, ag, c2, o2, v2, pt, dr, (mkF p q), (mkF p' q')⟩ r n) = .agg #[.int .i64 c1, .int .i64 l1, .bool v1, .bool ag, .int .i64 c2, .int .i64 o2, .bool v2, .int .i64 pt, .int .i64 dr, .int .i64 (mkF p q), .int .i64 (mkF p' q')]) := Lib.hid (by rw [HT.out]; simp [writeR, chipV, chipC, *])
  rw [HX.out]
  clear HX HT
  go_enter Try.func20, Try.ntmps20
  go_wp2_with (go_at_call 13; refine (HO.out _).mono ?_; rintro e w1 ⟨rfl, hb⟩; refine Hid.out ?_)
  have K0 := Lib.hid (blk_below (blk_old (blk_new w _)) hb)
  have k1' := blk_below (blk_new _ _) hb
  rw [alloc_size] at k1'
  have K1 := Lib.hid k1'
  have B := Lib.hid (below_then (below_alloc ((Below.refl w.heap.size w).alloc (Nat.le_refl _) _) _) hb)
  clear hb k1' HO
  refine Lib.hid ?_
  go_wp2_with (first
    | (refine load_row rfl 25 (.tmp 3) rfl w.heap.size rfl 11 _ Try.underlying25 rfl hi.out K0.out rfl ?_)
    | (go_at_call 23; (with_reducible refine (HM.out _).mono ?_); rintro e w2 ⟨rfl, hb2⟩; refine Hid.out ?_))
  have hlt : w.heap.size + 1 < w2.heap.size := blk_in (blk_below K1.out hb2)
  have k0 := blk_old (o := .cells #[.int .i64 c1, .bool v1, .int .i64 l1, .bool ag, .int .i64 c2, .bool v2, .int .i64 o2] 45) (blk_below K0.out hb2)
  have k1 := blk_old (o := .cells #[.int .i64 c1, .bool v1, .int .i64 l1, .bool ag, .int .i64 c2, .bool v2, .int .i64 o2] 45) (blk_below K1.out hb2)
  have kt := blk_new w2 (.cells #[.int .i64 c1, .bool v1, .int .i64 l1, .bool ag, .int .i64 c2, .bool v2, .int .i64 o2] 45)
  have B := below_alloc (below_then B.out hb2) (.cells #[.int .i64 c1, .bool v1, .int .i64 l1, .bool ag, .int .i64 c2, .bool v2, .int .i64 o2] 45)
  clear hb2 K0 K1 HM
  refine Lib.hid ?_
  go_upto_region 5 with (fail)
  generalize hW : w2.alloc (.cells #[.int .i64 c1, .bool v1, .int .i64 l1, .bool ag, .int .i64 c2, .bool v2, .int .i64 o2] 45) = W2 at k0 k1 kt B
  generalize hTT : w2.heap.size = T at kt hlt
  clear hW hTT
  have K0 := Lib.hid k0
  have K1 := Lib.hid k1
  have KT := Lib.hid kt
  have BB := Lib.hid B
  clear k0 k1 kt B
  have hne : ¬ w.heap.size = T := by omega
  have hne2 : ¬ T = w.heap.size := by omega
  have F0 := K0
  have FT := KT
  have F1 := K1
  have FB := BB
  go_wp2_with (first
    | (refine load_row rfl 45 (.tmp 7) rfl T rfl 7 _ Try.underlying45 rfl ht.out FT.out rfl ?_)
    | (refine load_row rfl 25 (.tmp 3) rfl w.heap.size rfl 11 _ Try.underlying25 rfl hi.out F0.out rfl ?_)
    | (go_at_call 26; (with_reducible refine (HD.out _).mono ?_); rintro e w5 ⟨rfl, hb5⟩; refine Hid.out ?_))
  have K8 := Lib.hid (blk_below F1.out hb5)
  have B8 := Lib.hid (below_then FB.out hb5)
  clear hb5 F0 FT F1 FB HD K0 K1 KT BB
  refine Lib.hid ?_
  go_wp2_with (refine store_row rfl 25 (.tmp 6) (.tmp 105) rfl (w.heap.size + 1) _ rfl rfl 11 hi.out K8.out rfl rfl (by rfl) ?_)
  (try simp only [Exit.inBlock, Exit.then])
  refine row_post rfl rfl Try.underlying25 rfl chip_size rfl rfl (by exact K8.out) ⟨?_, ?_⟩
  · rfl
  · exact below_row B8.out (by omega)
theorem impl_write (c : ChipI) (hf : c.fits) (r n : Int) (w : World) : Calls Try.prog 20 #[chipV c, .int .i64 r, .int .i64 n] w fun e w' => e = .returned (chipV (writeI c r n)) ∧ Below w.heap.size w w' := by
  cases hok : okC c
  · exact impl_write_no c hf r n hok w
  by_cases h0 : r % 16 = 0
  · exact impl_write_0 c hf r n hok h0 w
  by_cases h2 : r % 16 = 2
  · exact impl_write_2 c hf r n hok h2 w
  by_cases h4 : r % 16 = 4
  · exact impl_write_4 c hf r n hok h4 w
  by_cases h6 : r % 16 = 6
  · exact impl_write_6 c hf r n hok h6 w
  by_cases h5 : r % 16 = 5
  · exact impl_write_5 c hf r n hok h5 w
  by_cases h7 : r % 16 = 7
  · exact impl_write_7 c hf r n hok h7 w
  by_cases h8 : r % 16 = 8
  · exact impl_write_8 c hf r n hok h8 w
  by_cases h9 : r % 16 = 9
  · exact impl_write_9 c hf r n hok h9 w
  by_cases h11 : r % 16 = 11
  · exact impl_write_11 c hf r n hok h11 w
  by_cases h13 : r % 16 = 13
  · exact impl_write_13 c hf r n hok h13 w
  by_cases h14 : r % 16 = 14
  · exact impl_write_14 c hf r n hok h14 w
  exact impl_write_none c hf r n hok ⟨h0, h2, h4, h6, h5, h7, h8, h9, h11, h13, h14⟩ w
end Go.Proofs.Ythelaeejgppjhaa
