/-
  The walk of impl.TickChip (chapter 6).
  Conditions: the numbers are those of their kind; the walk leaves old memory as it was.
-/
import Derived.Test.YthelaeejgppjhaaChL
namespace Go.Proofs.Ythelaeejgppjhaa
open Go.RowKit
theorem tickR_parts (c : ChipI) (p q : Bool) (hf : c.fl = mkF p q) : ({ c with c1 := (tickB (tickA c)).c1, v1 := (tickB (tickA c)).v1, l1 := (tickB (tickA c)).l1, ag := (tickB (tickA c)).ag, c2 := (tickB (tickA c)).c2, v2 := (tickB (tickA c)).v2, o2 := (tickB (tickA c)).o2, fl := mkF (p || (decide (c.c1 = 0) && c.v1)) (q || (decide (c.c2 = 0) && c.v2)) } : ChipI) = tickR c := by
  unfold tickR tickB tickA
  rw [hf, f6_mk, f5_mk]
set_option maxRecDepth 100000 in
set_option maxHeartbeats 2000000 in
theorem impl_tick (c : ChipI) (hf : c.fits) (w : World) : Calls Try.prog 10 #[chipV c] w fun e w' => e = .returned (chipV (tickI c)) ∧ Below w.heap.size w w' := by
  have HO := Lib.hid (impl_chipOk c hf)
  have hi := Lib.hid chip_size
  have ht := Lib.hid tim_size
  cases hok : okC c
  · have HT := Lib.hid (tick_no hok)
    rw [hok] at HO
    clear hok hf
    obtain ⟨c1, l1, v1, ag, c2, o2, v2, pt, dr, fl, ms⟩ := c
    rw [chipV_mk] at HO ⊢
    go_enter Try.func10, Try.ntmps10
    go_wp2_with (go_at_call 13; refine (HO.out _).mono ?_; rintro e w1 ⟨rfl, hb⟩; refine Hid.out ?_)
    have K0 := Lib.hid (blk_below (blk_old (blk_new w _)) hb)
    have k1 := blk_below (blk_new _ _) hb
    rw [alloc_size] at k1
    have K1 := Lib.hid k1
    have B := Lib.hid (below_then (below_alloc ((Below.refl w.heap.size w).alloc (Nat.le_refl _) _) _) hb)
    clear hb k1
    refine Lib.hid ?_
    go_wp2_with (first
      | (refine load_row rfl 25 (.tmp 1) rfl w.heap.size rfl 11 _ Try.underlying25 rfl hi.out K0.out rfl ?_)
      | (refine store_row rfl 25 (.tmp 2) (.tmp 7) rfl (w.heap.size + 1) _ rfl rfl 11 hi.out K1.out rfl rfl (by rfl) ?_))
    exact bodyPost_ret (v := chipV ⟨c1, l1, v1, ag, c2, o2, v2, pt, dr, fl, ms⟩) (results_cell_row rfl _ _ (w.heap.size + 1) _ _ _ _ rfl (setRow_heap _ _ _ _ _ _ K1.out) Try.underlying25 rfl chip_size) rfl ⟨by rw [HT.out], below_row B.out (by omega)⟩
  · have hr := (okC_iff c).1 hok
    rw [hok] at HO
    obtain ⟨p, q, hpq⟩ : ∃ p q, c.fl = mkF p q := ⟨_, _, mk_isF hr.fl⟩
    have HT := Lib.hid ((tick_yes hok).trans (tickR_parts c p q hpq).symm)
    have r1 := hr.c1
    have r2 := hr.c2
    have HF := Lib.hid (fun b w => first_tick b c r1 w)
    have HS := Lib.hid (fun b w => second_tick b (tickA c) r2 w)
    have HM := Lib.hid (timers_of c)
    have HP := Lib.hid (fun d w => put_into (tickB (tickA c)) d w)
    have e64 := or64_mk
    have e32 := or32_mk
    clear hok hf hr r1 r2
    have hk1 : ∃ k, k = (decide (c.c1 = 0) && c.v1) := ⟨_, rfl⟩
    have hk2 : ∃ k, k = (decide ((tickA c).c2 = 0) && (tickA c).v2) := ⟨_, rfl⟩
    obtain ⟨k1, hk1⟩ := hk1
    obtain ⟨k2, hk2⟩ := hk2
    have hk2' : k2 = (decide (c.c2 = 0) && c.v2) := hk2
    rw [← hk1, ← hk2'] at HT
    rw [← hk1] at HF
    rw [← hk2] at HS
    clear hk1 hk2 hk2'
    obtain ⟨d, hd⟩ : ∃ d, d = tickI c := ⟨_, rfl⟩
    rw [← hd] at HT ⊢
    obtain ⟨ta, hta⟩ : ∃ t, t = tickA c := ⟨_, rfl⟩
    rw [← hta] at HF HS HP HT
    obtain ⟨tb, htb⟩ : ∃ t, t = tickB ta := ⟨_, rfl⟩
    rw [← htb] at HS HP HT
    clear hd hta htb
    obtain ⟨c1, l1, v1, ag, c2, o2, v2, pt, dr, fl, ms⟩ := c
    simp only [] at hpq
    subst hpq
    have HD : Hid (∀ w : World, Calls Try.prog 26 #[.agg (timC tb), chipV ⟨c1, l1, v1, ag, c2, o2, v2, pt, dr, mkF (p || k1) (q || k2), ms⟩] w fun e w' => e = .returned (chipV d) ∧ Below w.heap.size w w') := Lib.hid (fun w => by have := HP.out ⟨c1, l1, v1, ag, c2, o2, v2, pt, dr, mkF (p || k1) (q || k2), ms⟩ w; rw [HT.out]; exact this)
    clear HP HT
    have hs : Hid ((timC tb).size = 7) := Lib.hid rfl
    have HTB : Hid (∀ b w, TimAt b tb w → w.heap[b]? = some (.cells (timC tb) 45 (0, 0))) := Lib.hid (fun _ _ h => h)
    generalize timC tb = tc at HD hs HTB
    have HC : Hid (∃ x, chipV d = .agg x ∧ x.size = 11 ∧ x.toList.all (·.oneCell') = true) := Lib.hid ⟨chipC d, rfl, rfl, rfl⟩
    obtain ⟨x, hx, hxs, hxo⟩ := HC.out
    rw [hx] at HD ⊢
    have HX1 := Lib.hid hxs
    have HX2 := Lib.hid hxo
    clear HC hx hxs hxo
    rw [chipV_mk] at HO HM
    rw [chipV_mk]
    rw [timV_mk] at HM
    simp only [chipV_mk] at HD
    go_enter Try.func10, Try.ntmps10
    go_wp2_with (go_at_call 13; refine (HO.out _).mono ?_; rintro e w1 ⟨rfl, hb⟩; refine Hid.out ?_)
    have K0 := Lib.hid (blk_below (blk_old (blk_new w _)) hb)
    have k1' := blk_below (blk_new _ _) hb
    rw [alloc_size] at k1'
    have K1 := Lib.hid k1'
    have B := Lib.hid (below_then (below_alloc ((Below.refl w.heap.size w).alloc (Nat.le_refl _) _) _) hb)
    clear hb k1' HO
    refine Lib.hid ?_
    go_wp2_with (first
      | (refine load_row rfl 25 (.tmp 1) rfl w.heap.size rfl 11 _ Try.underlying25 rfl hi.out K0.out rfl ?_)
      | (go_at_call 23; (with_reducible refine (HM.out _).mono ?_); rintro e w2 ⟨rfl, hb2⟩; refine Hid.out ?_))
    have hlt : w.heap.size + 1 < w2.heap.size := blk_in (blk_below K1.out hb2)
    have K0 := Lib.hid (blk_old (o := .cells #[.int .i64 c1, .bool v1, .int .i64 l1, .bool ag, .int .i64 c2, .bool v2, .int .i64 o2] 45) (blk_below K0.out hb2))
    have K1 := Lib.hid (blk_old (o := .cells #[.int .i64 c1, .bool v1, .int .i64 l1, .bool ag, .int .i64 c2, .bool v2, .int .i64 o2] 45) (blk_below K1.out hb2))
    have B := Lib.hid (below_alloc (below_then B.out hb2) (.cells #[.int .i64 c1, .bool v1, .int .i64 l1, .bool ag, .int .i64 c2, .bool v2, .int .i64 o2] 45))
    have HF := Lib.hid (HF.out w2.heap.size (w2.alloc (.cells #[.int .i64 c1, .bool v1, .int .i64 l1, .bool ag, .int .i64 c2, .bool v2, .int .i64 o2] 45)) (blk_new _ _))
    clear hb2
    refine Lib.hid ?_
    go_wp2_with (go_at_call 24; (with_reducible refine HF.out.mono ?_); rintro e w3 ⟨rfl, hT, hO⟩; refine Hid.out ?_)
    have K0 := Lib.hid (hO.row (by omega) K0.out)
    have K1 := Lib.hid (hO.row (by omega) K1.out)
    have B := Lib.hid (hO.below (by omega) B.out)
    have HT3 := Lib.hid hT
    clear hT hO
    refine Lib.hid ?_
    cases k1
    all_goals
      cases k2
      all_goals
        have a9 := cell_of_blk (i := 9) (v := .int .i64 (mkF p q)) K0.out rfl
        have zz := fun i => free_of_blk (i := i) K0.out
        go_wp2_with (go_at_call 25; (with_reducible refine (HS.out w2.heap.size _ (by first | exact HT3.out | exact HT3.out.far (by omega))).mono ?_); rintro e w4 ⟨rfl, hT4, hO4⟩; refine Hid.out ?_)
        simp only [Bool.or_true, Bool.or_false] at HD
        clear a9 zz
        first
          | (have K5 := Lib.hid (show w4.heap[w.heap.size]? = some (.cells #[.int .i64 c1, .int .i64 l1, .bool v1, .bool ag, .int .i64 c2, .int .i64 o2, .bool v2, .int .i64 pt, .int .i64 dr, .int .i64 (mkF p q), .int .i64 ms] 25 (0, 0)) from hO4.row (by omega) K0.out)
             have K6 := Lib.hid (hO4.row (by omega) K1.out)
             have B6 := Lib.hid (hO4.below (by omega) B.out))
          | (have K5 := Lib.hid (show w4.heap[w.heap.size]? = some (.cells #[.int .i64 c1, .int .i64 l1, .bool v1, .bool ag, .int .i64 c2, .int .i64 o2, .bool v2, .int .i64 pt, .int .i64 dr, .int .i64 (mkF true q), .int .i64 ms] 25 (0, 0)) from hO4.row (by omega) (tim_set K0.out rfl))
             have K6 := Lib.hid (hO4.row (by omega) (row_far K1.out (by omega)))
             have B6 := Lib.hid (hO4.below (by omega) (below_put B.out (by omega))))
        have K7 := Lib.hid (HTB.out _ _ hT4)
        clear K0 K1 B HT3 hT4 hO4 HF HS HM HTB
        have a9 := cell_of_blk (i := 9) K5.out rfl
        have zz := fun i => free_of_blk (i := i) K5.out
        refine Lib.hid ?_
        go_wp2_with (first
          | (refine load_row rfl 45 (.tmp 3) rfl w2.heap.size rfl 7 _ Try.underlying45 rfl ht.out (by first | exact K7.out | exact row_far K7.out (by omega)) hs.out ?_)
          | (refine load_row rfl 25 (.tmp 1) rfl w.heap.size rfl 11 _ Try.underlying25 rfl hi.out (by first | exact K5.out | exact row_set K5.out) rfl ?_)
          | (go_at_call 26; (with_reducible refine (HD.out _).mono ?_); rintro e w5 ⟨rfl, hb5⟩; refine Hid.out ?_))
        have K8 := Lib.hid (blk_below (show _ = some (.cells #[.int .i64 0, .int .i64 0, .bool false, .bool false, .int .i64 0, .int .i64 0, .bool false, .int .i64 0, .int .i64 0, .int .i64 0, .int .i64 0] 25 (0, 0)) from (by first | exact K6.out | exact row_far K6.out (by omega))) hb5)
        have B8 := Lib.hid (below_then (by first | exact B6.out | exact below_put B6.out (by omega)) hb5)
        clear hb5 K5 K6 K7 B6 a9 zz HD
        refine Lib.hid ?_
        go_wp2_with (refine store_row rfl 25 (.tmp 2) (.tmp 25) rfl (w.heap.size + 1) _ rfl rfl 11 hi.out K8.out HX1.out rfl HX2.out ?_)
        (try simp only [Exit.inBlock, Exit.then])
        refine row_post rfl rfl Try.underlying25 rfl chip_size HX1.out rfl (by exact K8.out) ⟨?_, ?_⟩
        · rfl
        · exact below_row B8.out (by omega)
end Go.Proofs.Ythelaeejgppjhaa
