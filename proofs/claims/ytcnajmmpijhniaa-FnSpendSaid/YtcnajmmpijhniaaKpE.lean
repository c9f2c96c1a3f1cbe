/-
  The walk of impl.Spend (chapter 8).
  Conditions: as each says; each walk leaves old memory as it was.
-/
import Derived.Test.YtcnajmmpijhniaaKpD
namespace Go.Proofs.Ytcnajmmpijhniaa
open Go.RowKit
theorem spend_ways2 {k : KeepI} (hr : k.right) (o : Int) : (o = 0 ∧ { k with wl := k.ws, bl := k.bu } = spendI k o) ∨ (o = 1 ∧ { k with wl := lessI k.wl } = spendI k o) ∨ (o = 2 ∧ { k with bl := lessI k.bl } = spendI k o) ∨ (¬ o = 0 ∧ ¬ o = 1 ∧ ¬ o = 2 ∧ k = spendI k o) := by
  have e : spendI k o = spendR k o := by unfold spendI; rw [(okK_iff k).2 hr]; rfl
  rw [e]
  unfold spendR
  by_cases h0 : o = 0
  · exact .inl ⟨h0, by simp [h0]⟩
  by_cases h1 : o = 1
  · exact .inr (.inl ⟨h1, by simp [h1]⟩)
  by_cases h2 : o = 2
  · exact .inr (.inr (.inl ⟨h2, by simp [h2]⟩))
  exact .inr (.inr (.inr ⟨h0, h1, h2, by simp [h0, h1, h2]⟩))
theorem ask_copy_copy (w : World) : (Instr.typeAssert (.iface 59 (.agg #[])) 51 59 true).run Try.prog w = .ok (.tuple #[.agg #[], .bool true]) w := by kernel_rfl
theorem ask_copy_wait (w : World) : (Instr.typeAssert (.iface 61 (.agg #[])) 51 59 true).run Try.prog w = .ok (.tuple #[.agg #[], .bool false]) w := by kernel_rfl
theorem ask_copy_core (w : World) : (Instr.typeAssert (.iface 62 (.agg #[])) 51 59 true).run Try.prog w = .ok (.tuple #[.agg #[], .bool false]) w := by kernel_rfl
theorem ask_copy_none (w : World) : (Instr.typeAssert .nilIface 51 59 true).run Try.prog w = .ok (.tuple #[.agg #[], .bool false]) w := by kernel_rfl
theorem ask_wait_copy (w : World) : (Instr.typeAssert (.iface 59 (.agg #[])) 51 61 true).run Try.prog w = .ok (.tuple #[.agg #[], .bool false]) w := by kernel_rfl
theorem ask_wait_wait (w : World) : (Instr.typeAssert (.iface 61 (.agg #[])) 51 61 true).run Try.prog w = .ok (.tuple #[.agg #[], .bool true]) w := by kernel_rfl
theorem ask_wait_core (w : World) : (Instr.typeAssert (.iface 62 (.agg #[])) 51 61 true).run Try.prog w = .ok (.tuple #[.agg #[], .bool false]) w := by kernel_rfl
theorem ask_wait_none (w : World) : (Instr.typeAssert .nilIface 51 61 true).run Try.prog w = .ok (.tuple #[.agg #[], .bool false]) w := by kernel_rfl
theorem ask_core_copy (w : World) : (Instr.typeAssert (.iface 59 (.agg #[])) 51 62 true).run Try.prog w = .ok (.tuple #[.agg #[], .bool false]) w := by kernel_rfl
theorem ask_core_wait (w : World) : (Instr.typeAssert (.iface 61 (.agg #[])) 51 62 true).run Try.prog w = .ok (.tuple #[.agg #[], .bool false]) w := by kernel_rfl
theorem ask_core_core (w : World) : (Instr.typeAssert (.iface 62 (.agg #[])) 51 62 true).run Try.prog w = .ok (.tuple #[.agg #[], .bool true]) w := by kernel_rfl
theorem ask_core_none (w : World) : (Instr.typeAssert .nilIface 51 62 true).run Try.prog w = .ok (.tuple #[.agg #[], .bool false]) w := by kernel_rfl
set_option maxRecDepth 100000 in
set_option maxHeartbeats 4000000 in
theorem impl_spend (k : KeepI) (o : Int) (w : World) : Calls Try.prog 19 #[keepV k, .int .i64 o] w fun e w' => e = .returned (keepV (spendI k o)) ∧ Below w.heap.size w w' := by
  have HO := Lib.hid (impl_keeperOk k)
  have hi := Lib.hid keep_size
  cases hok : okK k
  · have HT := Lib.hid (spend_no hok o)
    rw [hok] at HO
    clear hok
    obtain ⟨ws, bu, wl, bl, ad, lf, sm⟩ := k
    rw [keepV_mk] at HO ⊢
    go_enter Try.func19, Try.ntmps19
    go_wp2_with (go_at_call 17; refine (HO.out _).mono ?_; rintro e w1 ⟨rfl, hb⟩; refine Hid.out ?_)
    have k0 := blk_below (blk_old (blk_new w _)) hb
    have k1 := blk_below (blk_new _ _) hb
    rw [alloc_size] at k1
    have K0 := Lib.hid k0
    have K1 := Lib.hid k1
    have B := Lib.hid (below_then (below_alloc ((Below.refl w.heap.size w).alloc (Nat.le_refl _) _) _) hb)
    clear hb k0 k1
    refine Lib.hid ?_
    go_wp2_with (first
      | (refine load_row rfl 25 (.tmp 2) rfl w.heap.size rfl 7 _ Try.underlying25 rfl hi.out (by repeat (first | apply row_set | exact K0.out)) rfl ?_)
      | (refine store_row rfl 25 (.tmp 4) (.tmp 8) rfl (w.heap.size + 1) _ rfl rfl 7 hi.out (by repeat (first | apply row_far (hne := by omega) | exact K1.out)) rfl rfl (by rfl) ?_))
    (try simp only [Exit.inBlock, Exit.then])
    refine row_post rfl rfl Try.underlying25 rfl keep_size rfl rfl (by repeat (first | apply row_far (hne := by omega) | exact K1.out)) ⟨?_, ?_⟩
    · rw [HT.out]
      rfl
    · exact below_row (by repeat (first | apply below_put (hb := by omega) | exact B.out)) (by omega)
  · have hr := (okK_iff k).1 hok
    have hw := spend_ways2 hr o
    generalize hd : spendI k o = d at hw
    clear hd
    rw [hok] at HO
    have r1 := hr.wl
    have r2 := hr.bl
    have r3 := hr.ws
    have r4 := hr.bu
    have r5 := hr.ad
    have r6 := hr.lf
    have r7 := hr.sm
    clear hok hr
    obtain ⟨ws, bu, wl, bl, ad, lf, sm⟩ := k
    simp only [] at hw r1 r2 r3 r4 r5 r6 r7
    rw [keepV_mk] at HO ⊢
    have HF := Lib.hid (owner_of o)
    have HL := Lib.hid (one_less wl (by omega))
    have HM := Lib.hid (one_less bl (by omega))
    unfold ofV at HF
    generalize lessI wl = wl' at *
    generalize lessI bl = bl' at *
    have := ask_copy_copy
    have := ask_copy_wait
    have := ask_copy_core
    have := ask_copy_none
    have := ask_wait_copy
    have := ask_wait_wait
    have := ask_wait_core
    have := ask_wait_none
    have := ask_core_copy
    have := ask_core_wait
    have := ask_core_core
    have := ask_core_none
    rcases hw with ⟨rfl, rfl⟩ | ⟨rfl, rfl⟩ | ⟨rfl, rfl⟩ | ⟨g1, g2, g3, rfl⟩
    all_goals
      simp only [*, reduceIte, show ¬ (0 : Int) = 2 by decide, show ¬ (0 : Int) = 1 by decide, show ¬ (1 : Int) = 2 by decide] at HF
      go_enter Try.func19, Try.ntmps19
      go_wp2_with (go_at_call 17; refine (HO.out _).mono ?_; rintro e w1 ⟨rfl, hb⟩; refine Hid.out ?_)
      have k0 := blk_below (blk_old (blk_new w _)) hb
      have k1 := blk_below (blk_new _ _) hb
      rw [alloc_size] at k1
      have K0 := Lib.hid k0
      have K1 := Lib.hid k1
      have B := Lib.hid (below_then (below_alloc ((Below.refl w.heap.size w).alloc (Nat.le_refl _) _) _) hb)
      clear hb k0 k1
      refine Lib.hid ?_
      go_wp2_with (go_at_call 45; refine (HF.out _).mono ?_; rintro e w2 ⟨rfl, hb⟩; refine Hid.out ?_)
      have k0 := blk_below K0.out hb
      have k1 := blk_below K1.out hb
      have B := Lib.hid (below_then B.out hb)
      have K0 := Lib.hid k0
      have K1 := Lib.hid k1
      have a2 := cell_of_blk (i := 2) k0 rfl
      have a3 := cell_of_blk (i := 3) k0 rfl
      have a4 := cell_of_blk (i := 4) k0 rfl
      have a5 := cell_of_blk (i := 5) k0 rfl
      have a6 := cell_of_blk (i := 6) k0 rfl
      have a0 := cell_of_blk (i := 0) k0 rfl
      have a1 := cell_of_blk (i := 1) k0 rfl
      have hz := fun i => free_of_blk (i := i) k0
      clear hb k0 k1
      clear HF
      refine Lib.hid ?_
      go_wp2_with (first
        | (go_at_call 46; refine (HL.out _).mono ?_; rintro e w3 ⟨rfl, rfl⟩)
        | (go_at_call 46; refine (HM.out _).mono ?_; rintro e w3 ⟨rfl, rfl⟩)
        | (refine load_row rfl 25 (.tmp 2) rfl w.heap.size rfl 7 _ Try.underlying25 rfl hi.out (by repeat (first | apply row_set | exact K0.out)) rfl ?_)
        | (refine store_row rfl 25 (.tmp 4) (.tmp 34) rfl (w.heap.size + 1) _ rfl rfl 7 hi.out (by repeat (first | apply row_far (hne := by omega) | exact K1.out)) rfl rfl (by rfl) ?_))
      (try simp only [Exit.inBlock, Exit.then])
      refine row_post rfl rfl Try.underlying25 rfl keep_size rfl rfl (by repeat (first | apply row_far (hne := by omega) | exact K1.out)) ⟨?_, ?_⟩
      · simp [*, keepV, keepC]
      · exact below_row (by repeat (first | apply below_put (hb := by omega) | exact B.out)) (by omega)
end Go.Proofs.Ytcnajmmpijhniaa
