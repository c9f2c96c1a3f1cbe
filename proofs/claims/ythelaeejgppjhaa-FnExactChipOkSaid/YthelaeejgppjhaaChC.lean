/-
  The walk of spec.TickChip (chapter 6).
  Conditions: the numbers are those of their kind; the walk leaves old memory as it was.
-/
import Derived.Test.YthelaeejgppjhaaChB
import Derived.Deep.CutRange
namespace Go.Proofs.Ythelaeejgppjhaa
open Go.RowKit
theorem tick_no {c : ChipI} (h : okC c = false) : tickI c = c := by unfold tickI; rw [h]; rfl
theorem tick_yes {c : ChipI} (h : okC c = true) : tickI c = tickR c := by unfold tickI; rw [h]; rfl
/-- A right chip behind what its first timer does of a clock; and its second. -/
def tickA (c : ChipI) : ChipI := { c with c1 := if c.c1 = 0 then (if c.ag then c.l1 else 65535) else c.c1 - 1, v1 := if c.c1 = 0 then c.v1 && c.ag else c.v1, fl := mkF (f6 c.fl || (decide (c.c1 = 0) && c.v1)) (f5 c.fl) }
def tickB (c : ChipI) : ChipI := { c with c2 := if c.c2 = 0 then 65535 else c.c2 - 1, v2 := if c.c2 = 0 then false else c.v2, fl := mkF (f6 c.fl) (f5 c.fl || (decide (c.c2 = 0) && c.v2)) }
theorem tick_two (c : ChipI) : tickR c = tickB (tickA c) := by
  unfold tickR tickB tickA
  simp only [f6_mk, f5_mk]
/-- A chip stands in a block, the nought of its kind in another; old memory is as it was. -/
structure ChipRows (W : World) (b r : Nat) (c : ChipI) (w : World) : Prop where
  row : w.heap[b]? = some (.cells (chipC c) 25 (0, 0))
  res : w.heap[r]? = some (.cells zeroC 25 (0, 0))
  old : Below W.heap.size W w
theorem rows_lit {W w : World} {b r : Nat} {c1 l1 : Int} {v1 ag : Bool} {c2 o2 : Int} {v2 : Bool} {pt dr fl ms : Int} (h : ChipRows W b r ⟨c1, l1, v1, ag, c2, o2, v2, pt, dr, fl, ms⟩ w) :
    w.heap[b]? = some (.cells #[.int .i64 c1, .int .i64 l1, .bool v1, .bool ag, .int .i64 c2, .int .i64 o2, .bool v2, .int .i64 pt, .int .i64 dr, .int .i64 fl, .int .i64 ms] 25 (0, 0)) := h.row
theorem res_lit {W w : World} {b r : Nat} {c : ChipI} (h : ChipRows W b r c w) :
    w.heap[r]? = some (.cells #[.int .i64 0, .int .i64 0, .bool false, .bool false, .int .i64 0, .int .i64 0, .bool false, .int .i64 0, .int .i64 0, .int .i64 0, .int .i64 0] 25 (0, 0)) := h.res
set_option maxRecDepth 100000 in
set_option maxHeartbeats 4000000 in
theorem spec_tick (c : ChipI) (hf : c.fits) (w : World) : Calls Try.prog 12 #[chipV c] w fun e w' => e = .returned (chipV (tickI c)) ∧ Below w.heap.size w w' := by
  have HO := Lib.hid (spec_chipOk c hf)
  have hi := Lib.hid chip_size
  cases hok : okC c
  · have HT := Lib.hid (tick_no hok)
    rw [hok] at HO
    clear hok hf
    obtain ⟨c1, l1, v1, ag, c2, o2, v2, pt, dr, fl, ms⟩ := c
    rw [chipV_mk] at HO ⊢
    go_enter Try.func12, Try.ntmps12
    go_wp2_with (go_at_call 14; refine (HO.out _).mono ?_; rintro e w1 ⟨rfl, hb⟩; refine Hid.out ?_)
    have K0 := Lib.hid (blk_below (blk_old (blk_new w _)) hb)
    have k1 := blk_below (blk_new _ _) hb
    rw [alloc_size] at k1
    have K1 := Lib.hid k1
    have B := Lib.hid (below_then (below_alloc ((Below.refl w.heap.size w).alloc (Nat.le_refl _) _) _) hb)
    clear hb k1
    refine Lib.hid ?_
    go_wp2_with (first
      | (refine load_row rfl 25 (.tmp 1) rfl w.heap.size rfl 11 _ Try.underlying25 rfl hi.out K0.out rfl ?_)
      | (refine store_row rfl 25 (.tmp 2) (.tmp 6) rfl (w.heap.size + 1) _ rfl rfl 11 hi.out K1.out rfl rfl (by rfl) ?_))
    exact bodyPost_ret (v := chipV ⟨c1, l1, v1, ag, c2, o2, v2, pt, dr, fl, ms⟩) (results_cell_row rfl _ _ (w.heap.size + 1) _ _ _ _ rfl (setRow_heap _ _ _ _ _ _ K1.out) Try.underlying25 rfl chip_size) rfl ⟨by rw [HT.out], below_row B.out (by omega)⟩
  · have hr := (okC_iff c).1 hok
    have HT := Lib.hid (tick_yes hok)
    rw [hok] at HO
    obtain ⟨p, q, hpq⟩ : ∃ p q, c.fl = mkF p q := ⟨_, _, mk_isF hr.fl⟩
    have r1 := hr.c1
    have r2 := hr.c2
    clear hok hf hr
    obtain ⟨c1, l1, v1, ag, c2, o2, v2, pt, dr, fl, ms⟩ := c
    simp only [] at hpq r1 r2
    subst hpq
    rw [chipV_mk] at HO ⊢
    have e64 := or64_mk
    have e32 := or32_mk
    go_enter Try.func12, Try.ntmps12
    go_wp2_with (go_at_call 14; refine (HO.out _).mono ?_; rintro e w1 ⟨rfl, hb⟩; refine Hid.out ?_)
    have k0 := blk_below (blk_old (blk_new w _)) hb
    have k1 := blk_below (blk_new _ _) hb
    rw [alloc_size] at k1
    have B := below_then (below_alloc ((Below.refl w.heap.size w).alloc (Nat.le_refl _) _) _) hb
    have H0 : Hid (ChipRows w w.heap.size (w.heap.size + 1) ⟨c1, l1, v1, ag, c2, o2, v2, pt, dr, mkF p q, ms⟩ w1) := Lib.hid ⟨k0, k1, B⟩
    have a0 := cell_of_blk (i := 0) k0 rfl
    clear hb k0 k1 B
    refine Lib.hid ?_
    go_upto_if 9 with fail
    go_cut [] from 7 (fun wx => Hid (ChipRows w w.heap.size (w.heap.size + 1) (tickA ⟨c1, l1, v1, ag, c2, o2, v2, pt, dr, mkF p q, ms⟩) wx))
    case first =>
      have s1 : (c1 = 0 ∧ v1 = true ∧ ag = true) ∨ (c1 = 0 ∧ v1 = true ∧ ag = false) ∨ (c1 = 0 ∧ v1 = false ∧ ag = true) ∨ (c1 = 0 ∧ v1 = false ∧ ag = false) ∨ ¬ c1 = 0 := by
        by_cases h : c1 = 0 <;> cases v1 <;> cases ag <;> simp [h]
      clear a0
      rcases s1 with ⟨rfl, rfl, rfl⟩ | ⟨rfl, rfl, rfl⟩ | ⟨rfl, rfl, rfl⟩ | ⟨rfl, rfl, rfl⟩ | g1
      all_goals
        have K0 := Lib.hid (rows_lit H0.out)
        have hz := fun i => free_of_blk (i := i) K0.out
        have a0 := cell_of_blk (i := 0) K0.out rfl
        have a1 := cell_of_blk (i := 1) K0.out rfl
        have a2 := cell_of_blk (i := 2) K0.out rfl
        have a3 := cell_of_blk (i := 3) K0.out rfl
        have a9 := cell_of_blk (i := 9) K0.out rfl
        go_wp2
        go_meet
        case rel =>
          clear hz a0 a1 a2 a3 a9
          refine Lib.hid ⟨?_, by repeat (first | apply row_far (hne := by omega) | exact H0.out.res), by repeat (first | apply below_put (hb := by omega) | exact H0.out.old)⟩
          refine Eq.trans (by repeat (first | apply row_set | exact K0.out)) ?_
          simp [*, chipC, tickA, f6_mk, f5_mk]
    case rest =>
      clear a0 H0
      obtain ⟨d, hd⟩ : ∃ d, d = tickA ⟨c1, l1, v1, ag, c2, o2, v2, pt, dr, mkF p q, ms⟩ := ⟨_, rfl⟩
      rw [← hd] at hcut
      have hfl : ∃ p' q', d.fl = mkF p' q' := by rw [hd]; exact ⟨_, _, rfl⟩
      have h2 : 0 ≤ d.c2 ∧ d.c2 ≤ 65535 := by rw [hd]; exact r2
      have hT := HT.out.trans ((tick_two _).trans (by rw [← hd]))
      have HT := Lib.hid hT
      obtain ⟨p', q', hfl⟩ := hfl
      clear hd hT r1 r2
      obtain ⟨c1', l1', v1', ag', c2', o2', v2', pt', dr', fl', ms'⟩ := d
      simp only [] at hfl h2
      subst hfl
      have s2 : (c2' = 0 ∧ v2' = true) ∨ (c2' = 0 ∧ v2' = false) ∨ ¬ c2' = 0 := by
        by_cases h : c2' = 0 <;> cases v2' <;> simp [h]
      rcases s2 with ⟨rfl, rfl⟩ | ⟨rfl, rfl⟩ | g2
      all_goals
        have K0 := Lib.hid (rows_lit hcut.out)
        have K1 := Lib.hid (res_lit hcut.out)
        have B := Lib.hid hcut.out.old
        have hz := fun i => free_of_blk (i := i) K0.out
        have a4 := cell_of_blk (i := 4) K0.out rfl
        have a6 := cell_of_blk (i := 6) K0.out rfl
        have a9 := cell_of_blk (i := 9) K0.out rfl
        go_wp2_with (first
          | (refine load_row rfl 25 (.tmp 1) rfl w.heap.size rfl 11 _ Try.underlying25 rfl hi.out (by repeat (first | apply row_set | exact K0.out)) rfl ?_)
          | (refine store_row rfl 25 (.tmp 2) (.tmp 48) rfl (w.heap.size + 1) _ rfl rfl 11 hi.out (by repeat (first | apply row_far (hne := by omega) | exact K1.out)) rfl rfl (by rfl) ?_))
        clear hz a4 a6 a9
        (try simp only [Exit.inBlock, Exit.then])
        refine row_post rfl rfl Try.underlying25 rfl chip_size rfl rfl (by repeat (first | apply row_far (hne := by omega) | exact K1.out)) ⟨?_, ?_⟩
        · rw [HT.out]
          simp [*, chipV, chipC, tickB, f6_mk, f5_mk]
        · exact below_row (by repeat (first | apply below_put (hb := by omega) | exact B.out)) (by omega)
end Go.Proofs.Ythelaeejgppjhaa
