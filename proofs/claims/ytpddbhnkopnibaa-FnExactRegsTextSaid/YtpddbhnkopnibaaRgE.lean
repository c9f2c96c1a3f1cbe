/-
  The walks of FlagText of both packages (chapter 3): both give the same eight signs.
  Conditions: none; old memory stays as it was.
-/
import Derived.Test.YtpddbhnkopnibaaRgD
import Derived.Test.YtpddbhnkopnibaaRgB
import Derived.Test.YtpddbhnkopnibaaHxB
import Derived.Lib.SlBytesConst
namespace Go.Proofs.Ytpddbhnkopnibaa
open Go.RowKit Go.Deep Go.WideShapes Go.ChangeShapes
def FRow (wr : World) (b : Nat) (p : Int) (k : Nat) : Prop := ∃ c : Array Value, wr.heap[b]? = some (.cells c 5 (8, 9)) ∧ c.size = 8 ∧ ∀ i, i < 8 → c[i]? = some (.int .u8 ((fCell p k i).toNat : Int))
theorem FRow.cell {wr : World} {b k : Nat} {p : Int} (h : FRow wr b p k) (i : Nat) (hi : i < 8) : wr.cell? ⟨b, i, none⟩ = some (.int .u8 ((fCell p k i).toNat : Int)) := by
  obtain ⟨c, h1, h2, h3⟩ := h
  simp [World.cell?, h1, h3 i hi]
theorem FRow.frozen {wr : World} {b k : Nat} {p : Int} (h : FRow wr b p k) (i : Nat) (hi : i < 8) : wr.frozen? ⟨b, i, none⟩ = false := by
  obtain ⟨c, h1, h2, h3⟩ := h
  simp [World.frozen?, h1]
  omega
theorem FRow.stay {wr : World} {b k : Nat} {p : Int} (h : FRow wr b p k) (ht : tst p (fBit k) = true) : FRow wr b p (k + 1) := by
  obtain ⟨c, h1, h2, h3⟩ := h
  refine ⟨c, h1, h2, fun i hi => ?_⟩
  rw [h3 i hi]
  unfold fCell
  by_cases e : i = k
  · subst e
    rw [if_neg (by omega), if_pos (by omega)]
    unfold fSign
    rw [ht]; rfl
  · by_cases h5 : i < k
    · rw [if_pos h5, if_pos (by omega)]
    · rw [if_neg h5, if_neg (by omega)]
theorem FRow.set {wr : World} {b k : Nat} {p : Int} (h : FRow wr b p k) (hk : k < 8) (ht : tst p (fBit k) = false) : FRow (wr.setCell ⟨b, k, none⟩ (.int .u8 46)) b p (k + 1) := by
  obtain ⟨c, h1, h2, h3⟩ := h
  refine ⟨c.setIfInBounds k (.int .u8 46), by simp [World.setCell, Array.getElem?_modify, h1], by simpa using h2, fun i hi => ?_⟩
  rw [Array.getElem?_setIfInBounds]
  by_cases e : k = i
  · subst e
    rw [if_pos rfl, if_pos (by omega)]
    unfold fCell
    rw [if_pos (by omega)]
    unfold fSign
    rw [ht]; rfl
  · rw [if_neg e, h3 i hi]
    unfold fCell
    by_cases h5 : i < k
    · rw [if_pos h5, if_pos (by omega)]
    · rw [if_neg h5, if_neg (by omega)]
theorem flag_at (k : Nat) (hk : k < 8) (w : World) : Calls Try.prog 38 #[.int .i64 (k : Int)] w fun e w' => e = .returned (.int .u8 (fBit k)) ∧ w = w' := by
  go_enter Try.func38, Try.ntmps38
  go_wp2
  go_ret
  exact ⟨by unfold fBit; simp, rfl⟩
set_option maxRecDepth 100000 in
set_option maxHeartbeats 1000000 in
theorem notes_text (p : Int) (w : World) : Calls Try.prog 33 #[.int .u8 p] w fun e w' => e = .returned (.string ⟨(ftl p).toArray⟩) ∧ Below w.heap.size w w' := by
  have kc := fun (w : World) (C : Array Value) (n c : Nat) => Lib.run_convert_bytes_const (P := Try.prog) w 22 5 C n c Try.underlying22 Try.underlying5
  have HF := Lib.hid flag_at
  have HS := Lib.hid is_set
  go_enter Try.func33, Try.ntmps33
  go_wp2
  clear kc
  go_loopw [9] (fun v9 wr => ∃ k : Nat, k ≤ 8 ∧ v9 = .int .i64 k ∧ FRow wr w.heap.size p k ∧ Below w.heap.size w wr) (fun v9 _ => 8 - (intOf v9).toNat)
  case atStart =>
    have hblk : ∀ o, (w.alloc o).heap[w.heap.size]? = some o := fun o => by show (w.heap.push o)[w.heap.size]? = _; simp
    refine ⟨0, by omega, rfl, ⟨_, hblk _, rfl, fun i hi => ?_⟩, (Below.refl _ _).alloc (Nat.le_refl _) _⟩
    match i, hi with
    | 0, _ => rfl
    | 1, _ => rfl
    | 2, _ => rfl
    | 3, _ => rfl
    | 4, _ => rfl
    | 5, _ => rfl
    | 6, _ => rfl
    | 7, _ => rfl
  case round =>
    obtain ⟨k, hk, rfl, hrow, hb⟩ := hrel
    by_cases hlt : k < 8
    · have hc := hrow.cell k hlt
      have hf := hrow.frozen k hlt
      have h0 : (0 : Int) ≤ (k : Int) := by omega
      have h1 : (k : Int) < 8 := by omega
      cases ht : tst p (fBit k)
      · have hs := HS.out p (fBit k)
        rw [ht] at hs
        have hR := Lib.hid (hrow.set hlt ht)
        have hb2 := Lib.hid (hb.setCell (p := ⟨w.heap.size, k, none⟩) (Nat.le_refl _) (.int .u8 46))
        clear ht hrow
        go_wp2_with (first
          | (go_at_call 38; refine (HF.out k hlt _).mono ?_; rintro e w' ⟨rfl, rfl⟩)
          | (go_at_call 50; refine (hs _).mono ?_; rintro e w' ⟨rfl, rfl⟩))
        go_roundw
        case rel => exact ⟨k + 1, by omega, by go_num, hR.out, hb2.out⟩
        case measure => simp [intOf]; omega
      · have hs := HS.out p (fBit k)
        rw [ht] at hs
        have hR := Lib.hid (hrow.stay ht)
        have hb2 := Lib.hid hb
        clear ht hrow
        go_wp2_with (first
          | (go_at_call 38; refine (HF.out k hlt _).mono ?_; rintro e w' ⟨rfl, rfl⟩)
          | (go_at_call 50; refine (hs _).mono ?_; rintro e w' ⟨rfl, rfl⟩))
        go_roundw
        case rel => exact ⟨k + 1, by omega, by go_num, hR.out, hb2.out⟩
        case measure => simp [intOf]; omega
    · obtain rfl : k = 8 := by omega
      have hcv := run_convert_bytes_back (P := Try.prog) wr 22 9 5 ⟨w.heap.size, 0, none⟩ 8 (ftl p) Try.underlying22 Try.underlying5 Try.underlying9 (fun j hj => by
        rw [ftl_length] at hj
        have := hrow.cell j hj
        have e : fCell p 8 j = (ftl p)[j]'(by rw [ftl_length]; exact hj) := by unfold fCell ftl; rw [if_pos hj]; simp
        rw [e] at this
        rcases Nat.eq_zero_or_pos j with rfl | hpos
        · simpa [Addr.add] using this
        · simpa [Addr.add, Nat.ne_of_gt hpos, List.getElem?_eq_getElem (show j < (ftl p).length by rw [ftl_length]; exact hj)] using this)
      rw [ftl_length] at hcv
      go_wp2
      go_ret
      exact ⟨rfl, hb⟩
theorem impl_flagText (p : Int) (w : World) : Calls Try.prog 13 #[.int .i64 p] w fun e w' => e = .returned (.string ⟨(ftl p).toArray⟩) ∧ Below w.heap.size w w' := by
  have h := notes_text (p % 256)
  rw [ftl_mod] at h
  have HT := Lib.hid h
  clear h
  go_enter Try.func13, Try.ntmps13
  go_wp2_with (go_at_call 33; refine (HT.out _).mono ?_; rintro e w1 ⟨rfl, hb⟩)
  go_ret
  exact ⟨rfl, hb⟩
end Go.Proofs.Ytpddbhnkopnibaa
