/-
  The walks of eqStringS, markStringS and heldStringS of the laws: two rows of strings that are alike are told so; a row is marked in its own block alone; a marked row is told to be held.
  Conditions: as told; the counts stay below what an int holds.
-/
import Derived.Test.YtmhlplaglnopfaaDoorStM
import Derived.Deep.QuietTactic
import Derived.BigQuiet
import Derived.Deep.RegionHeld3
import Derived.Laws.AppendOwn
import Derived.Deep.OwnRows
namespace Go.Proofs.YtmhlplaglnopfaaDoor
open Go.RowKit
theorem eq_zero (A B : Option Addr) (ca cb : Nat) (w : World) :
    Calls Tryd.prog 31 #[.slice A 0 ca, .slice B 0 cb] w fun e w' => e = .returned (.bool true) ∧ w = w' := by
  go_enter Tryd.func31, Tryd.ntmps31
  go_wp2
  go_loop [5] (fun v5 => v5 = .int .i64 0) (fun _ => 0)
  case atStart => rfl
  case round =>
    subst hrel
    go_wp2
    go_ret
    exact ⟨rfl, rfl⟩
theorem mark_zero (A : Option Addr) (ca : Nat) (k : Int) (w : World) :
    Calls Tryd.prog 32 #[.slice A 0 ca, .int .i64 k] w fun e w' => e = .returned (.int .i64 k) ∧ w = w' := by
  go_enter Tryd.func32, Tryd.ntmps32
  go_wp2
  go_loop [1, 5] (fun v1 v5 => v1 = .int .i64 k ∧ v5 = .int .i64 0) (fun _ _ => 0)
  case atStart => exact ⟨rfl, rfl⟩
  case round =>
    obtain ⟨rfl, rfl⟩ := hrel
    go_wp2
    go_ret
    exact ⟨rfl, rfl⟩
theorem held_zero (A : Option Addr) (ca : Nat) (k : Int) (w : World) :
    Calls Tryd.prog 33 #[.slice A 0 ca, .int .i64 k] w fun e w' => e = .returned (.int .i64 k) ∧ w = w' := by
  go_enter Tryd.func33, Tryd.ntmps33
  go_wp2
  go_loop [1, 5] (fun v1 v5 => v1 = .int .i64 k ∧ v5 = .int .i64 0) (fun _ _ => 0)
  case atStart => exact ⟨rfl, rfl⟩
  case round =>
    obtain ⟨rfl, rfl⟩ := hrel
    go_wp2
    go_ret
    exact ⟨rfl, rfl⟩
def SameWorld (w : World) (e : Ending) (w' : World) : Prop := e = .returned (.bool true) ∧ ∃ q, w' = w.drewN q
theorem eq_row (b d n ca cb : Nat) (hn : n ≤ maxLen) (w : World) (h : ∀ i, i < n → ∃ x, w.cell? ⟨b, i, none⟩ = some (.string x) ∧ w.cell? ⟨d, i, none⟩ = some (.string x)) :
    Calls Tryd.prog 31 #[.slice (some ⟨b, 0, none⟩) n ca, .slice (some ⟨d, 0, none⟩) n cb] w (SameWorld w) := by
  unfold maxLen at hn
  have H := Lib.hid h
  clear h
  go_enter Tryd.func31, Tryd.ntmps31
  go_wp2
  go_loopw [5] (fun v5 wr => ∃ i q : Nat, i ≤ n ∧ v5 = .int .i64 i ∧ wr = w.drewN q) (fun v5 _ => n - (intOf v5).toNat)
  case atStart => exact ⟨0, 0, by omega, rfl, rfl⟩
  case round =>
    obtain ⟨i, q, hi, rfl, rfl⟩ := hrel
    by_cases hlt : i < n
    · obtain ⟨x, hx, hy⟩ := H.out i hlt
      have h0 : (0 : Int) ≤ (i : Int) := by omega
      have h1 : (i : Int) < (n : Int) := by omega
      go_wp2
      go_quiet (fail)
      go_wp2
      go_roundw
      case rel => exact ⟨i + 1, q + nq, by omega, by go_num, rfl⟩
      case measure => simp [intOf]; omega
    · go_wp2
      go_ret
      exact ⟨rfl, q, rfl⟩

/-- What a walk knows of a row that is marked up to j. -/
def Marked (wr : World) (b size : Nat) (k j : Nat) : Prop := ∃ c : Array Value, wr.heap[b]? = some (.cells c 9 (0, 0)) ∧ c.size = size ∧ ∀ i, i < j → c[i]? = some (.string (mtx (k + i)))
theorem Marked.cell {wr : World} {b size k j : Nat} (h : Marked wr b size k j) (i : Nat) (hi : i < j) : wr.cell? ⟨b, i, none⟩ = some (.string (mtx (k + i))) := by
  obtain ⟨c, hb, _, hc⟩ := h
  simp [World.cell?, hb, hc i hi]
theorem Marked.any {wr : World} {b size k j : Nat} (h : Marked wr b size k j) (i : Nat) (hi : i < size) : ∃ v, wr.cell? ⟨b, i, none⟩ = some v := by
  obtain ⟨c, hb, hs, hc⟩ := h
  exact ⟨c[i]'(by omega), by simp [World.cell?, hb, hs, hi]⟩
theorem Marked.frozen {wr : World} {b size k j : Nat} (h : Marked wr b size k j) (i : Nat) : wr.frozen? ⟨b, i, none⟩ = false := by
  obtain ⟨c, hb, _, _⟩ := h
  simp [World.frozen?, hb]
theorem Marked.lt {wr : World} {b size k j : Nat} (h : Marked wr b size k j) : b < wr.heap.size := by
  obtain ⟨c, hb, _, _⟩ := h
  exact (Array.getElem?_eq_some_iff.1 hb).1
theorem Marked.keep {wr w' : World} {b size k j : Nat} (h : Marked wr b size k j) (e : w'.heap[b]? = wr.heap[b]?) : Marked w' b size k j := by
  obtain ⟨c, hb, hs, hc⟩ := h
  exact ⟨c, e.trans hb, hs, hc⟩
theorem Marked.set {wr : World} {b size k j : Nat} (h : Marked wr b size k j) (hj : j < size) : Marked (wr.setCell ⟨b, j, none⟩ (.string (mtx (k + j)))) b size k (j + 1) := by
  obtain ⟨c, hb, hs, hc⟩ := h
  refine ⟨c.setIfInBounds j (.string (mtx (k + j))), by simp [World.setCell, Array.getElem?_modify, hb], by simpa using hs, fun i hi => ?_⟩
  rw [Array.getElem?_setIfInBounds]
  by_cases e : j = i
  · subst e; simp [hs, hj]
  · rw [if_neg e]; exact hc i (by omega)
def MarkPost (w : World) (b size k n : Nat) (e : Ending) (w' : World) : Prop := e = .returned (.int .i64 (((k + n : Nat) : Int))) ∧ w.grownBy w' (some b) ∧ Marked w' b size k n
theorem grownBy_set {w wr : World} {b : Nat} (h : w.grownBy wr (some b)) (i : Nat) (v : Value) : w.grownBy (wr.setCell ⟨b, i, none⟩ v) (some b) := by
  refine ⟨h.os, h.tape, h.output, by simpa [World.setCell] using h.size, fun g hg hne => ?_⟩
  rw [Below.heap_setCell _ _ _ _ (fun e => hne (by rw [e]))]
  exact h.block g hg hne
theorem grownBy_below {w wr w1 : World} {b : Nat} (h : w.grownBy wr (some b)) (hb : Below wr.heap.size wr w1) : w.grownBy w1 (some b) :=
  ⟨hb.os.trans h.os, hb.tape.trans h.tape, hb.output.trans h.output, Nat.le_trans h.size hb.size, fun g hg hne => (hb.block g (Nat.lt_of_lt_of_le hg h.size)).trans (h.block g hg hne)⟩
set_option maxHeartbeats 400000 in
theorem mark_row (b n ca k : Nat) (cs : Array Value) (hn : n ≤ cs.size) (h1 : 1 ≤ k) (hk : k + n ≤ 4611686018427387904) (w : World) (hb : w.heap[b]? = some (.cells cs 9 (0, 0))) :
    Calls Tryd.prog 32 #[.slice (some ⟨b, 0, none⟩) n ca, .int .i64 k] w (MarkPost w b cs.size k n) := by
  go_enter Tryd.func32, Tryd.ntmps32
  go_wp2
  go_loopw [1, 5] (fun v1 v5 wr => ∃ j : Nat, j ≤ n ∧ v1 = .int .i64 (((k + j : Nat) : Int)) ∧ v5 = .int .i64 j ∧ w.grownBy wr (some b) ∧ Marked wr b cs.size k j) (fun _ v5 _ => n - (intOf v5).toNat)
  case atStart => exact ⟨0, by omega, rfl, rfl, World.grownBy.refl _ _, cs, hb, rfl, fun i hi => absurd hi (by omega)⟩
  case round =>
    obtain ⟨j, hj, rfl, rfl, hg, hM⟩ := hrel
    clear hb
    by_cases hlt : j < n
    · have hT := mark_text (k + j) (by omega) (by omega) wr
      have hS := fun (w1 : World) (hb1 : Below wr.heap.size wr w1) => And.intro (grownBy_below hg hb1) (hM.keep (hb1.block b hM.lt))
      have h0 : (0 : Int) ≤ (j : Int) := by omega
      have h1 : (j : Int) < (n : Int) := by omega
      clear hg hM
      go_wp2_with (go_at_call 50; refine hT.mono ?_; rintro e w1 ⟨rfl, hb1⟩; refine Hid.out ?_)
      obtain ⟨hg1, hM1⟩ := hS w1 hb1
      obtain ⟨v, hv⟩ := hM1.any j (by omega)
      have hf := hM1.frozen j
      clear hS hb1 hT
      have HG := Lib.hid (grownBy_set hg1 j (.string (mtx (k + j))))
      have HM := Lib.hid (hM1.set (by omega : j < cs.size))
      clear hg1 hM1
      refine Lib.hid ?_
      go_wp2
      go_roundw
      case rel => exact ⟨j + 1, by omega, by go_num, by go_num, HG.out, HM.out⟩
      case measure => simp [intOf]; omega
    · obtain rfl : j = n := by omega
      go_wp2
      go_ret
      exact ⟨rfl, hg, hM⟩
theorem held_keep {w W w1 : World} {b j : Nat} {x : Value} (hblt : b < w.heap.size) (h : W.cell? ⟨b, j, none⟩ = some x ∧ Below w.heap.size w W) (hb1 : Below W.heap.size W w1) :
    w1.cell? ⟨b, j, none⟩ = some x ∧ Below w.heap.size w w1 :=
  ⟨(hb1.cell (p := ⟨b, j, none⟩) (Nat.lt_of_lt_of_le hblt h.2.size)).trans h.1, h.2.trans (hb1.mono h.2.size)⟩
def HeldPost (w : World) (k n : Nat) (e : Ending) (w' : World) : Prop := e = .returned (.int .i64 (((k + n : Nat) : Int))) ∧ Below w.heap.size w w'
set_option maxHeartbeats 400000 in
theorem held_row (b n ca k : Nat) (h1 : 1 ≤ k) (hk : k + n ≤ 4611686018427387904) (w : World) (hblt : b < w.heap.size) (h : ∀ i, i < n → w.cell? ⟨b, i, none⟩ = some (.string (mtx (k + i)))) :
    Calls Tryd.prog 33 #[.slice (some ⟨b, 0, none⟩) n ca, .int .i64 k] w (HeldPost w k n) := by
  have H := Lib.hid h
  clear h
  go_enter Tryd.func33, Tryd.ntmps33
  go_wp2
  go_loopw [1, 5] (fun v1 v5 wr => ∃ j : Nat, j ≤ n ∧ v1 = .int .i64 (((k + j : Nat) : Int)) ∧ v5 = .int .i64 j ∧ Below w.heap.size w wr) (fun _ v5 _ => n - (intOf v5).toNat)
  case atStart => exact ⟨0, by omega, rfl, rfl, Below.refl _ _⟩
  case round =>
    obtain ⟨j, hj, rfl, rfl, hb⟩ := hrel
    by_cases hlt : j < n
    · have hc : wr.cell? ⟨b, j, none⟩ = some (.string (mtx (k + j))) := (hb.cell (p := ⟨b, j, none⟩) hblt).trans (H.out j hlt)
      have hT := fun wx => mark_text (k + j) (by omega) (by omega) wx
      have h0 : (0 : Int) ≤ (j : Int) := by omega
      have h1 : (j : Int) < (n : Int) := by omega
      have hbw : b < wr.heap.size := Nat.lt_of_lt_of_le hblt hb.size
      go_wp2
      go_region_held3 (fun w' => w'.cell? ⟨b, j, none⟩ = some (.string (mtx (k + j))) ∧ Below w.heap.size w w')
        (first | exact ⟨hc, hb.drew⟩ | exact held_keep hblt (by assumption) hb1 | go_keep)
        (first | (go_at_call 50; refine (hT _).mono ?_; rintro e w1 ⟨rfl, hb1⟩))
      rename_i hH
      obtain ⟨_, hb2⟩ := hH
      clear hb hb1 hc hT
      go_wp2
      go_roundw
      case rel => exact ⟨j + 1, by omega, by go_num, by go_num, hb2⟩
      case measure => simp [intOf]; omega
    · obtain rfl : j = n := by omega
      go_wp2
      go_ret
      exact ⟨rfl, hb⟩
end Go.Proofs.YtmhlplaglnopfaaDoor
