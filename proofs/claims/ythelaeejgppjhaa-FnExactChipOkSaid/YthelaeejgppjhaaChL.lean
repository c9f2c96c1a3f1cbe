/-
  Contracts of the program's timers (chapter 6): their clocks, and their start.
  Conditions: the timers stand in a block; nothing but that block changes.
-/
import Derived.Test.YthelaeejgppjhaaChK
namespace Go.Proofs.Ythelaeejgppjhaa
open Go.RowKit
/-- Nothing has changed but one block. -/
structure Only (b : Nat) (w w' : World) : Prop where
  os : w'.os = w.os
  tape : w'.tape = w.tape
  output : w'.output = w.output
  size : w'.heap.size = w.heap.size
  block : ∀ k, k ≠ b → w'.heap[k]? = w.heap[k]?
theorem Only.refl (b : Nat) (w : World) : Only b w w := ⟨rfl, rfl, rfl, rfl, fun _ _ => rfl⟩
theorem Only.put {b : Nat} {w w' : World} (h : Only b w w') (i : Nat) (v : Value) : Only b w (w'.setCell ⟨b, i, none⟩ v) :=
  ⟨h.os, h.tape, h.output, by rw [show (w'.setCell ⟨b, i, none⟩ v).heap.size = w'.heap.size by simp [World.setCell]]; exact h.size, fun k hk => (Below.heap_setCell w' ⟨b, i, none⟩ v k hk).trans (h.block k hk)⟩
theorem Only.row {b k : Nat} {w w' : World} {x : Obj} (h : Only b w w') (hk : k ≠ b) (hx : w.heap[k]? = some x) : w'.heap[k]? = some x := (h.block k hk).trans hx
theorem Only.below {B b : Nat} {w w1 w2 : World} (h : Only b w1 w2) (hb : B ≤ b) (hw : Below B w w1) : Below B w w2 :=
  ⟨h.os.trans hw.os, h.tape.trans hw.tape, h.output.trans hw.output, by rw [h.size]; exact hw.size, fun k hk => (h.block k (by omega)).trans (hw.block k hk)⟩
/-- A chip's timers stand in a block. -/
def TimAt (b : Nat) (c : ChipI) (w : World) : Prop := w.heap[b]? = some (.cells (timC c) 45 (0, 0))
theorem timer_tick_up (b o : Nat) (n : Int) (w : World) (h0 : 0 < n) (h1 : n ≤ 65535) (hn : w.cell? ⟨b, o, none⟩ = some (.int .i64 n)) (hf : w.frozen? ⟨b, o, none⟩ = false) :
    Calls Try.prog 25 #[.pointer (some ⟨b, o, none⟩)] w fun e w' => e = .returned (.bool false) ∧ w.setCell ⟨b, o, none⟩ (.int .i64 (n - 1)) = w' := by
  go_enter Try.func25, Try.ntmps25
  go_wp2
  go_ret
  exact ⟨rfl, rfl⟩
theorem timer_tick_nought (b o : Nat) (v : Bool) (w : World) (hn : w.cell? ⟨b, o, none⟩ = some (.int .i64 0)) (hf : w.frozen? ⟨b, o, none⟩ = false) (hv : w.cell? ⟨b, o + 1, none⟩ = some (.bool v)) (hg : w.frozen? ⟨b, o + 1, none⟩ = false) :
    Calls Try.prog 25 #[.pointer (some ⟨b, o, none⟩)] w fun e w' => e = .returned (.bool v) ∧ (w.setCell ⟨b, o, none⟩ (.int .i64 65535)).setCell ⟨b, o + 1, none⟩ (.bool false) = w' := by
  go_enter Try.func25, Try.ntmps25
  go_wp2
  go_ret
  exact ⟨rfl, rfl⟩
theorem timer_start (b o : Nat) (n m : Int) (v : Bool) (w : World) (hn : w.cell? ⟨b, o, none⟩ = some (.int .i64 m)) (hf : w.frozen? ⟨b, o, none⟩ = false) (hv : w.cell? ⟨b, o + 1, none⟩ = some (.bool v)) (hg : w.frozen? ⟨b, o + 1, none⟩ = false) :
    Calls Try.prog 33 #[.pointer (some ⟨b, o, none⟩), .int .i64 n] w fun e w' => e = .returned (.tuple #[]) ∧ (w.setCell ⟨b, o, none⟩ (.int .i64 n)).setCell ⟨b, o + 1, none⟩ (.bool true) = w' := by
  go_enter Try.func33, Try.ntmps33
  go_wp2
  go_end0
  exact ⟨rfl, rfl⟩
theorem TimAt.far {b k i : Nat} {c : ChipI} {w : World} {v : Value} (h : TimAt b c w) (hne : b ≠ k) : TimAt b c (w.setCell ⟨k, i, none⟩ v) := row_far h hne
theorem blk_in {w : World} {B : Nat} {o : Obj} (h : w.heap[B]? = some o) : B < w.heap.size := (Array.getElem?_eq_some_iff.1 h).1
theorem tim_set {b i : Nat} {w : World} {cs ds : Array Value} {t : TypeId} {v : Value} (h : w.heap[b]? = some (.cells cs t (0, 0))) (e : cs.setIfInBounds i v = ds) : (w.setCell ⟨b, i, none⟩ v).heap[b]? = some (.cells ds t (0, 0)) := by
  rw [← e]
  exact row_set h
set_option maxHeartbeats 1000000 in
theorem second_tick (b : Nat) (c : ChipI) (h0 : 0 ≤ c.c2 ∧ c.c2 ≤ 65535) (w : World) (h : TimAt b c w) :
    Calls Try.prog 25 #[.pointer (some ⟨b, 4, none⟩)] w fun e w' => e = .returned (.bool (decide (c.c2 = 0) && c.v2)) ∧ TimAt b (tickB c) w' ∧ Only b w w' := by
  have a4 := cell_of_blk (i := 4) (v := .int .i64 c.c2) h rfl
  have a5 := cell_of_blk (i := 5) (v := .bool c.v2) h rfl
  by_cases hz : c.c2 = 0
  · rw [hz] at a4
    refine (timer_tick_nought b 4 c.v2 w a4 (free_of_blk h) a5 (free_of_blk h)).mono ?_
    rintro e w' ⟨rfl, rfl⟩
    refine ⟨by simp [hz], ?_, ((Only.refl b w).put 4 _).put 5 _⟩
    refine tim_set (tim_set h rfl) ?_
    simp [timC, tickB, hz]
  · refine (timer_tick_up b 4 c.c2 w (by omega) h0.2 a4 (free_of_blk h)).mono ?_
    rintro e w' ⟨rfl, rfl⟩
    refine ⟨by simp [hz], ?_, (Only.refl b w).put 4 _⟩
    refine tim_set h ?_
    simp [timC, tickB, hz]
set_option maxHeartbeats 1000000 in
theorem first_tick (b : Nat) (c : ChipI) (h0 : 0 ≤ c.c1 ∧ c.c1 ≤ 65535) (w : World) (h : TimAt b c w) :
    Calls Try.prog 24 #[.pointer (some ⟨b, 0, none⟩)] w fun e w' => e = .returned (.bool (decide (c.c1 = 0) && c.v1)) ∧ TimAt b (tickA c) w' ∧ Only b w w' := by
  have HA : Hid (timC (tickA c) = #[.int .i64 (if c.c1 = 0 then (if c.ag then c.l1 else 65535) else c.c1 - 1), .bool (if c.c1 = 0 then c.v1 && c.ag else c.v1), .int .i64 c.l1, .bool c.ag, .int .i64 c.c2, .bool c.v2, .int .i64 c.o2]) := Lib.hid rfl
  have HH := Lib.hid h
  have a0 := cell_of_blk (i := 0) (v := .int .i64 c.c1) h rfl
  have a1 := cell_of_blk (i := 1) (v := .bool c.v1) h rfl
  have a2 := cell_of_blk (i := 2) (v := .int .i64 c.l1) h rfl
  have a3 := cell_of_blk (i := 3) (v := .bool c.ag) h rfl
  have f0 : w.frozen? ⟨b, 0, none⟩ = false := free_of_blk h
  have f1 : w.frozen? ⟨b, 1, none⟩ = false := free_of_blk h
  clear h
  unfold TimAt
  obtain ⟨c1, l1, v1, ag, c2, o2, v2, pt, dr, fl, ms⟩ := c
  simp only [] at a0 a1 a2 a3 h0 HA ⊢
  cases ag
  · by_cases hz : c1 = 0
    · subst hz
      have HT := Lib.hid (timer_tick_nought b 0 v1 w a0 f0 a1 f1)
      go_enter Try.func24, Try.ntmps24
      go_wp2_with (go_at_call 25; (with_reducible refine HT.out.mono ?_); rintro e w2 ⟨rfl, rfl⟩)
      go_ret
      refine ⟨by simp, ?_, ((Only.refl b w).put 0 _).put 1 _⟩
      refine tim_set (tim_set HH.out rfl) ?_
      rw [HA.out]
      simp [timC]
    · have hp : 0 < c1 := by omega
      have HT := Lib.hid (timer_tick_up b 0 c1 w hp h0.2 a0 f0)
      go_enter Try.func24, Try.ntmps24
      go_wp2_with (go_at_call 25; (with_reducible refine HT.out.mono ?_); rintro e w2 ⟨rfl, rfl⟩)
      go_ret
      refine ⟨by simp [hz], ?_, (Only.refl b w).put 0 _⟩
      refine tim_set HH.out ?_
      rw [HA.out]
      simp [timC, hz]
  · by_cases hz : c1 = 0
    · subst hz
      go_enter Try.func24, Try.ntmps24
      go_wp2
      go_ret
      refine ⟨by simp, ?_, (Only.refl b w).put 0 _⟩
      refine tim_set HH.out ?_
      rw [HA.out]
      simp [timC]
    · have hp : 0 < c1 := by omega
      have HT := Lib.hid (timer_tick_up b 0 c1 w hp h0.2 a0 f0)
      go_enter Try.func24, Try.ntmps24
      go_wp2_with (go_at_call 25; (with_reducible refine HT.out.mono ?_); rintro e w2 ⟨rfl, rfl⟩)
      go_ret
      refine ⟨by simp [hz], ?_, (Only.refl b w).put 0 _⟩
      refine tim_set HH.out ?_
      rw [HA.out]
      simp [timC, hz]
end Go.Proofs.Ythelaeejgppjhaa
