/-
  The walk of the law FnExactClocks: the program's Clocks answers as the model's.
  Conditions: as each says; each walk leaves old memory as it was.
-/
import Derived.Test.YtfkllcbjakhbdaaWpD
namespace Go.Proofs.Ytfkllcbjakhbdaa
open Go.RowKit
/-- For each of the 256 bytes the program and the model reckon the same clocks. -/
def clkSame (m : Nat) : Bool := [true, false].all fun c => [true, false].all fun t => clkS (opOf m).2 (kindI (opOf m).1 (opOf m).2) (ownS (opOf m).1 (opOf m).2 c t) c == clkP (opOf m).2 (kindI (opOf m).1 (opOf m).2) (ownCI (opOf m).1 (opOf m).2) (modeCI (opOf m).2) c t
theorem clk_all : ∀ m : Fin 256, clkSame m.val = true := by decide +kernel
theorem clk_same (n : Int) (c t : Bool) : clkS (opOf n).2 (kindI (opOf n).1 (opOf n).2) (ownS (opOf n).1 (opOf n).2 c t) c = clkP (opOf n).2 (kindI (opOf n).1 (opOf n).2) (ownCI (opOf n).1 (opOf n).2) (modeCI (opOf n).2) c t := by
  have h := clk_all ⟨(n % 256).toNat, by omega⟩
  have e : opOf n = opOf (((n % 256).toNat : Nat) : Int) := by
    have : (((n % 256).toNat : Nat) : Int) % 256 = n % 256 := by omega
    unfold opOf
    rw [this]
  unfold clkSame at h
  simp only [List.all_cons, List.all_nil, Bool.and_true, Bool.and_eq_true, beq_iff_eq] at h
  rw [e]
  cases c <;> cases t
  · exact h.2.2
  · exact h.2.1
  · exact h.1.2
  · exact h.1.1
theorem exact_clocks (n : Int) (cross taken : Bool) (w : World) : Calls Try.prog 8 #[.int .i64 n, .bool cross, .bool taken] w fun e w' => e = .returned (.bool true) ∧ Below w.heap.size w w' := by
  have HS := spec_clocks n cross taken
  have HI := impl_clocks n cross taken
  rw [clk_same] at HS
  generalize clkP _ _ _ _ _ _ = c at *
  replace HS := Lib.hid HS
  replace HI := Lib.hid HI
  go_enter Try.func8, Try.ntmps8
  go_wp2_with (first
    | (go_at_call 27; refine (HS.out _).mono ?_; rintro e w1 ⟨rfl, hb1⟩)
    | (go_at_call 28; refine (HI.out _).mono ?_; rintro e w2 ⟨rfl, hb2⟩))
  go_ret
  exact ⟨rfl, below_then hb1 hb2⟩
end Go.Proofs.Ytfkllcbjakhbdaa
