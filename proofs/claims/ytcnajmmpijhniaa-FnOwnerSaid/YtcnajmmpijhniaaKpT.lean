/-
  The program's owners by their numbers, and one less (chapter 8).
  Conditions: as each says; each walk leaves old memory as it was.
-/
import Derived.Test.YtcnajmmpijhniaaKpC
namespace Go.Proofs.Ytcnajmmpijhniaa
open Go.RowKit
/-- The owner of a number, behind the interface; none of another one. -/
def ofV (o : Int) : Value := if o = 2 then .iface 59 (.agg #[]) else if o = 1 then .iface 61 (.agg #[]) else if o = 0 then .iface 62 (.agg #[]) else .nilIface
theorem one_less (n : Int) (h : 0 ≤ n ∧ n ≤ 8) (w : World) : Calls Try.prog 46 #[.int .i64 n] w fun e w' => e = .returned (.int .i64 (lessI n)) ∧ w = w' := by
  unfold lessI
  by_cases h0 : n = 0
  all_goals
    go_enter Try.func46, Try.ntmps46
    go_wp2
    go_ret
    exact ⟨by simp [*], rfl⟩
def owner3 : Value := .agg #[.iface 62 (.agg #[]), .iface 61 (.agg #[]), .iface 59 (.agg #[])]
theorem pick_core (w : World) : (Instr.index 71 owner3 (.int .i64 0)).run Try.prog w = .ok (.iface 62 (.agg #[])) w := by
  simp [owner3, Instr.index, run_underlying Try.underlying71, asIntOf, go_sem]
theorem pick_wait (w : World) : (Instr.index 71 owner3 (.int .i64 1)).run Try.prog w = .ok (.iface 61 (.agg #[])) w := by
  simp [owner3, Instr.index, run_underlying Try.underlying71, asIntOf, go_sem]
theorem pick_copy (w : World) : (Instr.index 71 owner3 (.int .i64 2)).run Try.prog w = .ok (.iface 59 (.agg #[])) w := by
  simp [owner3, Instr.index, run_underlying Try.underlying71, asIntOf, go_sem]
set_option maxHeartbeats 4000000 in
theorem owner_of (o : Int) (w : World) : Calls Try.prog 45 #[.int .i64 o] w fun e w' => e = .returned (ofV o) ∧ Below w.heap.size w w' := by
  have H0 := Lib.hid core_number
  have H1 := Lib.hid wait_number
  have H2 := Lib.hid copy_number
  have p0 := pick_core
  have p1 := pick_wait
  have p2 := pick_copy
  unfold owner3 at p0 p1 p2
  unfold ofV
  have h : o = 0 ∨ o = 1 ∨ o = 2 ∨ (¬ 0 = o ∧ ¬ 1 = o ∧ ¬ 2 = o) := by omega
  rcases h with rfl | rfl | rfl | ⟨h0, h1, h2⟩
  all_goals
    go_enter Try.func45, Try.ntmps45
    go_wp2_with fail
    refine wp_loop_rounds 4 ?_
  all_goals
    rw [rounds_succ]
    go_wp2_with (first
      | (go_at_call 75; refine (H0.out _).mono ?_; rintro e w2 ⟨rfl, hb2⟩)
      | (go_at_call 74; refine (H1.out _).mono ?_; rintro e w3 ⟨rfl, hb3⟩)
      | (go_at_call 73; refine (H2.out _).mono ?_; rintro e w4 ⟨rfl, hb4⟩))
  · go_ret
    exact ⟨rfl, hb2⟩
  all_goals
    rw [rounds_succ]
    go_wp2_with (first
      | (go_at_call 75; refine (H0.out _).mono ?_; rintro e w2 ⟨rfl, hb2⟩)
      | (go_at_call 74; refine (H1.out _).mono ?_; rintro e w3 ⟨rfl, hb3⟩)
      | (go_at_call 73; refine (H2.out _).mono ?_; rintro e w4 ⟨rfl, hb4⟩))
  · go_ret
    exact ⟨rfl, below_then hb2 hb3⟩
  all_goals
    rw [rounds_succ]
    go_wp2_with (first
      | (go_at_call 75; refine (H0.out _).mono ?_; rintro e w2 ⟨rfl, hb2⟩)
      | (go_at_call 74; refine (H1.out _).mono ?_; rintro e w3 ⟨rfl, hb3⟩)
      | (go_at_call 73; refine (H2.out _).mono ?_; rintro e w4 ⟨rfl, hb4⟩))
  · go_ret
    exact ⟨rfl, below_then (below_then hb2 hb3) hb4⟩
  rw [rounds_succ]
  go_wp2_with fail
  go_ret
  exact ⟨rfl, below_then (below_then hb2 hb3) hb4⟩
end Go.Proofs.Ytcnajmmpijhniaa
