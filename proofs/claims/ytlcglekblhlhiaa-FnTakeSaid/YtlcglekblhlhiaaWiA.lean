/-
  Contracts of the model's functions on wires (chapter 7), and of the program's Vector and Taken.
  Conditions: none; old memory stays as it was.
-/
import Derived.Test.YtlcglekblhlhiaaAlA
import Derived.Test.YtlcglekblhlhiaaBel
namespace Go.Proofs.Ytlcglekblhlhiaa
open Go.RowKit
def wiresV (n e i : Bool) : Value := .agg #[.bool n, .bool e, .bool i]
theorem wiresV_mk (n e i : Bool) : wiresV n e i = .agg #[.bool n, .bool e, .bool i] := rfl
theorem wires_size : (Try.prog.info? 25).map (·.size) = some 3 := by kernel_rfl
/-- Whether a fall is noted behind a sensing. -/
def senseE (n e nmi : Bool) : Bool := e || (nmi && !n)
/-- What is taken. -/
def takeN (e i : Bool) (p : Int) : Int := if e then 2 else if i && !(tst p 4) then 1 else 0
/-- Whither it leads. -/
def vecN (t : Int) : Int := if t = 2 then 65530 else if t = 3 then 65532 else 65534
theorem spec_vector (t : Int) (w : World) : Calls Try.prog 21 #[.int .i64 t] w fun e w' => e = .returned (.int .i64 (vecN t)) ∧ w = w' := by
  unfold vecN
  go_enter Try.func21, Try.ntmps21
  go_wp2
  all_goals go_ret
  all_goals (refine ⟨?_, rfl⟩; simp_all)
theorem impl_vector (t : Int) (w : World) : Calls Try.prog 20 #[.int .i64 t] w fun e w' => e = .returned (.int .i64 (vecN t)) ∧ w = w' := by
  unfold vecN
  go_enter Try.func20, Try.ntmps20
  go_wp2
  all_goals go_ret
  all_goals (refine ⟨?_, rfl⟩; simp_all)
theorem spec_taken (n e i : Bool) (w : World) : Calls Try.prog 19 #[wiresV n e i] w fun er w' => er = .returned (wiresV n false i) ∧ Below w.heap.size w w' := by
  rw [wiresV_mk]
  go_enter Try.func19, Try.ntmps19
  go_wp2
  exact bodyPost_ret (v := wiresV n false i) (by simp [results, Try.results19, go_sem, wiresV_mk]) rfl ⟨rfl, below_alloc (below_alloc (Below.refl _ _) _) _⟩
theorem impl_taken (n e i : Bool) (w : World) : Calls Try.prog 18 #[wiresV n e i] w fun er w' => er = .returned (wiresV n false i) ∧ Below w.heap.size w w' := by
  rw [wiresV_mk]
  go_enter Try.func18, Try.ntmps18
  go_wp2
  exact bodyPost_ret (v := wiresV n false i) (by simp [results, Try.results18, go_sem, wiresV_mk]) rfl ⟨rfl, below_alloc (below_alloc (Below.refl _ _) _) _⟩
theorem spec_sense (n e i nmi irq : Bool) (w : World) : Calls Try.prog 15 #[wiresV n e i, .bool nmi, .bool irq] w fun er w' => er = .returned (wiresV nmi (senseE n e nmi) irq) ∧ Below w.heap.size w w' := by
  rw [wiresV_mk]
  cases e <;> cases nmi
  all_goals
    go_enter Try.func15, Try.ntmps15
    go_wp2
    refine bodyPost_ret (v := wiresV _ (senseE n _ _) irq) (by simp [results, Try.results15, go_sem, wiresV_mk, senseE]) rfl ⟨rfl, below_alloc (below_alloc (Below.refl _ _) _) _⟩
theorem spec_take (n e i : Bool) (p : Int) (w : World) : Calls Try.prog 17 #[wiresV n e i, .int .i64 p] w fun er w' => er = .returned (.int .i64 (takeN e i p)) ∧ Below w.heap.size w w' := by
  have H := tst_i64 p 4 (by omega)
  rw [wiresV_mk]
  cases e <;> cases i
  case false.true =>
    by_cases hb : bits .and .i64 p 4 = 0
    all_goals
      have HT : Hid (takeN false true p = if bits .and .i64 p 4 = 0 then 1 else 0) := Lib.hid (by unfold takeN; rw [← H]; simp [hb])
      clear H
      go_enter Try.func17, Try.ntmps17
      go_wp2
      go_ret
      refine ⟨?_, below_alloc (Below.refl _ _) _⟩
      rw [HT.out]
      simp [hb]
  all_goals
    clear H
    go_enter Try.func17, Try.ntmps17
    go_wp2
    go_ret
    exact ⟨rfl, below_alloc (Below.refl _ _) _⟩
end Go.Proofs.Ytlcglekblhlhiaa
