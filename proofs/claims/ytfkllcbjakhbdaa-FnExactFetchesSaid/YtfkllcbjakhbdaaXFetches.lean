/-
  For every Core, the law FnExactFetches of the program returns true: impl.Fetches answers as spec.Fetches.
  Conditions: none beyond the row's own (every input that can be read as data; the run starts in any world).
-/
import Derived.Test.YtfkllcbjakhbdaaCrX
import Derived.Test.YtfkllcbjakhbdaaIni
import Derived.Test.YtfkllcbjakhbdaaRows
import Derived.Test.YtfkllcbjakhbdaaChecked
import Derived.WalkKit
import Derived.ProofKit
import Derived.OpenShut
import Derived.Below
import Derived.Test.YtfkllcbjakhbdaaOpN
namespace Go.Proofs.Ytfkllcbjakhbdaa.fnExactFetches
open Go.ChangeShapes Go.WideShapes Go.ChangeAt Go.RowKit
open Go.ChangeMaps (open_string shut_string)
set_option linter.unusedVariables false
theorem own : ownKnob Try.prog.godebug = none := by kernel_rfl
theorem laidOut : laidOutB Try.prog = true := by kernel_rfl
set_option maxRecDepth 100000 in
theorem lifted (os : Os) (started : os.Started) (H : Type) (enc : TypeId × Value → H) :
    ReturnsInHanded {} Try.checked os 5 .any (Rows.fnExactFetchesSpec.pre6 enc Try.prog Try.f5 Rows.fnExactFetchesRow.domain false) (Rows.fnExactFetchesSpec.post enc Try.prog Try.f5 false true false false) := by
  refine returnsInHanded_of_change (C := Try.checked) own started (by kernel_rfl) Try.func5
    (ChangeSpec.witness6 (enc := enc) (C := Try.checked) false ⟨#[], #[.agg #[.int .i64 0, .int .i64 0, .int .i64 0, .int .i64 0, .int .i64 0, .int .i64 0, .int .i64 0, .int .i64 0, .int .i64 0, .int .i64 0, .int .i64 0, .int .i64 0, .bool false, .int .i64 0, .bool false]], []⟩ 8 (by kernel_rfl) (by kernel_rfl) (by kernel_rfl) (by kernel_rfl)) ?_
  intro W base args ds gs before hval0 hW hcnd _
  have hval : ∀ (j : Nat) t v, Try.f5.params[j]? = some t → args[j]? = some v → Value.okWide Try.prog W .any base t v := hval0
  have hW' := hW
  obtain ⟨p, q, hA0, hV, rfl, hfz, hnd⟩ := hW
  have hA : DataW.TrodAll enc Try.prog W 0 (fun _ => true) true Try.f5.params.toList args.toList ds p := hA0
  rw [Try.params5] at hA hval
  obtain ⟨v0, d0, rfl, rfl, h0⟩ := trodAll_one hA
  obtain ⟨rfl, rfl⟩ := trodVars_none hV
  have k0 := h0
  have lt0 : ∀ x ∈ p, x.block < W.heap.size := by obtain ⟨m, hm⟩ := k0; exact DataW.trod_lt m _ _ _ hm
  obtain ⟨cs0, rfl, sz0, hf0⟩ := open_nest (m := 15) Try.underlying25 (by kernel_rfl) (hval 0 25 v0 rfl rfl) h0
  have g0_0 := nest_at (o := 0) Try.underlying23 (by kernel_rfl) (by kernel_rfl) (hf0 0 _ rfl)
  obtain ⟨a0_0, e0_0⟩ := int_leaf (i := 0) Try.underlying3 (g0_0 0 _ rfl)
  obtain ⟨a0_1, e0_1⟩ := int_leaf (i := 1) Try.underlying3 (g0_0 1 _ rfl)
  obtain ⟨a0_2, e0_2⟩ := int_leaf (i := 2) Try.underlying3 (g0_0 2 _ rfl)
  obtain ⟨a0_3, e0_3⟩ := int_leaf (i := 3) Try.underlying3 (g0_0 3 _ rfl)
  obtain ⟨a0_4, e0_4⟩ := int_leaf (i := 4) Try.underlying3 (g0_0 4 _ rfl)
  obtain ⟨a0_5, e0_5⟩ := int_leaf (i := 5) Try.underlying3 (g0_0 5 _ rfl)
  clear g0_0
  obtain ⟨a0_6, e0_6⟩ := int_leaf (i := 6) Try.underlying3 (one_at (o := 6) (by kernel_rfl) (by omega) (hf0 1 _ rfl))
  obtain ⟨a0_7, e0_7⟩ := int_leaf (i := 7) Try.underlying3 (one_at (o := 7) (by kernel_rfl) (by omega) (hf0 2 _ rfl))
  obtain ⟨a0_8, e0_8⟩ := int_leaf (i := 8) Try.underlying3 (one_at (o := 8) (by kernel_rfl) (by omega) (hf0 3 _ rfl))
  obtain ⟨a0_9, e0_9⟩ := int_leaf (i := 9) Try.underlying3 (one_at (o := 9) (by kernel_rfl) (by omega) (hf0 4 _ rfl))
  obtain ⟨a0_10, e0_10⟩ := int_leaf (i := 10) Try.underlying3 (one_at (o := 10) (by kernel_rfl) (by omega) (hf0 5 _ rfl))
  obtain ⟨a0_11, e0_11⟩ := int_leaf (i := 11) Try.underlying3 (one_at (o := 11) (by kernel_rfl) (by omega) (hf0 6 _ rfl))
  obtain ⟨a0_12, e0_12⟩ := bool_leaf (i := 12) Try.underlying4 (one_at (o := 12) (by kernel_rfl) (by omega) (hf0 7 _ rfl))
  obtain ⟨a0_13, e0_13⟩ := int_leaf (i := 13) Try.underlying3 (one_at (o := 13) (by kernel_rfl) (by omega) (hf0 8 _ rfl))
  obtain ⟨a0_14, e0_14⟩ := bool_leaf (i := 14) Try.underlying4 (one_at (o := 14) (by kernel_rfl) (by omega) (hf0 9 _ rfl))
  obtain rfl : cs0 = #[.int .i64 a0_0, .int .i64 a0_1, .int .i64 a0_2, .int .i64 a0_3, .int .i64 a0_4, .int .i64 a0_5, .int .i64 a0_6, .int .i64 a0_7, .int .i64 a0_8, .int .i64 a0_9, .int .i64 a0_10, .int .i64 a0_11, .bool a0_12, .int .i64 a0_13, .bool a0_14] := arr_of (l := [.int .i64 a0_0, .int .i64 a0_1, .int .i64 a0_2, .int .i64 a0_3, .int .i64 a0_4, .int .i64 a0_5, .int .i64 a0_6, .int .i64 a0_7, .int .i64 a0_8, .int .i64 a0_9, .int .i64 a0_10, .int .i64 a0_11, .bool a0_12, .int .i64 a0_13, .bool a0_14]) sz0 ⟨e0_0, e0_1, e0_2, e0_3, e0_4, e0_5, e0_6, e0_7, e0_8, e0_9, e0_10, e0_11, e0_12, e0_13, e0_14, trivial⟩
  clear hf0 sz0 e0_0 e0_1 e0_2 e0_3 e0_4 e0_5 e0_6 e0_7 e0_8 e0_9 e0_10 e0_11 e0_12 e0_13 e0_14
  clear hA0 hval0
  simp only [List.append_nil] at hW'
  refine (law_fetches a0_0 a0_1 a0_2 a0_3 a0_4 a0_5 a0_6 a0_7 a0_8 a0_9 a0_10 a0_11 a0_12 a0_13 a0_14 W).mono fun e W' ⟨he, hb⟩ => ?_
  subst he
  exact ⟨_, rfl, _, _, _, [], _, [], hW', trodAll_mk1 (shut_bool Try.underlying4 _), (trodAll_cons_mk (Below.trod laidOut (by kernel_rfl) (of_decide_eq_true (by kernel_rfl)) k0 hb lt0) trodAll_mk0), rfl, hb.frame _, fun h => by cases h⟩
theorem facts : joinedFacts Try.prog 5 Try.f5 Rows.fnExactFetchesSpec Rows.fnExactFetchesRow = true := by
  unfold joinedFacts
  rw [may_enter, lifts_final, make_is]
  kernel_rfl
theorem over : Rows.fnExactFetchesRow.holds Try.pinned (OpenSpec.ofChange Rows.fnExactFetchesSpec) :=
  OpenClaim.holds_of_wide 5 Try.f5 rfl rfl rfl rfl rfl rfl rfl ⟨rfl, rfl, rfl, rfl, rfl⟩ rfl rfl rfl rfl rfl (by kernel_rfl) Try.func5 facts
    (of_decide_eq_true (by kernel_rfl)) (by unfold Func.isWrapper; first | (rw [if_pos (by decide +kernel)]; kernel_rfl) | (rw [if_neg (by decide +kernel)]; exact ⟨rfl, rfl⟩))
    (fun os started H enc _ => lifted os started H enc)
theorem fnExactFetches_holds : Rows.FnExactFetchesSaid :=
  over
#print axioms fnExactFetches_holds
end Go.Proofs.Ytfkllcbjakhbdaa.fnExactFetches
