/-
  For every Board, the law FnExactBoardOk of the program returns true: impl.BoardOk answers as spec.BoardOk (for a Board that holds more than 1048576 bytes the law itself asks nothing).
  Conditions: none beyond the row's own (every input that can be read as data; the run starts in any world).
-/
import Derived.Test.YtgpcmekcdgboeaaBdX
import Derived.Test.YtgpcmekcdgboeaaIni
import Derived.Test.YtgpcmekcdgboeaaRows
import Derived.Test.YtgpcmekcdgboeaaChecked
import Derived.WalkKit
import Derived.ProofKit
import Derived.OpenShut
import Derived.Below
import Derived.Test.YtgpcmekcdgboeaaOpN
import Derived.Test.YtgpcmekcdgboeaaOpM
namespace Go.Proofs.Ytgpcmekcdgboeaa.fnExactBoardOk
open Go.ChangeShapes Go.WideShapes Go.ChangeAt Go.RowKit
open Go.ChangeMaps (open_string shut_string)
set_option linter.unusedVariables false
theorem own : ownKnob Try.prog.godebug = none := by kernel_rfl
theorem laidOut : laidOutB Try.prog = true := by kernel_rfl
set_option maxRecDepth 100000 in
theorem lifted (os : Os) (started : os.Started) (H : Type) (enc : TypeId × Value → H) :
    ReturnsInHanded {} Try.checked os 3 .any (Rows.fnExactBoardOkSpec.pre6 enc Try.prog Try.f3 Rows.fnExactBoardOkRow.domain false) (Rows.fnExactBoardOkSpec.post enc Try.prog Try.f3 false true false false) := by
  refine returnsInHanded_of_change (C := Try.checked) own started (by kernel_rfl) Try.func3
    (ChangeSpec.witness6 (enc := enc) (C := Try.checked) false ⟨#[], #[.agg #[.int .i64 0, .int .i64 0, .int .i64 0, .int .i64 0, .int .i64 0, .int .i64 0, .int .i64 0, .int .i64 0, .int .i64 0, .int .i64 0, .int .i64 0, .int .i64 0, .bool false, .int .i64 0, .bool false, .string ⟨#[]⟩, .string ⟨#[]⟩, .int .i64 0, .int .i64 0, .bool false, .bool false, .int .i64 0, .int .i64 0, .bool false, .int .i64 0, .int .i64 0, .int .i64 0, .int .i64 0, .bool false, .bool false, .bool false, .int .i64 0, .int .i64 0, .int .i64 0, .int .i64 0, .int .i64 0, .int .i64 0, .int .i64 0, .int .i64 0, .int .i64 0]], []⟩ 8 (by kernel_rfl) (by kernel_rfl) (by kernel_rfl) (by kernel_rfl)) ?_
  intro W base args ds gs before hval0 hW hcnd _
  have hval : ∀ (j : Nat) t v, Try.f3.params[j]? = some t → args[j]? = some v → Value.okWide Try.prog W .any base t v := hval0
  have hW' := hW
  obtain ⟨p, q, hA0, hV, rfl, hfz, hnd⟩ := hW
  have hA : DataW.TrodAll enc Try.prog W 0 (fun _ => true) true Try.f3.params.toList args.toList ds p := hA0
  rw [Try.params3] at hA hval
  obtain ⟨v0, d0, rfl, rfl, h0⟩ := trodAll_one hA
  obtain ⟨rfl, rfl⟩ := trodVars_none hV
  have k0 := h0
  have lt0 : ∀ x ∈ p, x.block < W.heap.size := by obtain ⟨m, hm⟩ := k0; exact DataW.trod_lt m _ _ _ hm
  obtain ⟨cs0, rfl, sz0, hf0⟩ := open_nest (m := 40) Try.underlying35 (by kernel_rfl) (hval 0 35 v0 rfl rfl) h0
  have g0_0 := nest_in (o := 0) (m := 15) Try.underlying25 (by kernel_rfl) (hf0 0 _ rfl)
  have g0_0_0 := nest_at (o := 0) Try.underlying23 (by kernel_rfl) (by kernel_rfl) (g0_0 0 _ rfl (by kernel_rfl))
  obtain ⟨a0_0, e0_0⟩ := int_leaf (i := 0) Try.underlying3 (g0_0_0 0 _ rfl)
  obtain ⟨a0_1, e0_1⟩ := int_leaf (i := 1) Try.underlying3 (g0_0_0 1 _ rfl)
  obtain ⟨a0_2, e0_2⟩ := int_leaf (i := 2) Try.underlying3 (g0_0_0 2 _ rfl)
  obtain ⟨a0_3, e0_3⟩ := int_leaf (i := 3) Try.underlying3 (g0_0_0 3 _ rfl)
  obtain ⟨a0_4, e0_4⟩ := int_leaf (i := 4) Try.underlying3 (g0_0_0 4 _ rfl)
  obtain ⟨a0_5, e0_5⟩ := int_leaf (i := 5) Try.underlying3 (g0_0_0 5 _ rfl)
  clear g0_0_0
  obtain ⟨a0_6, e0_6⟩ := int_leaf (i := 6) Try.underlying3 (one_at (o := 6) (by kernel_rfl) (by omega) (g0_0 1 _ rfl (by kernel_rfl)))
  obtain ⟨a0_7, e0_7⟩ := int_leaf (i := 7) Try.underlying3 (one_at (o := 7) (by kernel_rfl) (by omega) (g0_0 2 _ rfl (by kernel_rfl)))
  obtain ⟨a0_8, e0_8⟩ := int_leaf (i := 8) Try.underlying3 (one_at (o := 8) (by kernel_rfl) (by omega) (g0_0 3 _ rfl (by kernel_rfl)))
  obtain ⟨a0_9, e0_9⟩ := int_leaf (i := 9) Try.underlying3 (one_at (o := 9) (by kernel_rfl) (by omega) (g0_0 4 _ rfl (by kernel_rfl)))
  obtain ⟨a0_10, e0_10⟩ := int_leaf (i := 10) Try.underlying3 (one_at (o := 10) (by kernel_rfl) (by omega) (g0_0 5 _ rfl (by kernel_rfl)))
  obtain ⟨a0_11, e0_11⟩ := int_leaf (i := 11) Try.underlying3 (one_at (o := 11) (by kernel_rfl) (by omega) (g0_0 6 _ rfl (by kernel_rfl)))
  obtain ⟨a0_12, e0_12⟩ := bool_leaf (i := 12) Try.underlying4 (one_at (o := 12) (by kernel_rfl) (by omega) (g0_0 7 _ rfl (by kernel_rfl)))
  obtain ⟨a0_13, e0_13⟩ := int_leaf (i := 13) Try.underlying3 (one_at (o := 13) (by kernel_rfl) (by omega) (g0_0 8 _ rfl (by kernel_rfl)))
  obtain ⟨a0_14, e0_14⟩ := bool_leaf (i := 14) Try.underlying4 (one_at (o := 14) (by kernel_rfl) (by omega) (g0_0 9 _ rfl (by kernel_rfl)))
  clear g0_0
  have g0_1 := nest_at (o := 15) Try.underlying27 (by kernel_rfl) (by kernel_rfl) (hf0 1 _ rfl)
  obtain ⟨a0_15, e0_15, w0_15⟩ := string_leaf (i := 15) Try.underlying9 (g0_1 0 _ rfl)
  obtain ⟨a0_16, e0_16, w0_16⟩ := string_leaf (i := 16) Try.underlying9 (g0_1 1 _ rfl)
  clear g0_1
  have g0_2 := nest_at (o := 17) Try.underlying29 (by kernel_rfl) (by kernel_rfl) (hf0 2 _ rfl)
  obtain ⟨a0_17, e0_17, w0_17⟩ := i64_leaf (i := 17) Try.underlying3 (g0_2 0 _ rfl)
  obtain ⟨a0_18, e0_18, w0_18⟩ := i64_leaf (i := 18) Try.underlying3 (g0_2 1 _ rfl)
  obtain ⟨a0_19, e0_19⟩ := bool_leaf (i := 19) Try.underlying4 (g0_2 2 _ rfl)
  obtain ⟨a0_20, e0_20⟩ := bool_leaf (i := 20) Try.underlying4 (g0_2 3 _ rfl)
  obtain ⟨a0_21, e0_21, w0_21⟩ := i64_leaf (i := 21) Try.underlying3 (g0_2 4 _ rfl)
  obtain ⟨a0_22, e0_22, w0_22⟩ := i64_leaf (i := 22) Try.underlying3 (g0_2 5 _ rfl)
  obtain ⟨a0_23, e0_23⟩ := bool_leaf (i := 23) Try.underlying4 (g0_2 6 _ rfl)
  obtain ⟨a0_24, e0_24, w0_24⟩ := i64_leaf (i := 24) Try.underlying3 (g0_2 7 _ rfl)
  obtain ⟨a0_25, e0_25, w0_25⟩ := i64_leaf (i := 25) Try.underlying3 (g0_2 8 _ rfl)
  obtain ⟨a0_26, e0_26, w0_26⟩ := i64_leaf (i := 26) Try.underlying3 (g0_2 9 _ rfl)
  obtain ⟨a0_27, e0_27, w0_27⟩ := i64_leaf (i := 27) Try.underlying3 (g0_2 10 _ rfl)
  clear g0_2
  have g0_3 := nest_at (o := 28) Try.underlying31 (by kernel_rfl) (by kernel_rfl) (hf0 3 _ rfl)
  obtain ⟨a0_28, e0_28⟩ := bool_leaf (i := 28) Try.underlying4 (g0_3 0 _ rfl)
  obtain ⟨a0_29, e0_29⟩ := bool_leaf (i := 29) Try.underlying4 (g0_3 1 _ rfl)
  obtain ⟨a0_30, e0_30⟩ := bool_leaf (i := 30) Try.underlying4 (g0_3 2 _ rfl)
  clear g0_3
  have g0_4 := nest_at (o := 31) Try.underlying33 (by kernel_rfl) (by kernel_rfl) (hf0 4 _ rfl)
  obtain ⟨a0_31, e0_31⟩ := int_leaf (i := 31) Try.underlying3 (g0_4 0 _ rfl)
  obtain ⟨a0_32, e0_32⟩ := int_leaf (i := 32) Try.underlying3 (g0_4 1 _ rfl)
  obtain ⟨a0_33, e0_33⟩ := int_leaf (i := 33) Try.underlying3 (g0_4 2 _ rfl)
  obtain ⟨a0_34, e0_34⟩ := int_leaf (i := 34) Try.underlying3 (g0_4 3 _ rfl)
  obtain ⟨a0_35, e0_35⟩ := int_leaf (i := 35) Try.underlying3 (g0_4 4 _ rfl)
  obtain ⟨a0_36, e0_36⟩ := int_leaf (i := 36) Try.underlying3 (g0_4 5 _ rfl)
  obtain ⟨a0_37, e0_37⟩ := int_leaf (i := 37) Try.underlying3 (g0_4 6 _ rfl)
  clear g0_4
  obtain ⟨a0_38, e0_38⟩ := int_leaf (i := 38) Try.underlying3 (one_at (o := 38) (by kernel_rfl) (by omega) (hf0 5 _ rfl))
  obtain ⟨a0_39, e0_39⟩ := int_leaf (i := 39) Try.underlying3 (one_at (o := 39) (by kernel_rfl) (by omega) (hf0 6 _ rfl))
  obtain rfl : cs0 = #[.int .i64 a0_0, .int .i64 a0_1, .int .i64 a0_2, .int .i64 a0_3, .int .i64 a0_4, .int .i64 a0_5, .int .i64 a0_6, .int .i64 a0_7, .int .i64 a0_8, .int .i64 a0_9, .int .i64 a0_10, .int .i64 a0_11, .bool a0_12, .int .i64 a0_13, .bool a0_14, .string a0_15, .string a0_16, .int .i64 a0_17, .int .i64 a0_18, .bool a0_19, .bool a0_20, .int .i64 a0_21, .int .i64 a0_22, .bool a0_23, .int .i64 a0_24, .int .i64 a0_25, .int .i64 a0_26, .int .i64 a0_27, .bool a0_28, .bool a0_29, .bool a0_30, .int .i64 a0_31, .int .i64 a0_32, .int .i64 a0_33, .int .i64 a0_34, .int .i64 a0_35, .int .i64 a0_36, .int .i64 a0_37, .int .i64 a0_38, .int .i64 a0_39] := arr_of (l := [.int .i64 a0_0, .int .i64 a0_1, .int .i64 a0_2, .int .i64 a0_3, .int .i64 a0_4, .int .i64 a0_5, .int .i64 a0_6, .int .i64 a0_7, .int .i64 a0_8, .int .i64 a0_9, .int .i64 a0_10, .int .i64 a0_11, .bool a0_12, .int .i64 a0_13, .bool a0_14, .string a0_15, .string a0_16, .int .i64 a0_17, .int .i64 a0_18, .bool a0_19, .bool a0_20, .int .i64 a0_21, .int .i64 a0_22, .bool a0_23, .int .i64 a0_24, .int .i64 a0_25, .int .i64 a0_26, .int .i64 a0_27, .bool a0_28, .bool a0_29, .bool a0_30, .int .i64 a0_31, .int .i64 a0_32, .int .i64 a0_33, .int .i64 a0_34, .int .i64 a0_35, .int .i64 a0_36, .int .i64 a0_37, .int .i64 a0_38, .int .i64 a0_39]) sz0 ⟨e0_0, e0_1, e0_2, e0_3, e0_4, e0_5, e0_6, e0_7, e0_8, e0_9, e0_10, e0_11, e0_12, e0_13, e0_14, e0_15, e0_16, e0_17, e0_18, e0_19, e0_20, e0_21, e0_22, e0_23, e0_24, e0_25, e0_26, e0_27, e0_28, e0_29, e0_30, e0_31, e0_32, e0_33, e0_34, e0_35, e0_36, e0_37, e0_38, e0_39, trivial⟩
  clear hf0 sz0 e0_0 e0_1 e0_2 e0_3 e0_4 e0_5 e0_6 e0_7 e0_8 e0_9 e0_10 e0_11 e0_12 e0_13 e0_14 e0_15 e0_16 e0_17 e0_18 e0_19 e0_20 e0_21 e0_22 e0_23 e0_24 e0_25 e0_26 e0_27 e0_28 e0_29 e0_30 e0_31 e0_32 e0_33 e0_34 e0_35 e0_36 e0_37 e0_38 e0_39
  clear hA0 hval0
  simp only [List.append_nil] at hW'
  refine (law_boardOk a0_0 a0_1 a0_2 a0_3 a0_4 a0_5 a0_6 a0_7 a0_8 a0_9 a0_10 a0_11 a0_12 a0_13 a0_14 a0_15 w0_15 a0_16 w0_16 a0_17 w0_17 a0_18 w0_18 a0_19 a0_20 a0_21 w0_21 a0_22 w0_22 a0_23 a0_24 w0_24 a0_25 w0_25 a0_26 w0_26 a0_27 w0_27 a0_28 a0_29 a0_30 a0_31 a0_32 a0_33 a0_34 a0_35 a0_36 a0_37 a0_38 a0_39 W).mono fun e W' ⟨he, hb⟩ => ?_
  subst he
  exact ⟨_, rfl, _, _, _, [], _, [], hW', trodAll_mk1 (shut_bool Try.underlying4 _), (trodAll_cons_mk (Below.trod laidOut (by kernel_rfl) (of_decide_eq_true (by kernel_rfl)) k0 hb lt0) trodAll_mk0), rfl, hb.frame _, fun h => by cases h⟩
theorem facts : joinedFacts Try.prog 3 Try.f3 Rows.fnExactBoardOkSpec Rows.fnExactBoardOkRow = true := by
  unfold joinedFacts
  rw [may_enter, lifts_final, make_is]
  kernel_rfl
theorem over : Rows.fnExactBoardOkRow.holds Try.pinned (OpenSpec.ofChange Rows.fnExactBoardOkSpec) :=
  OpenClaim.holds_of_wide 3 Try.f3 rfl rfl rfl rfl rfl rfl rfl ⟨rfl, rfl, rfl, rfl, rfl⟩ rfl rfl rfl rfl rfl (by kernel_rfl) Try.func3 facts
    (of_decide_eq_true (by kernel_rfl)) (by unfold Func.isWrapper; first | (rw [if_pos (by decide +kernel)]; kernel_rfl) | (rw [if_neg (by decide +kernel)]; exact ⟨rfl, rfl⟩))
    (fun os started H enc _ => lifted os started H enc)
theorem fnExactBoardOk_holds : Rows.FnExactBoardOkSaid :=
  over
#print axioms fnExactBoardOk_holds
end Go.Proofs.Ytgpcmekcdgboeaa.fnExactBoardOk
