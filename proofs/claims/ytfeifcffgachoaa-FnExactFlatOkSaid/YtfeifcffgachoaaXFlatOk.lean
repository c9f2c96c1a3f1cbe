/-
  For every Flat, the law FnExactFlatOk of the program returns true: impl.FlatOk answers as spec.FlatOk (for a Flat that holds more than 1048576 bytes the law itself asks nothing).
  Conditions: none beyond the row's own (every input that can be read as data; the run starts in any world).
-/
import Derived.Test.YtfeifcffgachoaaWqB
import Derived.Test.YtfeifcffgachoaaIni
import Derived.Test.YtfeifcffgachoaaRows
import Derived.Test.YtfeifcffgachoaaChecked
import Derived.WalkKit
import Derived.ProofKit
import Derived.OpenShut
import Derived.Below
import Derived.Test.YtfeifcffgachoaaOpN
namespace Go.Proofs.Ytfeifcffgachoaa.fnExactFlatOk
open Go.ChangeShapes Go.WideShapes Go.ChangeAt Go.RowKit
open Go.ChangeMaps (open_string shut_string)
set_option linter.unusedVariables false
theorem own : ownKnob Try.prog.godebug = none := by kernel_rfl
theorem laidOut : laidOutB Try.prog = true := by kernel_rfl
set_option maxRecDepth 100000 in
theorem lifted (os : Os) (started : os.Started) (H : Type) (enc : TypeId × Value → H) :
    ReturnsInHanded {} Try.checked os 7 .any (Rows.fnExactFlatOkSpec.pre6 enc Try.prog Try.f7 Rows.fnExactFlatOkRow.domain false) (Rows.fnExactFlatOkSpec.post enc Try.prog Try.f7 false true false false) := by
  refine returnsInHanded_of_change (C := Try.checked) own started (by kernel_rfl) Try.func7
    (ChangeSpec.witness6 (enc := enc) (C := Try.checked) false ⟨#[], #[.agg #[.int .i64 0, .int .i64 0, .int .i64 0, .int .i64 0, .int .i64 0, .int .i64 0, .string ⟨#[]⟩, .string ⟨#[]⟩, .int .i64 0, .bool false]], []⟩ 8 (by kernel_rfl) (by kernel_rfl) (by kernel_rfl) (by kernel_rfl)) ?_
  intro W base args ds gs before hval0 hW hcnd _
  have hval : ∀ (j : Nat) t v, Try.f7.params[j]? = some t → args[j]? = some v → Value.okWide Try.prog W .any base t v := hval0
  have hW' := hW
  obtain ⟨p, q, hA0, hV, rfl, hfz, hnd⟩ := hW
  have hA : DataW.TrodAll enc Try.prog W 0 (fun _ => true) true Try.f7.params.toList args.toList ds p := hA0
  rw [Try.params7] at hA hval
  obtain ⟨v0, d0, rfl, rfl, h0⟩ := trodAll_one hA
  obtain ⟨rfl, rfl⟩ := trodVars_none hV
  have k0 := h0
  have lt0 : ∀ x ∈ p, x.block < W.heap.size := by obtain ⟨m, hm⟩ := k0; exact DataW.trod_lt m _ _ _ hm
  obtain ⟨cs0, rfl, sz0, hf0⟩ := open_nest (m := 10) Try.underlying39 (by kernel_rfl) (hval 0 39 v0 rfl rfl) h0
  have g0_0 := nest_at (o := 0) Try.underlying31 (by kernel_rfl) (by kernel_rfl) (hf0 0 _ rfl)
  obtain ⟨a0_0, e0_0⟩ := int_leaf (i := 0) Try.underlying3 (g0_0 0 _ rfl)
  obtain ⟨a0_1, e0_1⟩ := int_leaf (i := 1) Try.underlying3 (g0_0 1 _ rfl)
  obtain ⟨a0_2, e0_2⟩ := int_leaf (i := 2) Try.underlying3 (g0_0 2 _ rfl)
  obtain ⟨a0_3, e0_3⟩ := int_leaf (i := 3) Try.underlying3 (g0_0 3 _ rfl)
  obtain ⟨a0_4, e0_4⟩ := int_leaf (i := 4) Try.underlying3 (g0_0 4 _ rfl)
  obtain ⟨a0_5, e0_5⟩ := int_leaf (i := 5) Try.underlying3 (g0_0 5 _ rfl)
  clear g0_0
  have g0_1 := nest_at (o := 6) Try.underlying37 (by kernel_rfl) (by kernel_rfl) (hf0 1 _ rfl)
  obtain ⟨a0_6, e0_6, w0_6⟩ := string_leaf (i := 6) Try.underlying9 (g0_1 0 _ rfl)
  obtain ⟨a0_7, e0_7, w0_7⟩ := string_leaf (i := 7) Try.underlying9 (g0_1 1 _ rfl)
  clear g0_1
  obtain ⟨a0_8, e0_8⟩ := int_leaf (i := 8) Try.underlying3 (one_at (o := 8) (by kernel_rfl) (by omega) (hf0 2 _ rfl))
  obtain ⟨a0_9, e0_9⟩ := bool_leaf (i := 9) Try.underlying4 (one_at (o := 9) (by kernel_rfl) (by omega) (hf0 3 _ rfl))
  obtain rfl : cs0 = #[.int .i64 a0_0, .int .i64 a0_1, .int .i64 a0_2, .int .i64 a0_3, .int .i64 a0_4, .int .i64 a0_5, .string a0_6, .string a0_7, .int .i64 a0_8, .bool a0_9] := arr_of (l := [.int .i64 a0_0, .int .i64 a0_1, .int .i64 a0_2, .int .i64 a0_3, .int .i64 a0_4, .int .i64 a0_5, .string a0_6, .string a0_7, .int .i64 a0_8, .bool a0_9]) sz0 ⟨e0_0, e0_1, e0_2, e0_3, e0_4, e0_5, e0_6, e0_7, e0_8, e0_9, trivial⟩
  clear hf0 sz0 e0_0 e0_1 e0_2 e0_3 e0_4 e0_5 e0_6 e0_7 e0_8 e0_9
  clear hA0 hval0
  simp only [List.append_nil] at hW'
  refine (exact_flatOk a0_0 a0_1 a0_2 a0_3 a0_4 a0_5 a0_6 w0_6 a0_7 w0_7 a0_8 a0_9 W).mono fun e W' ⟨he, hb⟩ => ?_
  subst he
  exact ⟨_, rfl, _, _, _, [], _, [], hW', trodAll_mk1 (shut_bool Try.underlying4 _), (trodAll_cons_mk (Below.trod laidOut (by kernel_rfl) (of_decide_eq_true (by kernel_rfl)) k0 hb lt0) trodAll_mk0), rfl, hb.frame _, fun h => by cases h⟩
theorem facts : joinedFacts Try.prog 7 Try.f7 Rows.fnExactFlatOkSpec Rows.fnExactFlatOkRow = true := by
  unfold joinedFacts
  rw [may_enter, lifts_final, make_is]
  kernel_rfl
theorem over : Rows.fnExactFlatOkRow.holds Try.pinned (OpenSpec.ofChange Rows.fnExactFlatOkSpec) :=
  OpenClaim.holds_of_wide 7 Try.f7 rfl rfl rfl rfl rfl rfl rfl ⟨rfl, rfl, rfl, rfl, rfl⟩ rfl rfl rfl rfl rfl (by kernel_rfl) Try.func7 facts
    (of_decide_eq_true (by kernel_rfl)) (by unfold Func.isWrapper; first | (rw [if_pos (by decide +kernel)]; kernel_rfl) | (rw [if_neg (by decide +kernel)]; exact ⟨rfl, rfl⟩))
    (fun os started H enc _ => lifted os started H enc)
theorem fnExactFlatOk_holds : Rows.FnExactFlatOkSaid :=
  over
#print axioms fnExactFlatOk_holds
end Go.Proofs.Ytfeifcffgachoaa.fnExactFlatOk
