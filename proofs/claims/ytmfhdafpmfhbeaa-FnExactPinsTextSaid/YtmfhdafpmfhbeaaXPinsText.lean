/-
  For all Pins, the law FnExactPinsText of the program returns true: impl.PinsText answers as spec.PinsText.
  Conditions: none beyond the row's own (every input that can be read as data; the run starts in any world).
-/
import Derived.Test.YtmfhdafpmfhbeaaPnX
import Derived.Test.YtmfhdafpmfhbeaaIni
import Derived.Test.YtmfhdafpmfhbeaaRows
import Derived.Test.YtmfhdafpmfhbeaaChecked
import Derived.WalkKit
import Derived.ProofKit
import Derived.OpenShut
import Derived.Below
import Derived.Test.YtmfhdafpmfhbeaaOpA
namespace Go.Proofs.Ytmfhdafpmfhbeaa.fnExactPinsText
open Go.ChangeShapes Go.WideShapes Go.ChangeAt Go.RowKit
open Go.ChangeMaps (open_string shut_string)
set_option linter.unusedVariables false
theorem own : ownKnob Try.prog.godebug = none := by kernel_rfl
theorem laidOut : laidOutB Try.prog = true := by kernel_rfl
set_option maxRecDepth 100000 in
theorem lifted (os : Os) (started : os.Started) (H : Type) (enc : TypeId × Value → H) :
    ReturnsInHanded {} Try.checked os 3 .any (Rows.fnExactPinsTextSpec.pre6 enc Try.prog Try.f3 Rows.fnExactPinsTextRow.domain false) (Rows.fnExactPinsTextSpec.post enc Try.prog Try.f3 false true false false) := by
  refine returnsInHanded_of_change (C := Try.checked) own started (by kernel_rfl) Try.func3
    (ChangeSpec.witness6 (enc := enc) (C := Try.checked) false ⟨#[], #[.agg #[.bool false, .bool false, .bool false, .bool false, .int .i64 0]], []⟩ 8 (by kernel_rfl) (by kernel_rfl) (by kernel_rfl) (by kernel_rfl)) ?_
  intro W base args ds gs before hval0 hW hcnd _
  have hval : ∀ (j : Nat) t v, Try.f3.params[j]? = some t → args[j]? = some v → Value.okWide Try.prog W .any base t v := hval0
  have hW' := hW
  obtain ⟨p, q, hA0, hV, rfl, hfz, hnd⟩ := hW
  have hA : DataW.TrodAll enc Try.prog W 0 (fun _ => true) true Try.f3.params.toList args.toList ds p := hA0
  rw [Try.params3] at hA hval
  obtain ⟨v0, d0, rfl, rfl, h0⟩ := trodAll_one hA
  obtain ⟨rfl, rfl⟩ := trodVars_none hV
  have k0 := h0
  have lt0 : ∀ x ∈ p, x.block < W.heap.size := by obtain ⟨m, hm⟩ := k0; exact DataW.trod_lt m _ _ _ hm
  obtain ⟨cs0, rfl, sz0, hf0⟩ := open_fields Try.underlying23 (by kernel_rfl) (by kernel_rfl) (hval 0 23 v0 rfl rfl) h0
  obtain ⟨a0_0, e0_0⟩ := bool_leaf Try.underlying4 (hf0 0 _ rfl)
  obtain ⟨a0_1, e0_1⟩ := bool_leaf Try.underlying4 (hf0 1 _ rfl)
  obtain ⟨a0_2, e0_2⟩ := bool_leaf Try.underlying4 (hf0 2 _ rfl)
  obtain ⟨a0_3, e0_3⟩ := bool_leaf Try.underlying4 (hf0 3 _ rfl)
  obtain ⟨a0_4, e0_4⟩ := int_leaf Try.underlying3 (hf0 4 _ rfl)
  obtain rfl : cs0 = #[.bool a0_0, .bool a0_1, .bool a0_2, .bool a0_3, .int .i64 a0_4] := arr_of (l := [.bool a0_0, .bool a0_1, .bool a0_2, .bool a0_3, .int .i64 a0_4]) sz0 ⟨e0_0, e0_1, e0_2, e0_3, e0_4, trivial⟩
  clear hf0 sz0 e0_0 e0_1 e0_2 e0_3 e0_4
  clear hA0 hval0
  simp only [List.append_nil] at hW'
  refine (exact_pinsText a0_0 a0_1 a0_2 a0_3 a0_4 W).mono fun e W' ⟨he, hb⟩ => ?_
  subst he
  exact ⟨_, rfl, _, _, _, [], _, [], hW', trodAll_mk1 (shut_bool Try.underlying4 _), (trodAll_cons_mk (Below.trod laidOut (by kernel_rfl) (of_decide_eq_true (by kernel_rfl)) k0 hb lt0) trodAll_mk0), rfl, hb.frame _, fun h => by cases h⟩
theorem facts : joinedFacts Try.prog 3 Try.f3 Rows.fnExactPinsTextSpec Rows.fnExactPinsTextRow = true := by
  unfold joinedFacts
  rw [may_enter, lifts_final, make_is]
  kernel_rfl
theorem over : Rows.fnExactPinsTextRow.holds Try.pinned (OpenSpec.ofChange Rows.fnExactPinsTextSpec) :=
  OpenClaim.holds_of_wide 3 Try.f3 rfl rfl rfl rfl rfl rfl rfl ⟨rfl, rfl, rfl, rfl, rfl⟩ rfl rfl rfl rfl rfl (by kernel_rfl) Try.func3 facts
    (of_decide_eq_true (by kernel_rfl)) (by unfold Func.isWrapper; first | (rw [if_pos (by decide +kernel)]; kernel_rfl) | (rw [if_neg (by decide +kernel)]; exact ⟨rfl, rfl⟩))
    (fun os started H enc _ => lifted os started H enc)
theorem fnExactPinsText_holds : Rows.FnExactPinsTextSaid :=
  over
#print axioms fnExactPinsText_holds
end Go.Proofs.Ytmfhdafpmfhbeaa.fnExactPinsText
