/-
  For every Tick, the law FnExactTickText of the program returns true: impl.TickText answers as spec.TickText.
  Conditions: none beyond the row's own (every input that can be read as data; the run starts in any world).
-/
import Derived.Test.YtmfhdafpmfhbeaaPnX
import Derived.Test.YtmfhdafpmfhbeaaIni
import Derived.Test.YtmfhdafpmfhbeaaRows
import Derived.Test.YtmfhdafpmfhbeaaChecked
import Derived.WalkKit
import Derived.ProofKit
import Derived.OpenShut
import Derived.Below
import Derived.Test.YtmfhdafpmfhbeaaOpA
namespace Go.Proofs.Ytmfhdafpmfhbeaa.fnExactTickText
open Go.ChangeShapes Go.WideShapes Go.ChangeAt Go.RowKit
open Go.ChangeMaps (open_string shut_string)
set_option linter.unusedVariables false
theorem own : ownKnob Try.prog.godebug = none := by kernel_rfl
theorem laidOut : laidOutB Try.prog = true := by kernel_rfl
set_option maxRecDepth 100000 in
theorem lifted (os : Os) (started : os.Started) (H : Type) (enc : TypeId × Value → H) :
    ReturnsInHanded {} Try.checked os 4 .any (Rows.fnExactTickTextSpec.pre6 enc Try.prog Try.f4 Rows.fnExactTickTextRow.domain false) (Rows.fnExactTickTextSpec.post enc Try.prog Try.f4 false true false false) := by
  refine returnsInHanded_of_change (C := Try.checked) own started (by kernel_rfl) Try.func4
    (ChangeSpec.witness6 (enc := enc) (C := Try.checked) false ⟨#[], #[.agg #[.int .i64 0, .int .i64 0, .bool false, .bool false, .int .i64 0, .bool false, .bool false]], []⟩ 8 (by kernel_rfl) (by kernel_rfl) (by kernel_rfl) (by kernel_rfl)) ?_
  intro W base args ds gs before hval0 hW hcnd _
  have hval : ∀ (j : Nat) t v, Try.f4.params[j]? = some t → args[j]? = some v → Value.okWide Try.prog W .any base t v := hval0
  have hW' := hW
  obtain ⟨p, q, hA0, hV, rfl, hfz, hnd⟩ := hW
  have hA : DataW.TrodAll enc Try.prog W 0 (fun _ => true) true Try.f4.params.toList args.toList ds p := hA0
  rw [Try.params4] at hA hval
  obtain ⟨v0, d0, rfl, rfl, h0⟩ := trodAll_one hA
  obtain ⟨rfl, rfl⟩ := trodVars_none hV
  have k0 := h0
  have lt0 : ∀ x ∈ p, x.block < W.heap.size := by obtain ⟨m, hm⟩ := k0; exact DataW.trod_lt m _ _ _ hm
  obtain ⟨cs0, rfl, sz0, hf0⟩ := open_fields Try.underlying29 (by kernel_rfl) (by kernel_rfl) (hval 0 29 v0 rfl rfl) h0
  obtain ⟨a0_0, e0_0⟩ := int_leaf Try.underlying3 (hf0 0 _ rfl)
  obtain ⟨a0_1, e0_1⟩ := int_leaf Try.underlying3 (hf0 1 _ rfl)
  obtain ⟨a0_2, e0_2⟩ := bool_leaf Try.underlying4 (hf0 2 _ rfl)
  obtain ⟨a0_3, e0_3⟩ := bool_leaf Try.underlying4 (hf0 3 _ rfl)
  obtain ⟨a0_4, e0_4⟩ := int_leaf Try.underlying3 (hf0 4 _ rfl)
  obtain ⟨a0_5, e0_5⟩ := bool_leaf Try.underlying4 (hf0 5 _ rfl)
  obtain ⟨a0_6, e0_6⟩ := bool_leaf Try.underlying4 (hf0 6 _ rfl)
  obtain rfl : cs0 = #[.int .i64 a0_0, .int .i64 a0_1, .bool a0_2, .bool a0_3, .int .i64 a0_4, .bool a0_5, .bool a0_6] := arr_of (l := [.int .i64 a0_0, .int .i64 a0_1, .bool a0_2, .bool a0_3, .int .i64 a0_4, .bool a0_5, .bool a0_6]) sz0 ⟨e0_0, e0_1, e0_2, e0_3, e0_4, e0_5, e0_6, trivial⟩
  clear hf0 sz0 e0_0 e0_1 e0_2 e0_3 e0_4 e0_5 e0_6
  clear hA0 hval0
  simp only [List.append_nil] at hW'
  refine (exact_tickText a0_0 a0_1 a0_2 a0_3 a0_4 a0_5 a0_6 W).mono fun e W' ⟨he, hb⟩ => ?_
  subst he
  exact ⟨_, rfl, _, _, _, [], _, [], hW', trodAll_mk1 (shut_bool Try.underlying4 _), (trodAll_cons_mk (Below.trod laidOut (by kernel_rfl) (of_decide_eq_true (by kernel_rfl)) k0 hb lt0) trodAll_mk0), rfl, hb.frame _, fun h => by cases h⟩
theorem facts : joinedFacts Try.prog 4 Try.f4 Rows.fnExactTickTextSpec Rows.fnExactTickTextRow = true := by
  unfold joinedFacts
  rw [may_enter, lifts_final, make_is]
  kernel_rfl
theorem over : Rows.fnExactTickTextRow.holds Try.pinned (OpenSpec.ofChange Rows.fnExactTickTextSpec) :=
  OpenClaim.holds_of_wide 4 Try.f4 rfl rfl rfl rfl rfl rfl rfl ⟨rfl, rfl, rfl, rfl, rfl⟩ rfl rfl rfl rfl rfl (by kernel_rfl) Try.func4 facts
    (of_decide_eq_true (by kernel_rfl)) (by unfold Func.isWrapper; first | (rw [if_pos (by decide +kernel)]; kernel_rfl) | (rw [if_neg (by decide +kernel)]; exact ⟨rfl, rfl⟩))
    (fun os started H enc _ => lifted os started H enc)
theorem fnExactTickText_holds : Rows.FnExactTickTextSaid :=
  over
#print axioms fnExactTickText_holds
end Go.Proofs.Ytmfhdafpmfhbeaa.fnExactTickText
