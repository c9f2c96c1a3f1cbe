/-
  For every Keeper and every int, the law FnExactReadKeeper of the program returns true: impl.ReadKeeper answers as spec.ReadKeeper.
  Conditions: none beyond the row's own (every input that can be read as data; the run starts in any world).
-/
import Derived.Test.YtcnajmmpijhniaaKpX
import Derived.Test.YtcnajmmpijhniaaIni
import Derived.Test.YtcnajmmpijhniaaRows
import Derived.Test.YtcnajmmpijhniaaChecked
import Derived.WalkKit
import Derived.ProofKit
import Derived.OpenShut
import Derived.Below
import Derived.Test.YtcnajmmpijhniaaOpA
namespace Go.Proofs.Ytcnajmmpijhniaa.fnExactReadKeeper
open Go.ChangeShapes Go.WideShapes Go.ChangeAt Go.RowKit
open Go.ChangeMaps (open_string shut_string)
set_option linter.unusedVariables false
theorem own : ownKnob Try.prog.godebug = none := by kernel_rfl
theorem laidOut : laidOutB Try.prog = true := by kernel_rfl
set_option maxRecDepth 100000 in
theorem lifted (os : Os) (started : os.Started) (H : Type) (enc : TypeId × Value → H) :
    ReturnsInHanded {} Try.checked os 11 .any (Rows.fnExactReadKeeperSpec.pre6 enc Try.prog Try.f11 Rows.fnExactReadKeeperRow.domain false) (Rows.fnExactReadKeeperSpec.post enc Try.prog Try.f11 false true false false) := by
  refine returnsInHanded_of_change (C := Try.checked) own started (by kernel_rfl) Try.func11
    (ChangeSpec.witness6 (enc := enc) (C := Try.checked) false ⟨#[], #[.agg #[.int .i64 0, .int .i64 0, .int .i64 0, .int .i64 0, .int .i64 0, .int .i64 0, .int .i64 0], .int .i64 0], []⟩ 8 (by kernel_rfl) (by kernel_rfl) (by kernel_rfl) (by kernel_rfl)) ?_
  intro W base args ds gs before hval0 hW hcnd _
  have hval : ∀ (j : Nat) t v, Try.f11.params[j]? = some t → args[j]? = some v → Value.okWide Try.prog W .any base t v := hval0
  have hW' := hW
  obtain ⟨p, q, hA0, hV, rfl, hfz, hnd⟩ := hW
  have hA : DataW.TrodAll enc Try.prog W 0 (fun _ => true) true Try.f11.params.toList args.toList ds p := hA0
  rw [Try.params11] at hA hval
  obtain ⟨v0, vs0, d0, ds0, p0, q0, hargs, rfl, rfl, h0, r0⟩ := trodAll_cons hA
  obtain ⟨v1, vs1, d1, ds1, p1, q1, rfl, rfl, rfl, h1, r1⟩ := trodAll_cons r0
  obtain ⟨rfl, rfl, rfl⟩ := trodAll_nil r1
  obtain rfl : args = #[v0, v1] := by cases args; simp_all
  obtain ⟨rfl, rfl⟩ := trodVars_none hV
  have k0 := h0
  have lt0 : ∀ x ∈ p0, x.block < W.heap.size := by obtain ⟨m, hm⟩ := k0; exact DataW.trod_lt m _ _ _ hm
  obtain ⟨cs0, rfl, sz0, hf0⟩ := open_fields Try.underlying38 (by kernel_rfl) (by kernel_rfl) (hval 0 38 v0 rfl rfl) h0
  obtain ⟨a0_0, e0_0⟩ := int_leaf Try.underlying3 (hf0 0 _ rfl)
  obtain ⟨a0_1, e0_1⟩ := int_leaf Try.underlying3 (hf0 1 _ rfl)
  obtain ⟨a0_2, e0_2⟩ := int_leaf Try.underlying3 (hf0 2 _ rfl)
  obtain ⟨a0_3, e0_3⟩ := int_leaf Try.underlying3 (hf0 3 _ rfl)
  obtain ⟨a0_4, e0_4⟩ := int_leaf Try.underlying3 (hf0 4 _ rfl)
  obtain ⟨a0_5, e0_5⟩ := int_leaf Try.underlying3 (hf0 5 _ rfl)
  obtain ⟨a0_6, e0_6⟩ := int_leaf Try.underlying3 (hf0 6 _ rfl)
  obtain rfl : cs0 = #[.int .i64 a0_0, .int .i64 a0_1, .int .i64 a0_2, .int .i64 a0_3, .int .i64 a0_4, .int .i64 a0_5, .int .i64 a0_6] := arr_of (l := [.int .i64 a0_0, .int .i64 a0_1, .int .i64 a0_2, .int .i64 a0_3, .int .i64 a0_4, .int .i64 a0_5, .int .i64 a0_6]) sz0 ⟨e0_0, e0_1, e0_2, e0_3, e0_4, e0_5, e0_6, trivial⟩
  clear hf0 sz0 e0_0 e0_1 e0_2 e0_3 e0_4 e0_5 e0_6
  obtain ⟨a1, rfl, rfl, rfl, w1⟩ := open_int Try.underlying3 (hval 1 3 v1 rfl rfl) h1
  clear hA0 hval0
  simp only [List.append_nil] at hW'
  refine (law_readK a0_0 a0_1 a0_2 a0_3 a0_4 a0_5 a0_6 a1 W).mono fun e W' ⟨he, hb⟩ => ?_
  subst he
  exact ⟨_, rfl, _, _, _, [], _, [], hW', trodAll_mk1 (shut_bool Try.underlying4 _), (trodAll_cons_mk (Below.trod laidOut (by kernel_rfl) (of_decide_eq_true (by kernel_rfl)) k0 hb lt0) (trodAll_cons_mk (shut_int Try.underlying3 w1) trodAll_mk0)), rfl, hb.frame _, fun h => by cases h⟩
theorem facts : joinedFacts Try.prog 11 Try.f11 Rows.fnExactReadKeeperSpec Rows.fnExactReadKeeperRow = true := by
  unfold joinedFacts
  rw [may_enter, lifts_final, make_is]
  kernel_rfl
theorem over : Rows.fnExactReadKeeperRow.holds Try.pinned (OpenSpec.ofChange Rows.fnExactReadKeeperSpec) :=
  OpenClaim.holds_of_wide 11 Try.f11 rfl rfl rfl rfl rfl rfl rfl ⟨rfl, rfl, rfl, rfl, rfl⟩ rfl rfl rfl rfl rfl (by kernel_rfl) Try.func11 facts
    (of_decide_eq_true (by kernel_rfl)) (by unfold Func.isWrapper; first | (rw [if_pos (by decide +kernel)]; kernel_rfl) | (rw [if_neg (by decide +kernel)]; exact ⟨rfl, rfl⟩))
    (fun os started H enc _ => lifted os started H enc)
theorem fnExactReadKeeper_holds : Rows.FnExactReadKeeperSaid :=
  over
#print axioms fnExactReadKeeper_holds
end Go.Proofs.Ytcnajmmpijhniaa.fnExactReadKeeper
