/-
  Regions that draw their order, walked by hand: what yields its value in every world that meets S.
  Conditions: as each lemma says.
-/
import Derived.Test.YtgpcmekcdgboeaaPrt
import Derived.Deep.RegionHeld3
import Derived.Great.BuildSlice
namespace Go.Proofs.Ytgpcmekcdgboeaa
open Go.RowKit
section
variable {P : Program} {ops : Array Oper} {S : World → Prop} {o : Oper} {a : Act}
theorem yields_build (hw : Region.wanted o (yielded ops a.tmps) = true) (t : TypeId) (parts : Array (Nat × Operand)) (ho : o.op = .build t parts) (cells : Array Value)
    (hf : P.built t (parts.map fun (i, x) => (i, a.eval x)).toList = some cells) : YieldsIf P ops S o (.agg cells) a :=
  Or.inl ⟨hw, fun w _ => by unfold execOp; simp only [ho, Sem.run_bind, run_build w t _ cells hf, Result.andThen_ok, Sem.run_pure]⟩
theorem yields_load_part (hw : Region.wanted o (yielded ops a.tmps) = true) (T : TypeId) (x : Operand) (ho : o.op = .load T x) (b f : Nat) (hx : a.eval x = .pointer (some ⟨b, f, none⟩)) (part : Array Value) (d : TypeDesc) (hu : P.underlying T = some d) (hd : (match d with | .struct _ | .array _ _ => true | _ => false) = true) (hi : (P.info? T).map (·.size) = some part.size)
    {cs : Array Value} {t : TypeId} (hp : (cs.toList.drop f).take part.size = part.toList) (hg : ∀ w, S w → w.heap[b]? = some (.cells cs t (0, 0))) : YieldsIf P ops S o (.agg part) a :=
  Or.inl ⟨hw, fun w hS => by
    unfold execOp
    simp only [ho, hx, Instr.loadAt, Instr.sureAddr, Sem.run_bind, Sem.run_pure, Result.andThen_ok, run_loadVar_part w b f t T cs part d (hg w hS) hp hu hd hi]⟩
theorem yields_move (hw : Region.wanted o (yielded ops a.tmps) = true) (x : Operand) (ho : o.op = .move x) (v : Value) (hv : a.eval x = v) : YieldsIf P ops S o v a :=
  Or.inl ⟨hw, fun w _ => by unfold execOp; simp only [ho, hv, Sem.run_pure]⟩
end
end Go.Proofs.Ytgpcmekcdgboeaa
