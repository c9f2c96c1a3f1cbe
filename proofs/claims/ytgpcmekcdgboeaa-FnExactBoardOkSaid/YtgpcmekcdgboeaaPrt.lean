/-
  Parts of a struct in memory: the load and the store of a struct that lies within another one.
  Conditions: as each lemma says.
-/
import Derived.Test.YtgpcmekcdgboeaaRow
import Derived.Laws.CopyRow
namespace Go.Proofs.Ytgpcmekcdgboeaa
open Go.RowKit
section
variable {P : Program} {ops : Array Oper} {rest : List Oper} {o : Oper} {a : Act} {w : World} {Q : Exit → Act → World → Prop}
theorem addr_step (b f j : Nat) : (⟨b, f, none⟩ : Addr).add j = ⟨b, f + j, none⟩ := by unfold Addr.add; split <;> simp_all
theorem run_loadVar_part (w : World) (b f : Nat) (t T : TypeId) (cs part : Array Value) (d : TypeDesc) (hg : w.heap[b]? = some (.cells cs t (0, 0))) (hp : (cs.toList.drop f).take part.size = part.toList)
    (hu : P.underlying T = some d) (hd : (match d with | .struct _ | .array _ _ => true | _ => false) = true) (hi : (P.info? T).map (·.size) = some part.size) :
    (loadVar T ⟨b, f, none⟩).run P w = .ok (.agg part) w := by
  have hl : (loadCells ⟨b, f, none⟩ part.toList.length).run P w = .ok part.toList.toArray w :=
    run_loadCells_list (P := P) w ⟨b, f, none⟩ part.toList (fun j v hv => by
      rw [addr_step, cell_of_row w b (f + j) cs t (0, 0) hg]
      rw [← hp, List.getElem?_take] at hv
      split at hv
      · rw [List.getElem?_drop] at hv
        rw [← Array.getElem?_toList]
        exact hv
      · exact absurd hv (by simp))
  cases hq : P.info? T with
  | none => simp [hq] at hi
  | some i =>
    have hs : i.size = part.size := by simpa [hq] using hi
    have hagg : (isAgg T).run P w = .ok true w := by
      unfold isAgg
      rw [Sem.run_bind, run_underlying hu w]
      cases d <;> simp_all
    simp only [Array.length_toList, Array.toArray_toList] at hl
    simp [loadVar, Sem.run_bind, hagg, sizeOf, typeInfo, hq, hs, hl]
theorem run_storeVar_part (w : World) (b f : Nat) (t T : TypeId) (old part new : Array Value) (hg : w.heap[b]? = some (.cells old t (0, 0))) (hfit : f + part.size ≤ old.size)
    (hn : (old.toList.take f ++ part.toList ++ old.toList.drop (f + part.size)).toArray = new) (hi : (P.info? T).map (·.size) = some part.size) (h1 : part.toList.all (·.oneCell') = true) :
    (storeVar T ⟨b, f, none⟩ (.agg part)).run P w = .ok () (w.setRow b new) := by
  have := run_storeCells_at P b f t part.toList 0 old w hg (by simpa using hfit) (fun v hv => List.all_eq_true.1 h1 v hv)
  cases hq : P.info? T with
  | none => simp [hq] at hi
  | some i =>
    have hs : part.size = i.size := by simp [hq] at hi; omega
    simp only [Nat.add_zero, Array.length_toList] at this
    rw [hn] at this
    simp [storeVar, sizeOf, typeInfo, hq, Value.cells, hs, this]
theorem wpList_some (hw : Region.wanted o (yielded ops a.tmps) = true)
    (h : ∀ K : Act → World → Prop, (∀ a w, wpList P ops Q rest a w → K a w) → o.wp P a w K Q) : wpList P ops Q (o :: rest) a w :=
  wpList_step fun K hK => by simp only [hw, if_true]; exact h K hK
theorem load_part_if (hw : Region.wanted o (yielded ops a.tmps) = true) (T : TypeId) (x : Operand) (ho : o.op = .load T x) (b f : Nat) (hx : a.eval x = .pointer (some ⟨b, f, none⟩)) (part : Array Value) (d : TypeDesc) (hu : P.underlying T = some d) (hd : (match d with | .struct _ | .array _ _ => true | _ => false) = true) (hi : (P.info? T).map (·.size) = some part.size)
    {cs : Array Value} {t : TypeId} (hg : w.heap[b]? = some (.cells cs t (0, 0))) (hp : (cs.toList.drop f).take part.size = part.toList) (h : wpList P ops Q rest (a.put o.dst (.agg part)) w) : wpList P ops Q (o :: rest) a w :=
  wpList_some hw fun K hK => by
    unfold Oper.wp execOp
    simp only [ho, hx, Instr.loadAt, Instr.sureAddr, Sem.run_bind, Sem.run_pure, Result.andThen_ok, run_loadVar_part w b f t T cs part d hg hp hu hd hi]
    exact hK _ _ h
theorem load_part (hgd : o.guard = none) (T : TypeId) (x : Operand) (ho : o.op = .load T x) (b f : Nat) (hx : a.eval x = .pointer (some ⟨b, f, none⟩)) (part : Array Value) (d : TypeDesc) (hu : P.underlying T = some d) (hd : (match d with | .struct _ | .array _ _ => true | _ => false) = true) (hi : (P.info? T).map (·.size) = some part.size)
    {cs : Array Value} {t : TypeId} (hg : w.heap[b]? = some (.cells cs t (0, 0))) (hp : (cs.toList.drop f).take part.size = part.toList) (h : wpList P ops Q rest (a.put o.dst (.agg part)) w) : wpList P ops Q (o :: rest) a w :=
  load_part_if (by simp only [Region.wanted, hgd]) T x ho b f hx part d hu hd hi hg hp h
theorem store_part (hgd : o.guard = none) (T : TypeId) (x y : Operand) (ho : o.op = .store T x y) (b f : Nat) (part new : Array Value) (hx : a.eval x = .pointer (some ⟨b, f, none⟩)) (hy : a.eval y = .agg part) (hi : (P.info? T).map (·.size) = some part.size)
    {old : Array Value} {t : TypeId} (hg : w.heap[b]? = some (.cells old t (0, 0))) (hfit : f + part.size ≤ old.size) (hn : (old.toList.take f ++ part.toList ++ old.toList.drop (f + part.size)).toArray = new) (h1 : part.toList.all (·.oneCell') = true) (h : wpList P ops Q rest (a.put o.dst undef) (w.setRow b new)) : wpList P ops Q (o :: rest) a w :=
  wpList_plain hgd fun K hK => by
    unfold Oper.wp execOp
    simp only [ho, hx, hy, Instr.storeAt, Instr.sureAddr, Sem.run_bind, Sem.run_pure, Result.andThen_ok, run_storeVar_part w b f t T old part new hg hfit hn hi h1]
    exact hK _ _ h
end
end Go.Proofs.Ytgpcmekcdgboeaa
