/-
  Blocks that hold a struct: a row behind stores of fields, and the load and the store of a whole row, its cells left open till they are known.
  Conditions: as each lemma says.
-/
import Derived.Test.YtboeaeoefoabdaaDoorBel
import Derived.Laws.Tables
import Derived.Laws.Rows
import Derived.Laws.ResultCell
import Derived.Lib.Hide
namespace Go.Proofs.YtboeaeoefoabdaaDoor
open Go.RowKit
theorem row_set {w : World} {b i : Nat} {cs : Array Value} {t : TypeId} {v : Value} (h : w.heap[b]? = some (.cells cs t (0, 0))) : (w.setCell ⟨b, i, none⟩ v).heap[b]? = some (.cells (cs.setIfInBounds i v) t (0, 0)) := by
  rw [setCell_eq_setRow _ _ _ _ _ _ _ h]
  exact setRow_heap _ _ _ _ _ _ h
theorem row_far {w : World} {b c i : Nat} {x : Obj} {v : Value} (h : w.heap[b]? = some x) (hne : b ≠ c) : (w.setCell ⟨c, i, none⟩ v).heap[b]? = some x := (Below.heap_setCell w ⟨c, i, none⟩ v b hne).trans h
theorem row_row {w : World} {b c : Nat} {x : Obj} {cs : Array Value} (h : w.heap[b]? = some x) (hne : b ≠ c) : (w.setRow c cs).heap[b]? = some x := (setRow_other w c b cs hne).trans h
theorem below_row {B b : Nat} {w w1 : World} {cs : Array Value} (h : Below B w w1) (hb : B ≤ b) : Below B w (w1.setRow b cs) :=
  ⟨h.os, h.tape, h.output, by rw [setRow_size]; exact h.size, fun k hk => (setRow_other _ _ _ _ (by omega)).trans (h.block k hk)⟩
theorem below_put {B b i : Nat} {w w1 : World} {v : Value} (h : Below B w w1) (hb : B ≤ b) : Below B w (w1.setCell ⟨b, i, none⟩ v) := h.setCell hb v
theorem row_drew {w : World} {b : Nat} {x : Option Obj} (h : w.heap[b]? = x) : w.drew.heap[b]? = x := h
theorem cell_drew (w : World) (a : Addr) : w.drew.cell? a = w.cell? a := rfl
theorem far_step {w u : World} {b c i j : Nat} {v : Value} (h : w.cell? ⟨b, i, none⟩ = u.cell? ⟨b, i, none⟩) (hne : c ≠ b) : (w.setCell ⟨c, j, none⟩ v).cell? ⟨b, i, none⟩ = u.cell? ⟨b, i, none⟩ :=
  (World.cell?_setCell_other w ⟨c, j, none⟩ ⟨b, i, none⟩ v (fun e => hne (congrArg Addr.block e))).trans h
section
variable {P : Program} {ops : Array Oper} {rest : List Oper} {o : Oper} {a : Act} {w : World} {Q : Exit → Act → World → Prop}
theorem load_row (hgd : o.guard = none) (T : TypeId) (x : Operand) (ho : o.op = .load T x) (b : Nat) (hx : a.eval x = .pointer (some ⟨b, 0, none⟩)) (n : Nat) (d : TypeDesc) (hu : P.underlying T = some d) (hd : (match d with | .struct _ | .array _ _ => true | _ => false) = true) (hi : (P.info? T).map (·.size) = some n)
    {cs : Array Value} {t : TypeId} (hg : w.heap[b]? = some (.cells cs t (0, 0))) (hn : cs.size = n) (h : wpList P ops Q rest (a.put o.dst (.agg cs)) w) : wpList P ops Q (o :: rest) a w :=
  wpList_load_row hgd T x ho b hx t cs (0, 0) d hg hu hd (by rw [hi, hn]) h
theorem store_row (hgd : o.guard = none) (T : TypeId) (x y : Operand) (ho : o.op = .store T x y) (b : Nat) (cs : Array Value) (hx : a.eval x = .pointer (some ⟨b, 0, none⟩)) (hy : a.eval y = .agg cs) (n : Nat) (hi : (P.info? T).map (·.size) = some n)
    {old : Array Value} {t : TypeId} (hg : w.heap[b]? = some (.cells old t (0, 0))) (hn : cs.size = n) (ho2 : old.size = n) (h1 : cs.toList.all (·.oneCell') = true) (h : wpList P ops Q rest (a.put o.dst undef) (w.setRow b cs)) : wpList P ops Q (o :: rest) a w :=
  wpList_store_row hgd T x y ho b cs hx hy t old hg (by rw [hi, hn]) (by rw [hn, ho2]) (by rw [← Array.all_toList]; exact h1) h
end
/-- A struct that has been stored into its result's cell is handed back. -/
theorem row_post {P : Program} {fn : Func} {R : Ending → World → Prop} {a : Act} {W : World} {p : Tmp} {T : TypeId} {g n : Nat} {cs old : Array Value} {t : TypeId} {d : TypeDesc} (hr : fn.results = #[.cell p T]) (hp : a.tmps.getD p undef = .pointer (some ⟨g, 0, none⟩))
    (hu : P.underlying T = some d) (hd : (match d with | .struct _ | .array _ _ => true | _ => false) = true) (hi : (P.info? T).map (·.size) = some n) (hn : cs.size = n) (hde : a.defers = [])
    (hg : W.heap[g]? = some (.cells old t (0, 0))) (hR : R (.returned (.agg cs)) (W.setRow g cs)) : bodyPost P fn R .ret a (W.setRow g cs) :=
  bodyPost_ret (results_cell_row hr _ _ g t cs (0, 0) d hp (setRow_heap _ _ _ _ _ _ hg) hu hd (by rw [hi, hn])) hde hR
/-- A struct in its result's cell and a slot are handed back. -/
theorem row_tmp_post {P : Program} {fn : Func} {R : Ending → World → Prop} {a : Act} {w : World} {p q : Tmp} {T : TypeId} {g n : Nat} {cs : Array Value} {t : TypeId} {d : TypeDesc} {v : Value} (hr : fn.results = #[.cell p T, .tmp q]) (hp : a.tmps.getD p undef = .pointer (some ⟨g, 0, none⟩)) (hv : a.tmps.getD q undef = v)
    (hu : P.underlying T = some d) (hd : (match d with | .struct _ | .array _ _ => true | _ => false) = true) (hi : (P.info? T).map (·.size) = some n) (hde : a.defers = [])
    (hg : w.heap[g]? = some (.cells cs t (0, 0))) (hn : cs.size = n) (hR : R (.returned (.tuple #[.agg cs, v])) w) : bodyPost P fn R .ret a w := by
  refine bodyPost_ret ?_ hde hR
  have hp' : a.tmps[p]?.getD undef = .pointer (some ⟨g, 0, none⟩) := by simpa using hp
  have hv' : a.tmps[q]?.getD undef = v := by simpa using hv
  simp [results, hr, hp', hv', asAddr, run_loadVar_row w g t T cs (0, 0) d hg hu hd (by rw [hi, hn])]
end Go.Proofs.YtboeaeoefoabdaaDoor
