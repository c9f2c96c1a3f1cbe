/-
  Texts put together by program: TbJ.
  Conditions: as each theorem says.
-/
import Derived.Laws.Tables
import Derived.Test.YtboeaeoefoabdaaGreatDoorAmab
namespace Go.Proofs.YtboeaeoefoabdaaGreatDoor
open Go.RowKit
def buildsRun (P : Program) : List Oper → Act → Option Act
 | [], a => some a
 | o :: r, a => match o.guard, o.op with
  | none, .build t parts => match P.built t (parts.map fun (i, x) => (i, a.eval x)).toList with
   | some cells => buildsRun P r (a.put o.dst (.agg cells))
   | none => none
  | _, _ => none
theorem wpList_builds {P : Program} {ops : Array Oper} {Q : Exit → Act → World → Prop} {rest : List Oper} {w : World} : ∀ (l : List Oper) (a a' : Act), buildsRun P l a = some a' → wpList P ops Q rest a' w → wpList P ops Q (l ++ rest) a w
 | [], a, a', h, hr => by
  obtain rfl : a = a' := by simpa [buildsRun] using h
  exact hr
 | o :: l, a, a', h, hr => by
  unfold buildsRun at h
  split at h
  ·rename_i t parts hg ho
   split at h
   ·rename_i cells hc
    refine wpList_build hg t parts ho (by rw [hc]; rfl) ?_
    rw [hc]
    exact wpList_builds l _ _ h hr
   ·cases h
  ·cases h
theorem region_builds {P : Program} {id : Nat} {ops : Array Oper} {Q : Exit → Act → World → Prop} {a a' : Act} {w : World} (n : Nat) (h : buildsRun P (ops.toList.take n) a = some a') (hr : wpList P ops Q (ops.toList.drop n) a' w) : (Code.region id ops false).wp P Q a w := by
 refine wp_region_list ?_
 rw [← List.take_append_drop n ops.toList]
 exact wpList_builds _ _ _ h hr
theorem wpList_allocRow {P : Program} {ops : Array Oper} {Q : Exit → Act → World → Prop} {rest : List Oper} {o : Oper} {a : Act} {w : World} (hg : o.guard = none) (T : TypeId) (ho : o.op = .alloc T) (z : Value) (hz : (zeroValue T).run P w = .ok z w)
  (h : wpList P ops Q rest (a.put o.dst (.pointer (some ⟨w.heap.size, 0, none⟩))) (w.alloc (.cells z.cells T))) : wpList P ops Q (o :: rest) a w := by
 refine wpList_plain hg fun K hK => ?_
 unfold Oper.wp execOp
 simp only [ho, Sem.run_bind, Instr.alloc, hz, newVar, newRow, run_newObj_alloc, Sem.run_pure, Result.andThen_ok]
 exact hK _ _ h
theorem calls_table {P : Program} {f : FuncId} {fn : Func} {id0 id1 m : Nat} {e : TypeId} {o0 oL : Oper} {ops : Array Oper} {T : TypeId} {y : Operand} {cells : Array Value} (n : Nat) (z : Value) (w : World)
  (hf : P.funcs[f]? = some fn) (hb : fn.body = some (.seq (.region id0 #[o0] false) (.seq (.region id1 ops false) .ret)))
  (hg0 : o0.guard = none) (hop0 : o0.op = .alloc T) (hz : ∀ w, (zeroValue T).run P w = .ok z w) (hzs : z.cells.size = cells.size) (hsz : (P.info? T).map (·.size) = some cells.size)
  (hL : ops.toList.drop n = [oL]) (hgL : oL.guard = none) (hdL : oL.dst = none) (hopL : oL.op = .store T (.tmp 0) y)
  (hrun : ∀ g : Nat, (buildsRun P (ops.toList.take n) (Act.put { tmps := #[] ++ Array.replicate (fn.ntmps - 0) undef, defers := [] } o0.dst (.pointer (some ⟨g, 0, none⟩)))).map (fun a => (a.defers, a.tmps.getD 0 undef, a.eval y)) = some ([], .pointer (some ⟨g, 0, none⟩), .agg cells))
  (hone : ∀ v ∈ cells, v.oneCell' = true) (hres : fn.results = #[.cell 0 T]) (hu : P.underlying T = some (.array m e)) :
  Calls P f #[] w fun e w' => e = .returned (.agg cells) ∧ Below w.heap.size w w' := by
 refine calls_of_wp hf hb ?_
 refine wp_seq ?_
 refine wp_region_list ?_
 refine wpList_allocRow hg0 T hop0 z (hz w) ?_
 refine wpList_nil ?_
 refine wp_seq ?_
 have hr := hrun w.heap.size
 obtain ⟨a', ha, he⟩ := Option.map_eq_some_iff.1 hr
 simp only [Prod.mk.injEq] at he
 refine region_builds n ha ?_
 rw [hL]
 have hh : (w.alloc (.cells z.cells T)).heap[w.heap.size]? = some (.cells z.cells T (0, 0)) := heap_alloc_new w _
 refine wpList_store_row hgL T (.tmp 0) y hopL w.heap.size cells he.2.1 he.2.2 T z.cells hh hsz hzs (Array.all_eq_true_iff_forall_mem.2 hone) ?_
 rw [hdL]
 refine wpList_nil ?_
 refine wp_ret ?_
 refine bodyPost_ret (v := .agg cells) (results_cell_row hres _ _ w.heap.size T cells (0, 0) _ he.2.1 (setRow_heap _ _ _ _ _ _ hh) hu rfl hsz) he.1 ⟨rfl, ?_⟩
 refine ⟨rfl, rfl, rfl, by simp, fun k hk => (setRow_other _ _ _ _ (by omega)).trans (Below.heap_alloc w _ k hk)⟩
theorem tab_size : (Tryz.prog.info? 81).map (·.size) = some tabCells.size := by rw [tabCells_size]; kernel_rfl
theorem tab_underlying : Tryz.prog.underlying 81 = some (.array 256 41) := by kernel_rfl
theorem tab_zero (w : World) : (zeroValue 81).run Tryz.prog w = .ok (.agg (Array.replicate 512 (.string noB))) w := by kernel_rfl
set_option maxRecDepth 1000000 in
set_option maxHeartbeats 4000000 in
theorem impl_opTable (w : World) :
  Calls Tryz.prog 59 #[] w fun e w' => e = .returned (.agg tabCells) ∧ Below w.heap.size w w' := by
 refine calls_table 152 (.agg (Array.replicate 512 (.string noB))) w Tryz.func59 rfl rfl rfl tab_zero (by rw [tabCells_size]; rfl) tab_size rfl rfl rfl rfl ?_ tabCells_one rfl tab_underlying
 intro g
 kernel_rfl
theorem impl_isNone (a b : ByteArray) (w : World) :
  Calls Tryz.prog 86 #[.agg #[.string a, .string b]] w fun e w' => e = .returned (.bool (decide (a = noB))) ∧ Below w.heap.size w w' := by
 by_cases h : a = noB
 ·subst h
  unfold noB
  go_enter Tryz.func86, Tryz.ntmps86
  go_wp2
  go_ret
  exact ⟨rfl, below_alloc (Below.refl _ _) _⟩
 ·rw [decide_eq_false h]
  have hne := eq_no h
  have hn : noB.toList = [] := by rw [ByteArray.toList_eq]; rfl
  rw [hn] at hne
  clear h hn
  go_enter Tryz.func86, Tryz.ntmps86
  go_wp2
  go_ret
  exact ⟨rfl, below_alloc (Below.refl _ _) _⟩
end Go.Proofs.YtboeaeoefoabdaaGreatDoor
