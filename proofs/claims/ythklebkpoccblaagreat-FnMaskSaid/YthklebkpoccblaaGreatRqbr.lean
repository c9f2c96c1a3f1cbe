/-
  Texts put together by program: TbH, TbJ, TbK, TbI, CkE, CkG.
  Conditions: as each theorem says.
-/
import Derived.Deep.AppendLies
import Derived.FnLit
import Derived.Maps.OwnRows
import Derived.Maps.Views
import Derived.Test.YthklebkpoccblaaGreatRqbq
namespace Go.Proofs.YthklebkpoccblaaGreat
def noB : ByteArray := ⟨#[]⟩
def rowAt (i : Nat) : ByteArray × ByteArray := match opRows.find? fun r => r.1 == i with
 | some r => (nmR r, mdR r)
 | none => (noB, noB)
def rowCells (i : Nat) : List Value := [.string (rowAt i).1, .string (rowAt i).2]
def tabCells : Array Value := ((List.range 256).flatMap rowCells).toArray
theorem flat_two {α β} (f : α → List β) : ∀ (l : List α), (∀ x ∈ l, (f x).length = 2) → ∀ (i : Nat) (h : i < l.length), (l.flatMap f)[2 * i]? = (f l[i])[0]? ∧ (l.flatMap f)[2 * i + 1]? = (f l[i])[1]?
 | [], _, i, h => absurd h (Nat.not_lt_zero _)
 | x :: l, hl, 0, _ => by
  have h2 := hl x (by simp)
  constructor
  ·show (f x ++ l.flatMap f)[0]? = (f x)[0]?
   rw [List.getElem?_append_left (by omega)]
  ·show (f x ++ l.flatMap f)[1]? = (f x)[1]?
   rw [List.getElem?_append_left (by omega)]
 | x :: l, hl, i + 1, h => by
  have h2 := hl x (by simp)
  have hi : i < l.length := by simpa using h
  have ih := flat_two f l (fun y hy => hl y (by simp [hy])) i hi
  constructor
  ·show (f x ++ l.flatMap f)[2 * (i + 1)]? = (f l[i])[0]?
   rw [List.getElem?_append_right (by omega), h2, ← ih.1]; rfl
  ·show (f x ++ l.flatMap f)[2 * (i + 1) + 1]? = (f l[i])[1]?
   rw [List.getElem?_append_right (by omega), h2, ← ih.2, show 2 * (i + 1) + 1 - 2 = 2 * i + 1 by omega]
theorem tabCells_size : tabCells.size = 512 := by
 unfold tabCells
 rw [List.size_toArray, flat_length rowCells 2 _ (fun _ _ => rfl), List.length_range]
theorem tabCells_at (i : Nat) (h : i < 256) : tabCells[2 * i]? = some (.string (rowAt i).1) ∧ tabCells[2 * i + 1]? = some (.string (rowAt i).2) := by
 have := flat_two rowCells (List.range 256) (fun _ _ => rfl) i (by simpa using h)
 simpa [tabCells, rowCells] using this
theorem tabCells_one : ∀ v ∈ tabCells, v.oneCell' = true := by
 intro v hv
 unfold tabCells at hv
 simp only [List.mem_toArray, List.mem_flatMap, rowCells] at hv
 obtain ⟨i, _, h⟩ := hv
 simp only [List.mem_cons, List.not_mem_nil, or_false] at h
 rcases h with rfl | rfl <;> rfl
theorem rowAt_mod (n : Int) (m : Nat) (hm : (m : Int) = n % 256) : opOf n = if (rowAt m).1 = noB then (jamN, impM) else rowAt m := by
 have e : (fun r : Nat × List UInt8 × List UInt8 => (r.1 : Int) == n % 256) = fun r => r.1 == m := by
  funext r
  rw [← hm]
  exact Bool.eq_iff_iff.2 (by simp; omega)
 unfold opOf rowAt
 rw [e]
 cases hf : opRows.find? fun r => r.1 == m with
 | none => simp
 | some r =>
  have h3 := (rows_ok r (List.mem_of_find?_eq_some hf)).2.1
  have hne : nmR r ≠ noB := by
   intro h
   have := congrArg (fun b : ByteArray => b.data.toList) h
   simp [nmR, noB] at this
   rw [this] at h3
   simp at h3
  simp [hne]
def codesAt (s : ByteArray) (k : Nat) : List Int := ((List.range k).filter fun i => decide ((rowAt i).1 ≠ noB ∧ (rowAt i).1 = s)).map fun i : Nat => (i : Int)
theorem codesAt_step (s : ByteArray) (k : Nat) : codesAt s (k + 1) = codesAt s k ++ (if (rowAt k).1 ≠ noB ∧ (rowAt k).1 = s then [(k : Int)] else []) := by
 unfold codesAt
 rw [List.range_succ, List.filter_append, List.map_append]
 congr 1
 by_cases h : (rowAt k).1 ≠ noB ∧ (rowAt k).1 = s
 ·rw [if_pos h, List.filter_cons_of_pos (by simpa using h)]; rfl
 ·rw [if_neg h, List.filter_cons_of_neg (by simpa using h)]; rfl
end Go.Proofs.YthklebkpoccblaaGreat
namespace Go.Proofs.YthklebkpoccblaaGreat
open Go.RowKit
def buildsRun (P : Program) : List Oper → Act → Option Act
 | [], a => some a
 | o :: r, a => match o.guard, o.op with
  | none, .build t parts => match P.built t (parts.map fun (i, x) => (i, a.eval x)).toList with
   | some cells => buildsRun P r (a.put o.dst (.agg cells))
   | none => none
  | _, _ => none
theorem wpList_builds {P : Program} {ops : Array Oper} {Q : Exit → Act → World → Prop} {rest : List Oper} {w : World} : ∀ (l : List Oper) (a a' : Act), buildsRun P l a = some a' → wpList P ops Q rest a' w → wpList P ops Q (l ++ rest) a w
 | [], a, a', h, hr => by
  obtain rfl : a = a' := by simpa [buildsRun] using h
  exact hr
 | o :: l, a, a', h, hr => by
  unfold buildsRun at h
  split at h
  ·rename_i t parts hg ho
   split at h
   ·rename_i cells hc
    refine wpList_build hg t parts ho (by rw [hc]; rfl) ?_
    rw [hc]
    exact wpList_builds l _ _ h hr
   ·cases h
  ·cases h
theorem region_builds {P : Program} {id : Nat} {ops : Array Oper} {Q : Exit → Act → World → Prop} {a a' : Act} {w : World} (n : Nat) (h : buildsRun P (ops.toList.take n) a = some a') (hr : wpList P ops Q (ops.toList.drop n) a' w) : (Code.region id ops false).wp P Q a w := by
 refine wp_region_list ?_
 rw [← List.take_append_drop n ops.toList]
 exact wpList_builds _ _ _ h hr
theorem wpList_allocRow {P : Program} {ops : Array Oper} {Q : Exit → Act → World → Prop} {rest : List Oper} {o : Oper} {a : Act} {w : World} (hg : o.guard = none) (T : TypeId) (ho : o.op = .alloc T) (z : Value) (hz : (zeroValue T).run P w = .ok z w)
  (h : wpList P ops Q rest (a.put o.dst (.pointer (some ⟨w.heap.size, 0, none⟩))) (w.alloc (.cells z.cells T))) : wpList P ops Q (o :: rest) a w := by
 refine wpList_plain hg fun K hK => ?_
 unfold Oper.wp execOp
 simp only [ho, Sem.run_bind, Instr.alloc, hz, newVar, newRow, run_newObj_alloc, Sem.run_pure, Result.andThen_ok]
 exact hK _ _ h
theorem calls_table {P : Program} {f : FuncId} {fn : Func} {id0 id1 m : Nat} {e : TypeId} {o0 oL : Oper} {ops : Array Oper} {T : TypeId} {y : Operand} {cells : Array Value} (n : Nat) (z : Value) (w : World)
  (hf : P.funcs[f]? = some fn) (hb : fn.body = some (.seq (.region id0 #[o0] false) (.seq (.region id1 ops false) .ret)))
  (hg0 : o0.guard = none) (hop0 : o0.op = .alloc T) (hz : ∀ w, (zeroValue T).run P w = .ok z w) (hzs : z.cells.size = cells.size) (hsz : (P.info? T).map (·.size) = some cells.size)
  (hL : ops.toList.drop n = [oL]) (hgL : oL.guard = none) (hdL : oL.dst = none) (hopL : oL.op = .store T (.tmp 0) y)
  (hrun : ∀ g : Nat, (buildsRun P (ops.toList.take n) (Act.put { tmps := #[] ++ Array.replicate (fn.ntmps - 0) undef, defers := [] } o0.dst (.pointer (some ⟨g, 0, none⟩)))).map (fun a => (a.defers, a.tmps.getD 0 undef, a.eval y)) = some ([], .pointer (some ⟨g, 0, none⟩), .agg cells))
  (hone : ∀ v ∈ cells, v.oneCell' = true) (hres : fn.results = #[.cell 0 T]) (hu : P.underlying T = some (.array m e)) :
  Calls P f #[] w fun e w' => e = .returned (.agg cells) ∧ Below w.heap.size w w' := by
 refine calls_of_wp hf hb ?_
 refine wp_seq ?_
 refine wp_region_list ?_
 refine wpList_allocRow hg0 T hop0 z (hz w) ?_
 refine wpList_nil ?_
 refine wp_seq ?_
 have hr := hrun w.heap.size
 obtain ⟨a', ha, he⟩ := Option.map_eq_some_iff.1 hr
 simp only [Prod.mk.injEq] at he
 refine region_builds n ha ?_
 rw [hL]
 have hh : (w.alloc (.cells z.cells T)).heap[w.heap.size]? = some (.cells z.cells T (0, 0)) := heap_alloc_new w _
 refine wpList_store_row hgL T (.tmp 0) y hopL w.heap.size cells he.2.1 he.2.2 T z.cells hh hsz hzs (Array.all_eq_true_iff_forall_mem.2 hone) ?_
 rw [hdL]
 refine wpList_nil ?_
 refine wp_ret ?_
 refine bodyPost_ret (v := .agg cells) (results_cell_row hres _ _ w.heap.size T cells (0, 0) _ he.2.1 (setRow_heap _ _ _ _ _ _ hh) hu rfl hsz) he.1 ⟨rfl, ?_⟩
 refine ⟨rfl, rfl, rfl, by simp, fun k hk => (setRow_other _ _ _ _ (by omega)).trans (Below.heap_alloc w _ k hk)⟩
theorem tab_size : (Tryz.prog.info? 127).map (·.size) = some tabCells.size := by rw [tabCells_size]; kernel_rfl
theorem tab_underlying : Tryz.prog.underlying 127 = some (.array 256 55) := by kernel_rfl
theorem tab_zero (w : World) : (zeroValue 127).run Tryz.prog w = .ok (.agg (Array.replicate 512 (.string noB))) w := by kernel_rfl
set_option maxRecDepth 1000000 in
set_option maxHeartbeats 4000000 in
theorem impl_opTable (w : World) :
  Calls Tryz.prog 115 #[] w fun e w' => e = .returned (.agg tabCells) ∧ Below w.heap.size w w' := by
 refine calls_table 152 (.agg (Array.replicate 512 (.string noB))) w Tryz.func115 rfl rfl rfl tab_zero (by rw [tabCells_size]; rfl) tab_size rfl rfl rfl rfl ?_ tabCells_one rfl tab_underlying
 intro g
 kernel_rfl
theorem impl_isNone (a b : ByteArray) (w : World) :
  Calls Tryz.prog 116 #[.agg #[.string a, .string b]] w fun e w' => e = .returned (.bool (decide (a = noB))) ∧ Below w.heap.size w w' := by
 by_cases h : a = noB
 ·subst h
  unfold noB
  go_enter Tryz.func116, Tryz.ntmps116
  go_wp2
  go_ret
  exact ⟨rfl, below_alloc (Below.refl _ _) _⟩
 ·rw [decide_eq_false h]
  have hne := eq_no h
  have hn : noB.toList = [] := by rw [ByteArray.toList_eq]; rfl
  rw [hn] at hne
  clear h hn
  go_enter Tryz.func116, Tryz.ntmps116
  go_wp2
  go_ret
  exact ⟨rfl, below_alloc (Below.refl _ _) _⟩
end Go.Proofs.YthklebkpoccblaaGreat
namespace Go.Proofs.YthklebkpoccblaaGreat
open Go.RowKit Go.Maps
open Go.ChangeShapes (lits)
def itemsOf : DataW Unit → List (DataW Unit)
 | .slice es _ => es
 | _ => []
def keyS (s : ByteArray) : Lit := .string s.data.toList
def Coded (B k : Nat) (w : World) : Prop := ∃ D : DataW Unit, IsMap D ∧ w.ownsGroups Tryz.prog 9 (B + 1) 5 .u8 B k D ∧ ∀ s : ByteArray, s.size ≤ maxLen → itemsOf (D.atKey (keyS s) .nil) = lits .u8 (codesAt s k)
theorem groups_mono {w : World} {P : Program} {k e : TypeId} {base b n : Nat} {q : IntKind} {D : DataW Unit} (h : w.ownsGroups P k base e q b n D) : w.ownsGroups P k base e q b (n + 1) D := by
 obtain ⟨es, clock, hb, F, hs, rfl, hbb, hlen, hap⟩ := h
 exact ⟨es, clock, hb, F, by omega, rfl, hbb, fun x hx zs ho => by have := hlen x hx zs ho; omega, hap⟩
theorem groups_on {w w' : World} {P : Program} {k e : TypeId} {base b n : Nat} {q : IntKind} {D : DataW Unit} (h : w.ownsGroups P k base e q b n D) (hg : w.grownBy w' none) :
  w'.ownsGroups P k base e q b n D ∧ ∀ es clock, w'.heap[b]? = some (.map es clock) → ∀ x ∈ es.toList, ∀ g, x.val.ownBlock = some g → g < w.heap.size := by
 obtain ⟨es, clock, hb, F, hs, rfl, hbb, hlen, hap⟩ := h
 have owned : ∀ x ∈ es.toList, ∃ zs, w.ownsInts base e q x.val zs := fun x hx => by
  obtain ⟨y, hy⟩ := F.reads x hx
  obtain ⟨z, hz, _⟩ := WideElems.rd_val hy
  obtain ⟨zs, ho, _⟩ := rowElem_inv hz
  exact ⟨zs, ho⟩
 have stay : ∀ {v : Value} {zs : List Int}, w.ownsInts base e q v zs → w'.ownsInts base e q v zs := fun {v zs} ho => ho.kept hg (by cases v.ownBlock <;> simp)
 obtain ⟨F1, hmap, _⟩ := F.stay (R' := rowElem w' base e q) (fun x hx z hz => by
  obtain ⟨zs, ho, rfl⟩ := rowElem_inv hz
  exact rowElem_mk (stay ho))
 have hb' : w'.heap[b]? = some (.map es clock) := (hg.block b (Array.getElem?_eq_some_iff.1 hb).1 (by simp)).trans hb
 refine ⟨⟨es, clock, hb', F1, hs, by rw [hmap], hbb, fun x hx zs ho => ?_, hap⟩, fun es2 clock2 hb2 x hx g hx' => ?_⟩
 ·obtain ⟨zs0, ho0⟩ := owned x hx
  rw [ho.unique (stay ho0)]
  exact hlen x hx zs0 ho0
 ·rw [hb'] at hb2
  simp only [Option.some.injEq, Obj.map.injEq] at hb2
  obtain ⟨rfl, rfl⟩ := hb2
  obtain ⟨zs0, ho0⟩ := owned x hx
  exact (ho0.1.lt g hx').2
theorem Coded.grown {B k : Nat} {w w' : World} (h : Coded B k w) (hg : w.grownBy w' none) : Coded B k w' := by
 obtain ⟨D, h1, h2, h3⟩ := h
 exact ⟨D, h1, (groups_on h2 hg).1, h3⟩
theorem Coded.none {B k : Nat} {w : World} (h : Coded B k w) (hk : (rowAt k).1 = noB) : Coded B (k + 1) w := by
 obtain ⟨D, h1, h2, h3⟩ := h
 exact ⟨D, h1, groups_mono h2, fun s hs => by rw [h3 s hs, codesAt_step, if_neg (fun h => h.1 hk), List.append_nil]⟩
end Go.Proofs.YthklebkpoccblaaGreat
namespace Go.Proofs.YthklebkpoccblaaGreat
open Go.RowKit Go.Maps
theorem tab_part (m : Nat) (h : m < 256) : tabCells.extract (m * 2) (m * 2 + 2) = #[.string (rowAt m).1, .string (rowAt m).2] := by
 have hs := tabCells_size
 have h2 := tabCells_at m h
 rw [Nat.mul_comm 2 m] at h2
 apply Array.ext
 ·simp [hs]; omega
 ·intro i h1 _
  simp only [Array.size_extract, hs] at h1
  rw [Array.getElem_extract]
  match i, h1 with
  | 0, _ => exact Option.some.inj ((Array.getElem?_eq_getElem (by rw [hs]; omega)).symm.trans h2.1)
  | 1, _ => exact Option.some.inj ((Array.getElem?_eq_getElem (by rw [hs]; omega)).symm.trans h2.2)
  | i + 2, h1 => omega
theorem index_tab (m : Nat) (h : m < 256) (w : World) : (Instr.index 127 (.agg tabCells) (.int .u8 (m : Int))).run Tryz.prog w = .ok (.agg #[.string (rowAt m).1, .string (rowAt m).2]) w := by
 have hb : 0 ≤ (m : Int) ∧ (m : Int) < ((256 : Nat) : Int) := by omega
 simp [Instr.index, run_underlying tab_underlying, asIntOf, part, tab_part m h]
 omega
def TabAt (g : Nat) (w : World) : Prop := ∀ i, i < 256 → w.cell? ⟨g, i * 2, none⟩ = some (.string (rowAt i).1) ∧ w.cell? ⟨g, i * 2 + 1, none⟩ = some (.string (rowAt i).2)
theorem TabAt.below {g : Nat} {w w' : World} (h : TabAt g w) (hg : g < w.heap.size) (hb : Below w.heap.size w w') : TabAt g w' := fun i hi => ⟨(hb.cell hg).trans (h i hi).1, (hb.cell hg).trans (h i hi).2⟩
set_option maxRecDepth 100000 in
set_option maxHeartbeats 1000000 in
theorem impl_opOf (n : Int) (w : World) :
  Calls Tryz.prog 90 #[.int .i64 n] w fun e w' => e = .returned (.agg #[.string (opOf n).1, .string (opOf n).2]) ∧ Below w.heap.size w w' := by
 have HT := Lib.hid (impl_opTable)
 obtain ⟨m, hm⟩ : ∃ m : Nat, (m : Int) = n % 256 := ⟨(n % 256).toNat, by omega⟩
 have hlt : m < 256 := by omega
 have hix := index_tab m hlt
 rw [hm] at hix
 have hop := rowAt_mod n m hm
 have hin := impl_isNone (rowAt m).1 (rowAt m).2
 clear hm hlt
 generalize rowAt m = r at *
 by_cases hr : r.1 = noB
 ·rw [if_pos hr] at hop
  rw [decide_eq_true hr] at hin
  have HIN := Lib.hid hin
  have HO := Lib.hid hop
  clear hin hop hr
  go_enter Tryz.func90, Tryz.ntmps90
  go_wp2_with (go_at_call 115; refine (HT.out _).mono ?_; rintro e w1 ⟨rfl, hb1⟩; refine Hid.out ?_)
  have K := Lib.hid (blk_below (blk_new w _) hb1)
  have B := Lib.hid (below_then ((Below.refl w.heap.size w).alloc (Nat.le_refl _) _) hb1)
  clear hb1
  refine Lib.hid ?_
  go_wp2_with (go_at_call 116; refine (HIN.out _).mono ?_; rintro e w2 ⟨rfl, hb2⟩; refine Hid.out ?_)
  have K2 := blk_below (blk_old K.out) hb2
  have O2 := blk_below (blk_new w1 _) hb2
  have B2 := Lib.hid (below_then (below_alloc B.out _) hb2)
  have k0 : w2.cell? ⟨w.heap.size, 0, none⟩ = some (.string ⟨#[]⟩) := cell_of_blk K2 rfl
  have k1 : w2.cell? ⟨w.heap.size, 1, none⟩ = some (.string ⟨#[]⟩) := cell_of_blk K2 rfl
  have f0 : w2.frozen? ⟨w.heap.size, 0, none⟩ = false := free_of_blk K2
  have f1 : w2.frozen? ⟨w.heap.size, 1, none⟩ = false := free_of_blk K2
  have o0 : w2.cell? ⟨w1.heap.size, 0, none⟩ = some (.string r.1) := cell_of_blk O2 rfl
  have o1 : w2.cell? ⟨w1.heap.size, 1, none⟩ = some (.string r.2) := cell_of_blk O2 rfl
  clear K2 O2 hb2 hix
  refine Lib.hid ?_
  go_wp2
  exact bodyPost_ret (v := .agg #[.string jamN, .string impM]) (by simp [results, Tryz.results90, go_sem, k0, k1]; exact ⟨rfl, rfl⟩) rfl ⟨by rw [HO.out], (B2.out.setCell (Nat.le_refl _) _).setCell (Nat.le_refl _) _⟩
 ·rw [if_neg hr] at hop
  rw [decide_eq_false hr] at hin
  have HIN := Lib.hid hin
  have HO := Lib.hid hop
  clear hin hop hr
  go_enter Tryz.func90, Tryz.ntmps90
  go_wp2_with (go_at_call 115; refine (HT.out _).mono ?_; rintro e w1 ⟨rfl, hb1⟩; refine Hid.out ?_)
  have K := Lib.hid (blk_below (blk_new w _) hb1)
  have B := Lib.hid (below_then ((Below.refl w.heap.size w).alloc (Nat.le_refl _) _) hb1)
  clear hb1
  refine Lib.hid ?_
  go_wp2_with (go_at_call 116; refine (HIN.out _).mono ?_; rintro e w2 ⟨rfl, hb2⟩; refine Hid.out ?_)
  have K2 := blk_below (blk_old K.out) hb2
  have O2 := blk_below (blk_new w1 _) hb2
  have B2 := Lib.hid (below_then (below_alloc B.out _) hb2)
  have k0 : w2.cell? ⟨w.heap.size, 0, none⟩ = some (.string ⟨#[]⟩) := cell_of_blk K2 rfl
  have k1 : w2.cell? ⟨w.heap.size, 1, none⟩ = some (.string ⟨#[]⟩) := cell_of_blk K2 rfl
  have f0 : w2.frozen? ⟨w.heap.size, 0, none⟩ = false := free_of_blk K2
  have f1 : w2.frozen? ⟨w.heap.size, 1, none⟩ = false := free_of_blk K2
  have o0 : w2.cell? ⟨w1.heap.size, 0, none⟩ = some (.string r.1) := cell_of_blk O2 rfl
  have o1 : w2.cell? ⟨w1.heap.size, 1, none⟩ = some (.string r.2) := cell_of_blk O2 rfl
  clear K2 O2 hb2 hix
  refine Lib.hid ?_
  go_wp2
  exact bodyPost_ret (v := .agg #[.string r.1, .string r.2]) (by simp [results, Tryz.results90, go_sem, k0, k1]) rfl ⟨by rw [HO.out], (B2.out.setCell (Nat.le_refl _) _).setCell (Nat.le_refl _) _⟩
theorem in_no {x : ByteArray} {ws : List (List UInt8)} (h : ∀ w ∈ ws, ¬ x = ⟨w.toArray⟩) : inB x ws = false := by
 unfold inB
 rw [List.any_eq_false]
 intro w hw
 have := h w hw
 simpa using fun e : (⟨w.toArray⟩ : ByteArray) = x => this e.symm
def kindL (a b : ByteArray) : Int := if inB b wsOwn then 3 else if inB a wsJ then 3 else if inB a wsSt then 1 else if inB a wsMo then 2 else 0
set_option maxRecDepth 100000 in
set_option maxHeartbeats 2000000 in
theorem impl_kindListed (a b : ByteArray) (w : World) :
  Calls Tryz.prog 91 #[opV a b] w fun e w' => e = .returned (.int .i64 (kindL a b)) ∧ Below w.heap.size w w' := by
 have hd : kindL a b = if inB b wsOwn then 3 else if inB a wsJ then 3 else if inB a wsSt then 1 else if inB a wsMo then 2 else 0 := rfl
 unfold opV
 by_cases h_imp : b = ⟨#[105, 109, 112]⟩
 ·subst h_imp
  rw [hd, if_pos (by decide)]
  clear hd
  go_enter Tryz.func91, Tryz.ntmps91
  go_wp2
  go_ret
  exact ⟨rfl, below_alloc (Below.refl _ _) _⟩
 have n_imp := ne_list [105, 109, 112] h_imp
 by_cases h_acc : b = ⟨#[97, 99, 99]⟩
 ·subst h_acc
  rw [hd, if_pos (by decide)]
  clear hd
  go_enter Tryz.func91, Tryz.ntmps91
  go_wp2
  go_ret
  exact ⟨rfl, below_alloc (Below.refl _ _) _⟩
 have n_acc := ne_list [97, 99, 99] h_acc
 by_cases h_rel : b = ⟨#[114, 101, 108]⟩
 ·subst h_rel
  rw [hd, if_pos (by decide)]
  clear hd
  go_enter Tryz.func91, Tryz.ntmps91
  go_wp2
  go_ret
  exact ⟨rfl, below_alloc (Below.refl _ _) _⟩
 have n_rel := ne_list [114, 101, 108] h_rel
 rw [in_no (ws := wsOwn) (by intro w hw; simp only [wsOwn, List.mem_cons, List.not_mem_nil, or_false] at hw; rcases hw with rfl | rfl | rfl <;> assumption), if_neg (by decide)] at hd
 by_cases h_JMP : a = ⟨#[74, 77, 80]⟩
 ·subst h_JMP
  rw [hd, if_pos (by decide)]
  clear hd
  go_enter Tryz.func91, Tryz.ntmps91
  go_wp2
  go_ret
  exact ⟨rfl, below_alloc (Below.refl _ _) _⟩
 have n_JMP := ne_list [74, 77, 80] h_JMP
 by_cases h_JSR : a = ⟨#[74, 83, 82]⟩
 ·subst h_JSR
  rw [hd, if_pos (by decide)]
  clear hd
  go_enter Tryz.func91, Tryz.ntmps91
  go_wp2
  go_ret
  exact ⟨rfl, below_alloc (Below.refl _ _) _⟩
 have n_JSR := ne_list [74, 83, 82] h_JSR
 rw [in_no (ws := wsJ) (by intro w hw; simp only [wsJ, List.mem_cons, List.not_mem_nil, or_false] at hw; rcases hw with rfl | rfl <;> assumption), if_neg (by decide)] at hd
 by_cases h_STA : a = ⟨#[83, 84, 65]⟩
 ·subst h_STA
  rw [hd, if_pos (by decide)]
  clear hd
  go_enter Tryz.func91, Tryz.ntmps91
  go_wp2
  go_ret
  exact ⟨rfl, below_alloc (Below.refl _ _) _⟩
 have n_STA := ne_list [83, 84, 65] h_STA
 by_cases h_STX : a = ⟨#[83, 84, 88]⟩
 ·subst h_STX
  rw [hd, if_pos (by decide)]
  clear hd
  go_enter Tryz.func91, Tryz.ntmps91
  go_wp2
  go_ret
  exact ⟨rfl, below_alloc (Below.refl _ _) _⟩
 have n_STX := ne_list [83, 84, 88] h_STX
 by_cases h_STY : a = ⟨#[83, 84, 89]⟩
 ·subst h_STY
  rw [hd, if_pos (by decide)]
  clear hd
  go_enter Tryz.func91, Tryz.ntmps91
  go_wp2
  go_ret
  exact ⟨rfl, below_alloc (Below.refl _ _) _⟩
 have n_STY := ne_list [83, 84, 89] h_STY
 rw [in_no (ws := wsSt) (by intro w hw; simp only [wsSt, List.mem_cons, List.not_mem_nil, or_false] at hw; rcases hw with rfl | rfl | rfl <;> assumption), if_neg (by decide)] at hd
 by_cases h_ASL : a = ⟨#[65, 83, 76]⟩
 ·subst h_ASL
  rw [hd, if_pos (by decide)]
  clear hd
  go_enter Tryz.func91, Tryz.ntmps91
  go_wp2
  go_ret
  exact ⟨rfl, below_alloc (Below.refl _ _) _⟩
 have n_ASL := ne_list [65, 83, 76] h_ASL
 by_cases h_LSR : a = ⟨#[76, 83, 82]⟩
 ·subst h_LSR
  rw [hd, if_pos (by decide)]
  clear hd
  go_enter Tryz.func91, Tryz.ntmps91
  go_wp2
  go_ret
  exact ⟨rfl, below_alloc (Below.refl _ _) _⟩
 have n_LSR := ne_list [76, 83, 82] h_LSR
 by_cases h_ROL : a = ⟨#[82, 79, 76]⟩
 ·subst h_ROL
  rw [hd, if_pos (by decide)]
  clear hd
  go_enter Tryz.func91, Tryz.ntmps91
  go_wp2
  go_ret
  exact ⟨rfl, below_alloc (Below.refl _ _) _⟩
 have n_ROL := ne_list [82, 79, 76] h_ROL
 by_cases h_ROR : a = ⟨#[82, 79, 82]⟩
 ·subst h_ROR
  rw [hd, if_pos (by decide)]
  clear hd
  go_enter Tryz.func91, Tryz.ntmps91
  go_wp2
  go_ret
  exact ⟨rfl, below_alloc (Below.refl _ _) _⟩
 have n_ROR := ne_list [82, 79, 82] h_ROR
 by_cases h_INC : a = ⟨#[73, 78, 67]⟩
 ·subst h_INC
  rw [hd, if_pos (by decide)]
  clear hd
  go_enter Tryz.func91, Tryz.ntmps91
  go_wp2
  go_ret
  exact ⟨rfl, below_alloc (Below.refl _ _) _⟩
 have n_INC := ne_list [73, 78, 67] h_INC
 by_cases h_DEC : a = ⟨#[68, 69, 67]⟩
 ·subst h_DEC
  rw [hd, if_pos (by decide)]
  clear hd
  go_enter Tryz.func91, Tryz.ntmps91
  go_wp2
  go_ret
  exact ⟨rfl, below_alloc (Below.refl _ _) _⟩
 have n_DEC := ne_list [68, 69, 67] h_DEC
 rw [in_no (ws := wsMo) (by intro w hw; simp only [wsMo, List.mem_cons, List.not_mem_nil, or_false] at hw; rcases hw with rfl | rfl | rfl | rfl | rfl | rfl <;> assumption), if_neg (by decide)] at hd
 rw [hd]
 clear hd h_imp h_acc h_rel h_JMP h_JSR h_STA h_STX h_STY h_ASL h_LSR h_ROL h_ROR h_INC h_DEC
 go_enter Tryz.func91, Tryz.ntmps91
 go_wp2
 go_ret
 exact ⟨rfl, below_alloc (Below.refl _ _) _⟩
end Go.Proofs.YthklebkpoccblaaGreat
namespace Go.Proofs.YthklebkpoccblaaGreat
open Go.RowKit
set_option maxRecDepth 100000 in
set_option maxHeartbeats 2000000 in
theorem m_lead_r {B : Nat} {b : Nat} (k : ClkI) (w : World) (h : ClkAt b k w) (hB : B ≤ b) (hr : k.sq = 3) : Calls Tryz.prog 133 #[.pointer (some ⟨b, 0, none⟩)] w (Did B b w { k with ed := k.ed, vl := 252, ba := 65532, bd := 0, bw := false, lo := k.dt, p := wI k.p 4 true } (.tuple #[])) := by
 unfold Did
 have HV := Lib.hid (fun w => show Calls Tryz.prog 158 #[.int .i64 3] w fun e w' => e = .returned (.int .i64 65532) ∧ w = w' from impl_vector 3 w)
 have HLo := Lib.hid (fun w => show Calls Tryz.prog 61 #[.int .i64 65532] w fun e w' => e = .returned (.int .i64 252) ∧ w = w' from low_of 65532 w)
 have Z := Lib.hid h
 clear h
 have fz := Z.out.free
 have Q := Lib.hid (Below.refl B w)
 have _ := hB
 go_enter Tryz.func133, Tryz.ntmps133
 go_wp2_with (go_at_call 159; refine (m_leadsTo_r _ _ Z.out hB hr).mono ?_; rintro e w1 ⟨rfl, Z1, Q1⟩; refine Hid.out ?_)
 have Q := Lib.hid (Q.out.trans Q1)
 have Z : Hid (ClkAt b (k) w1) := Lib.hid (Z1)
 clear Z1 Q1
 clear fz 
 have fz := Z.out.free
 have c_vl : w1.cell? ⟨b, 11, none⟩ = some (.int .i64 (k.vl)) := Z.out.c_vl
 refine Lib.hid ?_
 go_wp2_with (first | (go_at_call 89; refine (m_read _ 65532 _ (Z.out.s_vl 252) hB).mono ?_; rintro e w2 ⟨rfl, Z1, Q1⟩; refine Hid.out ?_) | (go_at_call 158; refine (HV.out _).mono ?_; rintro e w' ⟨rfl, rfl⟩) | (go_at_call 61; refine (HLo.out _).mono ?_; rintro e w' ⟨rfl, rfl⟩))
 have Q := Lib.hid ((below_put (i := 11) (v := .int .i64 (252)) Q.out hB).trans Q1)
 have Z : Hid (ClkAt b ({ k with vl := 252, ba := 65532, bd := 0, bw := false }) w2) := Lib.hid (Z1)
 clear Z1 Q1
 clear fz c_vl
 have fz := Z.out.free
 have c_lo : w2.cell? ⟨b, 9, none⟩ = some (.int .i64 (k.lo)) := Z.out.c_lo
 have c_p : w2.cell? ⟨b, 4, none⟩ = some (.int .i64 (k.p)) := Z.out.c_p
 refine Lib.hid ?_
 go_wp2_with (first | (go_at_call 160; refine (impl_with _ _ _ _).mono ?_; rintro e w' ⟨rfl, rfl⟩))
 go_end0
 exact ⟨rfl, ((Z.out.s_lo k.dt).s_p (wI k.p 4 true)), (below_put (i := 4) (v := .int .i64 ((wI k.p 4 true))) (below_put (i := 9) (v := .int .i64 (k.dt)) Q.out hB) hB)⟩
set_option maxRecDepth 100000 in
set_option maxHeartbeats 2000000 in
theorem m_fetch_s {B : Nat} {b : Nat} (k : ClkI) (w : World) (h : ClkAt b k w) (hB : B ≤ b) (hn : ¬ k.nx = 0) : Calls Tryz.prog 118 #[.pointer (some ⟨b, 0, none⟩)] w (Did B b w { k with sq := k.nx, nx := 0, ba := k.pc, bd := 0, bw := false, cd := 0 } (.tuple #[])) := by
 unfold Did
 have Z := Lib.hid h
 clear h
 have fz := Z.out.free
 have Q := Lib.hid (Below.refl B w)
 have _ := hB
 have c_nx : w.cell? ⟨b, 13, none⟩ = some (.int .i64 (k.nx)) := Z.out.c_nx
 have c_sq : w.cell? ⟨b, 6, none⟩ = some (.int .i64 (k.sq)) := Z.out.c_sq
 have c_pc : w.cell? ⟨b, 5, none⟩ = some (.int .i64 (k.pc)) := Z.out.c_pc
 go_enter Tryz.func118, Tryz.ntmps118
 go_wp2_with (go_at_call 89; refine (m_read _ _ _ ((Z.out.s_sq k.nx).s_nx 0) hB).mono ?_; rintro e w1 ⟨rfl, Z1, Q1⟩; refine Hid.out ?_)
 have Q := Lib.hid ((below_put (i := 13) (v := .int .i64 (0)) (below_put (i := 6) (v := .int .i64 (k.nx)) Q.out hB) hB).trans Q1)
 have Z : Hid (ClkAt b ({ k with sq := k.nx, nx := 0, ba := k.pc, bd := 0, bw := false }) w1) := Lib.hid (Z1)
 clear Z1 Q1
 clear fz c_nx c_sq c_pc
 have fz := Z.out.free
 have c_cd : w1.cell? ⟨b, 7, none⟩ = some (.int .i64 (k.cd)) := Z.out.c_cd
 refine Lib.hid ?_
 go_wp2
 refine bodyPost_ret (results_none rfl _ _ _) rfl ?_
 exact ⟨rfl, (Z.out.s_cd 0), (below_put (i := 7) (v := .int .i64 (0)) Q.out hB)⟩
end Go.Proofs.YthklebkpoccblaaGreat
namespace Go.Proofs.YthklebkpoccblaaGreat
open Go.RowKit
def stepV (n : Nat) (b : Nat) : Value := .func (.func n) #[.pointer (some ⟨b, 0, none⟩)] #[]
def brkSteps (b : Nat) : Array Value := #[.nilFunc, stepV 129 b, stepV 130 b, stepV 131 b, stepV 132 b, stepV 133 b, stepV 134 b, .nilFunc, .nilFunc, .nilFunc, .nilFunc, .nilFunc, .nilFunc, .nilFunc, .nilFunc, .nilFunc, .nilFunc, .nilFunc, .nilFunc, .nilFunc, .nilFunc, .nilFunc, .nilFunc]
def brkAll (b : Nat) : Array Value := #[stepV 118 b, stepV 129 b, stepV 130 b, stepV 131 b, stepV 132 b, stepV 133 b, stepV 134 b, .nilFunc, .nilFunc, .nilFunc, .nilFunc, .nilFunc, .nilFunc, .nilFunc, .nilFunc, .nilFunc, .nilFunc, .nilFunc, .nilFunc, .nilFunc, .nilFunc, .nilFunc, .nilFunc]
theorem steps_size : (Tryz.prog.info? 108).map (·.size) = some 23 := by kernel_rfl
set_option maxRecDepth 100000 in
set_option maxHeartbeats 2000000 in
theorem m_stepsOfName_brk {b : Nat} (k : ClkI) (w : World) (h : ClkAt b k w) (hn : k.on = ⟨#[66, 82, 75]⟩) : Calls Tryz.prog 117 #[.pointer (some ⟨b, 0, none⟩)] w fun e w' => e = .returned (.agg (brkSteps b)) ∧ Below w.heap.size w w' := by
 have hsz := Lib.hid steps_size
 have hmf : ∀ (fn : Fn) (first cap : Array Value) (w : World), (Instr.makeFunc fn first cap).run Tryz.prog w = .ok (.func fn first cap) w := fun _ _ _ _ => rfl
 have c_on := h.c_on
 rw [hn] at c_on
 unfold brkSteps stepV
 have hlt := h.lt
 go_enter Tryz.func117, Tryz.ntmps117
 go_wp2_with (refine store_row rfl 108 (.tmp 2) (.tmp 22) rfl w.heap.size _ rfl rfl 23 hsz.out (blk_new w (.cells #[.nilFunc, .nilFunc, .nilFunc, .nilFunc, .nilFunc, .nilFunc, .nilFunc, .nilFunc, .nilFunc, .nilFunc, .nilFunc, .nilFunc, .nilFunc, .nilFunc, .nilFunc, .nilFunc, .nilFunc, .nilFunc, .nilFunc, .nilFunc, .nilFunc, .nilFunc, .nilFunc] 108)) rfl rfl (by rfl) ?_)
 exact row_post rfl rfl Tryz.underlying108 rfl steps_size rfl rfl (blk_new w (.cells #[.nilFunc, .nilFunc, .nilFunc, .nilFunc, .nilFunc, .nilFunc, .nilFunc, .nilFunc, .nilFunc, .nilFunc, .nilFunc, .nilFunc, .nilFunc, .nilFunc, .nilFunc, .nilFunc, .nilFunc, .nilFunc, .nilFunc, .nilFunc, .nilFunc, .nilFunc, .nilFunc] 108)) ⟨rfl, below_row (below_alloc (Below.refl _ _) _) (Nat.le_refl _)⟩
end Go.Proofs.YthklebkpoccblaaGreat
