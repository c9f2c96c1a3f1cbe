/-
  The walks of the program's four functions of chapter 4: the instruction of a byte, the byte of an instruction, how many bytes a mode has, and which kind an instruction is of.
  Conditions: texts are no longer than a machine can hold; each walk leaves old memory as it was.
-/
import Derived.Test.YtboeaeoefoabdaaTbK
import Derived.Test.YtboeaeoefoabdaaTbD
namespace Go.Proofs.Ytboeaeoefoabdaa
open Go.RowKit Go.Maps
theorem tab_part (m : Nat) (h : m < 256) : tabCells.extract (m * 2) (m * 2 + 2) = #[.string (rowAt m).1, .string (rowAt m).2] := by
  have hs := tabCells_size
  have h2 := tabCells_at m h
  rw [Nat.mul_comm 2 m] at h2
  apply Array.ext
  · simp [hs]; omega
  · intro i h1 _
    simp only [Array.size_extract, hs] at h1
    rw [Array.getElem_extract]
    match i, h1 with
    | 0, _ => exact Option.some.inj ((Array.getElem?_eq_getElem (by rw [hs]; omega)).symm.trans h2.1)
    | 1, _ => exact Option.some.inj ((Array.getElem?_eq_getElem (by rw [hs]; omega)).symm.trans h2.2)
    | i + 2, h1 => omega
theorem index_tab (m : Nat) (h : m < 256) (w : World) : (Instr.index 35 (.agg tabCells) (.int .u8 (m : Int))).run Try.prog w = .ok (.agg #[.string (rowAt m).1, .string (rowAt m).2]) w := by
  have hb : 0 ≤ (m : Int) ∧ (m : Int) < ((256 : Nat) : Int) := by omega
  simp [Instr.index, run_underlying tab_underlying, asIntOf, part, tab_part m h]
  omega
/-- Block g holds the table. -/
def TabAt (g : Nat) (w : World) : Prop := ∀ i, i < 256 → w.cell? ⟨g, i * 2, none⟩ = some (.string (rowAt i).1) ∧ w.cell? ⟨g, i * 2 + 1, none⟩ = some (.string (rowAt i).2)
theorem TabAt.below {g : Nat} {w w' : World} (h : TabAt g w) (hg : g < w.heap.size) (hb : Below w.heap.size w w') : TabAt g w' := fun i hi => ⟨(hb.cell hg).trans (h i hi).1, (hb.cell hg).trans (h i hi).2⟩
theorem store_tab {ops : Array Oper} {rest : List Oper} {o : Oper} {a : Act} {w : World} {Q : Exit → Act → World → Prop} (hgd : o.guard = none) (x y : Operand) (ho : o.op = .store 35 x y)
    (g : Nat) (hx : a.eval x = .pointer (some ⟨g, 0, none⟩)) (hy : a.eval y = .agg tabCells) (z : Array Value) (hg : w.heap[g]? = some (.cells z 35 (0, 0))) (hz : z.size = 512)
    (h : ∀ w2, TabAt g w2 → Below g w w2 → g < w2.heap.size → wpList Try.prog ops Q rest (a.put o.dst undef) w2) : wpList Try.prog ops Q (o :: rest) a w := by
  have hlt : g < w.heap.size := (Array.getElem?_eq_some_iff.1 hg).1
  refine wpList_store_row hgd 35 x y ho g tabCells hx hy 35 z hg tab_size (by rw [hz, tabCells_size]) (Array.all_eq_true_iff_forall_mem.2 tabCells_one) ?_
  refine h _ ?_ ⟨rfl, rfl, rfl, by simp, fun k hk => setRow_other _ _ _ _ (by omega)⟩ (by simpa using hlt)
  intro i hi
  have h2 := tabCells_at i hi
  rw [Nat.mul_comm 2 i] at h2
  rw [cell_setRow_same _ _ _ _ _ _ _ hg, cell_setRow_same _ _ _ _ _ _ _ hg]
  exact h2
theorem ints_shape {w : World} {base : Nat} {e : TypeId} {v : Value} {zs : List Int} (h : w.ownsInts base e .u8 v zs) : (v = .slice none 0 0 ∧ zs = []) ∨ ∃ g cap, v = .slice (some ⟨g, 0, none⟩) zs.length cap ∧ ∀ i (hi : i < zs.length), w.cell? ⟨g, i, none⟩ = some (.int .u8 zs[i]) := by
  rcases h.1.2 with ⟨rfl, h0⟩ | ⟨g, cap, cur, rfl, _⟩
  · exact .inl ⟨rfl, List.length_eq_zero_iff.1 h0⟩
  · refine .inr ⟨g, cap, rfl, fun i hi => ?_⟩
    have := h.1.cellAt i (by simpa using hi)
    rw [this]
    simp [List.getElem?_eq_getElem hi]
set_option maxRecDepth 100000 in
set_option maxHeartbeats 1000000 in
theorem impl_opOf (n : Int) (w : World) :
    Calls Try.prog 11 #[.int .i64 n] w fun e w' => e = .returned (.agg #[.string (opOf n).1, .string (opOf n).2]) ∧ Below w.heap.size w w' := by
  have HT := Lib.hid (impl_opTable)
  obtain ⟨m, hm⟩ : ∃ m : Nat, (m : Int) = n % 256 := ⟨(n % 256).toNat, by omega⟩
  have hlt : m < 256 := by omega
  have hix := index_tab m hlt
  rw [hm] at hix
  have hop := rowAt_mod n m hm
  have hin := impl_isNone (rowAt m).1 (rowAt m).2
  clear hm hlt
  generalize rowAt m = r at *
  by_cases hr : r.1 = noB
  · rw [if_pos hr] at hop
    rw [decide_eq_true hr] at hin
    have HIN := Lib.hid hin
    have HO := Lib.hid hop
    clear hin hop hr
    go_enter Try.func11, Try.ntmps11
    go_wp2_with (go_at_call 16; refine (HT.out _).mono ?_; rintro e w1 ⟨rfl, hb1⟩; refine Hid.out ?_)
    have K := Lib.hid (blk_below (blk_new w _) hb1)
    have B := Lib.hid (below_then ((Below.refl w.heap.size w).alloc (Nat.le_refl _) _) hb1)
    clear hb1
    refine Lib.hid ?_
    go_wp2_with (go_at_call 17; refine (HIN.out _).mono ?_; rintro e w2 ⟨rfl, hb2⟩; refine Hid.out ?_)
    have K2 := blk_below (blk_old K.out) hb2
    have O2 := blk_below (blk_new w1 _) hb2
    have B2 := Lib.hid (below_then (below_alloc B.out _) hb2)
    have k0 : w2.cell? ⟨w.heap.size, 0, none⟩ = some (.string ⟨#[]⟩) := cell_of_blk K2 rfl
    have k1 : w2.cell? ⟨w.heap.size, 1, none⟩ = some (.string ⟨#[]⟩) := cell_of_blk K2 rfl
    have f0 : w2.frozen? ⟨w.heap.size, 0, none⟩ = false := free_of_blk K2
    have f1 : w2.frozen? ⟨w.heap.size, 1, none⟩ = false := free_of_blk K2
    have o0 : w2.cell? ⟨w1.heap.size, 0, none⟩ = some (.string r.1) := cell_of_blk O2 rfl
    have o1 : w2.cell? ⟨w1.heap.size, 1, none⟩ = some (.string r.2) := cell_of_blk O2 rfl
    clear K2 O2 hb2 hix
    refine Lib.hid ?_
    go_wp2
    exact bodyPost_ret (v := .agg #[.string jamN, .string impM]) (by simp [results, Try.results11, go_sem, k0, k1]; exact ⟨rfl, rfl⟩) rfl ⟨by rw [HO.out], (B2.out.setCell (Nat.le_refl _) _).setCell (Nat.le_refl _) _⟩
  · rw [if_neg hr] at hop
    rw [decide_eq_false hr] at hin
    have HIN := Lib.hid hin
    have HO := Lib.hid hop
    clear hin hop hr
    go_enter Try.func11, Try.ntmps11
    go_wp2_with (go_at_call 16; refine (HT.out _).mono ?_; rintro e w1 ⟨rfl, hb1⟩; refine Hid.out ?_)
    have K := Lib.hid (blk_below (blk_new w _) hb1)
    have B := Lib.hid (below_then ((Below.refl w.heap.size w).alloc (Nat.le_refl _) _) hb1)
    clear hb1
    refine Lib.hid ?_
    go_wp2_with (go_at_call 17; refine (HIN.out _).mono ?_; rintro e w2 ⟨rfl, hb2⟩; refine Hid.out ?_)
    have K2 := blk_below (blk_old K.out) hb2
    have O2 := blk_below (blk_new w1 _) hb2
    have B2 := Lib.hid (below_then (below_alloc B.out _) hb2)
    have k0 : w2.cell? ⟨w.heap.size, 0, none⟩ = some (.string ⟨#[]⟩) := cell_of_blk K2 rfl
    have k1 : w2.cell? ⟨w.heap.size, 1, none⟩ = some (.string ⟨#[]⟩) := cell_of_blk K2 rfl
    have f0 : w2.frozen? ⟨w.heap.size, 0, none⟩ = false := free_of_blk K2
    have f1 : w2.frozen? ⟨w.heap.size, 1, none⟩ = false := free_of_blk K2
    have o0 : w2.cell? ⟨w1.heap.size, 0, none⟩ = some (.string r.1) := cell_of_blk O2 rfl
    have o1 : w2.cell? ⟨w1.heap.size, 1, none⟩ = some (.string r.2) := cell_of_blk O2 rfl
    clear K2 O2 hb2 hix
    refine Lib.hid ?_
    go_wp2
    exact bodyPost_ret (v := .agg #[.string r.1, .string r.2]) (by simp [results, Try.results11, go_sem, k0, k1]) rfl ⟨by rw [HO.out], (B2.out.setCell (Nat.le_refl _) _).setCell (Nat.le_refl _) _⟩
theorem in_no {x : ByteArray} {ws : List (List UInt8)} (h : ∀ w ∈ ws, ¬ x = ⟨w.toArray⟩) : inB x ws = false := by
  unfold inB
  rw [List.any_eq_false]
  intro w hw
  have := h w hw
  simpa using fun e : (⟨w.toArray⟩ : ByteArray) = x => this e.symm
/-- The kind of an instruction of the table. -/
def kindL (a b : ByteArray) : Int := if inB b wsOwn then 3 else if inB a wsJ then 3 else if inB a wsSt then 1 else if inB a wsMo then 2 else 0
theorem kindI_L (a b : ByteArray) : kindI a b = if codeOf a b < 0 then 3 else kindL a b := rfl
theorem op_sizeI : (Try.prog.info? 27).map (·.size) = some 2 := by kernel_rfl
end Go.Proofs.Ytboeaeoefoabdaa
