/-
  Plain facts on blocks of a world: a new block, an old one behind what leaves it alone, a cell of a block, a row that is set.
  Conditions: as each lemma says.
-/
import Derived.Test.YtboeaeoefoabdaaDoorBel
import Derived.Test.YtboeaeoefoabdaaDoorDrA
import Derived.Laws.Rows
import Derived.Laws.Tables
namespace Go.Proofs.YtboeaeoefoabdaaDoor
open Go.RowKit
theorem odd_mid {w w3 : World} {g n c V : Nat} {A : Option Addr} {cs : Array Value} {t t2 : TypeId} {old : Array Value} (hV : w3.heap[V]? = some (.cells cs t (0, 0))) (hR : w3.heap[w.heap.size]? = some (.cells old t2 (0, 0)))
    (hc : Cur w3 g A n c) (hg : w.grownBy w3 (some g)) (hVg : V ≠ g) (hRV : w.heap.size < V) (j : Nat) (v : Value) :
    (w3.setCell ⟨V, j, none⟩ v).heap[V]? = some (.cells (cs.setIfInBounds j v) t (0, 0)) ∧ (w3.setCell ⟨V, j, none⟩ v).heap[w.heap.size]? = some (.cells old t2 (0, 0)) ∧
    Cur (w3.setCell ⟨V, j, none⟩ v) g A n c ∧ w.grownBy (w3.setCell ⟨V, j, none⟩ v) (some g) := by
  rw [setCell_eq_setRow _ _ _ _ _ _ _ hV]
  exact ⟨setRow_heap _ _ _ _ _ _ hV, (setRow_other _ _ _ _ (by omega)).trans hR, hc.keep (setRow_other _ _ _ _ (Ne.symm hVg)),
    ⟨hg.os, hg.tape, hg.output, by rw [setRow_size]; exact hg.size, fun k hk hn => (setRow_other _ _ _ _ (by omega)).trans (hg.block k hk hn)⟩⟩
/-- A row that is set in a block that lies beside the cursor. -/
theorem row_end {w w1 : World} {g n c : Nat} {A : Option Addr} {old : Array Value} {t : TypeId} (hk : w1.heap[w.heap.size]? = some (.cells old t (0, 0))) (hc : Cur w1 g A n c) (hg : w.grownBy w1 (some g)) (hne : w.heap.size ≠ g) (cs : Array Value) :
    (w1.setRow w.heap.size cs).heap[w.heap.size]? = some (.cells cs t (0, 0)) ∧ Cur (w1.setRow w.heap.size cs) g A n c ∧ w.grownBy (w1.setRow w.heap.size cs) (some g) :=
  ⟨setRow_heap _ _ _ _ _ _ hk, hc.keep (setRow_other _ _ _ _ (Ne.symm hne)), ⟨hg.os, hg.tape, hg.output, by rw [setRow_size]; exact hg.size, fun j hj hn => (setRow_other _ _ _ _ (by omega)).trans (hg.block j hj hn)⟩⟩
theorem grown_drew {a b : World} {g : Nat} (h : a.drew.grownBy b (some g)) : a.grownBy b (some g) := ⟨h.os, h.tape, h.output, h.size, h.block⟩
theorem Drawn.drew {B g n c : Nat} {A : Option Addr} {w : World} (h : Drawn B g n c A w) : Drawn B g n c A w.drew := ⟨h.hB, h.hBg, h.code, h.cur⟩
end Go.Proofs.YtboeaeoefoabdaaDoor
