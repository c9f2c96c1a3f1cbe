/-
  Plain facts on blocks that a draw leaves as they are, and a struct that is handed back beside slots.
  Conditions: as each lemma says.
-/
import Derived.Test.YtboeaeoefoabdaaDoorBlk
import Derived.Test.YtboeaeoefoabdaaDoorRow
namespace Go.Proofs.YtboeaeoefoabdaaDoor
open Go.RowKit
theorem kept_cell {w w' : World} {g b : Nat} {x : Obj} (h : w.heap[b]? = some x) (hg : w.drew.grownBy w' (some g)) (hne : b ≠ g) (i : Nat) : w'.cell? ⟨b, i, none⟩ = w.cell? ⟨b, i, none⟩ :=
  World.cell?_of_block ((hg.block b ((Array.getElem?_eq_some_iff.1 (show w.heap[b]? = some x from h)).1) (by simpa using hne)).trans rfl)
/-- A struct in its result's cell and two slots are handed back. -/
theorem row_tmps_post {P : Program} {fn : Func} {R : Ending → World → Prop} {a : Act} {w : World} {p q s : Tmp} {T : TypeId} {g n : Nat} {cs : Array Value} {t : TypeId} {d : TypeDesc} {v u : Value} (hr : fn.results = #[.cell p T, .tmp q, .tmp s]) (hp : a.tmps.getD p undef = .pointer (some ⟨g, 0, none⟩)) (hv : a.tmps.getD q undef = v) (hv2 : a.tmps.getD s undef = u)
    (hu : P.underlying T = some d) (hd : (match d with | .struct _ | .array _ _ => true | _ => false) = true) (hi : (P.info? T).map (·.size) = some n) (hde : a.defers = [])
    (hg : w.heap[g]? = some (.cells cs t (0, 0))) (hn : cs.size = n) (hR : R (.returned (.tuple #[.agg cs, v, u])) w) : bodyPost P fn R .ret a w := by
  refine bodyPost_ret ?_ hde hR
  have hp' : a.tmps[p]?.getD undef = .pointer (some ⟨g, 0, none⟩) := by simpa using hp
  have hv' : a.tmps[q]?.getD undef = v := by simpa using hv
  have hv2' : a.tmps[s]?.getD undef = u := by simpa using hv2
  simp [results, hr, hp', hv', hv2', asAddr, run_loadVar_row w g t T cs (0, 0) d hg hu hd (by rw [hi, hn])]
theorem make_two {B g n c V D : Nat} {A : Option Addr} {w w5 w6 : World} {cs ds : Array Value} {t u : TypeId} (H : Drawn B g n c A w5) (HV : w5.heap[V]? = some (.cells cs t (0, 0))) (HR : w5.heap[D]? = some (.cells ds u (0, 0))) (G : w.grownBy w5 (some g))
    (hV : V ≠ g) (hD : D ≠ g) (hc : Cur w6 g A n c) (hg : w5.grownBy w6 (some g)) :
    Drawn B g n c A w6 ∧ w6.heap[V]? = some (.cells cs t (0, 0)) ∧ w6.heap[D]? = some (.cells ds u (0, 0)) ∧ w.grownBy w6 (some g) :=
  ⟨H.next hc hg, blk_grown HV hg hV, blk_grown HR hg hD, grown_trans G hg⟩
end Go.Proofs.YtboeaeoefoabdaaDoor
