/-
  Texts put together by program: FdZ.
  Conditions: as each theorem says.
-/
import Derived.Test.YthklebkpoccblaaGreatRqay
import Derived.Test.YthklebkpoccblaaGreatRqbf
import Derived.Test.YthklebkpoccblaaGreatRqbk
namespace Go.Proofs.YthklebkpoccblaaGreat
open Go.RowKit
def CorPair (w : World) (e : Ending) (w' : World) : Prop := ∃ (k : CorI) (n2 e2 i2 : Bool), e = .returned (.tuple #[.agg (corC k), .agg #[.bool n2, .bool e2, .bool i2]]) ∧ Below w.heap.size w w'
theorem cor_pair {w w' : World} {k : CorI} {n2 e2 i2 : Bool} (hb : Below w.heap.size w w') : CorPair w (.returned (.tuple #[.agg (corC k), .agg #[.bool n2, .bool e2, .bool i2]])) w' := ⟨k, n2, e2, i2, rfl, hb⟩
theorem rows_two_post {P : Program} {fn : Func} {R : Ending → World → Prop} {a : Act} {w : World} {p q : Tmp} {T U : TypeId} {g h n m : Nat} {cs ds : Array Value} {t u : TypeId} {d e : TypeDesc} (hr : fn.results = #[.cell p T, .cell q U]) (hp : a.tmps.getD p undef = .pointer (some ⟨g, 0, none⟩)) (hq : a.tmps.getD q undef = .pointer (some ⟨h, 0, none⟩))
  (hu : P.underlying T = some d) (hd : (match d with | .struct _ | .array _ _ => true | _ => false) = true) (hi : (P.info? T).map (·.size) = some n)
  (hu2 : P.underlying U = some e) (hd2 : (match e with | .struct _ | .array _ _ => true | _ => false) = true) (hi2 : (P.info? U).map (·.size) = some m) (hde : a.defers = [])
  (hg : w.heap[g]? = some (.cells cs t (0, 0))) (hn : cs.size = n) (hh : w.heap[h]? = some (.cells ds u (0, 0))) (hm : ds.size = m) (hR : R (.returned (.tuple #[.agg cs, .agg ds])) w) : bodyPost P fn R .ret a w := by
 refine bodyPost_ret ?_ hde hR
 have hp' : a.tmps[p]?.getD undef = .pointer (some ⟨g, 0, none⟩) := by simpa using hp
 have hq' : a.tmps[q]?.getD undef = .pointer (some ⟨h, 0, none⟩) := by simpa using hq
 simp [results, hr, hp', hq', asAddr, run_loadVar_row w g t T cs (0, 0) d hg hu hd (by rw [hi, hn]), run_loadVar_row w h u U ds (0, 0) e hh hu2 hd2 (by rw [hi2, hm])]
end Go.Proofs.YthklebkpoccblaaGreat
