/-
  What the listed tables of Go's library give a walk: the table of powers of ten; and that new blocks and draws leave old memory as it was.
  Conditions: as each lemma says.
-/
import Derived.Test.YtmhlplaglnopfaaDoorRows
import Derived.Test.YtmhlplaglnopfaaDoorShA
import Derived.Lib.LaidTab
import Derived.Lib.ItoaNum
import Derived.Stop.LaidErr
import Derived.Below
namespace Go.Proofs.YtmhlplaglnopfaaDoor
open Go.RowKit Go.Lib
theorem below_new (w : World) (q : Nat) (os : Array Obj) : Below w.heap.size w (Sort.grow (w.drewN q) os) :=
  ⟨rfl, rfl, rfl, by simp [Sort.grow], fun i hi => by
    show ((w.drewN q).heap ++ os)[i]? = _
    rw [Array.getElem?_append_left (by show i < w.heap.size; omega)]
    rfl⟩
theorem tab_eq : (Rows.laid_internal_strconv_uint64pow10 : DataW Unit) = tabData .u64 pow10Tab := rfl
theorem g10 : Tryd.prog.globalNamed "internal/strconv.uint64pow10" = some 2 := by kernel_rfl
theorem g10t : (Tryd.prog.globals[2]?).map (·.type) = some 100 := by kernel_rfl
theorem tab10 {a b : String × DataW Unit} {r : List (String × DataW Unit)} {W : World} (h : laidMet Tryd.prog (a :: b :: ("internal/strconv.uint64pow10", Rows.laid_internal_strconv_uint64pow10) :: r) W) :
    TabIs Tryd.prog W "internal/strconv.uint64pow10" .u64 pow10Tab := by
  have h2 := h.tail.tail
  rw [tab_eq] at h2
  exact tabIs_of_head g10 g10t Tryd.underlying100 Tryd.underlying53 (by kernel_rfl) (by kernel_rfl) h2
theorem tab_below {W w' : World} (h : TabIs Tryd.prog W "internal/strconv.uint64pow10" .u64 pow10Tab) (hs : 2 < W.heap.size) (hb : Below W.heap.size W w') : TabIs Tryd.prog w' "internal/strconv.uint64pow10" .u64 pow10Tab := by
  have e := hb.block 2 hs
  unfold TabIs World.var? at h ⊢
  rw [g10] at h ⊢
  simpa [e] using h
end Go.Proofs.YtmhlplaglnopfaaDoor
