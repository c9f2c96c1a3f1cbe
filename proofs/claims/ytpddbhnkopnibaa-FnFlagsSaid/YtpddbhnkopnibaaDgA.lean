/-
  The walks of the draws of chapter 3: registers, notes and a bool, a bent text of notes; old memory stays as it was.
  Conditions: the draw has at most 1048576 bytes.
-/
import Derived.Test.YtpddbhnkopnibaaDsA
import Derived.Test.YtpddbhnkopnibaaDrC
import Derived.Test.YtpddbhnkopnibaaRgF
import Derived.Test.YtpddbhnkopnibaaRgI
import Derived.Laws.Rows
import Derived.Laws.Tables
namespace Go.Proofs.Ytpddbhnkopnibaa
open Go.RowKit
theorem blk_new (w : World) (o : Obj) : (w.alloc o).heap[w.heap.size]? = some o := by show (w.heap.push o)[w.heap.size]? = _; simp
theorem blk_old {w : World} {o : Obj} {b : Nat} {x : Obj} (h : w.heap[b]? = some x) : (w.alloc o).heap[b]? = some x := by
  have hb : b < w.heap.size := (Array.getElem?_eq_some_iff.1 h).1
  show (w.heap.push o)[b]? = _
  rw [Array.getElem?_push_lt hb, ← h, Array.getElem?_eq_getElem hb]
theorem blk_grown {w w' : World} {g b : Nat} {x : Obj} (h : w.heap[b]? = some x) (hg : w.grownBy w' (some g)) (hne : b ≠ g) : w'.heap[b]? = some x :=
  (hg.block b (Array.getElem?_eq_some_iff.1 h).1 (by simp [hne])).trans h
theorem blk_below {w w' : World} {b : Nat} {x : Obj} (h : w.heap[b]? = some x) (hb : Below w.heap.size w w') : w'.heap[b]? = some x :=
  (hb.block b (Array.getElem?_eq_some_iff.1 h).1).trans h
def RegsPost (g : Nat) (A : Option Addr) (n c : Nat) (w : World) (e : Ending) (w' : World) : Prop :=
  ∃ a x y s p pc : Int, e = .returned (regsV a x y s p pc) ∧ Cur w' g A n c ∧ w.grownBy w' (some g)
def zero6 : Obj := .cells #[.int .i64 0, .int .i64 0, .int .i64 0, .int .i64 0, .int .i64 0, .int .i64 0] 33
theorem regs_size : (Try.prog.info? 33).map (·.size) = some 6 := by kernel_rfl
theorem regs_end {w w1 : World} {g n c : Nat} {A : Option Addr} {old : Array Value} {t : TypeId} (hk : w1.heap[w.heap.size]? = some (.cells old t (0, 0))) (hc : Cur w1 g A n c) (hg : w.grownBy w1 (some g)) (hne : w.heap.size ≠ g) (a x y s p pc : Int) :
    (w1.setRow w.heap.size #[.int .i64 a, .int .i64 x, .int .i64 y, .int .i64 s, .int .i64 p, .int .i64 pc]).heap[w.heap.size]? = some (.cells #[.int .i64 a, .int .i64 x, .int .i64 y, .int .i64 s, .int .i64 p, .int .i64 pc] t (0, 0)) ∧
    Cur (w1.setRow w.heap.size #[.int .i64 a, .int .i64 x, .int .i64 y, .int .i64 s, .int .i64 p, .int .i64 pc]) g A n c ∧
    w.grownBy (w1.setRow w.heap.size #[.int .i64 a, .int .i64 x, .int .i64 y, .int .i64 s, .int .i64 p, .int .i64 pc]) (some g) :=
  ⟨setRow_heap _ _ _ _ _ _ hk, hc.keep (setRow_other _ _ _ _ (Ne.symm hne)), ⟨hg.os, hg.tape, hg.output, by rw [setRow_size]; exact hg.size, fun j hj hn => (setRow_other _ _ _ _ (by omega)).trans (hg.block j hj hn)⟩⟩
set_option maxRecDepth 100000 in
set_option maxHeartbeats 4000000 in
theorem l03Make_any {B g n c : Nat} {A : Option Addr} {w : World} (h : Drawn B g n c A w) :
    Calls Try.prog 54 #[.pointer (some ⟨g, 0, none⟩)] w (RegsPost g A n c w) := by
  have hb0 : Below w.heap.size w (w.alloc zero6) := (Below.refl _ _).alloc (Nat.le_refl _) _
  have H0 := Lib.hid (h.below hb0)
  have K0 := Lib.hid (blk_new w zero6)
  have G0 := Lib.hid (grown_of_below (g := g) hb0)
  have hne : w.heap.size ≠ g := by have := h.cur.lt; omega
  have hy := l02Byte_any H0.out
  unfold zero6 at hy
  clear h hb0
  go_enter Try.func54, Try.ntmps54
  go_wp2_with (go_at_call 35; refine hy.mono ?_; rintro e w1 ⟨a, rfl, _, _, hc, hg⟩; refine Hid.out ?_)
  have H1 := Lib.hid (H0.out.next hc hg)
  have K1 := Lib.hid (blk_grown K0.out hg hne)
  have G1 := Lib.hid (grown_trans G0.out hg)
  have hy := l02Byte_any H1.out
  clear H0 K0 G0 hc hg
  refine Lib.hid ?_
  go_wp2_with (go_at_call 35; refine hy.mono ?_; rintro e w2 ⟨x, rfl, _, _, hc, hg⟩; refine Hid.out ?_)
  have H2 := Lib.hid (H1.out.next hc hg)
  have K2 := Lib.hid (blk_grown K1.out hg hne)
  have G2 := Lib.hid (grown_trans G1.out hg)
  have hy := l02Byte_any H2.out
  clear H1 K1 G1 hc hg
  refine Lib.hid ?_
  go_wp2_with (go_at_call 35; refine hy.mono ?_; rintro e w3 ⟨y, rfl, _, _, hc, hg⟩; refine Hid.out ?_)
  have H3 := Lib.hid (H2.out.next hc hg)
  have K3 := Lib.hid (blk_grown K2.out hg hne)
  have G3 := Lib.hid (grown_trans G2.out hg)
  have hy := l02Byte_any H3.out
  clear H2 K2 G2 hc hg
  refine Lib.hid ?_
  go_wp2_with (go_at_call 35; refine hy.mono ?_; rintro e w4 ⟨s, rfl, _, _, hc, hg⟩; refine Hid.out ?_)
  have H4 := Lib.hid (H3.out.next hc hg)
  have K4 := Lib.hid (blk_grown K3.out hg hne)
  have G4 := Lib.hid (grown_trans G3.out hg)
  have hy := l02Byte_any H4.out
  clear H3 K3 G3 hc hg
  refine Lib.hid ?_
  go_wp2_with (go_at_call 35; refine hy.mono ?_; rintro e w5 ⟨p, rfl, _, _, hc, hg⟩; refine Hid.out ?_)
  have H5 := Lib.hid (H4.out.next hc hg)
  have K5 := Lib.hid (blk_grown K4.out hg hne)
  have G5 := Lib.hid (grown_trans G4.out hg)
  have hy := l01Below_any H5.out 65536 (by omega) (by omega)
  have hU := fun w => spec_pulled p w
  clear H4 K4 G4 hc hg
  refine Lib.hid ?_
  go_wp2_with (first
    | (go_at_call 22; refine (hU _).mono ?_; rintro e w' ⟨rfl, rfl⟩)
    | (go_at_call 51; refine hy.mono ?_; rintro e w6 ⟨q, rfl, q0, q1, hc, hg⟩; refine Hid.out ?_))
  have H6 := Lib.hid (H5.out.next hc hg)
  have K6 := Lib.hid (blk_grown K5.out hg hne)
  have G6 := Lib.hid (grown_trans G5.out hg)
  have hP := pickInt_new H6.out [.int .i64 512, .int .i64 512, .int .i64 61440, .int .i64 511, .int .i64 2047, .int .i64 q] (k := 6) rfl (by omega) (by omega)
    (by repeat (first | exact allI_nil | refine allI_cons ⟨by omega, by omega⟩ ?_))
  clear H5 K5 G5 hc hg
  refine Lib.hid ?_
  go_wp2_with (go_at_call 53; refine hP.mono ?_; rintro e w7 ⟨pc, rfl, pc0, pc1, hc, hg⟩; refine Hid.out ?_)
  have k7 := blk_grown K6.out hg hne
  unfold zero6 at k7
  have G7 := Lib.hid (grown_trans G6.out hg)
  clear H6 K6 G6 hg
  have hst : (Try.prog.info? 33).map (·.size) = some 6 := regs_size
  refine Lib.hid ?_
  go_wp2_with (refine wpList_store_row rfl 33 (.tmp 2) (.tmp 19) rfl w.heap.size #[.int .i64 a, .int .i64 x, .int .i64 y, .int .i64 s, .int .i64 (keptI p), .int .i64 pc] ?c1 ?c2 33 #[.int .i64 0, .int .i64 0, .int .i64 0, .int .i64 0, .int .i64 0, .int .i64 0] ?c3 ?c4 ?c5 ?c6 ?_)
  case c1 => rfl
  case c2 => rfl
  case c3 => exact k7
  case c4 => exact hst
  case c5 => rfl
  case c6 => simp [Value.oneCell']
  have hend := regs_end k7 hc G7.out hne a x y s (keptI p) pc
  exact bodyPost_ret (v := regsV a x y s (keptI p) pc) (results_cell_row rfl _ _ w.heap.size _ _ _ _ rfl hend.1 Try.underlying33 rfl regs_size) rfl ⟨a, x, y, s, keptI p, pc, rfl, hend.2.1, hend.2.2⟩
end Go.Proofs.Ytpddbhnkopnibaa
