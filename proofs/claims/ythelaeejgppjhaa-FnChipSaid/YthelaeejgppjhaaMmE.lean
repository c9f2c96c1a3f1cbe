/-
  The walks of the draws of chapter 5: a memory, an address; old memory stays as it was.
  Conditions: the draw has at most 1048576 bytes.
-/
import Derived.Test.YthelaeejgppjhaaMmD
import Derived.Test.YthelaeejgppjhaaTxB
import Derived.Test.YthelaeejgppjhaaDrI
namespace Go.Proofs.Ythelaeejgppjhaa
open Go.RowKit
def MemPost (g : Nat) (A : Option Addr) (n c : Nat) (w : World) (e : Ending) (w' : World) : Prop :=
  ∃ r o : ByteArray, e = .returned (.agg #[.string r, .string o]) ∧ r.size ≤ 2000 ∧ o.size ≤ 2000 ∧ Cur w' g A n c ∧ w.grownBy w' (some g)
theorem loadN_size (r o : ByteArray) (a : Int) (s : ByteArray) (k : Nat) (hr : r.size ≤ 2000) : (loadN r o a s k).size ≤ 2000 := by
  induction k with
  | zero => exact hr
  | succ k ih =>
    show (pokeR _ _ _ _).size ≤ 2000
    unfold pokeR
    split
    · rename_i h; rw [pokeB_size _ _ _ h.1.1]; omega
    · exact ih
theorem loadR_size (r o : ByteArray) (a : Int) (s : ByteArray) (hr : r.size ≤ 2000) : (loadR r o a s).size ≤ 2000 := by
  unfold loadR
  split
  · exact hr
  · exact loadN_size _ _ _ _ _ hr
theorem make_one {B g n c V D : Nat} {A : Option Addr} {w w5 w6 : World} {cs ds : Array Value} {t u : TypeId} {x : Int} (H : Drawn B g n c A w5) (HV : w5.heap[V]? = some (.cells cs t (0, 0))) (HR : w5.heap[D]? = some (.cells ds u (0, 0))) (G : w.grownBy w5 (some g))
    (hV : V ≠ g) (hD : D ≠ g) (x0 : 0 ≤ x) (hc : Cur w6 g A n c) (hg : w5.drew.grownBy w6 (some g)) :
    ∃ X : Nat, x = X ∧ Drawn B g n c A w6 ∧ w6.heap[V]? = some (.cells cs t (0, 0)) ∧ w6.heap[D]? = some (.cells ds u (0, 0)) ∧ w.grownBy w6 (some g) :=
  ⟨x.toNat, by omega, H.next hc (grown_drew hg), blk_grown HV (grown_drew hg) hV, blk_grown HR (grown_drew hg) hD, grown_trans G (grown_drew hg)⟩
theorem make_two {B g n c V D : Nat} {A : Option Addr} {w w5 w6 : World} {cs ds : Array Value} {t u : TypeId} (H : Drawn B g n c A w5) (HV : w5.heap[V]? = some (.cells cs t (0, 0))) (HR : w5.heap[D]? = some (.cells ds u (0, 0))) (G : w.grownBy w5 (some g))
    (hV : V ≠ g) (hD : D ≠ g) (hc : Cur w6 g A n c) (hg : w5.grownBy w6 (some g)) :
    Drawn B g n c A w6 ∧ w6.heap[V]? = some (.cells cs t (0, 0)) ∧ w6.heap[D]? = some (.cells ds u (0, 0)) ∧ w.grownBy w6 (some g) :=
  ⟨H.next hc hg, blk_grown HV hg hV, blk_grown HR hg hD, grown_trans G hg⟩
theorem make_put {B g n c V D : Nat} {A : Option Addr} {w w7 w8 : World} {a b : ByteArray} {ds : Array Value} {t u : TypeId} (p q : ByteArray) (HV : w7.heap[V]? = some (.cells #[.string a, .string b] t (0, 0))) (HR : w7.heap[D]? = some (.cells ds u (0, 0)))
    (H : Drawn B g n c A w7) (G : w.grownBy w7 (some g)) (hb : Below w7.heap.size w7 w8) (hV : V ≠ g) (hD : D < V) (hw : w.heap.size ≤ V) :
    ((w8.setCell ⟨V, 0, none⟩ (.string p)).setCell ⟨V, 1, none⟩ (.string q)).heap[V]? = some (.cells #[.string p, .string q] t (0, 0)) ∧
    ((w8.setCell ⟨V, 0, none⟩ (.string p)).setCell ⟨V, 1, none⟩ (.string q)).heap[D]? = some (.cells ds u (0, 0)) ∧
    Cur ((w8.setCell ⟨V, 0, none⟩ (.string p)).setCell ⟨V, 1, none⟩ (.string q)) g A n c ∧
    w.grownBy ((w8.setCell ⟨V, 0, none⟩ (.string p)).setCell ⟨V, 1, none⟩ (.string q)) (some g) := by
  have G8 := grown_below G hb
  refine ⟨two_put (blk_below HV hb) _ _, (put_other (by omega) _ _).trans (blk_below HR hb), (H.below hb).cur.keep (put_other (Ne.symm hV) _ _), ⟨G8.os, G8.tape, G8.output, by simpa [World.setCell] using G8.size, fun k hk hn => (put_other (by omega) _ _).trans (G8.block k hk hn)⟩⟩
end Go.Proofs.Ythelaeejgppjhaa
