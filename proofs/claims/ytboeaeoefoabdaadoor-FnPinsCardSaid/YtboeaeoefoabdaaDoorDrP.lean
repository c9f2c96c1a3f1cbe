/-
  The walks of the draws of the model that pick a text of a list.
  Conditions: the draw has at most 1048576 bytes; the lists are not empty.
-/
import Derived.Test.YtboeaeoefoabdaaDoorDrA
namespace Go.Proofs.YtboeaeoefoabdaaDoor
open Go.RowKit
set_option maxHeartbeats 1000000 in
theorem l01Pick_any {B g n c r k cap : Nat} {A : Option Addr} {w : World} (h : Drawn B g n c A w) (hk : 1 ≤ k) (hk2 : k ≤ 1000) (hne : r ≠ g) (hr : r < w.heap.size)
    (hrow : ∀ i, i < k → ∃ s : ByteArray, s.size ≤ 100 ∧ w.cell? ⟨r, i, none⟩ = some (.string s)) :
    Calls Tryd.prog 20 #[.pointer (some ⟨g, 0, none⟩), .slice (some ⟨r, 0, none⟩) k cap] w (PickPost g A n c w) := by
  have hy := l01Below_any h (k : Int) (by omega) (by omega)
  have HR := Lib.hid hrow
  clear h hrow
  go_enter Tryd.func20, Tryd.ntmps20
  go_wp2_with (go_at_call 30; refine hy.mono ?_; rintro e w1 ⟨x, rfl, h0, h1, hc, hg⟩; refine Hid.out ?_)
  obtain ⟨X, rfl⟩ : ∃ X : Nat, x = X := ⟨x.toNat, by omega⟩
  have hX : X < k := by omega
  obtain ⟨v, hv, hcv⟩ := HR.out X hX
  have hc1 : w1.cell? ⟨r, X, none⟩ = some (.string v) := (World.cell?_of_block (hg.block r hr (by simp [hne]))).trans hcv
  clear hcv hy
  refine Lib.hid ?_
  go_wp2
  go_ret
  exact ⟨_, rfl, hv, hc, hg⟩
def AllS (l : List Value) : Prop := ∀ i, i < l.length → ∃ s : ByteArray, s.size ≤ 100 ∧ l[i]? = some (.string s)
theorem allS_nil : AllS [] := fun _ hi => absurd hi (Nat.not_lt_zero _)
theorem allS_cons {s : ByteArray} {l : List Value} (h : s.size ≤ 100) (hl : AllS l) : AllS (.string s :: l) := by
  intro i hi
  cases i with
  | zero => exact ⟨s, h, rfl⟩
  | succ i => simpa using hl i (by simpa using hi)
theorem pick_new {B g n c k : Nat} {A : Option Addr} {w : World} (h : Drawn B g n c A w) (cs : List Value) (hs : cs.length = k) (hk : 1 ≤ k) (hk2 : k ≤ 1000) (hall : AllS cs) :
    Calls Tryd.prog 20 #[.pointer (some ⟨g, 0, none⟩), .slice (some ⟨w.heap.size, 0, none⟩) k k] (w.alloc (.cells cs.toArray 9)) (PickPost g A n c w) := by
  have hb : Below w.heap.size w (w.alloc (.cells cs.toArray 9)) := (Below.refl _ _).alloc (Nat.le_refl _) _
  refine (l01Pick_any (h.below hb) hk hk2 (by have := h.cur.lt; omega) (by simp) (fun i hi => ?_)).mono ?_
  · obtain ⟨v, hv, e⟩ := hall i (by omega)
    exact ⟨v, hv, by rw [new_row]; simpa using e⟩
  · rintro e w' ⟨x, rfl, h0, hc, hg⟩
    exact ⟨x, rfl, h0, hc, grown_trans (grown_of_below hb) hg⟩
end Go.Proofs.YtboeaeoefoabdaaDoor
