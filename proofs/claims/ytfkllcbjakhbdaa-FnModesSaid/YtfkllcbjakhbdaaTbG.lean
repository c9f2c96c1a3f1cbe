/-
  The walks of DrawOpOf, DrawCodeOf, DrawModeSize and DrawKindOf of the model (chapter 4); old memory stays as it was.
  Conditions: the draw has at most 1048576 bytes.
-/
import Derived.Test.YtfkllcbjakhbdaaTbF
namespace Go.Proofs.Ytfkllcbjakhbdaa
open Go.RowKit
def DrawTexts (w : World) (e : Ending) (w' : World) : Prop := ∃ a b : ByteArray, e = .returned (.tuple #[.string a, .string b]) ∧ a.size ≤ 100 ∧ b.size ≤ 100 ∧ Below w.heap.size w w'
def DrawText1 (w : World) (e : Ending) (w' : World) : Prop := ∃ a : ByteArray, e = .returned (.string a) ∧ a.size ≤ 100 ∧ Below w.heap.size w w'
def DrawOp (w : World) (e : Ending) (w' : World) : Prop := ∃ a b : ByteArray, e = .returned (.agg #[.string a, .string b]) ∧ a.size ≤ 100 ∧ b.size ≤ 100 ∧ Below w.heap.size w w'
theorem field_mode (a b : ByteArray) (W : World) : (Instr.field 38 (.agg #[.string a, .string b]) 1).run Try.prog W = .ok (.string b) W := by kernel_rfl
theorem field_name (a b : ByteArray) (W : World) : (Instr.field 38 (.agg #[.string a, .string b]) 0).run Try.prog W = .ok (.string a) W := by kernel_rfl
theorem below_grown_at {a b c : World} (h : Below a.heap.size a b) (k : b.grownBy c (some a.heap.size)) : Below a.heap.size a c :=
  h.grown k h.size (fun x hx => by cases hx; exact Nat.le_refl _)
theorem drawModeSize_any (B n c : Nat) (A : Option Addr) (w : World) (hB : B ≤ w.heap.size) (hcode : Code w B A n) :
    Calls Try.prog 18 #[.slice A n c] w (DrawText1 w) := by
  have hN := l01New_any B n c A w hcode
  have HD := fun (w1 : World) hc hb => new_drawn (c := c) (w1 := w1) hB hcode hc hb
  clear hcode
  unfold NewPost at hN
  go_enter Try.func18, Try.ntmps18
  go_wp2_with (go_at_call 38; refine hN.mono ?_; rintro e w1 ⟨rfl, hc, hb⟩; refine Hid.out ?_)
  have hI := l04Op_any (HD w1 hc hb)
  have hf := field_mode
  clear hN HD hc
  refine Lib.hid ?_
  go_wp2_with (go_at_call 39; refine hI.mono ?_; rintro e w2 ⟨a, b, rfl, ha, hb2, hc2, hg2⟩)
  go_ret
  exact ⟨b, rfl, hb2, below_grown_at hb hg2⟩
set_option maxRecDepth 100000 in
set_option maxHeartbeats 1000000 in
theorem drawKindOf_any (B n c : Nat) (A : Option Addr) (w : World) (hB : B ≤ w.heap.size) (hcode : Code w B A n) :
    Calls Try.prog 19 #[.slice A n c] w (DrawOp w) := by
  have hb0 : Below w.heap.size w (w.alloc zero2) := (Below.refl _ _).alloc (Nat.le_refl _) _
  have hcode0 := hcode.below hB hb0
  have hN := l01New_any B n c A (w.alloc zero2) hcode0
  have HD := fun (w1 : World) hc hb => new_drawn (c := c) (w1 := w1) (Nat.le_trans hB hb0.size) hcode0 hc hb
  have K0 := Lib.hid (blk_new w zero2)
  have hg0 := grown_of_below (g := w.heap.size + 1) hb0
  have hs1 : (w.alloc zero2).heap.size = w.heap.size + 1 := by simp
  rw [hs1] at HD
  unfold NewPost at hN
  rw [hs1] at hN
  have hs0 := Lib.hid hs1
  unfold zero2 at hN HD
  have G0 := Lib.hid hg0
  clear hcode hcode0 hb0 hg0 hs1
  unfold DrawOp
  go_enter Try.func19, Try.ntmps19
  go_wp2_with (go_at_call 38; refine hN.mono ?_; rintro e w1 ⟨rfl, hc, hb⟩; refine Hid.out ?_)
  have hb1 : Below (w.alloc zero2).heap.size (w.alloc zero2) w1 := by rw [hs0.out]; exact hb
  have hD := HD w1 hc hb
  have hy := l04Op_any hD
  have K1 := Lib.hid (blk_below K0.out hb1)
  have G1 := Lib.hid (grown_below G0.out hb1)
  unfold OpPost at hy
  clear hN HD hc hb hD K0 G0 hb1 hs0
  refine Lib.hid ?_
  go_wp2_with (go_at_call 39; refine hy.mono ?_; rintro e w2 ⟨a, b, rfl, ha, hb, hc, hg⟩; refine Hid.out ?_)
  have K2 := Lib.hid (blk_grown K1.out hg (by omega))
  have G2 := Lib.hid (grown_trans G1.out hg)
  have hst : (Try.prog.info? 38).map (·.size) = some 2 := op_size
  clear K1 G1 hg hy
  refine Lib.hid ?_
  go_wp2_with (refine wpList_store_row rfl 38 (.tmp 2) (.tmp 7) rfl w.heap.size #[.string a, .string b] ?c1 ?c2 38 #[.string ⟨#[]⟩, .string ⟨#[]⟩] ?c3 ?c4 ?c5 ?c6 ?_)
  case c1 => rfl
  case c2 => rfl
  case c3 => exact K2.out
  case c4 => exact hst
  case c5 => rfl
  case c6 => simp [Value.oneCell']
  have hend := row_end K2.out hc G2.out (by omega) #[.string a, .string b]
  exact bodyPost_ret (v := .agg #[.string a, .string b]) (results_cell_row rfl _ _ w.heap.size _ _ _ _ rfl hend.1 Try.underlying38 rfl op_size) rfl ⟨a, b, rfl, ha, hb, below_grown' hend.2.2 (Nat.le_refl _) (by omega)⟩
end Go.Proofs.Ytfkllcbjakhbdaa
