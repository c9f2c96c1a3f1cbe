/-
  The walks of DrawRegsText, DrawPushed, DrawFlagText, DrawReadFlags of the model (chapter 3); old memory stays as it was.
  Conditions: the draw has at most 1048576 bytes.
-/
import Derived.Test.YtpddbhnkopnibaaDgB
import Derived.Test.YtpddbhnkopnibaaDsB
namespace Go.Proofs.Ytpddbhnkopnibaa
open Go.RowKit
def DrawRegs (w : World) (e : Ending) (w' : World) : Prop := ∃ a x y s p pc : Int, e = .returned (regsV a x y s p pc) ∧ Below w.heap.size w w'
def DrawBool (w : World) (e : Ending) (w' : World) : Prop := ∃ (p : Int) (on : Bool), e = .returned (.tuple #[.int .i64 p, .bool on]) ∧ Below w.heap.size w w'
def DrawStr (w : World) (e : Ending) (w' : World) : Prop := ∃ s : ByteArray, e = .returned (.string s) ∧ s.size ≤ 1100 ∧ Below w.heap.size w w'
set_option maxRecDepth 100000 in
set_option maxHeartbeats 1000000 in
theorem drawRegsText_any (B n c : Nat) (A : Option Addr) (w : World) (hB : B ≤ w.heap.size) (hcode : Code w B A n) :
    Calls Try.prog 23 #[.slice A n c] w (DrawRegs w) := by
  have hb0 : Below w.heap.size w (w.alloc zero6) := (Below.refl _ _).alloc (Nat.le_refl _) _
  have hcode0 := hcode.below hB hb0
  have hN := l01New_any B n c A (w.alloc zero6) hcode0
  have HD := fun (w1 : World) hc hb => new_drawn (c := c) (w1 := w1) (Nat.le_trans hB hb0.size) hcode0 hc hb
  have K0 := Lib.hid (blk_new w zero6)
  have hg0 := grown_of_below (g := w.heap.size + 1) hb0
  have hs1 : (w.alloc zero6).heap.size = w.heap.size + 1 := by simp
  rw [hs1] at HD
  unfold NewPost at hN
  rw [hs1] at hN
  have hs0 := Lib.hid hs1
  unfold zero6 at hN HD
  have G0 := Lib.hid hg0
  clear hcode hcode0 hb0 hg0 hs1
  unfold DrawRegs
  go_enter Try.func23, Try.ntmps23
  go_wp2_with (go_at_call 31; refine hN.mono ?_; rintro e w1 ⟨rfl, hc, hb⟩; refine Hid.out ?_)
  have hb1 : Below (w.alloc zero6).heap.size (w.alloc zero6) w1 := by rw [hs0.out]; exact hb
  have hD := HD w1 hc hb
  have hy := l03Odd_any hD
  have K1 := Lib.hid (blk_below K0.out hb1)
  have G1 := Lib.hid (grown_below G0.out hb1)
  unfold RegsPost regsV at hy
  clear hN HD hc hb hD K0 G0 hb1 hs0
  refine Lib.hid ?_
  go_wp2_with (go_at_call 41; refine hy.mono ?_; rintro e w2 ⟨a, x, y, s, p, pc, rfl, hc, hg⟩; refine Hid.out ?_)
  have K2 := Lib.hid (blk_grown K1.out hg (by omega))
  have G2 := Lib.hid (grown_trans G1.out hg)
  have hst : (Try.prog.info? 33).map (·.size) = some 6 := regs_size
  clear K1 G1 hg hy
  refine Lib.hid ?_
  go_wp2_with (refine wpList_store_row rfl 33 (.tmp 2) (.tmp 7) rfl w.heap.size #[.int .i64 a, .int .i64 x, .int .i64 y, .int .i64 s, .int .i64 p, .int .i64 pc] ?c1 ?c2 33 #[.int .i64 0, .int .i64 0, .int .i64 0, .int .i64 0, .int .i64 0, .int .i64 0] ?c3 ?c4 ?c5 ?c6 ?_)
  case c1 => rfl
  case c2 => rfl
  case c3 => exact K2.out
  case c4 => exact hst
  case c5 => rfl
  case c6 => simp [Value.oneCell']
  have hend := regs_end K2.out hc G2.out (by omega) a x y s p pc
  exact bodyPost_ret (v := regsV a x y s p pc) (results_cell_row rfl _ _ w.heap.size _ _ _ _ rfl hend.1 Try.underlying33 rfl regs_size) rfl ⟨a, x, y, s, p, pc, rfl, below_grown' hend.2.2 (Nat.le_refl _) (by omega)⟩
theorem drawFlagText_any (B n c : Nat) (A : Option Addr) (w : World) (hB : B ≤ w.heap.size) (hcode : Code w B A n) :
    Calls Try.prog 12 #[.slice A n c] w (IntPost w) := by
  have hN := l01New_any B n c A w hcode
  have HD := fun (w1 : World) hc hb => new_drawn (c := c) (w1 := w1) hB hcode hc hb
  clear hcode
  unfold NewPost at hN
  go_enter Try.func12, Try.ntmps12
  go_wp2_with (go_at_call 31; refine hN.mono ?_; rintro e w1 ⟨rfl, hc, hb⟩; refine Hid.out ?_)
  have hI := l02Odd_any (HD w1 hc hb)
  clear hN HD hc
  refine Lib.hid ?_
  go_wp2_with (go_at_call 32; refine hI.mono ?_; rintro e w2 ⟨x, rfl, x0, x1, hc2, hg2⟩)
  go_ret
  exact ⟨x, rfl, ⟨x0, x1⟩, hb.grown hg2 hb.size (fun k hk => by cases hk; exact Nat.le_refl _)⟩
theorem drawPushed_any (B n c : Nat) (A : Option Addr) (w : World) (hB : B ≤ w.heap.size) (hcode : Code w B A n) :
    Calls Try.prog 15 #[.slice A n c] w (DrawBool w) := by
  have hN := l01New_any B n c A w hcode
  have HD := fun (w1 : World) hc hb => new_drawn (c := c) (w1 := w1) hB hcode hc hb
  clear hcode
  unfold NewPost at hN
  go_enter Try.func15, Try.ntmps15
  go_wp2_with (go_at_call 31; refine hN.mono ?_; rintro e w1 ⟨rfl, hc, hb⟩; refine Hid.out ?_)
  have hD := HD w1 hc hb
  have hP := l02Odd_any hD
  have H := Lib.hid hD
  clear hN HD hc hD
  refine Lib.hid ?_
  go_wp2_with (go_at_call 32; refine hP.mono ?_; rintro e w2 ⟨p, rfl, p0, p1, hc, hg2⟩; refine Hid.out ?_)
  have hO := l01Once_any (H.out.next hc hg2) 2 (by omega) (by omega)
  have hb2 := hb.grown hg2 hb.size (fun k hk => by cases hk; exact Nat.le_refl _)
  clear hP hc H hb hg2
  refine Lib.hid ?_
  go_wp2_with (go_at_call 36; refine hO.mono ?_; rintro e w3 ⟨on, rfl, hc, hg3⟩)
  go_ret2
  exact ⟨p, on, rfl, hb2.grown hg3 hb2.size (fun k hk => by cases hk; exact Nat.le_refl _)⟩
theorem ftlB_size (p : Int) : (⟨(ftl p).toArray⟩ : ByteArray).size ≤ 1000 := by
  show (ftl p).toArray.size ≤ 1000
  have := ftl_length p
  simp; omega
theorem drawReadFlags_any (B n c : Nat) (A : Option Addr) (w : World) (hB : B ≤ w.heap.size) (hcode : Code w B A n) :
    Calls Try.prog 14 #[.slice A n c] w (DrawStr w) := by
  have hN := l01New_any B n c A w hcode
  have HD := fun (w1 : World) hc hb => new_drawn (c := c) (w1 := w1) hB hcode hc hb
  clear hcode
  unfold NewPost at hN
  go_enter Try.func14, Try.ntmps14
  go_wp2_with (go_at_call 31; refine hN.mono ?_; rintro e w1 ⟨rfl, hc, hb⟩; refine Hid.out ?_)
  have hD := HD w1 hc hb
  have hP := l02Byte_any hD
  have H := Lib.hid hD
  clear hN HD hc hD
  refine Lib.hid ?_
  go_wp2_with (go_at_call 35; refine hP.mono ?_; rintro e w2 ⟨p, rfl, p0, p1, hc, hg2⟩; refine Hid.out ?_)
  have H2 := Lib.hid (H.out.next hc hg2)
  have hT := spec_flagText p
  have hb2 := hb.grown hg2 hb.size (fun k hk => by cases hk; exact Nat.le_refl _)
  clear hP hc H hb hg2
  refine Lib.hid ?_
  go_wp2_with (go_at_call 17; refine (hT _).mono ?_; rintro e w3 ⟨rfl, hb3⟩; refine Hid.out ?_)
  have hO := l01Bent_any (H2.out.below hb3) ⟨(ftl p).toArray⟩ (ftlB_size p)
  have hb4 := hb2.trans (hb3.mono hb2.size)
  unfold BentPost at hO
  clear hT H2 hb2 hb3
  refine Lib.hid ?_
  go_wp2_with (go_at_call 34; refine hO.mono ?_; rintro e w4 ⟨s, rfl, hs, hc, hg4⟩)
  go_ret
  exact ⟨s, rfl, hs, hb4.grown hg4 hb4.size (fun k hk => by cases hk; exact Nat.le_refl _)⟩
end Go.Proofs.Ytpddbhnkopnibaa
