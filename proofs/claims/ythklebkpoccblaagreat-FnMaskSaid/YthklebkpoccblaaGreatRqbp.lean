/-
  Texts put together by program: RgD, RgE, RgI, DgA, DgB, LcG.
  Conditions: as each theorem says.
-/
import Derived.IntWalk
import Derived.Lib.SlBytesConst
import Derived.Test.YthklebkpoccblaaGreatRqbo
namespace Go.Proofs.YthklebkpoccblaaGreat
def fLets : List UInt8 := [78, 86, 85, 66, 68, 73, 90, 67]
def fLet (i : Nat) : UInt8 := fLets.getD i 0
def fBit (i : Nat) : Int := 128 / 2 ^ i
def fSign (p : Int) (i : Nat) : UInt8 := if tst p (fBit i) then fLet i else 46
def fCell (p : Int) (k i : Nat) : UInt8 := if i < k then fSign p i else fLet i
end Go.Proofs.YthklebkpoccblaaGreat
namespace Go.Proofs.YthklebkpoccblaaGreat
open Go.RowKit Go.Deep Go.WideShapes Go.ChangeShapes
def FRow (wr : World) (b : Nat) (p : Int) (k : Nat) : Prop := ∃ c : Array Value, wr.heap[b]? = some (.cells c 5 (8, 9)) ∧ c.size = 8 ∧ ∀ i, i < 8 → c[i]? = some (.int .u8 ((fCell p k i).toNat : Int))
theorem FRow.cell {wr : World} {b k : Nat} {p : Int} (h : FRow wr b p k) (i : Nat) (hi : i < 8) : wr.cell? ⟨b, i, none⟩ = some (.int .u8 ((fCell p k i).toNat : Int)) := by
 obtain ⟨c, h1, h2, h3⟩ := h
 simp [World.cell?, h1, h3 i hi]
theorem FRow.frozen {wr : World} {b k : Nat} {p : Int} (h : FRow wr b p k) (i : Nat) (hi : i < 8) : wr.frozen? ⟨b, i, none⟩ = false := by
 obtain ⟨c, h1, h2, h3⟩ := h
 simp [World.frozen?, h1]
 omega
theorem FRow.stay {wr : World} {b k : Nat} {p : Int} (h : FRow wr b p k) (ht : tst p (fBit k) = true) : FRow wr b p (k + 1) := by
 obtain ⟨c, h1, h2, h3⟩ := h
 refine ⟨c, h1, h2, fun i hi => ?_⟩
 rw [h3 i hi]
 unfold fCell
 by_cases e : i = k
 ·subst e
  rw [if_neg (by omega), if_pos (by omega)]
  unfold fSign
  rw [ht]; rfl
 ·by_cases h5 : i < k
  ·rw [if_pos h5, if_pos (by omega)]
  ·rw [if_neg h5, if_neg (by omega)]
theorem FRow.set {wr : World} {b k : Nat} {p : Int} (h : FRow wr b p k) (hk : k < 8) (ht : tst p (fBit k) = false) : FRow (wr.setCell ⟨b, k, none⟩ (.int .u8 46)) b p (k + 1) := by
 obtain ⟨c, h1, h2, h3⟩ := h
 refine ⟨c.setIfInBounds k (.int .u8 46), by simp [World.setCell, Array.getElem?_modify, h1], by simpa using h2, fun i hi => ?_⟩
 rw [Array.getElem?_setIfInBounds]
 by_cases e : k = i
 ·subst e
  rw [if_pos rfl, if_pos (by omega)]
  unfold fCell
  rw [if_pos (by omega)]
  unfold fSign
  rw [ht]; rfl
 ·rw [if_neg e, h3 i hi]
  unfold fCell
  by_cases h5 : i < k
  ·rw [if_pos h5, if_pos (by omega)]
  ·rw [if_neg h5, if_neg (by omega)]
end Go.Proofs.YthklebkpoccblaaGreat
namespace Go.Proofs.YthklebkpoccblaaGreat
open Go.RowKit Go.Deep Go.WideShapes Go.ChangeShapes
def Six (W : World) (B : Nat) (a x y s p pc : Int) : Prop :=
 W.cell? ⟨B, 0, none⟩ = some (.int .i64 a) ∧ W.cell? ⟨B, 1, none⟩ = some (.int .i64 x) ∧ W.cell? ⟨B, 2, none⟩ = some (.int .i64 y) ∧
 W.cell? ⟨B, 3, none⟩ = some (.int .i64 s) ∧ W.cell? ⟨B, 4, none⟩ = some (.int .i64 p) ∧ W.cell? ⟨B, 5, none⟩ = some (.int .i64 pc)
theorem Six.below {w w' : World} {B : Nat} {a x y s p pc : Int} (h : Six w B a x y s p pc) (hB : B < w.heap.size) (hb : Below w.heap.size w w') : Six w' B a x y s p pc := by
 obtain ⟨h0, h1, h2, h3, h4, h5⟩ := h
 have k : ∀ o, w'.cell? ⟨B, o, none⟩ = w.cell? ⟨B, o, none⟩ := fun o => hb.cell (p := ⟨B, o, none⟩) hB
 exact ⟨(k _).trans h0, (k _).trans h1, (k _).trans h2, (k _).trans h3, (k _).trans h4, (k _).trans h5⟩
end Go.Proofs.YthklebkpoccblaaGreat
namespace Go.Proofs.YthklebkpoccblaaGreat
open Go.RowKit
def RegsPost (g : Nat) (A : Option Addr) (n c : Nat) (w : World) (e : Ending) (w' : World) : Prop :=
 ∃ a x y s p pc : Int, e = .returned (regsV a x y s p pc) ∧ Cur w' g A n c ∧ w.grownBy w' (some g)
def zero6d : Obj := .cells #[.int .i64 0, .int .i64 0, .int .i64 0, .int .i64 0, .int .i64 0, .int .i64 0] 25
theorem regs_size : (Tryz.prog.info? 25).map (·.size) = some 6 := by kernel_rfl
theorem regs_end {w w1 : World} {g n c : Nat} {A : Option Addr} {old : Array Value} {t : TypeId} (hk : w1.heap[w.heap.size]? = some (.cells old t (0, 0))) (hc : Cur w1 g A n c) (hg : w.grownBy w1 (some g)) (hne : w.heap.size ≠ g) (a x y s p pc : Int) :
  (w1.setRow w.heap.size #[.int .i64 a, .int .i64 x, .int .i64 y, .int .i64 s, .int .i64 p, .int .i64 pc]).heap[w.heap.size]? = some (.cells #[.int .i64 a, .int .i64 x, .int .i64 y, .int .i64 s, .int .i64 p, .int .i64 pc] t (0, 0)) ∧
  Cur (w1.setRow w.heap.size #[.int .i64 a, .int .i64 x, .int .i64 y, .int .i64 s, .int .i64 p, .int .i64 pc]) g A n c ∧
  w.grownBy (w1.setRow w.heap.size #[.int .i64 a, .int .i64 x, .int .i64 y, .int .i64 s, .int .i64 p, .int .i64 pc]) (some g) :=
 ⟨setRow_heap _ _ _ _ _ _ hk, hc.keep (setRow_other _ _ _ _ (Ne.symm hne)), ⟨hg.os, hg.tape, hg.output, by rw [setRow_size]; exact hg.size, fun j hj hn => (setRow_other _ _ _ _ (by omega)).trans (hg.block j hj hn)⟩⟩
set_option maxRecDepth 100000 in
set_option maxHeartbeats 4000000 in
theorem l03Make_any {B g n c : Nat} {A : Option Addr} {w : World} (h : Drawn B g n c A w) :
  Calls Tryz.prog 88 #[.pointer (some ⟨g, 0, none⟩)] w (RegsPost g A n c w) := by
 have hb0 : Below w.heap.size w (w.alloc zero6d) := (Below.refl _ _).alloc (Nat.le_refl _) _
 have H0 := Lib.hid (h.below hb0)
 have K0 := Lib.hid (blk_new w zero6d)
 have G0 := Lib.hid (grown_of_below (g := g) hb0)
 have hne : w.heap.size ≠ g := by have := h.cur.lt; omega
 have hy := l02Byte_any H0.out
 unfold zero6d at hy
 clear h hb0
 go_enter Tryz.func88, Tryz.ntmps88
 go_wp2_with (go_at_call 60; refine hy.mono ?_; rintro e w1 ⟨a, rfl, _, _, hc, hg⟩; refine Hid.out ?_)
 have H1 := Lib.hid (H0.out.next hc hg)
 have K1 := Lib.hid (blk_grown K0.out hg hne)
 have G1 := Lib.hid (grown_trans G0.out hg)
 have hy := l02Byte_any H1.out
 clear H0 K0 G0 hc hg
 refine Lib.hid ?_
 go_wp2_with (go_at_call 60; refine hy.mono ?_; rintro e w2 ⟨x, rfl, _, _, hc, hg⟩; refine Hid.out ?_)
 have H2 := Lib.hid (H1.out.next hc hg)
 have K2 := Lib.hid (blk_grown K1.out hg hne)
 have G2 := Lib.hid (grown_trans G1.out hg)
 have hy := l02Byte_any H2.out
 clear H1 K1 G1 hc hg
 refine Lib.hid ?_
 go_wp2_with (go_at_call 60; refine hy.mono ?_; rintro e w3 ⟨y, rfl, _, _, hc, hg⟩; refine Hid.out ?_)
 have H3 := Lib.hid (H2.out.next hc hg)
 have K3 := Lib.hid (blk_grown K2.out hg hne)
 have G3 := Lib.hid (grown_trans G2.out hg)
 have hy := l02Byte_any H3.out
 clear H2 K2 G2 hc hg
 refine Lib.hid ?_
 go_wp2_with (go_at_call 60; refine hy.mono ?_; rintro e w4 ⟨s, rfl, _, _, hc, hg⟩; refine Hid.out ?_)
 have H4 := Lib.hid (H3.out.next hc hg)
 have K4 := Lib.hid (blk_grown K3.out hg hne)
 have G4 := Lib.hid (grown_trans G3.out hg)
 have hy := l02Byte_any H4.out
 clear H3 K3 G3 hc hg
 refine Lib.hid ?_
 go_wp2_with (go_at_call 60; refine hy.mono ?_; rintro e w5 ⟨p, rfl, _, _, hc, hg⟩; refine Hid.out ?_)
 have H5 := Lib.hid (H4.out.next hc hg)
 have K5 := Lib.hid (blk_grown K4.out hg hne)
 have G5 := Lib.hid (grown_trans G4.out hg)
 have hy := l01Below_any H5.out 65536 (by omega) (by omega)
 have hU := fun w => spec_pulled p w
 clear H4 K4 G4 hc hg
 refine Lib.hid ?_
 go_wp2_with (first
  | (go_at_call 26; refine (hU _).mono ?_; rintro e w' ⟨rfl, rfl⟩)
  | (go_at_call 55; refine hy.mono ?_; rintro e w6 ⟨q, rfl, q0, q1, hc, hg⟩; refine Hid.out ?_))
 have H6 := Lib.hid (H5.out.next hc hg)
 have K6 := Lib.hid (blk_grown K5.out hg hne)
 have G6 := Lib.hid (grown_trans G5.out hg)
 have hP := pickInt_new H6.out [.int .i64 512, .int .i64 512, .int .i64 61440, .int .i64 511, .int .i64 2047, .int .i64 q] (k := 6) rfl (by omega) (by omega)
  (by repeat (first | exact allI_nil | refine allI_cons ⟨by omega, by omega⟩ ?_))
 clear H5 K5 G5 hc hg
 refine Lib.hid ?_
 go_wp2_with (go_at_call 57; refine hP.mono ?_; rintro e w7 ⟨pc, rfl, pc0, pc1, hc, hg⟩; refine Hid.out ?_)
 have k7 := blk_grown K6.out hg hne
 unfold zero6d at k7
 have G7 := Lib.hid (grown_trans G6.out hg)
 clear H6 K6 G6 hg
 have hst : (Tryz.prog.info? 25).map (·.size) = some 6 := regs_size
 refine Lib.hid ?_
 go_wp2_with (refine wpList_store_row rfl 25 (.tmp 2) (.tmp 19) rfl w.heap.size #[.int .i64 a, .int .i64 x, .int .i64 y, .int .i64 s, .int .i64 (keptI p), .int .i64 pc] ?c1 ?c2 25 #[.int .i64 0, .int .i64 0, .int .i64 0, .int .i64 0, .int .i64 0, .int .i64 0] ?c3 ?c4 ?c5 ?c6 ?_)
 case c1 => rfl
 case c2 => rfl
 case c3 => exact k7
 case c4 => exact hst
 case c5 => rfl
 case c6 => simp [Value.oneCell']
 have hend := regs_end k7 hc G7.out hne a x y s (keptI p) pc
 exact bodyPost_ret (v := regsV a x y s (keptI p) pc) (results_cell_row rfl _ _ w.heap.size _ _ _ _ rfl hend.1 Tryz.underlying25 rfl regs_size) rfl ⟨a, x, y, s, keptI p, pc, rfl, hend.2.1, hend.2.2⟩
end Go.Proofs.YthklebkpoccblaaGreat
namespace Go.Proofs.YthklebkpoccblaaGreat
open Go.RowKit
set_option maxRecDepth 100000 in
set_option maxHeartbeats 8000000 in
theorem l03Odd_any {B g n c : Nat} {A : Option Addr} {w : World} (h : Drawn B g n c A w) :
  Calls Tryz.prog 56 #[.pointer (some ⟨g, 0, none⟩)] w (RegsPost g A n c w) := by
 have hb0 : Below w.heap.size w (w.alloc zero6d) := (Below.refl _ _).alloc (Nat.le_refl _) _
 have H0 := Lib.hid (h.below hb0)
 have K0 := Lib.hid (blk_new w zero6d)
 have G0 := Lib.hid (grown_of_below (g := g) hb0)
 have hne : w.heap.size ≠ g := by have := h.cur.lt; omega
 have hgl : g < w.heap.size := h.cur.lt
 have hy := l03Make_any H0.out
 unfold RegsPost regsV zero6d at hy
 clear h hb0
 unfold RegsPost
 go_enter Tryz.func56, Tryz.ntmps56
 go_wp2_with (go_at_call 88; refine hy.mono ?_; rintro e w1 ⟨a, x, y, s, p, pc, rfl, hc, hg⟩; refine Hid.out ?_)
 have H1 := Lib.hid (H0.out.next hc hg)
 have K1 := Lib.hid (blk_grown K0.out hg hne)
 have G1 := Lib.hid (grown_trans G0.out hg)
 have hz : w.heap.size < w1.heap.size := by have := hg.size; simp at this; omega
 have hbV : Below w1.heap.size w1 (w1.alloc (.cells #[.int .i64 a, .int .i64 x, .int .i64 y, .int .i64 s, .int .i64 p, .int .i64 pc] 25)) := (Below.refl _ _).alloc (Nat.le_refl _) _
 have hy := l01Below_any (H1.out.below hbV) 10 (by omega) (by omega)
 have HV := Lib.hid (blk_new w1 (.cells #[.int .i64 a, .int .i64 x, .int .i64 y, .int .i64 s, .int .i64 p, .int .i64 pc] 25))
 have HR := Lib.hid (blk_below K1.out hbV)
 have H2 := Lib.hid (H1.out.below hbV)
 have G2 := Lib.hid (grown_below G1.out hbV)
 clear H0 K0 G0 hc hg H1 K1 G1 hbV
 refine Lib.hid ?_
 go_wp2_with (go_at_call 55; refine hy.mono ?_; rintro e w2 ⟨k, rfl, k0, k1, hc, hg⟩; refine Hid.out ?_)
 have H3 := Lib.hid (H2.out.next hc hg)
 have HV := Lib.hid (blk_grown HV.out hg (by omega))
 have HR := Lib.hid (blk_grown HR.out hg hne)
 have G3 := Lib.hid (grown_trans G2.out hg)
 have hst : (Tryz.prog.info? 25).map (·.size) = some 6 := regs_size
 clear H2 G2 hg hc
 by_cases e0 : k = 0
 ·subst e0
  clear k0 k1
  have hP := pickInt_new H3.out [.int .i64 (-1), .int .i64 256] (k := 2) rfl (by omega) (by omega)
   (by repeat (first | exact allI_nil | refine allI_cons ⟨by omega, by omega⟩ ?_))
  refine Lib.hid ?_
  go_wp2_with (go_at_call 57; refine hP.mono ?_; rintro e w3 ⟨v, rfl, _, _, hc, hg⟩; refine Hid.out ?_)
  have kV := blk_grown HV.out hg (by omega)
  have kR := blk_grown HR.out hg hne
  have c3 := cell_of_blk (i := 0) kV rfl
  have f3 := free_of_blk (i := 0) kV
  have hm := odd_mid kV kR hc (grown_trans G3.out hg) (by omega) hz 0 (.int .i64 v)
  have MV := Lib.hid hm.1
  have MR := Lib.hid hm.2.1
  have MC := Lib.hid hm.2.2.1
  have MG := Lib.hid hm.2.2.2
  clear hm kV kR hP hc hg HV HR H3 G3 hy
  refine Lib.hid ?_
  go_wp2_with (first
   | (refine wpList_load_row rfl 25 (.tmp 3) rfl w1.heap.size ?a1 25 #[.int .i64 v, .int .i64 x, .int .i64 y, .int .i64 s, .int .i64 p, .int .i64 pc] (0, 0) _ ?a2 Tryz.underlying25 rfl ?a3 ?_)
   | (refine wpList_store_row rfl 25 (.tmp 2) (.tmp 37) rfl w.heap.size #[.int .i64 v, .int .i64 x, .int .i64 y, .int .i64 s, .int .i64 p, .int .i64 pc] ?a4 ?a5 25 #[.int .i64 0, .int .i64 0, .int .i64 0, .int .i64 0, .int .i64 0, .int .i64 0] ?a6 ?a7 ?a8 ?a9 ?_))
  try (case a1 => rfl)
  case a2 => exact MV.out
  case a3 => exact hst
  try (case a4 => rfl)
  try (case a5 => rfl)
  case a6 => exact MR.out
  case a7 => exact hst
  case a8 => rfl
  case a9 => simp [Value.oneCell']
  have hend := regs_end MR.out MC.out MG.out hne v x y s p pc
  exact bodyPost_ret (v := regsV v x y s p pc) (results_cell_row rfl _ _ w.heap.size _ _ _ _ rfl hend.1 Tryz.underlying25 rfl regs_size) rfl ⟨v, x, y, s, p, pc, rfl, hend.2.1, hend.2.2⟩
 ·
  by_cases e1 : k = 1
  ·subst e1
   clear k0 k1
   have hP := pickInt_new H3.out [.int .i64 (-1), .int .i64 256] (k := 2) rfl (by omega) (by omega)
    (by repeat (first | exact allI_nil | refine allI_cons ⟨by omega, by omega⟩ ?_))
   refine Lib.hid ?_
   go_wp2_with (go_at_call 57; refine hP.mono ?_; rintro e w3 ⟨v, rfl, _, _, hc, hg⟩; refine Hid.out ?_)
   have kV := blk_grown HV.out hg (by omega)
   have kR := blk_grown HR.out hg hne
   have c3 := cell_of_blk (i := 1) kV rfl
   have f3 := free_of_blk (i := 1) kV
   have hm := odd_mid kV kR hc (grown_trans G3.out hg) (by omega) hz 1 (.int .i64 v)
   have MV := Lib.hid hm.1
   have MR := Lib.hid hm.2.1
   have MC := Lib.hid hm.2.2.1
   have MG := Lib.hid hm.2.2.2
   clear hm kV kR hP hc hg HV HR H3 G3 hy
   refine Lib.hid ?_
   go_wp2_with (first
    | (refine wpList_load_row rfl 25 (.tmp 3) rfl w1.heap.size ?b1 25 #[.int .i64 a, .int .i64 v, .int .i64 y, .int .i64 s, .int .i64 p, .int .i64 pc] (0, 0) _ ?b2 Tryz.underlying25 rfl ?b3 ?_)
    | (refine wpList_store_row rfl 25 (.tmp 2) (.tmp 37) rfl w.heap.size #[.int .i64 a, .int .i64 v, .int .i64 y, .int .i64 s, .int .i64 p, .int .i64 pc] ?b4 ?b5 25 #[.int .i64 0, .int .i64 0, .int .i64 0, .int .i64 0, .int .i64 0, .int .i64 0] ?b6 ?b7 ?b8 ?b9 ?_))
   try (case b1 => rfl)
   case b2 => exact MV.out
   case b3 => exact hst
   try (case b4 => rfl)
   try (case b5 => rfl)
   case b6 => exact MR.out
   case b7 => exact hst
   case b8 => rfl
   case b9 => simp [Value.oneCell']
   have hend := regs_end MR.out MC.out MG.out hne a v y s p pc
   exact bodyPost_ret (v := regsV a v y s p pc) (results_cell_row rfl _ _ w.heap.size _ _ _ _ rfl hend.1 Tryz.underlying25 rfl regs_size) rfl ⟨a, v, y, s, p, pc, rfl, hend.2.1, hend.2.2⟩
  ·
   by_cases e2 : k = 2
   ·subst e2
    clear k0 k1
    have hP := l02Byte_any H3.out
    refine Lib.hid ?_
    go_wp2_with (go_at_call 60; refine hP.mono ?_; rintro e w3 ⟨v, rfl, _, _, hc, hg⟩; refine Hid.out ?_)
    have kV := blk_grown HV.out hg (by omega)
    have kR := blk_grown HR.out hg hne
    have c3 := cell_of_blk (i := 4) kV rfl
    have f3 := free_of_blk (i := 4) kV
    have hm := odd_mid kV kR hc (grown_trans G3.out hg) (by omega) hz 4 (.int .i64 v)
    have MV := Lib.hid hm.1
    have MR := Lib.hid hm.2.1
    have MC := Lib.hid hm.2.2.1
    have MG := Lib.hid hm.2.2.2
    clear hm kV kR hP hc hg HV HR H3 G3 hy
    refine Lib.hid ?_
    go_wp2_with (first
     | (refine wpList_load_row rfl 25 (.tmp 3) rfl w1.heap.size ?c1 25 #[.int .i64 a, .int .i64 x, .int .i64 y, .int .i64 s, .int .i64 v, .int .i64 pc] (0, 0) _ ?c2 Tryz.underlying25 rfl ?c3 ?_)
     | (refine wpList_store_row rfl 25 (.tmp 2) (.tmp 37) rfl w.heap.size #[.int .i64 a, .int .i64 x, .int .i64 y, .int .i64 s, .int .i64 v, .int .i64 pc] ?c4 ?c5 25 #[.int .i64 0, .int .i64 0, .int .i64 0, .int .i64 0, .int .i64 0, .int .i64 0] ?c6 ?c7 ?c8 ?c9 ?_))
    try (case c1 => rfl)
    case c2 => exact MV.out
    case c3 => exact hst
    try (case c4 => rfl)
    try (case c5 => rfl)
    case c6 => exact MR.out
    case c7 => exact hst
    case c8 => rfl
    case c9 => simp [Value.oneCell']
    have hend := regs_end MR.out MC.out MG.out hne a x y s v pc
    exact bodyPost_ret (v := regsV a x y s v pc) (results_cell_row rfl _ _ w.heap.size _ _ _ _ rfl hend.1 Tryz.underlying25 rfl regs_size) rfl ⟨a, x, y, s, v, pc, rfl, hend.2.1, hend.2.2⟩
   ·
    by_cases e3 : k = 3
    ·subst e3
     clear k0 k1
     have hP := pickInt_new H3.out [.int .i64 (-1), .int .i64 65536] (k := 2) rfl (by omega) (by omega)
      (by repeat (first | exact allI_nil | refine allI_cons ⟨by omega, by omega⟩ ?_))
     refine Lib.hid ?_
     go_wp2_with (go_at_call 57; refine hP.mono ?_; rintro e w3 ⟨v, rfl, _, _, hc, hg⟩; refine Hid.out ?_)
     have kV := blk_grown HV.out hg (by omega)
     have kR := blk_grown HR.out hg hne
     have c3 := cell_of_blk (i := 5) kV rfl
     have f3 := free_of_blk (i := 5) kV
     have hm := odd_mid kV kR hc (grown_trans G3.out hg) (by omega) hz 5 (.int .i64 v)
     have MV := Lib.hid hm.1
     have MR := Lib.hid hm.2.1
     have MC := Lib.hid hm.2.2.1
     have MG := Lib.hid hm.2.2.2
     clear hm kV kR hP hc hg HV HR H3 G3 hy
     refine Lib.hid ?_
     go_wp2_with (first
      | (refine wpList_load_row rfl 25 (.tmp 3) rfl w1.heap.size ?d1 25 #[.int .i64 a, .int .i64 x, .int .i64 y, .int .i64 s, .int .i64 p, .int .i64 v] (0, 0) _ ?d2 Tryz.underlying25 rfl ?d3 ?_)
      | (refine wpList_store_row rfl 25 (.tmp 2) (.tmp 37) rfl w.heap.size #[.int .i64 a, .int .i64 x, .int .i64 y, .int .i64 s, .int .i64 p, .int .i64 v] ?d4 ?d5 25 #[.int .i64 0, .int .i64 0, .int .i64 0, .int .i64 0, .int .i64 0, .int .i64 0] ?d6 ?d7 ?d8 ?d9 ?_))
     try (case d1 => rfl)
     case d2 => exact MV.out
     case d3 => exact hst
     try (case d4 => rfl)
     try (case d5 => rfl)
     case d6 => exact MR.out
     case d7 => exact hst
     case d8 => rfl
     case d9 => simp [Value.oneCell']
     have hend := regs_end MR.out MC.out MG.out hne a x y s p v
     exact bodyPost_ret (v := regsV a x y s p v) (results_cell_row rfl _ _ w.heap.size _ _ _ _ rfl hend.1 Tryz.underlying25 rfl regs_size) rfl ⟨a, x, y, s, p, v, rfl, hend.2.1, hend.2.2⟩
    ·
     by_cases e4 : k = 4
     ·subst e4
      clear k0 k1
      have hP := pickInt_new H3.out [.int .i64 (-1), .int .i64 256] (k := 2) rfl (by omega) (by omega)
       (by repeat (first | exact allI_nil | refine allI_cons ⟨by omega, by omega⟩ ?_))
      refine Lib.hid ?_
      go_wp2_with (go_at_call 57; refine hP.mono ?_; rintro e w3 ⟨v, rfl, _, _, hc, hg⟩; refine Hid.out ?_)
      have kV := blk_grown HV.out hg (by omega)
      have kR := blk_grown HR.out hg hne
      have c3 := cell_of_blk (i := 3) kV rfl
      have f3 := free_of_blk (i := 3) kV
      have hm := odd_mid kV kR hc (grown_trans G3.out hg) (by omega) hz 3 (.int .i64 v)
      have MV := Lib.hid hm.1
      have MR := Lib.hid hm.2.1
      have MC := Lib.hid hm.2.2.1
      have MG := Lib.hid hm.2.2.2
      clear hm kV kR hP hc hg HV HR H3 G3 hy
      refine Lib.hid ?_
      go_wp2_with (first
       | (refine wpList_load_row rfl 25 (.tmp 3) rfl w1.heap.size ?e1 25 #[.int .i64 a, .int .i64 x, .int .i64 y, .int .i64 v, .int .i64 p, .int .i64 pc] (0, 0) _ ?e2 Tryz.underlying25 rfl ?e3 ?_)
       | (refine wpList_store_row rfl 25 (.tmp 2) (.tmp 37) rfl w.heap.size #[.int .i64 a, .int .i64 x, .int .i64 y, .int .i64 v, .int .i64 p, .int .i64 pc] ?e4 ?e5 25 #[.int .i64 0, .int .i64 0, .int .i64 0, .int .i64 0, .int .i64 0, .int .i64 0] ?e6 ?e7 ?e8 ?e9 ?_))
      try (case e1 => rfl)
      case e2 => exact MV.out
      case e3 => exact hst
      try (case e4 => rfl)
      try (case e5 => rfl)
      case e6 => exact MR.out
      case e7 => exact hst
      case e8 => rfl
      case e9 => simp [Value.oneCell']
      have hend := regs_end MR.out MC.out MG.out hne a x y v p pc
      exact bodyPost_ret (v := regsV a x y v p pc) (results_cell_row rfl _ _ w.heap.size _ _ _ _ rfl hend.1 Tryz.underlying25 rfl regs_size) rfl ⟨a, x, y, v, p, pc, rfl, hend.2.1, hend.2.2⟩
     ·
      have hc := H3.out.cur
      have MV := HV
      have MR := HR
      have MC := Lib.hid hc
      have MG := G3
      have t0 : (k == 0) = false := by simpa using e0
      have t1 : (k == 1) = false := by simpa using e1
      have t2 : (k == 2) = false := by simpa using e2
      have t3 : (k == 3) = false := by simpa using e3
      have t4 : (k == 4) = false := by simpa using e4
      clear e0 e1 e2 e3 e4 hc HV HR H3 G3 hy
      refine Lib.hid ?_
      go_wp2_with (first
       | (refine wpList_load_row rfl 25 (.tmp 3) rfl w1.heap.size ?z1 25 #[.int .i64 a, .int .i64 x, .int .i64 y, .int .i64 s, .int .i64 p, .int .i64 pc] (0, 0) _ ?z2 Tryz.underlying25 rfl ?z3 ?_)
       | (refine wpList_store_row rfl 25 (.tmp 2) (.tmp 37) rfl w.heap.size #[.int .i64 a, .int .i64 x, .int .i64 y, .int .i64 s, .int .i64 p, .int .i64 pc] ?z4 ?z5 25 #[.int .i64 0, .int .i64 0, .int .i64 0, .int .i64 0, .int .i64 0, .int .i64 0] ?z6 ?z7 ?z8 ?z9 ?_))
      try (case z1 => rfl)
      case z2 => exact MV.out
      case z3 => exact hst
      try (case z4 => rfl)
      try (case z5 => rfl)
      case z6 => exact MR.out
      case z7 => exact hst
      case z8 => rfl
      case z9 => simp [Value.oneCell']
      have hend := regs_end MR.out MC.out MG.out hne a x y s p pc
      exact bodyPost_ret (v := regsV a x y s p pc) (results_cell_row rfl _ _ w.heap.size _ _ _ _ rfl hend.1 Tryz.underlying25 rfl regs_size) rfl ⟨a, x, y, s, p, pc, rfl, hend.2.1, hend.2.2⟩
end Go.Proofs.YthklebkpoccblaaGreat
namespace Go.Proofs.YthklebkpoccblaaGreat
open Go.RowKit
def OddPost (g : Nat) (A : Option Addr) (n c : Nat) (w : World) (e : Ending) (w' : World) : Prop :=
 ∃ k : CorI, e = .returned (.agg (corC k)) ∧ Cur w' g A n c ∧ w.grownBy w' (some g)
structure OD (B g n c : Nat) (A : Option Addr) (w : World) (C : Nat) (W : World) : Prop where
 h : Drawn B g n c A W
 gr : w.grownBy W (some g)
 r2 : W.heap[w.heap.size]? = some (.cells #[.int .i64 0, .int .i64 0, .int .i64 0, .int .i64 0, .int .i64 0, .int .i64 0, .int .i64 0, .int .i64 0, .int .i64 0, .int .i64 0, .int .i64 0, .int .i64 0, .bool false, .int .i64 0, .bool false] 27 (0, 0))
 cs : CorSome C W
 g0 : g < w.heap.size
 bw : B ≤ w.heap.size
 c0 : w.heap.size < C
 z0 : C < W.heap.size
theorem OD.below {B g n c C : Nat} {A : Option Addr} {w W W' : World} (m : OD B g n c A w C W) (hb : Below W.heap.size W W') : OD B g n c A w C W' :=
 ⟨m.h.below hb, grown_below m.gr hb, blk_below m.r2 hb, m.cs.below hb, m.g0, m.bw, m.c0, Nat.lt_of_lt_of_le m.z0 hb.size⟩
theorem OD.grown {B g n c C : Nat} {A : Option Addr} {w W W' : World} (m : OD B g n c A w C W) (hc : Cur W' g A n c) (hg : W.grownBy W' (some g)) : OD B g n c A w C W' := by
 have e1 := m.g0; have e2 := m.bw; have e3 := m.c0
 exact ⟨m.h.next hc hg, grown_trans m.gr hg, blk_grown m.r2 hg (by omega), m.cs.elim fun kk hk => CorSome.of (blk_grown hk hg (by omega)), e1, e2, e3, Nat.lt_of_lt_of_le m.z0 hg.size⟩
theorem OD.core {B g n c C : Nat} {A : Option Addr} {w W : World} (m : OD B g n c A w C W) (k : CorI) : OD B g n c A w C (W.setRow C (corC k)) := by
 have e1 := m.g0; have e2 := m.bw; have e3 := m.c0
 exact ⟨drawn_row m.h (by omega) (by omega), grown_row m.gr (by omega), row_row m.r2 (by omega), m.cs.row, e1, e2, e3, by rw [setRow_size]; exact m.z0⟩
theorem odd_post {B g n c C : Nat} {A : Option Addr} {w W : World} (m : OD B g n c A w C W) (k : CorI) : OddPost g A n c w (.returned (.agg (corC k))) (W.setRow w.heap.size (corC k)) := by
 have e1 := m.g0
 have he := row_end m.r2 m.h.cur m.gr (by omega) (corC k)
 exact ⟨k, rfl, he.2.1, he.2.2⟩
theorem l03Odd_r {B g n c : Nat} {A : Option Addr} {w : World} (h : Drawn B g n c A w) : Calls Tryz.prog 56 #[.pointer (some ⟨g, 0, none⟩)] w fun e w' => ∃ r : RegI, e = .returned (.agg (regC r)) ∧ Cur w' g A n c ∧ w.grownBy w' (some g) :=
 (l03Odd_any h).mono fun _ _ ⟨a, x, y, s, p, pc, he, hc, hg⟩ => ⟨⟨a, x, y, s, p, pc⟩, he, hc, hg⟩
set_option maxRecDepth 100000 in
set_option maxHeartbeats 20000000 in
theorem l10Odd_any {B g n c : Nat} {A : Option Addr} {w : World} (h : Drawn B g n c A w) :
  Calls Tryz.prog 28 #[.pointer (some ⟨g, 0, none⟩)] w (OddPost g A n c w) := by
 have hBw := h.hB
 have hgl : g < w.heap.size := h.cur.lt
 have hb0 := below_alloc (Below.refl w.heap.size w) (.cells #[.int .i64 0, .int .i64 0, .int .i64 0, .int .i64 0, .int .i64 0, .int .i64 0, .int .i64 0, .int .i64 0, .int .i64 0, .int .i64 0, .int .i64 0, .int .i64 0, .bool false, .int .i64 0, .bool false] 27)
 have H0 := Lib.hid (h.below hb0)
 have A0 := Lib.hid (blk_new w (.cells #[.int .i64 0, .int .i64 0, .int .i64 0, .int .i64 0, .int .i64 0, .int .i64 0, .int .i64 0, .int .i64 0, .int .i64 0, .int .i64 0, .int .i64 0, .int .i64 0, .bool false, .int .i64 0, .bool false] 27))
 have G0 := Lib.hid (grown_of_below (g := g) hb0)
 have hy := Lib.hid (l10Make_any H0.out)
 clear h hb0
 go_enter Tryz.func28, Tryz.ntmps28
 go_wp2_with (first | (go_at_call 54; refine (hy.out).mono ?_; rintro e w1 ⟨k, r, o, rfl, _, _, hc, hg⟩; refine Hid.out ?_))
 have e1 := hg.size
 simp only [alloc_size] at e1
 have H1 := Lib.hid (H0.out.next hc hg)
 have G1 := Lib.hid (grown_trans G0.out hg)
 have A0 := Lib.hid (blk_grown A0.out hg (by omega))
 clear hc hg hy H0 G0
 refine Lib.hid ?_
 go_wp2_with (first | (refine store_row (by rfl) 27 _ _ (by rfl) w1.heap.size (corC k) (by rfl) (by rfl) 15 cor_size (blk_old (blk_new w1 _)) rfl rfl (by rfl) ?_) | (refine store_row (by rfl) 80 _ _ (by rfl) (w1.heap.size + 1) #[.string r, .string o] (by rfl) (by rfl) 2 (by kernel_rfl) (row_row (blk_new2 w1 _ _) (by omega)) rfl rfl (by rfl) ?_; refine Hid.out ?_))
 have hbV : Below w1.heap.size w1 (World.setRow (World.setRow (World.alloc (World.alloc w1 (.cells #[.int .i64 0, .int .i64 0, .int .i64 0, .int .i64 0, .int .i64 0, .int .i64 0, .int .i64 0, .int .i64 0, .int .i64 0, .int .i64 0, .int .i64 0, .int .i64 0, .bool false, .int .i64 0, .bool false] 27)) (.cells #[.string ⟨#[]⟩, .string ⟨#[]⟩] 80)) w1.heap.size (corC k)) (w1.heap.size + 1) #[.string r, .string o]) := below_row (below_row (below_alloc (below_alloc (Below.refl _ _) _) _) (Nat.le_refl _)) (by omega)
 have M := Lib.hid (show OD B g n c A w w1.heap.size (World.setRow (World.setRow (World.alloc (World.alloc w1 (.cells #[.int .i64 0, .int .i64 0, .int .i64 0, .int .i64 0, .int .i64 0, .int .i64 0, .int .i64 0, .int .i64 0, .int .i64 0, .int .i64 0, .int .i64 0, .int .i64 0, .bool false, .int .i64 0, .bool false] 27)) (.cells #[.string ⟨#[]⟩, .string ⟨#[]⟩] 80)) w1.heap.size (corC k)) (w1.heap.size + 1) #[.string r, .string o]) from ⟨H1.out.below hbV, grown_below G1.out hbV, blk_below A0.out hbV, CorSome.of (row_row (setRow_heap _ _ _ _ _ _ (blk_old (blk_new w1 _))) (by omega)), hgl, hBw, by omega, by simp only [setRow_size, alloc_size]; omega⟩)
 clear hbV H1 G1 A0
 generalize (World.setRow (World.setRow (World.alloc (World.alloc w1 (.cells #[.int .i64 0, .int .i64 0, .int .i64 0, .int .i64 0, .int .i64 0, .int .i64 0, .int .i64 0, .int .i64 0, .int .i64 0, .int .i64 0, .int .i64 0, .int .i64 0, .bool false, .int .i64 0, .bool false] 27)) (.cells #[.string ⟨#[]⟩, .string ⟨#[]⟩] 80)) w1.heap.size (corC k)) (w1.heap.size + 1) #[.string r, .string o]) = w2 at M ⊢
 have hlt : w.heap.size < w1.heap.size := by omega
 generalize w1.heap.size = C at M hlt ⊢
 have hy := Lib.hid (l01Below_any M.out.h 16 (by omega) (by omega))
 refine Lib.hid ?_
 go_wp2_with (first | (go_at_call 55; refine (hy.out).mono ?_; rintro e w3 ⟨z, rfl, z0, z1, hc, hg⟩; refine Hid.out ?_))
 have M := Lib.hid (M.out.grown hc hg)
 clear hc hg hy
 have ne : w.heap.size ≠ C := by omega
 by_cases y0 : z = 0
 ·subst y0
  have hy := Lib.hid (l03Odd_r M.out.h)
  refine Lib.hid ?_
  go_wp2_with (first | (go_at_call 56; refine (hy.out).mono ?_; rintro e w4 ⟨r5, rfl, hc, hg⟩; refine Hid.out ?_))
  have M := Lib.hid (M.out.grown hc hg)
  clear hc hg hy
  refine Lib.hid ?_
  go_wp2_with (first | (refine store_rsome (by rfl) (by rfl) _ _ (by rfl) _ (by rfl) r5 (by rfl) M.out.cs ?_; intro k3) | (refine load_some (by rfl) _ (by rfl) _ (by rfl) (by first | exact M.out.cs | exact CorSome.row M.out.cs) ?_; intro k9 hk9) | (refine store_row (by rfl) 27 _ _ (by rfl) _ _ (by rfl) (by rfl) 15 cor_size (by first | exact M.out.r2 | exact row_row M.out.r2 ne) rfl rfl (by rfl) ?_))
  exact bodyPost_ret (results_cell_row rfl _ _ w.heap.size _ _ _ _ rfl (setRow_heap _ _ _ _ _ _ (by first | exact M.out.r2 | exact row_row M.out.r2 ne)) Tryz.underlying27 rfl cor_size) rfl (by first | exact odd_post M.out _ | exact odd_post (M.out.core _) _)
 by_cases y1 : z = 1
 ·subst y1
  have hP := Lib.hid (pickInt_new M.out.h [.int .i64 (-1), .int .i64 7, .int .i64 18, .int .i64 23] (k := 4) rfl (by omega) (by omega) (by repeat (first | exact allI_nil | refine allI_cons ⟨by omega, by omega⟩ ?_)))
  refine Lib.hid ?_
  go_wp2_with (first | (go_at_call 57; refine (hP.out).mono ?_; rintro e w4 ⟨v9, rfl, _, _, hc, hg⟩; refine Hid.out ?_))
  have M := Lib.hid (M.out.grown hc hg)
  clear hc hg hP
  refine Lib.hid ?_
  go_wp2_with (first | (refine sti_t (by rfl) (by rfl) _ _ (by rfl) _ (by rfl) _ (by rfl) M.out.cs ?_; intro k3) | (refine load_some (by rfl) _ (by rfl) _ (by rfl) (by first | exact M.out.cs | exact CorSome.row M.out.cs) ?_; intro k9 hk9) | (refine store_row (by rfl) 27 _ _ (by rfl) _ _ (by rfl) (by rfl) 15 cor_size (by first | exact M.out.r2 | exact row_row M.out.r2 ne) rfl rfl (by rfl) ?_))
  exact bodyPost_ret (results_cell_row rfl _ _ w.heap.size _ _ _ _ rfl (setRow_heap _ _ _ _ _ _ (by first | exact M.out.r2 | exact row_row M.out.r2 ne)) Tryz.underlying27 rfl cor_size) rfl (by first | exact odd_post M.out _ | exact odd_post (M.out.core _) _)
 by_cases y2 : z = 2
 ·subst y2
  have hP := Lib.hid (pickInt_new M.out.h [.int .i64 (-1), .int .i64 4, .int .i64 1, .int .i64 2, .int .i64 3] (k := 5) rfl (by omega) (by omega) (by repeat (first | exact allI_nil | refine allI_cons ⟨by omega, by omega⟩ ?_)))
  refine Lib.hid ?_
  go_wp2_with (first | (go_at_call 57; refine (hP.out).mono ?_; rintro e w4 ⟨v9, rfl, _, _, hc, hg⟩; refine Hid.out ?_))
  have M := Lib.hid (M.out.grown hc hg)
  clear hc hg hP
  refine Lib.hid ?_
  go_wp2_with (first | (refine sti_nx (by rfl) (by rfl) _ _ (by rfl) _ (by rfl) _ (by rfl) M.out.cs ?_; intro k3) | (refine load_some (by rfl) _ (by rfl) _ (by rfl) (by first | exact M.out.cs | exact CorSome.row M.out.cs) ?_; intro k9 hk9) | (refine store_row (by rfl) 27 _ _ (by rfl) _ _ (by rfl) (by rfl) 15 cor_size (by first | exact M.out.r2 | exact row_row M.out.r2 ne) rfl rfl (by rfl) ?_))
  exact bodyPost_ret (results_cell_row rfl _ _ w.heap.size _ _ _ _ rfl (setRow_heap _ _ _ _ _ _ (by first | exact M.out.r2 | exact row_row M.out.r2 ne)) Tryz.underlying27 rfl cor_size) rfl (by first | exact odd_post M.out _ | exact odd_post (M.out.core _) _)
 by_cases y3 : z = 3
 ·subst y3
  have hP := Lib.hid (pickInt_new M.out.h [.int .i64 (-1), .int .i64 256] (k := 2) rfl (by omega) (by omega) (by repeat (first | exact allI_nil | refine allI_cons ⟨by omega, by omega⟩ ?_)))
  refine Lib.hid ?_
  go_wp2_with (first | (go_at_call 57; refine (hP.out).mono ?_; rintro e w4 ⟨v9, rfl, _, _, hc, hg⟩; refine Hid.out ?_))
  have M := Lib.hid (M.out.grown hc hg)
  clear hc hg hP
  refine Lib.hid ?_
  go_wp2_with (first | (refine sti_lo (by rfl) (by rfl) _ _ (by rfl) _ (by rfl) _ (by rfl) M.out.cs ?_; intro k3) | (refine load_some (by rfl) _ (by rfl) _ (by rfl) (by first | exact M.out.cs | exact CorSome.row M.out.cs) ?_; intro k9 hk9) | (refine store_row (by rfl) 27 _ _ (by rfl) _ _ (by rfl) (by rfl) 15 cor_size (by first | exact M.out.r2 | exact row_row M.out.r2 ne) rfl rfl (by rfl) ?_))
  exact bodyPost_ret (results_cell_row rfl _ _ w.heap.size _ _ _ _ rfl (setRow_heap _ _ _ _ _ _ (by first | exact M.out.r2 | exact row_row M.out.r2 ne)) Tryz.underlying27 rfl cor_size) rfl (by first | exact odd_post M.out _ | exact odd_post (M.out.core _) _)
 by_cases y4 : z = 4
 ·subst y4
  refine Lib.hid ?_
  go_wp2_with (first | (refine sti_jm (by rfl) (by rfl) _ _ (by rfl) _ (by rfl) _ (by rfl) M.out.cs ?_; intro k3) | (refine load_some (by rfl) _ (by rfl) _ (by rfl) (by first | exact M.out.cs | exact CorSome.row M.out.cs) ?_; intro k9 hk9) | (refine store_row (by rfl) 27 _ _ (by rfl) _ _ (by rfl) (by rfl) 15 cor_size (by first | exact M.out.r2 | exact row_row M.out.r2 ne) rfl rfl (by rfl) ?_))
  exact bodyPost_ret (results_cell_row rfl _ _ w.heap.size _ _ _ _ rfl (setRow_heap _ _ _ _ _ _ (by first | exact M.out.r2 | exact row_row M.out.r2 ne)) Tryz.underlying27 rfl cor_size) rfl (by first | exact odd_post M.out _ | exact odd_post (M.out.core _) _)
 by_cases y5 : z = 5
 ·subst y5
  have hP := Lib.hid (pickInt_new M.out.h [.int .i64 (-1), .int .i64 256] (k := 2) rfl (by omega) (by omega) (by repeat (first | exact allI_nil | refine allI_cons ⟨by omega, by omega⟩ ?_)))
  refine Lib.hid ?_
  go_wp2_with (first | (go_at_call 57; refine (hP.out).mono ?_; rintro e w4 ⟨v9, rfl, _, _, hc, hg⟩; refine Hid.out ?_))
  have M := Lib.hid (M.out.grown hc hg)
  clear hc hg hP
  refine Lib.hid ?_
  go_wp2_with (first | (refine sti_cd (by rfl) (by rfl) _ _ (by rfl) _ (by rfl) _ (by rfl) M.out.cs ?_; intro k3) | (refine load_some (by rfl) _ (by rfl) _ (by rfl) (by first | exact M.out.cs | exact CorSome.row M.out.cs) ?_; intro k9 hk9) | (refine store_row (by rfl) 27 _ _ (by rfl) _ _ (by rfl) (by rfl) 15 cor_size (by first | exact M.out.r2 | exact row_row M.out.r2 ne) rfl rfl (by rfl) ?_))
  exact bodyPost_ret (results_cell_row rfl _ _ w.heap.size _ _ _ _ rfl (setRow_heap _ _ _ _ _ _ (by first | exact M.out.r2 | exact row_row M.out.r2 ne)) Tryz.underlying27 rfl cor_size) rfl (by first | exact odd_post M.out _ | exact odd_post (M.out.core _) _)
 refine Lib.hid ?_
 go_wp2_with (first | (refine load_some (by rfl) _ (by rfl) _ (by rfl) (by first | exact M.out.cs | exact CorSome.row M.out.cs) ?_; intro k9 hk9) | (refine store_row (by rfl) 27 _ _ (by rfl) _ _ (by rfl) (by rfl) 15 cor_size (by first | exact M.out.r2 | exact row_row M.out.r2 ne) rfl rfl (by rfl) ?_))
 exact bodyPost_ret (results_cell_row rfl _ _ w.heap.size _ _ _ _ rfl (setRow_heap _ _ _ _ _ _ (by first | exact M.out.r2 | exact row_row M.out.r2 ne)) Tryz.underlying27 rfl cor_size) rfl (by first | exact odd_post M.out _ | exact odd_post (M.out.core _) _)
end Go.Proofs.YthklebkpoccblaaGreat
