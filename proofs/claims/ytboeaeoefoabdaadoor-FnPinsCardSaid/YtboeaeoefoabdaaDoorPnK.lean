/-
  The draws of pins and of their texts (chapter 12).
  Conditions: the draw has at most 1048576 bytes.
-/
import Derived.Test.YtboeaeoefoabdaaDoorPnF
import Derived.Test.YtboeaeoefoabdaaDoorDsA
import Derived.Test.YtboeaeoefoabdaaDoorDrC
import Derived.Test.YtboeaeoefoabdaaDoorRow
import Derived.Test.YtboeaeoefoabdaaDoorKee
namespace Go.Proofs.YtboeaeoefoabdaaDoor
open Go.RowKit
def PinsPost (g : Nat) (A : Option Addr) (n c : Nat) (w : World) (e : Ending) (w' : World) : Prop :=
  ∃ (a b d r : Bool) (p : Int), e = .returned (.agg #[.bool a, .bool b, .bool d, .bool r, .int .i64 p]) ∧ Cur w' g A n c ∧ w.grownBy w' (some g)
def zero5 : Obj := .cells #[.bool false, .bool false, .bool false, .bool false, .int .i64 0] 25
set_option maxRecDepth 100000 in
set_option maxHeartbeats 4000000 in
theorem l11Pins_any {B g n c : Nat} {A : Option Addr} {w : World} (h : Drawn B g n c A w) :
    Calls Tryd.prog 14 #[.pointer (some ⟨g, 0, none⟩)] w (PinsPost g A n c w) := by
  have hi := Lib.hid pins_size
  have hb0 : Below w.heap.size w (w.alloc zero5) := (Below.refl _ _).alloc (Nat.le_refl _) _
  have H := Lib.hid (h.below hb0)
  have K := Lib.hid (blk_new w zero5)
  have G := Lib.hid (grown_of_below (g := g) hb0)
  have hne : w.heap.size ≠ g := by have := h.cur.lt; omega
  clear h hb0
  have hy := l01Once_any H.out 5 (by omega) (by omega)
  unfold zero5 at hy
  go_enter Tryd.func14, Tryd.ntmps14
  go_wp2_with (go_at_call 15; refine hy.mono ?_; rintro e w1 ⟨a, rfl, hc, hg⟩; refine Hid.out ?_)
  have H := Lib.hid (H.out.next hc hg)
  have K := Lib.hid (blk_grown K.out hg hne)
  have G := Lib.hid (grown_trans G.out hg)
  clear hc hg hy
  have hy := l01Once_any H.out 5 (by omega) (by omega)
  refine Lib.hid ?_
  go_wp2_with (go_at_call 15; refine hy.mono ?_; rintro e w2 ⟨b, rfl, hc, hg⟩; refine Hid.out ?_)
  have H := Lib.hid (H.out.next hc hg)
  have K := Lib.hid (blk_grown K.out hg hne)
  have G := Lib.hid (grown_trans G.out hg)
  clear hc hg hy
  have hy := l01Once_any H.out 3 (by omega) (by omega)
  refine Lib.hid ?_
  go_wp2_with (go_at_call 15; refine hy.mono ?_; rintro e w3 ⟨d, rfl, hc, hg⟩; refine Hid.out ?_)
  have H := Lib.hid (H.out.next hc hg)
  have K := Lib.hid (blk_grown K.out hg hne)
  have G := Lib.hid (grown_trans G.out hg)
  clear hc hg hy
  have hy := l01Once_any H.out 40 (by omega) (by omega)
  refine Lib.hid ?_
  go_wp2_with (go_at_call 15; refine hy.mono ?_; rintro e w4 ⟨r, rfl, hc, hg⟩; refine Hid.out ?_)
  have H := Lib.hid (H.out.next hc hg)
  have K := Lib.hid (blk_grown K.out hg hne)
  have G := Lib.hid (grown_trans G.out hg)
  clear hc hg hy
  have hy := l02Byte_any H.out
  refine Lib.hid ?_
  go_wp2_with (go_at_call 29; refine hy.mono ?_; rintro e w5 ⟨p, rfl, p0, p1, hc, hg⟩; refine Hid.out ?_)
  have H := Lib.hid (H.out.next hc hg)
  have K := Lib.hid (blk_grown K.out hg hne)
  have G := Lib.hid (grown_trans G.out hg)
  clear hc hg hy
  clear p0 p1
  have kk := K.out
  unfold zero5 at kk
  have K1 := Lib.hid kk
  clear kk K
  refine Lib.hid ?_
  go_wp2_with (refine store_row rfl 25 (.tmp 2) _ rfl w.heap.size _ rfl rfl 5 hi.out K1.out rfl rfl (by rfl) ?_)
  (try simp only [Exit.inBlock, Exit.then])
  have hend := row_end K1.out H.out.cur G.out hne #[.bool a, .bool b, .bool d, .bool r, .int .i64 p]
  exact row_post rfl rfl Tryd.underlying25 rfl pins_size rfl rfl K1.out ⟨a, b, d, r, p, rfl, hend.2.1, hend.2.2⟩
def DrawPins (w : World) (e : Ending) (w' : World) : Prop := ∃ (a b d r : Bool) (p : Int), e = .returned (.agg #[.bool a, .bool b, .bool d, .bool r, .int .i64 p]) ∧ Below w.heap.size w w'
set_option maxRecDepth 100000 in
set_option maxHeartbeats 4000000 in
theorem drawPins_any (B n c : Nat) (A : Option Addr) (w : World) (hB : B ≤ w.heap.size) (hcode : Code w B A n) :
    Calls Tryd.prog 6 #[.slice A n c] w (DrawPins w) := by
  have hi := Lib.hid pins_size
  have hb0 : Below w.heap.size w (w.alloc zero5) := (Below.refl _ _).alloc (Nat.le_refl _) _
  have hcode0 := hcode.below hB hb0
  have hN := l01New_any B n c A (w.alloc zero5) hcode0
  have HD := fun (w1 : World) hc hb => new_drawn (c := c) (w1 := w1) (Nat.le_trans hB hb0.size) hcode0 hc hb
  have K0 := Lib.hid (blk_new w zero5)
  have hg0 := grown_of_below (g := w.heap.size + 1) hb0
  have hs1 : (w.alloc zero5).heap.size = w.heap.size + 1 := by simp
  rw [hs1] at HD
  unfold NewPost at hN
  rw [hs1] at hN
  have hs0 := Lib.hid hs1
  unfold zero5 at hN HD
  have G0 := Lib.hid hg0
  clear hcode hcode0 hb0 hg0 hs1
  unfold DrawPins
  go_enter Tryd.func6, Tryd.ntmps6
  go_wp2_with (go_at_call 13; refine hN.mono ?_; rintro e w1 ⟨rfl, hc, hb⟩; refine Hid.out ?_)
  have hb1 : Below (w.alloc zero5).heap.size (w.alloc zero5) w1 := by rw [hs0.out]; exact hb
  have hD := HD w1 hc hb
  have HD1 := Lib.hid hD
  have hy := l11Pins_any hD
  have K1 := Lib.hid (blk_below K0.out hb1)
  have G1 := Lib.hid (grown_below G0.out hb1)
  have hz : w.heap.size < w1.heap.size := (Array.getElem?_eq_some_iff.1 K1.out).1
  unfold PinsPost at hy
  clear hN HD hc hb K0 G0 hb1 hs0 hD
  refine Lib.hid ?_
  go_wp2_with (go_at_call 14; refine hy.mono ?_; rintro e w2 ⟨a, b, d, r, p, rfl, hc, hg⟩; refine Hid.out ?_)
  have D2 := Lib.hid (HD1.out.next hc hg)
  have K2 := Lib.hid (blk_grown K1.out hg (by omega))
  have G2 := Lib.hid (grown_trans G1.out hg)
  clear K1 G1 hg hy HD1
  have hbP : Below w2.heap.size w2 (w2.alloc (.cells #[.bool a, .bool b, .bool d, .bool r, .int .i64 p] 25 )) := below_alloc (Below.refl _ _) _
  have D3 := Lib.hid (D2.out.below hbP)
  have KP := Lib.hid (blk_new w2 (.cells #[.bool a, .bool b, .bool d, .bool r, .int .i64 p] 25 ))
  have K3 := Lib.hid (blk_old (o := (.cells #[.bool a, .bool b, .bool d, .bool r, .int .i64 p] 25 )) K2.out)
  have G3 := Lib.hid (grown_below G2.out hbP)
  have hV : w.heap.size < w2.heap.size := (Array.getElem?_eq_some_iff.1 K2.out).1
  have hVg : w2.heap.size ≠ w.heap.size + 1 := by have := D2.out.cur.lt; omega
  have hy := l01Once_any D3.out 6 (by omega) (by omega)
  clear hbP D2 K2 G2
  refine Lib.hid ?_
  go_wp2_with (go_at_call 15; refine hy.mono ?_; rintro e w3 ⟨o, rfl, hc3, hg3⟩; refine Hid.out ?_)
  have D4 := Lib.hid (D3.out.next hc3 hg3)
  have KP4 := Lib.hid (blk_grown KP.out hg3 hVg)
  have K4 := Lib.hid (blk_grown K3.out hg3 (by omega))
  have G4 := Lib.hid (grown_trans G3.out hg3)
  clear hc3 hg3 hy D3 KP K3 G3
  cases o
  · have B4 := Lib.hid (below_grown' G4.out (Nat.le_refl _) (by omega))
    clear G4 D4
    refine Lib.hid ?_
    go_wp2_with (first
      | (with_reducible refine load_row rfl 25 (.tmp 4) rfl w2.heap.size rfl 5 _ Tryd.underlying25 rfl pins_size KP4.out rfl ?_)
      | (refine store_row rfl 25 (.tmp 2) (.tmp 15) rfl w.heap.size _ rfl rfl 5 pins_size K4.out rfl rfl (by rfl) ?_))
    (try simp only [Exit.inBlock, Exit.then])
    exact row_post rfl rfl Tryd.underlying25 rfl pins_size rfl rfl K4.out ⟨a, b, d, r, p, rfl, below_row B4.out (Nat.le_refl _)⟩
  · have hy := pickInt_new D4.out [.int .i64 (-1), .int .i64 256, .int .i64 0, .int .i64 511] (k := 4) rfl (by omega) (by omega)
      (by repeat (first | exact allI_nil | refine allI_cons ⟨by omega, by omega⟩ ?_))
    clear D4
    refine Lib.hid ?_
    go_wp2_with (go_at_call 16; refine hy.mono ?_; rintro e w4 ⟨x, rfl, x0, x1, hc4, hg4⟩; refine Hid.out ?_)
    have KP5 := Lib.hid (blk_grown KP4.out hg4 hVg)
    have K5 := Lib.hid (blk_grown K4.out hg4 (by omega))
    have B5 := Lib.hid (below_grown' (grown_trans G4.out hg4) (Nat.le_refl _) (by omega))
    have q4 := cell_of_blk (i := 4) (v := .int .i64 p) KP5.out rfl
    have f4 : w4.frozen? ⟨w2.heap.size, 4, none⟩ = false := free_of_blk KP5.out
    clear hc4 hg4 hy KP4 K4 G4 x0 x1
    refine Lib.hid ?_
    go_upto_region 5 with fail
    have KP6 : Hid ((w4.setCell ⟨w2.heap.size, 4, none⟩ (.int .i64 x)).heap[w2.heap.size]? = some (.cells #[.bool a, .bool b, .bool d, .bool r, .int .i64 x] 25 (0, 0))) := Lib.hid ((row_set (i := 4) (v := .int .i64 x) KP5.out).trans (by simp))
    have K6 := Lib.hid (row_far (i := 4) (v := .int .i64 x) K5.out (show w.heap.size ≠ w2.heap.size by omega))
    have B6 := Lib.hid (below_put (i := 4) (v := .int .i64 x) B5.out (show w.heap.size ≤ w2.heap.size by omega))
    clear q4 f4 KP5 K5 B5
    generalize w4.setCell ⟨w2.heap.size, 4, none⟩ (.int .i64 x) = w5 at *
    go_wp2_with (first
      | (with_reducible refine load_row rfl 25 (.tmp 4) rfl w2.heap.size rfl 5 _ Tryd.underlying25 rfl pins_size KP6.out rfl ?_)
      | (refine store_row rfl 25 (.tmp 2) (.tmp 15) rfl w.heap.size _ rfl rfl 5 pins_size K6.out rfl rfl (by rfl) ?_))
    (try simp only [Exit.inBlock, Exit.then])
    exact row_post rfl rfl Tryd.underlying25 rfl pins_size rfl rfl K6.out ⟨a, b, d, r, x, rfl, below_row B6.out (Nat.le_refl _)⟩
def DrawText2 (w : World) (e : Ending) (w' : World) : Prop := ∃ s : ByteArray, e = .returned (.string s) ∧ s.size ≤ 1100 ∧ Below w.heap.size w w'
set_option maxRecDepth 100000 in
set_option maxHeartbeats 4000000 in
theorem drawReadPins_any (B n c : Nat) (A : Option Addr) (w : World) (hB : B ≤ w.heap.size) (hcode : Code w B A n) :
    Calls Tryd.prog 8 #[.slice A n c] w (DrawText2 w) := by
  have hN := l01New_any B n c A w hcode
  have HD := fun (w1 : World) hc hb => new_drawn (c := c) (w1 := w1) hB hcode hc hb
  clear hcode
  unfold NewPost at hN
  unfold DrawText2
  go_enter Tryd.func8, Tryd.ntmps8
  go_wp2_with (go_at_call 13; refine hN.mono ?_; rintro e w1 ⟨rfl, hc, hb⟩; refine Hid.out ?_)
  have hD := Lib.hid (HD w1 hc hb)
  have hb := Lib.hid hb
  have hy := l01Once_any hD.out 5 (by omega) (by omega)
  clear hN HD hc
  refine Lib.hid ?_
  go_wp2_with (go_at_call 15; refine hy.mono ?_; rintro e w2 ⟨o, rfl, hc2, hg2⟩; refine Hid.out ?_)
  have D2 := Lib.hid (hD.out.next hc2 hg2)
  have G2 := Lib.hid hg2
  clear hc2 hg2 hy hD
  cases o
  · have hy := l11Pins_any D2.out
    refine Lib.hid ?_
    go_wp2_with (go_at_call 14; refine hy.mono ?_; rintro e w3 ⟨a, b, d, r, p, rfl, hc3, hg3⟩; refine Hid.out ?_)
    have D3 := Lib.hid (D2.out.next hc3 hg3)
    have G3 := Lib.hid (grown_trans G2.out hg3)
    have hs := fun w => spec_pinsText a b d r p w
    unfold pinsV at hs
    have hl := pinT_length a b d r p
    have hz : (⟨(pinT a b d r p).toArray⟩ : ByteArray).size ≤ 1000 := by rw [bsize]; omega
    generalize (⟨(pinT a b d r p).toArray⟩ : ByteArray) = T at *
    replace hs := Lib.hid hs
    clear hc3 hg3 hy hl D2 G2
    refine Lib.hid ?_
    go_wp2_with (go_at_call 11; (with_reducible refine (hs.out _).mono ?_); rintro e w4 ⟨rfl, hb4⟩; refine Hid.out ?_)
    have D4 := Lib.hid (D3.out.below hb4)
    have G4 := Lib.hid (grown_below G3.out hb4)
    have hy := l01Bent_any D4.out T hz
    clear hb4 D3 G3
    refine Lib.hid ?_
    go_wp2_with (go_at_call 21; refine hy.mono ?_; rintro e w5 ⟨s, rfl, hs5, hc5, hg5⟩)
    go_ret
    exact ⟨s, rfl, hs5, hb.out.grown (grown_trans G4.out hg5) hb.out.size (fun k hk => by cases hk; exact Nat.le_refl _)⟩
  · have hy := pick_new D2.out [.string ⟨#[]⟩, .string ⟨#[45]⟩, .string ⟨#[105, 110]⟩, .string ⟨#[110, 105]⟩, .string ⟨#[110, 32, 48, 48]⟩, .string ⟨#[110, 32, 48]⟩, .string ⟨#[45, 32, 70, 70]⟩, .string ⟨#[110, 110]⟩, .string ⟨#[120]⟩, .string ⟨#[110, 32, 32, 48, 49]⟩, .string ⟨#[45, 32, 102, 70]⟩, .string ⟨#[110, 45]⟩] (k := 12) rfl (by omega) (by omega)
      (by repeat (first | exact allS_nil | refine allS_cons (by decide) ?_))
    refine Lib.hid ?_
    go_wp2_with (go_at_call 20; refine hy.mono ?_; rintro e w3 ⟨s, rfl, hs3, hc3, hg3⟩)
    go_ret
    exact ⟨s, rfl, by omega, hb.out.grown (grown_trans G2.out hg3) hb.out.size (fun k hk => by cases hk; exact Nat.le_refl _)⟩
end Go.Proofs.YtboeaeoefoabdaaDoor
