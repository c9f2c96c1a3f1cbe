/-
  The walk of the law FnPins: it returns true, whatever is drawn (chapter 12).
  Conditions: two variables of Go's library hold what their own initialisers lay.
-/
import Derived.Test.YtboeaeoefoabdaaDoorPnK
import Derived.Test.YtboeaeoefoabdaaDoorPnG
namespace Go.Proofs.YtboeaeoefoabdaaDoor
open Go.RowKit Go.Deep Go.WideShapes Go.ChangeShapes
theorem pinT_mod (n i t r : Bool) (p : Int) : pinT n i t r (p % 256) = pinT n i t r p := by
  unfold pinT
  rw [hexl_byte, show p % 256 % 256 = p % 256 by omega]
theorem pin_uniq {n i t r : Bool} {p : Int} {n2 i2 t2 r2 b2 : Bool} {p2 : Int} (h : RpOk (pinT n i t r p) n2 i2 t2 r2 p2 b2) : n = n2 ∧ i = i2 ∧ t = t2 ∧ r = r2 ∧ p % 256 = p2 ∧ true = b2 :=
  rp_one (rp_spec_yes (by omega) (by omega) (pinT_mod n i t r p)) h
theorem big_nop (n c : Nat) (A : Option Addr) (h : n ≤ 1048576) (w : World) : Calls Tryd.prog 5 #[.slice A n c] w fun e w' => e = .returned (.bool false) ∧ w = w' := by
  have h2 : ¬ (1048576 : Int) < (n : Int) := by omega
  go_enter Tryd.func5, Tryd.ntmps5
  go_wp2
  go_ret
  exact ⟨rfl, rfl⟩
theorem kept3 {w0 w' : World} (h : Below w0.heap.size w0 w') {b c d : Nat} (hb : b < w0.heap.size) (hc : c < w0.heap.size) (hd : d < w0.heap.size) :
    (∀ i, w'.cell? ⟨b, i, none⟩ = w0.cell? ⟨b, i, none⟩) ∧ (∀ i, w'.cell? ⟨c, i, none⟩ = w0.cell? ⟨c, i, none⟩) ∧ (∀ i, w'.cell? ⟨d, i, none⟩ = w0.cell? ⟨d, i, none⟩) ∧ Hid (Below w0.heap.size w0 w') :=
  ⟨fun i => h.cell (p := ⟨b, i, none⟩) hb, fun i => h.cell (p := ⟨c, i, none⟩) hc, fun i => h.cell (p := ⟨d, i, none⟩) hd, h⟩
theorem kept3_next {w0 wp wq : World} {b c d : Nat} (hS : (∀ i, wp.cell? ⟨b, i, none⟩ = w0.cell? ⟨b, i, none⟩) ∧ (∀ i, wp.cell? ⟨c, i, none⟩ = w0.cell? ⟨c, i, none⟩) ∧ (∀ i, wp.cell? ⟨d, i, none⟩ = w0.cell? ⟨d, i, none⟩) ∧ Hid (Below w0.heap.size w0 wp)) (hq : Below wp.heap.size wp wq) (hb : b < w0.heap.size) (hc : c < w0.heap.size) (hd : d < w0.heap.size) :
    (∀ i, wq.cell? ⟨b, i, none⟩ = w0.cell? ⟨b, i, none⟩) ∧ (∀ i, wq.cell? ⟨c, i, none⟩ = w0.cell? ⟨c, i, none⟩) ∧ (∀ i, wq.cell? ⟨d, i, none⟩ = w0.cell? ⟨d, i, none⟩) ∧ Hid (Below w0.heap.size w0 wq) := kept3 (below_then hS.2.2.2.out hq) hb hc hd
set_option maxRecDepth 100000 in
set_option maxHeartbeats 4000000 in
theorem pins_law (A : Option Addr) (n c : Nat) (W : World) (hrow : RowB W A n) (m : Int) (hm : W.cell? ⟨0, 0, none⟩ = some (.int .i64 m)) (x : Value) (hx : W.cell? ⟨1, 0, none⟩ = some (.iface 82 x)) :
    Calls Tryd.prog 3 #[.slice A n c] W fun e w' => e = .returned (.bool true) ∧ Below W.heap.size W w' := by
  have hml := hrow.1
  unfold maxLen at hml
  by_cases hbig : 1048576 < n
  · clear hrow
    go_enter Tryd.func3, Tryd.ntmps3
    go_wp2_with (go_in)
    go_ret
    exact ⟨rfl, Below.refl _ _⟩
  have hcode := hrow.code (by omega)
  have HC := Lib.hid hcode
  have HBig := Lib.hid (big_nop n c A (by omega) W)
  have hD := drawPins_any W.heap.size n c A W (Nat.le_refl _) hcode
  unfold DrawPins at hD
  have hm := Lib.hid hm
  have hx := Lib.hid hx
  clear hrow hcode hml hbig
  go_enter Tryd.func3, Tryd.ntmps3
  go_wp2_with (first
    | (go_at_call 5; refine HBig.out.mono ?_; rintro e w1 ⟨rfl, rfl⟩)
    | (go_at_call 6; refine hD.mono ?_; rintro e w1 ⟨a, b, d, r, p, rfl, hb1⟩; refine Hid.out ?_))
  clear hD HBig
  have P1 := Lib.hid (blk_new w1 (.cells #[.bool a, .bool b, .bool d, .bool r, .int .i64 p] 25 ))
  have LE1 : W.heap.size ≤ w1.heap.size := hb1.size
  have B1 := Lib.hid (below_alloc hb1 (.cells #[.bool a, .bool b, .bool d, .bool r, .int .i64 p] 25 ))
  have hi1 := fun w => impl_pinsText a b d r p w
  have hs1 := fun w => spec_pinsText a b d r p w
  unfold pinsV at hi1 hs1
  have HU := Lib.hid (fun n2 i2 t2 r2 p2 b2 => @pin_uniq a b d r p n2 i2 t2 r2 b2 p2)
  have hl1 := pinT_length a b d r p
  generalize pinT a b d r p = l1 at *
  replace hi1 := Lib.hid hi1
  have HS := Lib.hid hs1
  clear hs1 hb1
  refine Lib.hid ?_
  go_upto_region 4 with fail
  generalize w1.alloc (.cells #[.bool a, .bool b, .bool d, .bool r, .int .i64 p] 25 ) = w1a at *
  go_wp2_with (first
    | (with_reducible refine load_row rfl 25 (.tmp 3) rfl w1.heap.size rfl 5 _ Tryd.underlying25 rfl pins_size P1.out rfl ?_)
    | (go_at_call 7; (with_reducible refine (hi1.out _).mono ?_); rintro e w2 ⟨rfl, hb2⟩; refine Hid.out ?_))
  have P2 := Lib.hid (blk_below P1.out hb2)
  have B2 := Lib.hid (below_then B1.out hb2)
  have hD := drawReadPins_any W.heap.size n c A w2 B2.out.size (HC.out.below (Nat.le_refl _) B2.out)
  unfold DrawText2 at hD
  clear hb2 P1 B1 hi1 HC
  refine Lib.hid ?_
  go_wp2_with (go_at_call 8; refine hD.mono ?_; rintro e w3 ⟨s, rfl, hsz, hb3⟩; refine Hid.out ?_)
  have P3 := Lib.hid (blk_below P2.out hb3)
  have B3 := Lib.hid (below_then B2.out hb3)
  have hI := impl_readPins s (by omega) w3 m ((B3.out.cell (p := ⟨_, 0, none⟩) (World.block_lt_of_cell? _ _ hm.out)).trans hm.out) x ((B3.out.cell (p := ⟨_, 0, none⟩) (World.block_lt_of_cell? _ _ hx.out)).trans hx.out)
  have hS := Lib.hid (fun w => spec_readPins s (by omega) w)
  unfold RpPost at hI
  clear hb3 hD P2 B2
  refine Lib.hid ?_
  go_wp2_with (go_at_call 9; refine hI.mono ?_; rintro e w4 ⟨n2, i2, t2, r2, p2, b2, rfl, hok, hb4⟩; refine Hid.out ?_)
  have hok := Lib.hid hok
  have P4 := Lib.hid (blk_old (o := (.cells #[.bool n2, .bool i2, .bool t2, .bool r2, .int .i64 p2] 25 )) (blk_below P3.out hb4))
  have Q4 := Lib.hid (blk_new w4 (.cells #[.bool n2, .bool i2, .bool t2, .bool r2, .int .i64 p2] 25 ))
  have B4 := Lib.hid (below_alloc (below_then B3.out hb4) (.cells #[.bool n2, .bool i2, .bool t2, .bool r2, .int .i64 p2] 25 ))
  clear hb4 hI P3 B3
  refine Lib.hid ?_
  go_upto_region 7 with fail
  generalize w4.alloc (.cells #[.bool n2, .bool i2, .bool t2, .bool r2, .int .i64 p2] 25 ) = w4a at *
  go_wp2_with (go_at_call 10; (with_reducible refine (hS.out _).mono ?_); rintro e w5 ⟨n3, i3, t3, r3, p3, b3, rfl, hok3, hb5⟩; refine Hid.out ?_)
  obtain ⟨rfl, rfl, rfl, rfl, rfl, rfl⟩ := rp_one hok.out hok3
  have P6 := Lib.hid (blk_old (o := (.cells #[.bool n2, .bool i2, .bool t2, .bool r2, .int .i64 p2] 25 )) (blk_below P4.out hb5))
  have Q6 := Lib.hid (blk_old (o := (.cells #[.bool n2, .bool i2, .bool t2, .bool r2, .int .i64 p2] 25 )) (blk_below Q4.out hb5))
  have R6 := Lib.hid (blk_new w5 (.cells #[.bool n2, .bool i2, .bool t2, .bool r2, .int .i64 p2] 25 ))
  have B6 := Lib.hid (below_alloc (below_then B4.out hb5) (.cells #[.bool n2, .bool i2, .bool t2, .bool r2, .int .i64 p2] 25 ))
  clear hb5 hS P4 Q4 B4 hok3 hsz
  refine Lib.hid ?_
  go_upto_region 8 with fail
  generalize w5.alloc (.cells #[.bool n2, .bool i2, .bool t2, .bool r2, .int .i64 p2] 25 ) = w6 at *
  have hiq := fun w => impl_pinsText n2 i2 t2 r2 p2 w
  unfold pinsV at hiq
  have hsd : s = ⟨s.data.toList.toArray⟩ := rfl
  generalize s.data.toList = l at *
  subst hsd
  replace HS := HS
  go_wp2_with (first
    | (with_reducible refine load_row rfl 25 (.tmp 3) rfl w1.heap.size rfl 5 _ Tryd.underlying25 rfl pins_size P6.out rfl ?_)
    | (go_at_call 11; (with_reducible refine (HS.out _).mono ?_); rintro e w7 ⟨rfl, hb7⟩; refine Hid.out ?_))
  have P7 := Lib.hid (blk_below P6.out hb7)
  have Q7 := Lib.hid (blk_below Q6.out hb7)
  have R7 := Lib.hid (blk_below R6.out hb7)
  have B7 := Lib.hid (below_then B6.out hb7)
  clear hb7 P6 Q6 R6 B6 HS
  rcases hok.out with ⟨rfl, _, _, hpt⟩ | ⟨rfl, rfl, rfl, rfl, rfl, rfl, _⟩
  · rw [hpt] at hiq
    have HQ := Lib.hid hiq
    clear hiq hpt hok
    have c4_0 := cell_of_blk (i := 0) (v := .bool n2) Q7.out rfl
    have c4_1 := cell_of_blk (i := 1) (v := .bool i2) Q7.out rfl
    have c4_2 := cell_of_blk (i := 2) (v := .bool t2) Q7.out rfl
    have c4_3 := cell_of_blk (i := 3) (v := .bool r2) Q7.out rfl
    have c4_4 := cell_of_blk (i := 4) (v := .int .i64 p2) Q7.out rfl
    have c5_0 := cell_of_blk (i := 0) (v := .bool n2) R7.out rfl
    have c5_1 := cell_of_blk (i := 1) (v := .bool i2) R7.out rfl
    have c5_2 := cell_of_blk (i := 2) (v := .bool t2) R7.out rfl
    have c5_3 := cell_of_blk (i := 3) (v := .bool r2) R7.out rfl
    have c5_4 := cell_of_blk (i := 4) (v := .int .i64 p2) R7.out rfl
    refine Lib.hid ?_
    go_wp2_with (first
      | (go_at_call 7; (with_reducible refine (HQ.out _).mono ?_); rintro e w8 ⟨rfl, hb8⟩; refine Hid.out ?_))
    have P8 := Lib.hid (blk_below P7.out hb8)
    have B8 := Lib.hid (below_then B7.out hb8)
    clear hb8 P7 Q7 R7 B7 HQ c4_0 c5_0 c4_1 c5_1 c4_2 c5_2 c4_3 c5_3 c4_4 c5_4
    have hm8 := Lib.hid ((B8.out.cell (p := ⟨_, 0, none⟩) (World.block_lt_of_cell? _ _ hm.out)).trans hm.out)
    have hx8 := Lib.hid ((B8.out.cell (p := ⟨_, 0, none⟩) (World.block_lt_of_cell? _ _ hx.out)).trans hx.out)
    have hI := impl_readPins ⟨l1.toArray⟩ (by rw [bsize]; omega) w8 m hm8.out x hx8.out
    rw [show (⟨l1.toArray⟩ : ByteArray).data.toList = l1 by simp] at hI
    unfold RpPost at hI
    clear hm8 hx8 hm hx hl1
    refine Lib.hid ?_
    go_wp2_with (go_at_call 9; refine hI.mono ?_; rintro e w9 ⟨n4, i4, t4, r4, p4, b4, rfl, hok4, hb9⟩; refine Hid.out ?_)
    obtain ⟨rfl, rfl, rfl, rfl, hp4, rfl⟩ := HU.out _ _ _ _ _ _ hok4
    have P9 := Lib.hid (blk_old (o := (.cells #[.bool a, .bool b, .bool d, .bool r, .int .i64 p4] 25 )) (blk_below P8.out hb9))
    have N9 := Lib.hid (blk_new w9 (.cells #[.bool a, .bool b, .bool d, .bool r, .int .i64 p4] 25 ))
    have B9 := Lib.hid (below_alloc (below_then B8.out hb9) (.cells #[.bool a, .bool b, .bool d, .bool r, .int .i64 p4] 25 ))
    have hq := i64_255 p
    rw [hp4] at hq
    have NE : Hid (w9.heap.size ≠ w1.heap.size) := Lib.hid (fun e => by
      have a1 := (Array.getElem?_eq_some_iff.1 P8.out).1
      have a2 := hb9.size
      omega)
    have LE := Lib.hid LE1
    clear hok4 hb9 hI P8 B8 HU hp4 LE1
    refine Lib.hid ?_
    go_upto_region 11 with fail
    generalize w9.alloc (.cells #[.bool a, .bool b, .bool d, .bool r, .int .i64 p4] 25 ) = w10 at *
    have q4 := cell_of_blk (i := 4) (v := .int .i64 p) P9.out rfl
    have f4 : w10.frozen? ⟨w1.heap.size, 4, none⟩ = false := free_of_blk P9.out
    go_upto_region 12 with fail
    have P10 : Hid ((w10.setCell ⟨w1.heap.size, 4, none⟩ (.int .i64 p4)).heap[w1.heap.size]? = some (.cells #[.bool a, .bool b, .bool d, .bool r, .int .i64 p4] 25 (0, 0))) := Lib.hid ((row_set (i := 4) (v := .int .i64 p4) P9.out).trans (by simp))
    have N10 := Lib.hid (row_far (i := 4) (v := .int .i64 p4) N9.out NE.out)
    have B10 := Lib.hid (below_put (i := 4) (v := .int .i64 p4) B9.out LE.out)
    clear q4 f4 hq P9 N9 B9 NE LE
    generalize w10.setCell ⟨w1.heap.size, 4, none⟩ (.int .i64 p4) = w11 at *
    have c9_0 := cell_of_blk (i := 0) (v := .bool a) N10.out rfl
    have c9_1 := cell_of_blk (i := 1) (v := .bool b) N10.out rfl
    have c9_2 := cell_of_blk (i := 2) (v := .bool d) N10.out rfl
    have c9_3 := cell_of_blk (i := 3) (v := .bool r) N10.out rfl
    have c9_4 := cell_of_blk (i := 4) (v := .int .i64 p4) N10.out rfl
    have c1_0 := cell_of_blk (i := 0) (v := .bool a) P10.out rfl
    have c1_1 := cell_of_blk (i := 1) (v := .bool b) P10.out rfl
    have c1_2 := cell_of_blk (i := 2) (v := .bool d) P10.out rfl
    have c1_3 := cell_of_blk (i := 3) (v := .bool r) P10.out rfl
    have c1_4 := cell_of_blk (i := 4) (v := .int .i64 p4) P10.out rfl
    go_wp2
    go_ret
    exact ⟨rfl, B10.out⟩
  · clear hiq hok
    have c4_0 := cell_of_blk (i := 0) (v := .bool false) Q7.out rfl
    have c4_1 := cell_of_blk (i := 1) (v := .bool false) Q7.out rfl
    have c4_2 := cell_of_blk (i := 2) (v := .bool false) Q7.out rfl
    have c4_3 := cell_of_blk (i := 3) (v := .bool false) Q7.out rfl
    have c4_4 := cell_of_blk (i := 4) (v := .int .i64 0) Q7.out rfl
    have c5_0 := cell_of_blk (i := 0) (v := .bool false) R7.out rfl
    have c5_1 := cell_of_blk (i := 1) (v := .bool false) R7.out rfl
    have c5_2 := cell_of_blk (i := 2) (v := .bool false) R7.out rfl
    have c5_3 := cell_of_blk (i := 3) (v := .bool false) R7.out rfl
    have c5_4 := cell_of_blk (i := 4) (v := .int .i64 0) R7.out rfl
    refine Lib.hid ?_
    go_upto_region 10 with fail
    have P8 := P7
    have B8 := B7
    clear P7 Q7 R7 B7 c4_0 c5_0 c4_1 c5_1 c4_2 c5_2 c4_3 c5_3 c4_4 c5_4
    refine Hid.out ?_
    generalize w7 = w8 at *
    have hm8 := Lib.hid ((B8.out.cell (p := ⟨_, 0, none⟩) (World.block_lt_of_cell? _ _ hm.out)).trans hm.out)
    have hx8 := Lib.hid ((B8.out.cell (p := ⟨_, 0, none⟩) (World.block_lt_of_cell? _ _ hx.out)).trans hx.out)
    have hI := impl_readPins ⟨l1.toArray⟩ (by rw [bsize]; omega) w8 m hm8.out x hx8.out
    rw [show (⟨l1.toArray⟩ : ByteArray).data.toList = l1 by simp] at hI
    unfold RpPost at hI
    clear hm8 hx8 hm hx hl1
    refine Lib.hid ?_
    go_wp2_with (go_at_call 9; refine hI.mono ?_; rintro e w9 ⟨n4, i4, t4, r4, p4, b4, rfl, hok4, hb9⟩; refine Hid.out ?_)
    obtain ⟨rfl, rfl, rfl, rfl, hp4, rfl⟩ := HU.out _ _ _ _ _ _ hok4
    have P9 := Lib.hid (blk_old (o := (.cells #[.bool a, .bool b, .bool d, .bool r, .int .i64 p4] 25 )) (blk_below P8.out hb9))
    have N9 := Lib.hid (blk_new w9 (.cells #[.bool a, .bool b, .bool d, .bool r, .int .i64 p4] 25 ))
    have B9 := Lib.hid (below_alloc (below_then B8.out hb9) (.cells #[.bool a, .bool b, .bool d, .bool r, .int .i64 p4] 25 ))
    have hq := i64_255 p
    rw [hp4] at hq
    have NE : Hid (w9.heap.size ≠ w1.heap.size) := Lib.hid (fun e => by
      have a1 := (Array.getElem?_eq_some_iff.1 P8.out).1
      have a2 := hb9.size
      omega)
    have LE := Lib.hid LE1
    clear hok4 hb9 hI P8 B8 HU hp4 LE1
    refine Lib.hid ?_
    go_upto_region 11 with fail
    generalize w9.alloc (.cells #[.bool a, .bool b, .bool d, .bool r, .int .i64 p4] 25 ) = w10 at *
    have q4 := cell_of_blk (i := 4) (v := .int .i64 p) P9.out rfl
    have f4 : w10.frozen? ⟨w1.heap.size, 4, none⟩ = false := free_of_blk P9.out
    go_upto_region 12 with fail
    have P10 : Hid ((w10.setCell ⟨w1.heap.size, 4, none⟩ (.int .i64 p4)).heap[w1.heap.size]? = some (.cells #[.bool a, .bool b, .bool d, .bool r, .int .i64 p4] 25 (0, 0))) := Lib.hid ((row_set (i := 4) (v := .int .i64 p4) P9.out).trans (by simp))
    have N10 := Lib.hid (row_far (i := 4) (v := .int .i64 p4) N9.out NE.out)
    have B10 := Lib.hid (below_put (i := 4) (v := .int .i64 p4) B9.out LE.out)
    clear q4 f4 hq P9 N9 B9 NE LE
    generalize w10.setCell ⟨w1.heap.size, 4, none⟩ (.int .i64 p4) = w11 at *
    have c9_0 := cell_of_blk (i := 0) (v := .bool a) N10.out rfl
    have c9_1 := cell_of_blk (i := 1) (v := .bool b) N10.out rfl
    have c9_2 := cell_of_blk (i := 2) (v := .bool d) N10.out rfl
    have c9_3 := cell_of_blk (i := 3) (v := .bool r) N10.out rfl
    have c9_4 := cell_of_blk (i := 4) (v := .int .i64 p4) N10.out rfl
    have c1_0 := cell_of_blk (i := 0) (v := .bool a) P10.out rfl
    have c1_1 := cell_of_blk (i := 1) (v := .bool b) P10.out rfl
    have c1_2 := cell_of_blk (i := 2) (v := .bool d) P10.out rfl
    have c1_3 := cell_of_blk (i := 3) (v := .bool r) P10.out rfl
    have c1_4 := cell_of_blk (i := 4) (v := .int .i64 p4) P10.out rfl
    go_wp2
    go_ret
    exact ⟨rfl, B10.out⟩
end Go.Proofs.YtboeaeoefoabdaaDoor
