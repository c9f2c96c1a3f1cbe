/-
  The walks of the five exact laws of chapter 6: the program's functions answer as the model's.
  Conditions: the numbers are those of their kind; each walk leaves old memory as it was.
-/
import Derived.Test.YthelaeejgppjhaaChI
namespace Go.Proofs.Ythelaeejgppjhaa
open Go.RowKit
theorem lchip_size : (Try.prog.info? 29).map (·.size) = some 11 := by kernel_rfl
set_option maxRecDepth 100000 in
set_option maxHeartbeats 1000000 in
theorem to_chip (c : ChipI) (w : World) : Calls Try.prog 17 #[chipV c] w fun e w' => e = .returned (chipV c) ∧ Below w.heap.size w w' := by
  obtain ⟨c1, l1, v1, ag, c2, o2, v2, pt, dr, fl, ms⟩ := c
  rw [chipV_mk]
  go_enter Try.func17, Try.ntmps17
  go_wp2_with fail
  exact bodyPost_ret (v := .agg #[.int .i64 c1, .int .i64 l1, .bool v1, .bool ag, .int .i64 c2, .int .i64 o2, .bool v2, .int .i64 pt, .int .i64 dr, .int .i64 fl, .int .i64 ms]) (by simp [results, Try.results17, go_sem]) rfl ⟨rfl, (((Below.refl _ _).alloc (Nat.le_refl _) _).alloc (by simp) _).alloc (by simp; omega) _⟩
set_option maxRecDepth 100000 in
set_option maxHeartbeats 1000000 in
theorem eq_chip (c : ChipI) (w : World) : Calls Try.prog 18 #[chipV c, chipV c] w fun e w' => e = .returned (.bool true) ∧ Below w.heap.size w w' := by
  obtain ⟨c1, l1, v1, ag, c2, o2, v2, pt, dr, fl, ms⟩ := c
  rw [chipV_mk]
  go_enter Try.func18, Try.ntmps18
  go_wp2
  go_ret
  exact ⟨rfl, below_alloc (below_alloc (Below.refl _ _) _) _⟩
set_option maxRecDepth 100000 in
set_option maxHeartbeats 4000000 in
theorem exact_chipOk (c : ChipI) (hf : c.fits) (W : World) :
    Calls Try.prog 4 #[chipV c] W fun e w' => e = .returned (.bool true) ∧ Below W.heap.size W w' := by
  have hl := Lib.hid lchip_size
  have hi := Lib.hid chip_size
  have HT := Lib.hid (to_chip c)
  have HS := Lib.hid (spec_chipOk c hf)
  have HI := Lib.hid (impl_chipOk c hf)
  generalize okC c = k at *
  clear hf
  obtain ⟨c1, l1, v1, ag, c2, o2, v2, pt, dr, fl, ms⟩ := c
  simp only [chipV_mk] at HT HS HI ⊢
  go_enter Try.func4, Try.ntmps4
  go_wp2_with (go_at_call 17; refine (HT.out _).mono ?_; rintro e w1 ⟨rfl, hb1⟩; refine Hid.out ?_)
  have K := Lib.hid (blk_below (blk_new W (.cells #[.int .i64 c1, .int .i64 l1, .bool v1, .bool ag, .int .i64 c2, .int .i64 o2, .bool v2, .int .i64 pt, .int .i64 dr, .int .i64 fl, .int .i64 ms] 29)) hb1)
  have B := Lib.hid (below_then ((Below.refl W.heap.size W).alloc (Nat.le_refl _) _) hb1)
  clear hb1
  refine Lib.hid ?_
  go_wp2_with (go_at_call 14; refine (HS.out _).mono ?_; rintro e w2 ⟨rfl, hb2⟩; refine Hid.out ?_)
  have K := Lib.hid (blk_below K.out hb2)
  have B := Lib.hid (below_then B.out hb2)
  clear hb2
  refine Lib.hid ?_
  go_wp2_with (first
    | (refine load_row rfl 29 (.tmp 1) rfl W.heap.size rfl 11 _ Try.underlying29 rfl hl.out K.out rfl ?_)
    | (go_at_call 17; refine (HT.out _).mono ?_; rintro e w3 ⟨rfl, hb3⟩; refine Hid.out ?_))
  have B := Lib.hid (below_then B.out hb3)
  clear hb3 K
  refine Lib.hid ?_
  go_wp2_with (go_at_call 13; refine (HI.out _).mono ?_; rintro e w4 ⟨rfl, hb4⟩; refine Hid.out ?_)
  have B := Lib.hid (below_then B.out hb4)
  clear hb4
  refine Lib.hid ?_
  go_wp2
  go_ret
  exact ⟨rfl, B.out⟩
set_option maxRecDepth 100000 in
set_option maxHeartbeats 4000000 in
theorem exact_asks (c : ChipI) (hf : c.fits) (W : World) :
    Calls Try.prog 7 #[chipV c] W fun e w' => e = .returned (.bool true) ∧ Below W.heap.size W w' := by
  have hl := Lib.hid lchip_size
  have hi := Lib.hid chip_size
  have HT := Lib.hid (to_chip c)
  have HS := Lib.hid (spec_asks c)
  have HI := Lib.hid (impl_asks c hf)
  generalize asksC c = k at *
  clear hf
  obtain ⟨c1, l1, v1, ag, c2, o2, v2, pt, dr, fl, ms⟩ := c
  simp only [chipV_mk] at HT HS HI ⊢
  go_enter Try.func7, Try.ntmps7
  go_wp2_with (go_at_call 17; refine (HT.out _).mono ?_; rintro e w1 ⟨rfl, hb1⟩; refine Hid.out ?_)
  have K := Lib.hid (blk_below (blk_new W (.cells #[.int .i64 c1, .int .i64 l1, .bool v1, .bool ag, .int .i64 c2, .int .i64 o2, .bool v2, .int .i64 pt, .int .i64 dr, .int .i64 fl, .int .i64 ms] 29)) hb1)
  have B := Lib.hid (below_then ((Below.refl W.heap.size W).alloc (Nat.le_refl _) _) hb1)
  clear hb1
  refine Lib.hid ?_
  go_wp2_with (go_at_call 16; refine (HS.out _).mono ?_; rintro e w2 ⟨rfl, hb2⟩; refine Hid.out ?_)
  have K := Lib.hid (blk_below K.out hb2)
  have B := Lib.hid (below_then B.out hb2)
  clear hb2
  refine Lib.hid ?_
  go_wp2_with (first
    | (refine load_row rfl 29 (.tmp 1) rfl W.heap.size rfl 11 _ Try.underlying29 rfl hl.out K.out rfl ?_)
    | (go_at_call 17; refine (HT.out _).mono ?_; rintro e w3 ⟨rfl, hb3⟩; refine Hid.out ?_))
  have B := Lib.hid (below_then B.out hb3)
  clear hb3 K
  refine Lib.hid ?_
  go_wp2_with (go_at_call 15; refine (HI.out _).mono ?_; rintro e w4 ⟨rfl, hb4⟩; refine Hid.out ?_)
  have B := Lib.hid (below_then B.out hb4)
  clear hb4
  refine Lib.hid ?_
  go_wp2
  go_ret
  exact ⟨rfl, B.out⟩
set_option maxRecDepth 100000 in
set_option maxHeartbeats 4000000 in
theorem exact_tick (c : ChipI) (hf : c.fits) (W : World) :
    Calls Try.prog 5 #[chipV c] W fun e w' => e = .returned (.bool true) ∧ Below W.heap.size W w' := by
  have hl := Lib.hid lchip_size
  have hi := Lib.hid chip_size
  have HT := Lib.hid (to_chip c)
  have HS := Lib.hid (spec_tick c hf)
  have HI := Lib.hid (impl_tick c hf)
  have HE := Lib.hid (eq_chip (tickI c))
  generalize tickI c = d at *
  clear hf
  obtain ⟨dc1, dl1, dv1, dag, dc2, do2, dv2, dpt, ddr, dfl, dms⟩ := d
  obtain ⟨c1, l1, v1, ag, c2, o2, v2, pt, dr, fl, ms⟩ := c
  simp only [chipV_mk] at HT HS HI HE ⊢
  go_enter Try.func5, Try.ntmps5
  go_wp2_with (go_at_call 17; refine (HT.out _).mono ?_; rintro e w1 ⟨rfl, hb1⟩; refine Hid.out ?_)
  have K := Lib.hid (blk_below (blk_new W (.cells #[.int .i64 c1, .int .i64 l1, .bool v1, .bool ag, .int .i64 c2, .int .i64 o2, .bool v2, .int .i64 pt, .int .i64 dr, .int .i64 fl, .int .i64 ms] 29)) hb1)
  have B := Lib.hid (below_then ((Below.refl W.heap.size W).alloc (Nat.le_refl _) _) hb1)
  clear hb1
  refine Lib.hid ?_
  go_wp2_with (go_at_call 12; refine (HS.out _).mono ?_; rintro e w2 ⟨rfl, hb2⟩; refine Hid.out ?_)
  have K := Lib.hid (blk_below K.out hb2)
  have B := Lib.hid (below_then B.out hb2)
  clear hb2
  refine Lib.hid ?_
  go_wp2_with (first
    | (refine load_row rfl 29 (.tmp 1) rfl W.heap.size rfl 11 _ Try.underlying29 rfl hl.out (blk_old K.out) rfl ?_)
    | (go_at_call 17; refine (HT.out _).mono ?_; rintro e w3 ⟨rfl, hb3⟩; refine Hid.out ?_))
  have K0 := Lib.hid (blk_below (blk_new w2 (.cells #[.int .i64 dc1, .int .i64 dl1, .bool dv1, .bool dag, .int .i64 dc2, .int .i64 do2, .bool dv2, .int .i64 dpt, .int .i64 ddr, .int .i64 dfl, .int .i64 dms] 25)) hb3)
  have B := Lib.hid (below_then (below_alloc B.out _) hb3)
  clear hb3 K
  refine Lib.hid ?_
  go_wp2_with (go_at_call 10; refine (HI.out _).mono ?_; rintro e w4 ⟨rfl, hb4⟩; refine Hid.out ?_)
  have B := Lib.hid (below_then B.out hb4)
  have K0 := Lib.hid (blk_below K0.out hb4)
  clear hb4
  refine Lib.hid ?_
  go_wp2_with (first
    | (refine load_row rfl 25 (.tmp 3) rfl w2.heap.size rfl 11 _ Try.underlying25 rfl hi.out (blk_old K0.out) rfl ?_)
    | (go_at_call 18; refine (HE.out _).mono ?_; rintro e w5 ⟨rfl, hb5⟩))
  go_ret
  exact ⟨rfl, below_then (below_alloc B.out _) hb5⟩
set_option maxRecDepth 100000 in
set_option maxHeartbeats 4000000 in
theorem exact_write (c : ChipI) (hf : c.fits) (r n : Int) (W : World) :
    Calls Try.prog 6 #[chipV c, .int .i64 r, .int .i64 n] W fun e w' => e = .returned (.bool true) ∧ Below W.heap.size W w' := by
  have hl := Lib.hid lchip_size
  have hi := Lib.hid chip_size
  have HT := Lib.hid (to_chip c)
  have HS := Lib.hid (spec_write c hf r n)
  have HI := Lib.hid (impl_write c hf r n)
  have HE := Lib.hid (eq_chip (writeI c r n))
  generalize writeI c r n = d at *
  clear hf
  obtain ⟨dc1, dl1, dv1, dag, dc2, do2, dv2, dpt, ddr, dfl, dms⟩ := d
  obtain ⟨c1, l1, v1, ag, c2, o2, v2, pt, dr, fl, ms⟩ := c
  simp only [chipV_mk] at HT HS HI HE ⊢
  go_enter Try.func6, Try.ntmps6
  go_wp2_with (go_at_call 17; refine (HT.out _).mono ?_; rintro e w1 ⟨rfl, hb1⟩; refine Hid.out ?_)
  have K := Lib.hid (blk_below (blk_new W (.cells #[.int .i64 c1, .int .i64 l1, .bool v1, .bool ag, .int .i64 c2, .int .i64 o2, .bool v2, .int .i64 pt, .int .i64 dr, .int .i64 fl, .int .i64 ms] 29)) hb1)
  have B := Lib.hid (below_then ((Below.refl W.heap.size W).alloc (Nat.le_refl _) _) hb1)
  clear hb1
  refine Lib.hid ?_
  go_wp2_with (go_at_call 19; refine (HS.out _).mono ?_; rintro e w2 ⟨rfl, hb2⟩; refine Hid.out ?_)
  have K := Lib.hid (blk_below K.out hb2)
  have B := Lib.hid (below_then B.out hb2)
  clear hb2
  refine Lib.hid ?_
  go_wp2_with (first
    | (refine load_row rfl 29 (.tmp 3) rfl W.heap.size rfl 11 _ Try.underlying29 rfl hl.out (blk_old K.out) rfl ?_)
    | (go_at_call 17; refine (HT.out _).mono ?_; rintro e w3 ⟨rfl, hb3⟩; refine Hid.out ?_))
  have K0 := Lib.hid (blk_below (blk_new w2 (.cells #[.int .i64 dc1, .int .i64 dl1, .bool dv1, .bool dag, .int .i64 dc2, .int .i64 do2, .bool dv2, .int .i64 dpt, .int .i64 ddr, .int .i64 dfl, .int .i64 dms] 25)) hb3)
  have B := Lib.hid (below_then (below_alloc B.out _) hb3)
  clear hb3 K
  refine Lib.hid ?_
  go_wp2_with (go_at_call 20; refine (HI.out _).mono ?_; rintro e w4 ⟨rfl, hb4⟩; refine Hid.out ?_)
  have B := Lib.hid (below_then B.out hb4)
  have K0 := Lib.hid (blk_below K0.out hb4)
  clear hb4
  refine Lib.hid ?_
  go_wp2_with (first
    | (refine load_row rfl 25 (.tmp 7) rfl w2.heap.size rfl 11 _ Try.underlying25 rfl hi.out (blk_old K0.out) rfl ?_)
    | (go_at_call 18; refine (HE.out _).mono ?_; rintro e w5 ⟨rfl, hb5⟩))
  go_ret
  exact ⟨rfl, below_then (below_alloc B.out _) hb5⟩
theorem law_chipOk (c1 : Int) (w1 : -9223372036854775808 ≤ c1 ∧ c1 ≤ 9223372036854775807) (l1 : Int) (w2 : -9223372036854775808 ≤ l1 ∧ l1 ≤ 9223372036854775807) (v1 : Bool) (ag : Bool) (c2 : Int) (w3 : -9223372036854775808 ≤ c2 ∧ c2 ≤ 9223372036854775807) (o2 : Int) (w4 : -9223372036854775808 ≤ o2 ∧ o2 ≤ 9223372036854775807) (v2 : Bool) (pt : Int) (w5 : -9223372036854775808 ≤ pt ∧ pt ≤ 9223372036854775807) (dr : Int) (w6 : -9223372036854775808 ≤ dr ∧ dr ≤ 9223372036854775807) (fl : Int) (w7 : -9223372036854775808 ≤ fl ∧ fl ≤ 9223372036854775807) (ms : Int) (w8 : -9223372036854775808 ≤ ms ∧ ms ≤ 9223372036854775807) (W : World) :
    Calls Try.prog 4 #[.agg #[.int .i64 c1, .int .i64 l1, .bool v1, .bool ag, .int .i64 c2, .int .i64 o2, .bool v2, .int .i64 pt, .int .i64 dr, .int .i64 fl, .int .i64 ms]] W fun e w' => e = .returned (.bool true) ∧ Below W.heap.size W w' :=
  exact_chipOk ⟨c1, l1, v1, ag, c2, o2, v2, pt, dr, fl, ms⟩ ⟨w1, w2, w3, w4, w5, w6, w7, w8⟩ W
theorem law_asks (c1 : Int) (w1 : -9223372036854775808 ≤ c1 ∧ c1 ≤ 9223372036854775807) (l1 : Int) (w2 : -9223372036854775808 ≤ l1 ∧ l1 ≤ 9223372036854775807) (v1 : Bool) (ag : Bool) (c2 : Int) (w3 : -9223372036854775808 ≤ c2 ∧ c2 ≤ 9223372036854775807) (o2 : Int) (w4 : -9223372036854775808 ≤ o2 ∧ o2 ≤ 9223372036854775807) (v2 : Bool) (pt : Int) (w5 : -9223372036854775808 ≤ pt ∧ pt ≤ 9223372036854775807) (dr : Int) (w6 : -9223372036854775808 ≤ dr ∧ dr ≤ 9223372036854775807) (fl : Int) (w7 : -9223372036854775808 ≤ fl ∧ fl ≤ 9223372036854775807) (ms : Int) (w8 : -9223372036854775808 ≤ ms ∧ ms ≤ 9223372036854775807) (W : World) :
    Calls Try.prog 7 #[.agg #[.int .i64 c1, .int .i64 l1, .bool v1, .bool ag, .int .i64 c2, .int .i64 o2, .bool v2, .int .i64 pt, .int .i64 dr, .int .i64 fl, .int .i64 ms]] W fun e w' => e = .returned (.bool true) ∧ Below W.heap.size W w' :=
  exact_asks ⟨c1, l1, v1, ag, c2, o2, v2, pt, dr, fl, ms⟩ ⟨w1, w2, w3, w4, w5, w6, w7, w8⟩ W
theorem law_tick (c1 : Int) (w1 : -9223372036854775808 ≤ c1 ∧ c1 ≤ 9223372036854775807) (l1 : Int) (w2 : -9223372036854775808 ≤ l1 ∧ l1 ≤ 9223372036854775807) (v1 : Bool) (ag : Bool) (c2 : Int) (w3 : -9223372036854775808 ≤ c2 ∧ c2 ≤ 9223372036854775807) (o2 : Int) (w4 : -9223372036854775808 ≤ o2 ∧ o2 ≤ 9223372036854775807) (v2 : Bool) (pt : Int) (w5 : -9223372036854775808 ≤ pt ∧ pt ≤ 9223372036854775807) (dr : Int) (w6 : -9223372036854775808 ≤ dr ∧ dr ≤ 9223372036854775807) (fl : Int) (w7 : -9223372036854775808 ≤ fl ∧ fl ≤ 9223372036854775807) (ms : Int) (w8 : -9223372036854775808 ≤ ms ∧ ms ≤ 9223372036854775807) (W : World) :
    Calls Try.prog 5 #[.agg #[.int .i64 c1, .int .i64 l1, .bool v1, .bool ag, .int .i64 c2, .int .i64 o2, .bool v2, .int .i64 pt, .int .i64 dr, .int .i64 fl, .int .i64 ms]] W fun e w' => e = .returned (.bool true) ∧ Below W.heap.size W w' :=
  exact_tick ⟨c1, l1, v1, ag, c2, o2, v2, pt, dr, fl, ms⟩ ⟨w1, w2, w3, w4, w5, w6, w7, w8⟩ W
theorem law_write (c1 : Int) (w1 : -9223372036854775808 ≤ c1 ∧ c1 ≤ 9223372036854775807) (l1 : Int) (w2 : -9223372036854775808 ≤ l1 ∧ l1 ≤ 9223372036854775807) (v1 : Bool) (ag : Bool) (c2 : Int) (w3 : -9223372036854775808 ≤ c2 ∧ c2 ≤ 9223372036854775807) (o2 : Int) (w4 : -9223372036854775808 ≤ o2 ∧ o2 ≤ 9223372036854775807) (v2 : Bool) (pt : Int) (w5 : -9223372036854775808 ≤ pt ∧ pt ≤ 9223372036854775807) (dr : Int) (w6 : -9223372036854775808 ≤ dr ∧ dr ≤ 9223372036854775807) (fl : Int) (w7 : -9223372036854775808 ≤ fl ∧ fl ≤ 9223372036854775807) (ms : Int) (w8 : -9223372036854775808 ≤ ms ∧ ms ≤ 9223372036854775807) (r n : Int) (W : World) :
    Calls Try.prog 6 #[.agg #[.int .i64 c1, .int .i64 l1, .bool v1, .bool ag, .int .i64 c2, .int .i64 o2, .bool v2, .int .i64 pt, .int .i64 dr, .int .i64 fl, .int .i64 ms], .int .i64 r, .int .i64 n] W fun e w' => e = .returned (.bool true) ∧ Below W.heap.size W w' :=
  exact_write ⟨c1, l1, v1, ag, c2, o2, v2, pt, dr, fl, ms⟩ ⟨w1, w2, w3, w4, w5, w6, w7, w8⟩ r n W
end Go.Proofs.Ythelaeejgppjhaa
