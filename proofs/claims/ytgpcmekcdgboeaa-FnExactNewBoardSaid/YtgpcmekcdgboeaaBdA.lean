/-
  A board, and both BoardOk (chapter 11).
  Conditions: as each says; each walk leaves old memory as it was.
-/
import Derived.Test.YtgpcmekcdgboeaaPrt
import Derived.Test.YtgpcmekcdgboeaaScA
import Derived.Test.YtgpcmekcdgboeaaChB
import Derived.Test.YtgpcmekcdgboeaaChJ
import Derived.Test.YtgpcmekcdgboeaaKpB
import Derived.Test.YtgpcmekcdgboeaaRgC
import Derived.Test.YtgpcmekcdgboeaaMmK
import Derived.Test.YtgpcmekcdgboeaaWiA
namespace Go.Proofs.Ytgpcmekcdgboeaa
open Go.RowKit
/-- A board (chapter 11). -/
structure BrdI where
  q : CorI
  r : ByteArray
  o : ByteArray
  c : ChipI
  wn : Bool
  we : Bool
  wi : Bool
  k : KeepI
  op : Int
  nw : Int
def memC (r o : ByteArray) : Array Value := #[.string r, .string o]
def wireC (n e i : Bool) : Array Value := #[.bool n, .bool e, .bool i]
def brdC (b : BrdI) : Array Value := #[.int .i64 b.q.a, .int .i64 b.q.x, .int .i64 b.q.y, .int .i64 b.q.s, .int .i64 b.q.p, .int .i64 b.q.pc, .int .i64 b.q.sq, .int .i64 b.q.cd, .int .i64 b.q.t, .int .i64 b.q.lo, .int .i64 b.q.hi, .int .i64 b.q.vl, .bool b.q.cr, .int .i64 b.q.nx, .bool b.q.jm, .string b.r, .string b.o, .int .i64 b.c.c1, .int .i64 b.c.l1, .bool b.c.v1, .bool b.c.ag, .int .i64 b.c.c2, .int .i64 b.c.o2, .bool b.c.v2, .int .i64 b.c.pt, .int .i64 b.c.dr, .int .i64 b.c.fl, .int .i64 b.c.ms, .bool b.wn, .bool b.we, .bool b.wi, .int .i64 b.k.ws, .int .i64 b.k.bu, .int .i64 b.k.wl, .int .i64 b.k.bl, .int .i64 b.k.ad, .int .i64 b.k.lf, .int .i64 b.k.sm, .int .i64 b.op, .int .i64 b.nw]
theorem brdC_size (b : BrdI) : (brdC b).size = 40 := rfl
theorem part_core (b : BrdI) : ((brdC b).toList.drop 0).take (corC b.q).size = (corC b.q).toList := rfl
theorem part_mem (b : BrdI) : ((brdC b).toList.drop 15).take (memC b.r b.o).size = (memC b.r b.o).toList := rfl
theorem part_chip (b : BrdI) : ((brdC b).toList.drop 17).take (chipC b.c).size = (chipC b.c).toList := rfl
theorem part_wires (b : BrdI) : ((brdC b).toList.drop 28).take (wireC b.wn b.we b.wi).size = (wireC b.wn b.we b.wi).toList := rfl
theorem part_keep (b : BrdI) : ((brdC b).toList.drop 31).take (keepC b.k).size = (keepC b.k).toList := rfl
/-- What a right board is. -/
def okBd (b : BrdI) : Bool := okCo b.q.a b.q.x b.q.y b.q.s b.q.p b.q.pc b.q.sq b.q.cd b.q.t b.q.lo b.q.hi b.q.vl b.q.nx && decide (OkM b.r b.o) && okC b.c && okK b.k && isB b.op && isUp b.nw 1000000000
set_option maxRecDepth 100000 in
set_option maxHeartbeats 4000000 in
theorem spec_boardOk (b : BrdI) (hf : b.c.fits) (w : World) : Calls Try.prog 6 #[.agg (brdC b)] w fun e w' => e = .returned (.bool (okBd b)) ∧ Below w.heap.size w w' := by
  have HV := Lib.hid (show okBd b = (okCo b.q.a b.q.x b.q.y b.q.s b.q.p b.q.pc b.q.sq b.q.cd b.q.t b.q.lo b.q.hi b.q.vl b.q.nx && decide (OkM b.r b.o) && okC b.c && okK b.k && isB b.op && isUp b.nw 1000000000) from rfl)
  rw [HV.out]
  clear HV
  have h0 : ∀ w, Calls Try.prog 14 #[.agg (corC b.q)] w fun e w' => e = .returned (.bool (okCo b.q.a b.q.x b.q.y b.q.s b.q.p b.q.pc b.q.sq b.q.cd b.q.t b.q.lo b.q.hi b.q.vl b.q.nx)) ∧ Below w.heap.size w w' := fun w => spec_coreOk b.q.a b.q.x b.q.y b.q.s b.q.p b.q.pc b.q.sq b.q.cd b.q.t b.q.lo b.q.hi b.q.vl b.q.cr b.q.nx b.q.jm w
  have h1 := fun w => spec_memOk b.r b.o w
  have h2 := fun w => spec_chipOk b.c hf w
  have h3 := fun w => spec_keeperOk b.k w
  have h4 := fun w => spec_byte b.op w
  have h5 := fun w => spec_up b.nw 1000000000 w
  unfold memV at h1
  unfold chipV at h2
  unfold keepV at h3
  generalize okCo b.q.a b.q.x b.q.y b.q.s b.q.p b.q.pc b.q.sq b.q.cd b.q.t b.q.lo b.q.hi b.q.vl b.q.nx = b0 at *
  generalize decide (OkM b.r b.o) = b1 at *
  generalize okC b.c = b2 at *
  generalize okK b.k = b3 at *
  generalize isB b.op = b4 at *
  generalize isUp b.nw 1000000000 = b5 at *
  replace h0 := Lib.hid h0
  replace h1 := Lib.hid h1
  replace h2 := Lib.hid h2
  replace h3 := Lib.hid h3
  replace h4 := Lib.hid h4
  replace h5 := Lib.hid h5
  have Z := Lib.hid (blk_new w (.cells (brdC b) 46))
  have B := Lib.hid (below_alloc (Below.refl w.heap.size w) (.cells (brdC b) 46))
  go_enter Try.func6, Try.ntmps6
  go_wp2_with (first
    | (refine load_part_if (by rfl) 40 (.tmp 3) rfl w.heap.size 0 rfl (corC b.q) _ Try.underlying40 rfl (by kernel_rfl) Z.out (part_core _) ?_)
    | (go_at_call 14; refine (h0.out _).mono ?_; rintro e w1 ⟨rfl, hb⟩; refine Hid.out ?_))
  have Z := Lib.hid (blk_below Z.out hb)
  have B := Lib.hid (below_then B.out hb)
  clear hb
  cases b0
  · refine Lib.hid ?_
    go_wp2
    go_ret
    exact ⟨by simp, B.out⟩
  · refine Lib.hid ?_
    go_wp2_with (first
      | (refine load_part_if (by rfl) 41 (.tmp 7) rfl w.heap.size 15 rfl (memC b.r b.o) _ Try.underlying41 rfl (by kernel_rfl) Z.out (part_mem _) ?_)
      | (go_at_call 15; refine (h1.out _).mono ?_; rintro e w2 ⟨rfl, hb⟩; refine Hid.out ?_))
    have Z := Lib.hid (blk_below Z.out hb)
    have B := Lib.hid (below_then B.out hb)
    clear hb
    cases b1
    · refine Lib.hid ?_
      go_wp2
      go_ret
      exact ⟨by simp, B.out⟩
    · refine Lib.hid ?_
      go_wp2_with (first
        | (refine load_part_if (by rfl) 42 (.tmp 12) rfl w.heap.size 17 rfl (chipC b.c) _ Try.underlying42 rfl (by kernel_rfl) Z.out (part_chip _) ?_)
        | (go_at_call 16; refine (h2.out _).mono ?_; rintro e w3 ⟨rfl, hb⟩; refine Hid.out ?_))
      have Z := Lib.hid (blk_below Z.out hb)
      have B := Lib.hid (below_then B.out hb)
      clear hb
      cases b2
      · refine Lib.hid ?_
        go_wp2
        go_ret
        exact ⟨by simp, B.out⟩
      · refine Lib.hid ?_
        go_wp2_with (first
          | (refine load_part_if (by rfl) 44 (.tmp 17) rfl w.heap.size 31 rfl (keepC b.k) _ Try.underlying44 rfl (by kernel_rfl) Z.out (part_keep _) ?_)
          | (go_at_call 17; refine (h3.out _).mono ?_; rintro e w4 ⟨rfl, hb⟩; refine Hid.out ?_))
        have Z := Lib.hid (blk_below Z.out hb)
        have B := Lib.hid (below_then B.out hb)
        clear hb
        have c38 := cell_of_blk (i := 38) (v := .int .i64 b.op) Z.out rfl
        have c39 := cell_of_blk (i := 39) (v := .int .i64 b.nw) Z.out rfl
        cases b3
        · refine Lib.hid ?_
          go_wp2
          go_ret
          exact ⟨by simp, B.out⟩
        · refine Lib.hid ?_
          go_wp2_with (go_at_call 18; refine (h4.out _).mono ?_; rintro e w9 ⟨rfl, rfl⟩; refine Hid.out ?_)
          cases b4
          · refine Lib.hid ?_
            go_wp2
            go_ret
            exact ⟨by simp, B.out⟩
          · refine Lib.hid ?_
            go_wp2_with (go_at_call 19; refine (h5.out _).mono ?_; rintro e w9 ⟨rfl, rfl⟩; refine Hid.out ?_)
            cases b5
            · refine Lib.hid ?_
              go_wp2
              go_ret
              exact ⟨by simp, B.out⟩
            · refine Lib.hid ?_
              go_wp2
              go_ret
              exact ⟨by simp, B.out⟩
set_option maxRecDepth 100000 in
set_option maxHeartbeats 4000000 in
theorem impl_boardOk (b : BrdI) (hf : b.c.fits) (w : World) : Calls Try.prog 8 #[.agg (brdC b)] w fun e w' => e = .returned (.bool (okBd b)) ∧ Below w.heap.size w w' := by
  have HV := Lib.hid (show okBd b = (okCo b.q.a b.q.x b.q.y b.q.s b.q.p b.q.pc b.q.sq b.q.cd b.q.t b.q.lo b.q.hi b.q.vl b.q.nx && decide (OkM b.r b.o) && okC b.c && okK b.k && isB b.op && isUp b.nw 1000000000) from rfl)
  rw [HV.out]
  clear HV
  have h0 : ∀ w, Calls Try.prog 24 #[.agg (corC b.q)] w fun e w' => e = .returned (.bool (okCo b.q.a b.q.x b.q.y b.q.s b.q.p b.q.pc b.q.sq b.q.cd b.q.t b.q.lo b.q.hi b.q.vl b.q.nx)) ∧ Below w.heap.size w w' := fun w => impl_coreOk b.q.a b.q.x b.q.y b.q.s b.q.p b.q.pc b.q.sq b.q.cd b.q.t b.q.lo b.q.hi b.q.vl b.q.cr b.q.nx b.q.jm w
  have h1 := fun w => impl_memOk b.r b.o w
  have h2 := fun w => impl_chipOk b.c hf w
  have h3 := fun w => impl_keeperOk b.k w
  have h4 := fun w => is_byte b.op w
  have h5 := fun w => is_up b.nw 1000000000 w
  unfold memV at h1
  unfold chipV at h2
  unfold keepV at h3
  generalize okCo b.q.a b.q.x b.q.y b.q.s b.q.p b.q.pc b.q.sq b.q.cd b.q.t b.q.lo b.q.hi b.q.vl b.q.nx = b0 at *
  generalize decide (OkM b.r b.o) = b1 at *
  generalize okC b.c = b2 at *
  generalize okK b.k = b3 at *
  generalize isB b.op = b4 at *
  generalize isUp b.nw 1000000000 = b5 at *
  replace h0 := Lib.hid h0
  replace h1 := Lib.hid h1
  replace h2 := Lib.hid h2
  replace h3 := Lib.hid h3
  replace h4 := Lib.hid h4
  replace h5 := Lib.hid h5
  have Z := Lib.hid (blk_new w (.cells (brdC b) 46))
  have B := Lib.hid (below_alloc (Below.refl w.heap.size w) (.cells (brdC b) 46))
  go_enter Try.func8, Try.ntmps8
  go_wp2_with (first
    | (refine load_part_if (by rfl) 40 (.tmp 4) rfl w.heap.size 0 rfl (corC b.q) _ Try.underlying40 rfl (by kernel_rfl) Z.out (part_core _) ?_)
    | (go_at_call 24; refine (h0.out _).mono ?_; rintro e w1 ⟨rfl, hb⟩; refine Hid.out ?_))
  have Z := Lib.hid (blk_below Z.out hb)
  have B := Lib.hid (below_then B.out hb)
  clear hb
  cases b0
  · refine Lib.hid ?_
    go_wp2
    go_ret
    exact ⟨by simp, B.out⟩
  · refine Lib.hid ?_
    go_wp2_with (first
      | (refine load_part_if (by rfl) 41 (.tmp 8) rfl w.heap.size 15 rfl (memC b.r b.o) _ Try.underlying41 rfl (by kernel_rfl) Z.out (part_mem _) ?_)
      | (go_at_call 25; refine (h1.out _).mono ?_; rintro e w2 ⟨rfl, hb⟩; refine Hid.out ?_))
    have Z := Lib.hid (blk_below Z.out hb)
    have B := Lib.hid (below_then B.out hb)
    clear hb
    cases b1
    · refine Lib.hid ?_
      go_wp2
      go_ret
      exact ⟨by simp, B.out⟩
    · refine Lib.hid ?_
      go_wp2_with (first
        | (refine load_part_if (by rfl) 42 (.tmp 13) rfl w.heap.size 17 rfl (chipC b.c) _ Try.underlying42 rfl (by kernel_rfl) Z.out (part_chip _) ?_)
        | (go_at_call 26; refine (h2.out _).mono ?_; rintro e w3 ⟨rfl, hb⟩; refine Hid.out ?_))
      have Z := Lib.hid (blk_below Z.out hb)
      have B := Lib.hid (below_then B.out hb)
      clear hb
      cases b2
      · refine Lib.hid ?_
        go_wp2
        go_ret
        exact ⟨by simp, B.out⟩
      · refine Lib.hid ?_
        go_wp2_with (first
          | (refine load_part_if (by rfl) 44 (.tmp 18) rfl w.heap.size 31 rfl (keepC b.k) _ Try.underlying44 rfl (by kernel_rfl) Z.out (part_keep _) ?_)
          | (go_at_call 27; refine (h3.out _).mono ?_; rintro e w4 ⟨rfl, hb⟩; refine Hid.out ?_))
        have Z := Lib.hid (blk_below Z.out hb)
        have B := Lib.hid (below_then B.out hb)
        clear hb
        have c38 := cell_of_blk (i := 38) (v := .int .i64 b.op) Z.out rfl
        have c39 := cell_of_blk (i := 39) (v := .int .i64 b.nw) Z.out rfl
        cases b3
        · refine Lib.hid ?_
          go_wp2
          go_ret
          exact ⟨by simp, B.out⟩
        · refine Lib.hid ?_
          go_wp2_with (go_at_call 28; refine (h4.out _).mono ?_; rintro e w9 ⟨rfl, rfl⟩; refine Hid.out ?_)
          cases b4
          · refine Lib.hid ?_
            go_wp2
            go_ret
            exact ⟨by simp, B.out⟩
          · refine Lib.hid ?_
            go_wp2_with (go_at_call 29; refine (h5.out _).mono ?_; rintro e w9 ⟨rfl, rfl⟩; refine Hid.out ?_)
            cases b5
            · refine Lib.hid ?_
              go_wp2
              go_ret
              exact ⟨by simp, B.out⟩
            · refine Lib.hid ?_
              go_wp2
              go_ret
              exact ⟨by simp, B.out⟩
end Go.Proofs.Ytgpcmekcdgboeaa
