/-
  The exact law of ReadPins (chapter 12).
  Conditions: two variables of Go's library hold what their own initialisers lay.
-/
import Derived.Test.YtboeaeoefoabdaaDoorPnG
namespace Go.Proofs.YtboeaeoefoabdaaDoor
open Go.RowKit Go.Deep Go.WideShapes Go.ChangeShapes
set_option maxRecDepth 100000 in
set_option maxHeartbeats 4000000 in
theorem eq_pins (n i t r : Bool) (p : Int) (w : World) : Calls Tryd.prog 12 #[.agg #[.bool n, .bool i, .bool t, .bool r, .int .i64 p], .agg #[.bool n, .bool i, .bool t, .bool r, .int .i64 p]] w fun e w' => e = .returned (.bool true) ∧ Below w.heap.size w w' := by
  go_enter Tryd.func12, Tryd.ntmps12
  go_wp2
  go_ret
  exact ⟨rfl, below_alloc (below_alloc (Below.refl _ _) _) _⟩
set_option maxRecDepth 100000 in
set_option maxHeartbeats 4000000 in
theorem exact_readPins (s : ByteArray) (_hs : s.size ≤ maxLen) (W : World) (m : Int) (hm : W.cell? ⟨0, 0, none⟩ = some (.int .i64 m)) (x : Value) (hx : W.cell? ⟨1, 0, none⟩ = some (.iface 82 x)) :
    Calls Tryd.prog 4 #[.string s] W fun e w' => e = .returned (.bool true) ∧ Below W.heap.size W w' := by
  by_cases h20 : 1048576 < s.size
  · have h2 : (1048576 : Int) < (s.size : Int) := by omega
    go_enter Tryd.func4, Tryd.ntmps4
    go_wp2
    go_ret
    exact ⟨rfl, Below.refl _ _⟩
  · have h2 : ¬ (1048576 : Int) < (s.size : Int) := by omega
    have HS := Lib.hid (fun w => spec_readPins s (by omega) w)
    have HI := Lib.hid (fun w hm hx => impl_readPins s (by omega) w m hm x hx)
    have hm := Lib.hid hm
    have hx := Lib.hid hx
    clear h20 _hs
    go_enter Tryd.func4, Tryd.ntmps4
    go_wp2_with (go_at_call 10; (with_reducible refine (HS.out _).mono ?_); rintro e w1 ⟨n, i, t, r, p, b, rfl, hok, hb1⟩; refine Hid.out ?_)
    have K1 := Lib.hid (blk_new w1 (.cells #[.bool n, .bool i, .bool t, .bool r, .int .i64 p] 25 ))
    have B1 := Lib.hid (below_alloc hb1 (.cells #[.bool n, .bool i, .bool t, .bool r, .int .i64 p] 25 ))
    have hm1 := Lib.hid ((B1.out.cell (p := ⟨_, 0, none⟩) (World.block_lt_of_cell? _ _ hm.out)).trans hm.out)
    have hx1 := Lib.hid ((B1.out.cell (p := ⟨_, 0, none⟩) (World.block_lt_of_cell? _ _ hx.out)).trans hx.out)
    have hok := Lib.hid hok
    clear hb1 HS h2 hm hx
    refine Lib.hid ?_
    go_wp2_with (go_at_call 9; refine (HI.out _ hm1.out hx1.out).mono ?_; rintro e w2 ⟨n2, i2, t2, r2, p2, b2, rfl, hok2, hb2⟩; refine Hid.out ?_)
    obtain ⟨rfl, rfl, rfl, rfl, rfl, rfl⟩ := rp_one hok.out hok2
    have K2 := Lib.hid (blk_old (o := .cells #[.bool n, .bool i, .bool t, .bool r, .int .i64 p] 25 ) (blk_below K1.out hb2))
    have KI := Lib.hid (blk_new w2 (.cells #[.bool n, .bool i, .bool t, .bool r, .int .i64 p] 25 ))
    have B2 := Lib.hid (below_alloc (below_then B1.out hb2) (.cells #[.bool n, .bool i, .bool t, .bool r, .int .i64 p] 25 ))
    have HE := Lib.hid (fun w => eq_pins n i t r p w)
    clear hb2 K1 B1 HI hm1 hx1 hok hok2
    refine Lib.hid ?_
    go_upto_region 5 with fail
    generalize w2.alloc (.cells #[.bool n, .bool i, .bool t, .bool r, .int .i64 p] 25 ) = w3 at *
    go_wp2_with (first
      | (with_reducible refine load_row rfl 25 (.tmp 5) rfl w2.heap.size rfl 5 _ Tryd.underlying25 rfl pins_size KI.out rfl ?_)
      | (with_reducible refine load_row rfl 25 (.tmp 3) rfl w1.heap.size rfl 5 _ Tryd.underlying25 rfl pins_size K2.out rfl ?_)
      | (go_at_call 12; (with_reducible refine (HE.out _).mono ?_); rintro e w4 ⟨rfl, hb4⟩))
    go_ret
    exact ⟨rfl, below_then B2.out hb4⟩
end Go.Proofs.YtboeaeoefoabdaaDoor
