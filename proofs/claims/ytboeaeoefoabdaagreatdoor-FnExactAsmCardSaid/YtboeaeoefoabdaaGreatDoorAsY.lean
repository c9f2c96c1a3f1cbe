/-
  The exact law of Asm (chapter 13).
  Conditions: two variables of Go's library hold what their own initialisers lay.
-/
import Derived.Test.YtboeaeoefoabdaaGreatDoorAsI
namespace Go.Proofs.YtboeaeoefoabdaaGreatDoor
open Go.RowKit
set_option maxRecDepth 100000 in
set_option maxHeartbeats 4000000 in
theorem exact_asm (s : ByteArray) (_hs : s.size ≤ maxLen) (W : World) (m : Int) (hm : W.cell? ⟨1, 0, none⟩ = some (.int .i64 m)) (x : Value) (hx : W.cell? ⟨2, 0, none⟩ = some (.iface 188 x)) :
    Calls Tryz.prog 7 #[.string s] W fun e w' => e = .returned (.bool true) ∧ Below W.heap.size W w' := by
  by_cases h20 : 1048576 < s.size
  · have h2 : (1048576 : Int) < (s.size : Int) := by omega
    go_enter Tryz.func7, Tryz.ntmps7
    go_wp2
    go_ret
    exact ⟨rfl, Below.refl _ _⟩
  · have h2 : ¬ (1048576 : Int) < (s.size : Int) := by omega
    have HS := Lib.hid (fun w => spec_asm s (by omega) w)
    have HI := Lib.hid (fun w hm hx => impl_asm s (by omega) w m hm x hx)
    have hm := Lib.hid hm
    have hx := Lib.hid hx
    clear h20 _hs
    go_enter Tryz.func7, Tryz.ntmps7
    go_wp2_with (go_at_call 22; (with_reducible refine (HS.out _).mono ?_); rintro e w1 ⟨k, out, ok, hg, hz, rfl, hok, hb1⟩; refine Hid.out ?_)
    have hm1 := Lib.hid ((hb1.cell (p := ⟨_, 0, none⟩) (World.block_lt_of_cell? _ _ hm.out)).trans hm.out)
    have hx1 := Lib.hid ((hb1.cell (p := ⟨_, 0, none⟩) (World.block_lt_of_cell? _ _ hx.out)).trans hx.out)
    have hok := Lib.hid hok
    have hg := Lib.hid hg
    have hz := Lib.hid hz
    have hb1 := Lib.hid hb1
    clear HS h2 hm hx
    refine Lib.hid ?_
    go_wp2_with (go_at_call 21; refine (HI.out _ hm1.out hx1.out).mono ?_; rintro e w2 ⟨k2, out2, ok2, hg2, hz2, rfl, hok2, hb2⟩; refine Hid.out ?_)
    obtain rfl := told_one hg.out hz.out hg2 hz2
    obtain ⟨rfl, rfl⟩ := asm_one hok.out hok2
    have B2 := Lib.hid (below_then hb1.out hb2)
    clear hg hz hok hok2 hg2 hz2 hb1 hb2 HI hm1 hx1
    refine Lib.hid ?_
    go_wp2
    go_ret
    exact ⟨rfl, B2.out⟩
end Go.Proofs.YtboeaeoefoabdaaGreatDoor
