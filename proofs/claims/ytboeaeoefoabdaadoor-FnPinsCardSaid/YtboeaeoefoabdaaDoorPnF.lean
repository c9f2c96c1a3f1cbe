/-
  impl.ReadPins (chapter 12).
  Conditions: as each says.
-/
import Derived.Test.YtboeaeoefoabdaaDoorCuB
import Derived.Test.YtboeaeoefoabdaaDoorPnE
import Derived.Test.YtboeaeoefoabdaaDoorPnB
import Derived.Test.YtboeaeoefoabdaaDoorRpC
import Derived.Test.YtboeaeoefoabdaaDoorRow
import Derived.Test.YtboeaeoefoabdaaDoorCuC
import Derived.Test.YtboeaeoefoabdaaDoorNeL
namespace Go.Proofs.YtboeaeoefoabdaaDoor
open Go.RowKit Go.Deep Go.WideShapes Go.ChangeShapes
theorem pins_size : (Tryd.prog.info? 25).map (·.size) = some 5 := by kernel_rfl
/-- What ReadPins answers. -/
def RpPost (l : List UInt8) (w : World) (e : Ending) (w' : World) : Prop := ∃ (n i t r : Bool) (p : Int) (b : Bool), e = .returned (.tuple #[.agg #[.bool n, .bool i, .bool t, .bool r, .int .i64 p], .bool b]) ∧ RpOk l n i t r p b ∧ Below w.heap.size w w'
theorem rp_post {l : List UInt8} {w w' : World} {n i t r : Bool} {p : Int} {b : Bool} (h : RpOk l n i t r p b) (hb : Below w.heap.size w w') : RpPost l w (.returned (.tuple #[.agg #[.bool n, .bool i, .bool t, .bool r, .int .i64 p], .bool b])) w' := ⟨n, i, t, r, p, b, rfl, h, hb⟩
set_option maxRecDepth 100000 in
set_option maxHeartbeats 4000000 in
theorem impl_readPins (s : ByteArray) (hs : s.size < 4294967281) (w : World) (m : Int) (hm : w.cell? ⟨0, 0, none⟩ = some (.int .i64 m)) (x : Value) (hx : w.cell? ⟨1, 0, none⟩ = some (.iface 82 x)) :
    Calls Tryd.prog 9 #[.string s] w (RpPost s.data.toList w) := by
  obtain ⟨w0, hw0⟩ : ∃ w0, w0 = w.alloc (.cells #[.bool false, .bool false, .bool false, .bool false, .int .i64 0] 25) := ⟨_, rfl⟩
  have b0 : Below w.heap.size w w0 := by rw [hw0]; exact below_alloc (Below.refl _ _) _
  obtain ⟨bt, hcut⟩ := cut_call s hs m w0 ((b0.cell (p := ⟨_, 0, none⟩) (World.block_lt_of_cell? _ _ hm)).trans hm)
  have hx0 := (b0.cell (p := ⟨_, 0, none⟩) (World.block_lt_of_cell? _ _ hx)).trans hx
  rw [hw0] at hcut hx0
  replace hx0 := Lib.hid hx0
  replace hcut := Lib.hid hcut
  have yes := Lib.hid (fun (n i t r : Bool) (P : Int) hP h => @rp_impl_yes s.data.toList n i t r P hP h)
  have no := Lib.hid (fun (P : Int) hP h => @rp_impl_no s.data.toList P hP h)
  have hsd : s = ⟨s.data.toList.toArray⟩ := rfl
  generalize s.data.toList = l at *
  subst hsd
  obtain ⟨L, hL⟩ : ∃ L, nameL l = L := ⟨_, rfl⟩
  obtain ⟨R, hR⟩ : ∃ R, restB l = R := ⟨_, rfl⟩
  rw [hL] at hcut no
  rw [hR] at hcut no yes
  clear hL hR hs hm hx
  have HA := fun w => has_call L 110 w
  have HB := fun w => has_call L 105 w
  have HC := fun w => has_call L 119 w
  have HD := fun w => has_call L 114 w
  generalize hasB 110 L = n at *
  generalize hasB 105 L = i at *
  generalize hasB 119 L = t at *
  generalize hasB 114 L = r at *
  replace HA := Lib.hid HA
  replace HB := Lib.hid HB
  replace HC := Lib.hid HC
  replace HD := Lib.hid HD
  have HR := fun w h => impl_rh ⟨R.toArray⟩ w x h
  rw [show (⟨R.toArray⟩ : ByteArray).data.toList = R by simp] at HR
  generalize rh R = q at *
  replace HR := Lib.hid HR
  replace hw0 := Lib.hid hw0
  replace b0 := Lib.hid b0
  go_enter Tryd.func9, Tryd.ntmps9
  go_wp2_with (first
    | (go_at_call 22; refine hcut.out.mono ?_; rintro e w1 ⟨rfl, hb1⟩; refine Hid.out ?_))
  have hx1 := Lib.hid ((hb1.cell (p := ⟨_, 0, none⟩) (World.block_lt_of_cell? _ _ hx0.out)).trans hx0.out)
  have K1 := Lib.hid (blk_below (blk_new w (.cells #[.bool false, .bool false, .bool false, .bool false, .int .i64 0] 25)) hb1)
  have B1 := Lib.hid (below_then (below_alloc (Below.refl w.heap.size w) _) hb1)
  clear hb1 hw0 b0 hx0 hcut
  refine Lib.hid ?_
  go_wp2_with (first
    | (go_at_call 23; (with_reducible refine (HA.out _).mono ?_); rintro e w2 ⟨rfl, rfl⟩)
    | (go_at_call 23; (with_reducible refine (HB.out _).mono ?_); rintro e w2 ⟨rfl, rfl⟩)
    | (go_at_call 23; (with_reducible refine (HC.out _).mono ?_); rintro e w2 ⟨rfl, rfl⟩)
    | (go_at_call 23; (with_reducible refine (HD.out _).mono ?_); rintro e w2 ⟨rfl, rfl⟩)
    | (go_at_call 24; (with_reducible refine (HR.out _ hx1.out).mono ?_); rintro e w3 ⟨rfl, hb3⟩; refine Hid.out ?_))
  have K3 := Lib.hid (blk_below K1.out hb3)
  have B3 := Lib.hid (below_then B1.out hb3)
  clear hb3 K1 B1 HA HB HC HD HR hx1
  refine Lib.hid ?_
  go_upto_region 3 with fail
  obtain ⟨p, hp⟩ : ∃ p, max q 0 = p := ⟨_, rfl⟩
  have hP : p = if q < 0 then 0 else q := by rw [← hp]; split <;> omega
  rw [hp]
  replace yes := fun h => yes.out n i t r p hP h
  replace no := fun h => no.out p hP h
  clear hp hP
  have hs := fun w => impl_pinsText n i t r p w
  unfold pinsV at hs
  have KP := Lib.hid (blk_new w3 (.cells #[.bool n, .bool i, .bool t, .bool r, .int .i64 p] 25))
  have B4 := Lib.hid (below_alloc B3.out (.cells #[.bool n, .bool i, .bool t, .bool r, .int .i64 p] 25))
  have K4 := Lib.hid (blk_old (o := .cells #[.bool n, .bool i, .bool t, .bool r, .int .i64 p] 25) K3.out)
  have LT := Lib.hid (show w.heap.size ≤ w3.heap.size from B3.out.size)
  have GT : Hid (w.heap.size < w3.heap.size) := Lib.hid (Array.getElem?_eq_some_iff.1 K3.out).1
  clear K3 B3
  generalize w3.alloc (.cells #[.bool n, .bool i, .bool t, .bool r, .int .i64 p] 25) = w4 at *
  by_cases hT : pinT n i t r p = l
  · have hok := Lib.hid (yes hT)
    rw [hT] at hs
    replace hs := Lib.hid hs
    clear yes no hT
    go_wp2_with (first
      | (with_reducible refine load_row rfl 25 (.tmp 7) rfl w3.heap.size rfl 5 _ Tryd.underlying25 rfl pins_size KP.out rfl ?_)
      | (go_at_call 7; (with_reducible refine (hs.out _).mono ?_); rintro e w5 ⟨rfl, hb5⟩; refine Hid.out ?_))
    have KP5 := Lib.hid (blk_below KP.out hb5)
    have K5 := Lib.hid (blk_below K4.out hb5)
    have B5 := Lib.hid (below_then B4.out hb5)
    clear hb5 KP K4 B4 hs
    refine Lib.hid ?_
    go_wp2_with (first
      | (with_reducible refine load_row rfl 25 (.tmp 7) rfl w3.heap.size rfl 5 _ Tryd.underlying25 rfl pins_size KP5.out rfl ?_)
      | (with_reducible refine store_row rfl 25 (.tmp 2) (.tmp 31) rfl w.heap.size _ rfl rfl 5 pins_size K5.out rfl rfl rfl ?_))
    exact row_tmp_post rfl rfl rfl Tryd.underlying25 rfl pins_size rfl (setRow_heap _ _ _ _ _ _ K5.out) rfl (rp_post hok.out (below_row B5.out (Nat.le_refl _)))
  · have hok := Lib.hid (no hT)
    have hne := ne_list (x := ⟨(pinT n i t r p).toArray⟩) l (fun h => hT (by simpa using congrArg (fun b : ByteArray => b.data.toList) h))
    generalize (⟨(pinT n i t r p).toArray⟩ : ByteArray) = T at *
    replace hs := Lib.hid hs
    clear yes no hT
    go_wp2_with (first
      | (with_reducible refine load_row rfl 25 (.tmp 7) rfl w3.heap.size rfl 5 _ Tryd.underlying25 rfl pins_size KP.out rfl ?_)
      | (go_at_call 7; (with_reducible refine (hs.out _).mono ?_); rintro e w5 ⟨rfl, hb5⟩; refine Hid.out ?_))
    have K5 := Lib.hid (blk_below K4.out hb5)
    have B5 := Lib.hid (below_then B4.out hb5)
    clear hb5 KP K4 B4 hs
    refine Lib.hid ?_
    go_wp2_with (first
      | (with_reducible refine store_row rfl 25 (.tmp 2) (.tmp 30) rfl w.heap.size _ rfl rfl 5 pins_size K5.out rfl rfl rfl ?_))
    exact row_tmp_post rfl rfl rfl Tryd.underlying25 rfl pins_size rfl (setRow_heap _ _ _ _ _ _ K5.out) rfl (rp_post hok.out (below_row B5.out (Nat.le_refl _)))
end Go.Proofs.YtboeaeoefoabdaaDoor
