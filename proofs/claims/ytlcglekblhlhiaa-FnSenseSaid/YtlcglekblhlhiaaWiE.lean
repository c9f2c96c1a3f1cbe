/-
  The walks of the draws of chapter 7: wires, and what Sense, Take, Taken and Vector are asked for; old memory stays as it was.
  Conditions: the draw has at most 1048576 bytes.
-/
import Derived.Test.YtlcglekblhlhiaaWiA
import Derived.Test.YtlcglekblhlhiaaRow
import Derived.Test.YtlcglekblhlhiaaDsA
import Derived.Test.YtlcglekblhlhiaaKee
import Derived.Deep.RegionHeld3
namespace Go.Proofs.Ytlcglekblhlhiaa
open Go.RowKit
def WiresPost (g : Nat) (A : Option Addr) (n c : Nat) (w : World) (e : Ending) (w' : World) : Prop :=
  ∃ a b d : Bool, e = .returned (wiresV a b d) ∧ Cur w' g A n c ∧ w.grownBy w' (some g)
def zero3 : Obj := .cells #[.bool false, .bool false, .bool false] 25
theorem cells3 {w : World} {b : Nat} {t : TypeId} {x0 x1 x2 : Value} (h : w.heap[b]? = some (.cells #[x0, x1, x2] t (0, 0))) :
    w.cell? ⟨b, 0, none⟩ = some x0 ∧ w.cell? ⟨b, 1, none⟩ = some x1 ∧ w.cell? ⟨b, 2, none⟩ = some x2 ∧ ∀ i, w.frozen? ⟨b, i, none⟩ = false :=
  ⟨cell_of_blk h rfl, cell_of_blk h rfl, cell_of_blk h rfl, fun _ => free_of_blk h⟩
theorem set3 {w : World} {b : Nat} (h : w.heap[b]? = some zero3) (x0 x1 x2 : Value) :
    (((w.setCell ⟨b, 0, none⟩ x0).setCell ⟨b, 1, none⟩ x1).setCell ⟨b, 2, none⟩ x2).heap[b]? = some (.cells #[x0, x1, x2] 25 (0, 0)) := by
  have e := row_set (i := 2) (v := x2) (row_set (i := 1) (v := x1) (row_set (i := 0) (v := x0) h))
  simp only [List.setIfInBounds_toArray, List.set_cons_zero, List.set_cons_succ] at e
  exact e
theorem l07Make_any {B g n c : Nat} {A : Option Addr} {w : World} (h : Drawn B g n c A w) :
    Calls Try.prog 25 #[.pointer (some ⟨g, 0, none⟩)] w (WiresPost g A n c w) := by
  have hi := Lib.hid wires_size
  have hb0 : Below w.heap.size w (w.alloc zero3) := (Below.refl _ _).alloc (Nat.le_refl _) _
  have H := Lib.hid (h.below hb0)
  have K := Lib.hid (blk_new w zero3)
  have G := Lib.hid (grown_of_below (g := g) hb0)
  have hne : w.heap.size ≠ g := by have := h.cur.lt; omega
  clear h hb0
  have hy := l01Once_any H.out 2 (by omega) (by omega)
  unfold zero3 at hy
  go_enter Try.func25, Try.ntmps25
  go_wp2_with (go_at_call 26; refine hy.mono ?_; rintro e w1 ⟨a, rfl, hc, hg⟩; refine Hid.out ?_)
  have H := Lib.hid (H.out.next hc hg)
  have K := Lib.hid (blk_grown K.out hg hne)
  have G := Lib.hid (grown_trans G.out hg)
  clear hc hg hy
  have hy := l01Once_any H.out 3 (by omega) (by omega)
  refine Lib.hid ?_
  go_wp2_with (go_at_call 26; refine hy.mono ?_; rintro e w2 ⟨b, rfl, hc, hg⟩; refine Hid.out ?_)
  have H := Lib.hid (H.out.next hc hg)
  have K := Lib.hid (blk_grown K.out hg hne)
  have G := Lib.hid (grown_trans G.out hg)
  clear hc hg hy
  have hy := l01Once_any H.out 2 (by omega) (by omega)
  refine Lib.hid ?_
  go_wp2_with (go_at_call 26; refine hy.mono ?_; rintro e w3 ⟨d, rfl, hc, hg⟩; refine Hid.out ?_)
  have H := Lib.hid (H.out.next hc hg)
  have K := Lib.hid (blk_grown K.out hg hne)
  have G := Lib.hid (grown_trans G.out hg)
  clear hc hg hy
  have kk := K.out
  unfold zero3 at kk
  have K1 := Lib.hid kk
  clear kk K
  refine Lib.hid ?_
  go_wp2_with (refine store_row rfl 25 (.tmp 2) _ rfl w.heap.size _ rfl rfl 3 hi.out K1.out rfl rfl (by rfl) ?_)
  (try simp only [Exit.inBlock, Exit.then])
  have hend := row_end K1.out H.out.cur G.out hne #[.bool a, .bool b, .bool d]
  exact row_post rfl rfl Try.underlying25 rfl wires_size rfl rfl K1.out ⟨a, b, d, rfl, hend.2.1, hend.2.2⟩
def DrawWires (w : World) (e : Ending) (w' : World) : Prop := ∃ a b d : Bool, e = .returned (wiresV a b d) ∧ Below w.heap.size w w'
def DrawWires1 (w : World) (e : Ending) (w' : World) : Prop := ∃ (a b d : Bool) (p : Int), e = .returned (.tuple #[wiresV a b d, .int .i64 p]) ∧ Below w.heap.size w w'
def DrawWires2 (w : World) (e : Ending) (w' : World) : Prop := ∃ a b d x y : Bool, e = .returned (.tuple #[wiresV a b d, .bool x, .bool y]) ∧ Below w.heap.size w w'
theorem drawVector_any (B n c : Nat) (A : Option Addr) (w : World) (hB : B ≤ w.heap.size) (hcode : Code w B A n) :
    Calls Try.prog 14 #[.slice A n c] w fun e w' => ∃ x : Int, e = .returned (.int .i64 x) ∧ Below w.heap.size w w' := by
  have hN := l01New_any B n c A w hcode
  have HD := fun (w1 : World) hc hb => new_drawn (c := c) (w1 := w1) hB hcode hc hb
  clear hcode
  unfold NewPost at hN
  go_enter Try.func14, Try.ntmps14
  go_wp2_with (go_at_call 24; refine hN.mono ?_; rintro e w1 ⟨rfl, hc, hb⟩; refine Hid.out ?_)
  have hD := HD w1 hc hb
  have hP := l01Below_any hD 7 (by omega) (by omega)
  clear hN HD hc hD
  refine Lib.hid ?_
  go_wp2_with (go_at_call 31; refine hP.mono ?_; rintro e w2 ⟨p, rfl, p0, p1, hc, hg2⟩)
  go_ret
  exact ⟨_, rfl, hb.grown hg2 hb.size (fun k hk => by cases hk; exact Nat.le_refl _)⟩
set_option maxRecDepth 100000 in
set_option maxHeartbeats 1000000 in
theorem drawTaken_any (B n c : Nat) (A : Option Addr) (w : World) (hB : B ≤ w.heap.size) (hcode : Code w B A n) :
    Calls Try.prog 13 #[.slice A n c] w (DrawWires w) := by
  have hi := Lib.hid wires_size
  have hb0 : Below w.heap.size w (w.alloc zero3) := (Below.refl _ _).alloc (Nat.le_refl _) _
  have hcode0 := hcode.below hB hb0
  have hN := l01New_any B n c A (w.alloc zero3) hcode0
  have HD := fun (w1 : World) hc hb => new_drawn (c := c) (w1 := w1) (Nat.le_trans hB hb0.size) hcode0 hc hb
  have K0 := Lib.hid (blk_new w zero3)
  have hg0 := grown_of_below (g := w.heap.size + 1) hb0
  have hs1 : (w.alloc zero3).heap.size = w.heap.size + 1 := by simp
  rw [hs1] at HD
  unfold NewPost at hN
  rw [hs1] at hN
  have hs0 := Lib.hid hs1
  unfold zero3 at hN HD
  have G0 := Lib.hid hg0
  clear hcode hcode0 hb0 hg0 hs1
  unfold DrawWires
  go_enter Try.func13, Try.ntmps13
  go_wp2_with (go_at_call 24; refine hN.mono ?_; rintro e w1 ⟨rfl, hc, hb⟩; refine Hid.out ?_)
  have hb1 : Below (w.alloc zero3).heap.size (w.alloc zero3) w1 := by rw [hs0.out]; exact hb
  have hD := HD w1 hc hb
  have hy := l07Make_any hD
  have K1 := Lib.hid (blk_below K0.out hb1)
  have G1 := Lib.hid (grown_below G0.out hb1)
  have hz : w.heap.size < w1.heap.size := (Array.getElem?_eq_some_iff.1 K1.out).1
  unfold WiresPost at hy
  clear hN HD hc hb K0 G0 hb1 hs0
  refine Lib.hid ?_
  go_wp2_with (go_at_call 25; refine hy.mono ?_; rintro e w2 ⟨a, b, d, rfl, hc, hg⟩; refine Hid.out ?_)
  rw [wiresV_mk]
  have K2 := Lib.hid (blk_grown K1.out hg (by omega))
  have G2 := Lib.hid (grown_trans G1.out hg)
  clear K1 G1 hg hy hD
  refine Lib.hid ?_
  go_wp2_with (refine store_row rfl 25 (.tmp 2) _ rfl w.heap.size _ rfl rfl 3 hi.out K2.out rfl rfl (by rfl) ?_)
  (try simp only [Exit.inBlock, Exit.then])
  have hend := row_end K2.out hc G2.out (by omega) #[.bool a, .bool b, .bool d]
  exact row_post rfl rfl Try.underlying25 rfl wires_size rfl rfl K2.out ⟨a, b, d, rfl, below_grown' hend.2.2 (Nat.le_refl _) (by omega)⟩
set_option maxRecDepth 100000 in
set_option maxHeartbeats 1000000 in
theorem drawTake_any (B n c : Nat) (A : Option Addr) (w : World) (hB : B ≤ w.heap.size) (hcode : Code w B A n) :
    Calls Try.prog 12 #[.slice A n c] w (DrawWires1 w) := by
  have hi := Lib.hid wires_size
  have hb0 : Below w.heap.size w (w.alloc zero3) := (Below.refl _ _).alloc (Nat.le_refl _) _
  have hcode0 := hcode.below hB hb0
  have hN := l01New_any B n c A (w.alloc zero3) hcode0
  have HD := fun (w1 : World) hc hb => new_drawn (c := c) (w1 := w1) (Nat.le_trans hB hb0.size) hcode0 hc hb
  have K0 := Lib.hid (blk_new w zero3)
  have hg0 := grown_of_below (g := w.heap.size + 1) hb0
  have hs1 : (w.alloc zero3).heap.size = w.heap.size + 1 := by simp
  rw [hs1] at HD
  unfold NewPost at hN
  rw [hs1] at hN
  have hs0 := Lib.hid hs1
  unfold zero3 at hN HD
  have G0 := Lib.hid hg0
  clear hcode hcode0 hb0 hg0 hs1
  unfold DrawWires1
  go_enter Try.func12, Try.ntmps12
  go_wp2_with (go_at_call 24; refine hN.mono ?_; rintro e w1 ⟨rfl, hc, hb⟩; refine Hid.out ?_)
  have hb1 : Below (w.alloc zero3).heap.size (w.alloc zero3) w1 := by rw [hs0.out]; exact hb
  have hD := HD w1 hc hb
  have hy := l07Make_any hD
  have K1 := Lib.hid (blk_below K0.out hb1)
  have G1 := Lib.hid (grown_below G0.out hb1)
  have hz : w.heap.size < w1.heap.size := (Array.getElem?_eq_some_iff.1 K1.out).1
  unfold WiresPost at hy
  clear hN HD hc hb K0 G0 hb1 hs0
  refine Lib.hid ?_
  go_wp2_with (go_at_call 25; refine hy.mono ?_; rintro e w2 ⟨a, b, d, rfl, hc, hg⟩; refine Hid.out ?_)
  rw [wiresV_mk]
  have H2 := hD.next hc hg
  have K2 := blk_grown K1.out hg (by omega)
  have G2 := grown_trans G1.out hg
  have hz2 : w.heap.size < w2.heap.size := (Array.getElem?_eq_some_iff.1 K2).1
  have hgl2 : w.heap.size + 1 < w2.heap.size := H2.cur.lt
  have hbV : Below w2.heap.size w2 (w2.alloc (.cells #[.bool a, .bool b, .bool d] 25)) := (Below.refl _ _).alloc (Nat.le_refl _) _
  have HV := Lib.hid (blk_new w2 (.cells #[.bool a, .bool b, .bool d] 25))
  have HR := Lib.hid (blk_below K2 hbV)
  have H3 := Lib.hid (H2.below hbV)
  have G3 := Lib.hid (grown_below G2 hbV)
  clear K1 G1 hg hc hD H2 K2 G2 hbV hy
  have hy := l02Odd_any H3.out.drew
  have v0 : (w2.alloc (.cells #[.bool a, .bool b, .bool d] 25)).cell? ⟨w2.heap.size, 0, none⟩ = some (.bool a) := cell_of_blk HV.out rfl
  have v1 : (w2.alloc (.cells #[.bool a, .bool b, .bool d] 25)).cell? ⟨w2.heap.size, 1, none⟩ = some (.bool b) := cell_of_blk HV.out rfl
  have v2 : (w2.alloc (.cells #[.bool a, .bool b, .bool d] 25)).cell? ⟨w2.heap.size, 2, none⟩ = some (.bool d) := cell_of_blk HV.out rfl
  generalize hW : w2.alloc (.cells #[.bool a, .bool b, .bool d] 25) = w3 at hy HV HR H3 G3 v0 v1 v2
  have HW := Lib.hid hW
  clear hW
  refine Lib.hid ?_
  go_wp2_with (fail)
  rw [HW.out]
  go_region_held3 (fun w' => ∀ i, w'.cell? ⟨w2.heap.size, i, none⟩ = w3.cell? ⟨w2.heap.size, i, none⟩)
    ((intro i; first | with_reducible exact cell_drew _ _ | ((repeat (with_reducible refine far_step ?_ (by omega))); exact kept_cell HV.out hg (by omega) i)))
    ((go_at_call 30; refine hy.mono ?_; rintro e w4 ⟨v, rfl, va, vb, hc, hg⟩; obtain ⟨b0, b1, b2, bz⟩ := cells3 (blk_grown (w := w3.drew) HR.out hg (by omega))))
  have R5 := blk_grown (w := w3.drew) HR.out hg (by omega)
  have G5 := Lib.hid (grown_trans G3.out (grown_drew hg))
  clear v0 v1 v2 b0 b1 b2 bz
  simp only [Exit.then]
  go_step
  go_step
  (try simp only [Exit.inBlock, Exit.then])
  have hgg := set3 R5 (.bool a) (.bool b) (.bool d)
  refine row_tmp_post (cs := #[.bool a, .bool b, .bool d]) rfl rfl rfl Try.underlying25 rfl wires_size rfl hgg rfl ⟨a, b, d, v, rfl, ?_⟩
  repeat (first | apply below_put (hb := Nat.le_refl _) | exact below_grown' G5.out (Nat.le_refl _) (by omega))
set_option maxRecDepth 100000 in
set_option maxHeartbeats 1000000 in
theorem drawSense_any (B n c : Nat) (A : Option Addr) (w : World) (hB : B ≤ w.heap.size) (hcode : Code w B A n) :
    Calls Try.prog 10 #[.slice A n c] w (DrawWires2 w) := by
  have hi := Lib.hid wires_size
  have hb0 : Below w.heap.size w (w.alloc zero3) := (Below.refl _ _).alloc (Nat.le_refl _) _
  have hcode0 := hcode.below hB hb0
  have hN := l01New_any B n c A (w.alloc zero3) hcode0
  have HD := fun (w1 : World) hc hb => new_drawn (c := c) (w1 := w1) (Nat.le_trans hB hb0.size) hcode0 hc hb
  have K0 := Lib.hid (blk_new w zero3)
  have hg0 := grown_of_below (g := w.heap.size + 1) hb0
  have hs1 : (w.alloc zero3).heap.size = w.heap.size + 1 := by simp
  rw [hs1] at HD
  unfold NewPost at hN
  rw [hs1] at hN
  have hs0 := Lib.hid hs1
  unfold zero3 at hN HD
  have G0 := Lib.hid hg0
  clear hcode hcode0 hb0 hg0 hs1
  unfold DrawWires2
  go_enter Try.func10, Try.ntmps10
  go_wp2_with (go_at_call 24; refine hN.mono ?_; rintro e w1 ⟨rfl, hc, hb⟩; refine Hid.out ?_)
  have hb1 : Below (w.alloc zero3).heap.size (w.alloc zero3) w1 := by rw [hs0.out]; exact hb
  have hD := HD w1 hc hb
  have hy := l07Make_any hD
  have K1 := Lib.hid (blk_below K0.out hb1)
  have G1 := Lib.hid (grown_below G0.out hb1)
  have hz : w.heap.size < w1.heap.size := (Array.getElem?_eq_some_iff.1 K1.out).1
  unfold WiresPost at hy
  clear hN HD hc hb K0 G0 hb1 hs0
  refine Lib.hid ?_
  go_wp2_with (go_at_call 25; refine hy.mono ?_; rintro e w2 ⟨a, b, d, rfl, hc, hg⟩; refine Hid.out ?_)
  rw [wiresV_mk]
  have H2 := hD.next hc hg
  have K2 := blk_grown K1.out hg (by omega)
  have G2 := grown_trans G1.out hg
  have hz2 : w.heap.size < w2.heap.size := (Array.getElem?_eq_some_iff.1 K2).1
  have hgl2 : w.heap.size + 1 < w2.heap.size := H2.cur.lt
  have hbV : Below w2.heap.size w2 (w2.alloc (.cells #[.bool a, .bool b, .bool d] 25)) := (Below.refl _ _).alloc (Nat.le_refl _) _
  have HV := Lib.hid (blk_new w2 (.cells #[.bool a, .bool b, .bool d] 25))
  have HR := Lib.hid (blk_below K2 hbV)
  have H3 := Lib.hid (H2.below hbV)
  have G3 := Lib.hid (grown_below G2 hbV)
  clear K1 G1 hg hc hD H2 K2 G2 hbV hy
  have hy := l01Once_any H3.out 2 (by omega) (by omega)
  refine Lib.hid ?_
  go_wp2_with (go_at_call 26; refine hy.mono ?_; rintro e w3 ⟨x, rfl, hc, hg⟩; refine Hid.out ?_)
  obtain ⟨H4, V4, R4, G4⟩ := make_two H3.out HV.out HR.out G3.out (by omega) (by omega) hc hg
  have HR4 := Lib.hid R4
  have HV4 := Lib.hid V4
  have HG4 := Lib.hid G4
  have hy := l01Once_any H4.drew 2 (by omega) (by omega)
  obtain ⟨v0, v1, v2, vz⟩ := cells3 V4
  clear hc hg H4 V4 R4 G4 HV HR G3 H3 vz
  refine Lib.hid ?_
  go_wp2_with (fail)
  go_region_held3 (fun w' => ∀ i, w'.cell? ⟨w2.heap.size, i, none⟩ = w3.cell? ⟨w2.heap.size, i, none⟩)
    ((intro i; first | with_reducible exact cell_drew _ _ | ((repeat (with_reducible refine far_step ?_ (by omega))); exact kept_cell HV4.out hg (by omega) i)))
    ((go_at_call 26; refine hy.mono ?_; rintro e w4 ⟨v, rfl, hc, hg⟩; obtain ⟨b0, b1, b2, bz⟩ := cells3 (blk_grown (w := w3.drew) HR4.out hg (by omega))))
  have R5 := blk_grown (w := w3.drew) HR4.out hg (by omega)
  have G5 := Lib.hid (grown_trans HG4.out (grown_drew hg))
  clear v0 v1 v2 b0 b1 b2 bz
  simp only [Exit.then]
  go_step
  go_step
  (try simp only [Exit.inBlock, Exit.then])
  have hgg := set3 R5 (.bool a) (.bool b) (.bool d)
  refine row_tmps_post (cs := #[.bool a, .bool b, .bool d]) rfl rfl rfl rfl Try.underlying25 rfl wires_size rfl hgg rfl ⟨a, b, d, x, v, rfl, ?_⟩
  repeat (first | apply below_put (hb := Nat.le_refl _) | exact below_grown' G5.out (Nat.le_refl _) (by omega))
end Go.Proofs.Ytlcglekblhlhiaa
