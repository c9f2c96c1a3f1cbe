/-
  The walks of the draws of chapter 8: what Owner, Spend, Copied, ReadKeeper and WriteKeeper are asked for; old memory stays as it was.
  Conditions: the draw has at most 1048576 bytes.
-/
import Derived.Test.YtcnajmmpijhniaaKpM
import Derived.Test.YtcnajmmpijhniaaKee
import Derived.Deep.RegionHeld3
namespace Go.Proofs.Ytcnajmmpijhniaa
open Go.RowKit
theorem cells7 {w : World} {b : Nat} {t : TypeId} {x0 x1 x2 x3 x4 x5 x6 : Value} (h : w.heap[b]? = some (.cells #[x0, x1, x2, x3, x4, x5, x6] t (0, 0))) :
    w.cell? ⟨b, 0, none⟩ = some x0 ∧ w.cell? ⟨b, 1, none⟩ = some x1 ∧ w.cell? ⟨b, 2, none⟩ = some x2 ∧ w.cell? ⟨b, 3, none⟩ = some x3 ∧ w.cell? ⟨b, 4, none⟩ = some x4 ∧ w.cell? ⟨b, 5, none⟩ = some x5 ∧
    w.cell? ⟨b, 6, none⟩ = some x6 ∧ ∀ i, w.frozen? ⟨b, i, none⟩ = false :=
  ⟨cell_of_blk h rfl, cell_of_blk h rfl, cell_of_blk h rfl, cell_of_blk h rfl, cell_of_blk h rfl, cell_of_blk h rfl, cell_of_blk h rfl, fun _ => free_of_blk h⟩
theorem set7 {w : World} {b : Nat} (h : w.heap[b]? = some zero7) (x0 x1 x2 x3 x4 x5 x6 : Value) :
    (((((((w.setCell ⟨b, 0, none⟩ x0).setCell ⟨b, 1, none⟩ x1).setCell ⟨b, 2, none⟩ x2).setCell ⟨b, 3, none⟩ x3).setCell ⟨b, 4, none⟩ x4).setCell ⟨b, 5, none⟩ x5).setCell ⟨b, 6, none⟩ x6).heap[b]? = some (.cells #[x0, x1, x2, x3, x4, x5, x6] 25 (0, 0)) := by
  have e := row_set (i := 6) (v := x6) (row_set (i := 5) (v := x5) (row_set (i := 4) (v := x4) (row_set (i := 3) (v := x3) (row_set (i := 2) (v := x2) (row_set (i := 1) (v := x1) (row_set (i := 0) (v := x0) h))))))
  simp only [List.setIfInBounds_toArray, List.set_cons_zero, List.set_cons_succ] at e
  exact e
def DrawKeep1 (w : World) (e : Ending) (w' : World) : Prop := ∃ (x : KeepI) (p : Int), e = .returned (.tuple #[keepV x, .int .i64 p]) ∧ Below w.heap.size w w'
def DrawKeep2 (w : World) (e : Ending) (w' : World) : Prop := ∃ (x : KeepI) (r p : Int), e = .returned (.tuple #[keepV x, .int .i64 r, .int .i64 p]) ∧ Below w.heap.size w w'
def DrawKeepB (w : World) (e : Ending) (w' : World) : Prop := ∃ (x : KeepI) (r p : Bool), e = .returned (.tuple #[keepV x, .bool r, .bool p]) ∧ Below w.heap.size w w'
set_option maxRecDepth 100000 in
set_option maxHeartbeats 4000000 in
theorem drawOwner_any (B n c : Nat) (A : Option Addr) (w : World) (hB : B ≤ w.heap.size) (hcode : Code w B A n) :
    Calls Try.prog 14 #[.slice A n c] w (DrawKeepB w) := by
  have hi := Lib.hid keep_size
  have hb0 : Below w.heap.size w (w.alloc zero7) := (Below.refl _ _).alloc (Nat.le_refl _) _
  have hcode0 := hcode.below hB hb0
  have hN := l01New_any B n c A (w.alloc zero7) hcode0
  have HD := fun (w1 : World) hc hb => new_drawn (c := c) (w1 := w1) (Nat.le_trans hB hb0.size) hcode0 hc hb
  have K0 := Lib.hid (blk_new w zero7)
  have hg0 := grown_of_below (g := w.heap.size + 1) hb0
  have hs1 : (w.alloc zero7).heap.size = w.heap.size + 1 := by simp
  rw [hs1] at HD
  unfold NewPost at hN
  rw [hs1] at hN
  have hs0 := Lib.hid hs1
  unfold zero7 at hN HD
  have G0 := Lib.hid hg0
  clear hcode hcode0 hb0 hg0 hs1
  unfold DrawKeepB
  go_enter Try.func14, Try.ntmps14
  go_wp2_with (go_at_call 34; refine hN.mono ?_; rintro e w1 ⟨rfl, hc, hb⟩; refine Hid.out ?_)
  have hb1 : Below (w.alloc zero7).heap.size (w.alloc zero7) w1 := by rw [hs0.out]; exact hb
  have hD := HD w1 hc hb
  have hy := l08Odd_any hD
  have K1 := Lib.hid (blk_below K0.out hb1)
  have G1 := Lib.hid (grown_below G0.out hb1)
  have hz : w.heap.size < w1.heap.size := (Array.getElem?_eq_some_iff.1 K1.out).1
  unfold KeepPost at hy
  clear hN HD hc hb K0 G0 hb1 hs0
  refine Lib.hid ?_
  go_wp2_with (go_at_call 35; refine hy.mono ?_; rintro e w2 ⟨⟨ws, bu, wl, bl, ad, lf, sm⟩, rfl, hc, hg⟩; refine Hid.out ?_)
  rw [keepV_mk]
  have H2 := hD.next hc hg
  have K2 := blk_grown K1.out hg (by omega)
  have G2 := grown_trans G1.out hg
  have hz2 : w.heap.size < w2.heap.size := (Array.getElem?_eq_some_iff.1 K2).1
  have hgl2 : w.heap.size + 1 < w2.heap.size := H2.cur.lt
  have hbV : Below w2.heap.size w2 (w2.alloc (.cells #[.int .i64 ws, .int .i64 bu, .int .i64 wl, .int .i64 bl, .int .i64 ad, .int .i64 lf, .int .i64 sm] 25)) := (Below.refl _ _).alloc (Nat.le_refl _) _
  have HV := Lib.hid (blk_new w2 (.cells #[.int .i64 ws, .int .i64 bu, .int .i64 wl, .int .i64 bl, .int .i64 ad, .int .i64 lf, .int .i64 sm] 25))
  have HR := Lib.hid (blk_below K2 hbV)
  have H3 := Lib.hid (H2.below hbV)
  have G3 := Lib.hid (grown_below G2 hbV)
  clear K1 G1 hg hc hD H2 K2 G2 hbV hy
  have hy := l01Once_any H3.out 2 (by omega) (by omega)
  refine Lib.hid ?_
  go_wp2_with (go_at_call 36; refine hy.mono ?_; rintro e w3 ⟨a, rfl, hc, hg⟩; refine Hid.out ?_)
  obtain ⟨H4, V4, R4, G4⟩ := make_two H3.out HV.out HR.out G3.out (by omega) (by omega) hc hg
  have HV4 := Lib.hid V4
  have HR4 := Lib.hid R4
  have HG4 := Lib.hid G4
  have HH4 := Lib.hid H4
  clear hc hg H4 V4 R4 G4 HV HR G3 H3 hy
  have hy := l01Below_any HH4.out.drew 4 (by omega) (by omega)
  obtain ⟨a0, a1, a2, a3, a4, a5, a6, az⟩ := cells7 HV4.out
  refine Lib.hid ?_
  go_wp2_with (fail)
  go_region_held3 (fun w' => ∀ i, w'.cell? ⟨w2.heap.size, i, none⟩ = w3.cell? ⟨w2.heap.size, i, none⟩)
    ((intro i; first | with_reducible exact cell_drew _ _ | ((repeat (with_reducible refine far_step ?_ (by omega))); exact kept_cell HV4.out hg (by omega) i)))
    ((go_at_call 37; refine hy.mono ?_; rintro e w4 ⟨v, rfl, va, vb, hc, hg⟩; obtain ⟨b0, b1, b2, b3, b4, b5, b6, bz⟩ := cells7 (blk_grown (w := w3.drew) HR4.out hg (by omega))))
  have R5 := Lib.hid (blk_grown (w := w3.drew) HR4.out hg (by omega))
  have G5 := Lib.hid (grown_trans HG4.out (grown_drew hg))
  clear az a0 a1 a2 a3 a4 a5 a6 bz b0 b1 b2 b3 b4 b5 b6
  simp only [Exit.then]
  go_step
  go_step
  (try simp only [Exit.inBlock, Exit.then])
  have hgg := set7 R5.out (.int .i64 ws) (.int .i64 bu) (.int .i64 wl) (.int .i64 bl) (.int .i64 ad) (.int .i64 lf) (.int .i64 sm)
  refine row_tmps_post (cs := #[.int .i64 ws, .int .i64 bu, .int .i64 wl, .int .i64 bl, .int .i64 ad, .int .i64 lf, .int .i64 sm]) rfl rfl rfl rfl Try.underlying25 rfl keep_size rfl hgg rfl ⟨⟨ws, bu, wl, bl, ad, lf, sm⟩, a, decide (0 < v), rfl, ?_⟩
  repeat (first | apply below_put (hb := Nat.le_refl _) | exact below_grown' G5.out (Nat.le_refl _) (by omega))
set_option maxRecDepth 100000 in
set_option maxHeartbeats 4000000 in
theorem drawSpend_any (B n c : Nat) (A : Option Addr) (w : World) (hB : B ≤ w.heap.size) (hcode : Code w B A n) :
    Calls Try.prog 20 #[.slice A n c] w (DrawKeep1 w) := by
  have hi := Lib.hid keep_size
  have hb0 : Below w.heap.size w (w.alloc zero7) := (Below.refl _ _).alloc (Nat.le_refl _) _
  have hcode0 := hcode.below hB hb0
  have hN := l01New_any B n c A (w.alloc zero7) hcode0
  have HD := fun (w1 : World) hc hb => new_drawn (c := c) (w1 := w1) (Nat.le_trans hB hb0.size) hcode0 hc hb
  have K0 := Lib.hid (blk_new w zero7)
  have hg0 := grown_of_below (g := w.heap.size + 1) hb0
  have hs1 : (w.alloc zero7).heap.size = w.heap.size + 1 := by simp
  rw [hs1] at HD
  unfold NewPost at hN
  rw [hs1] at hN
  have hs0 := Lib.hid hs1
  unfold zero7 at hN HD
  have G0 := Lib.hid hg0
  clear hcode hcode0 hb0 hg0 hs1
  unfold DrawKeep1
  go_enter Try.func20, Try.ntmps20
  go_wp2_with (go_at_call 34; refine hN.mono ?_; rintro e w1 ⟨rfl, hc, hb⟩; refine Hid.out ?_)
  have hb1 : Below (w.alloc zero7).heap.size (w.alloc zero7) w1 := by rw [hs0.out]; exact hb
  have hD := HD w1 hc hb
  have hy := l08Odd_any hD
  have K1 := Lib.hid (blk_below K0.out hb1)
  have G1 := Lib.hid (grown_below G0.out hb1)
  have hz : w.heap.size < w1.heap.size := (Array.getElem?_eq_some_iff.1 K1.out).1
  unfold KeepPost at hy
  clear hN HD hc hb K0 G0 hb1 hs0
  refine Lib.hid ?_
  go_wp2_with (go_at_call 35; refine hy.mono ?_; rintro e w2 ⟨⟨ws, bu, wl, bl, ad, lf, sm⟩, rfl, hc, hg⟩; refine Hid.out ?_)
  rw [keepV_mk]
  have H2 := hD.next hc hg
  have K2 := blk_grown K1.out hg (by omega)
  have G2 := grown_trans G1.out hg
  have hz2 : w.heap.size < w2.heap.size := (Array.getElem?_eq_some_iff.1 K2).1
  have hgl2 : w.heap.size + 1 < w2.heap.size := H2.cur.lt
  have hbV : Below w2.heap.size w2 (w2.alloc (.cells #[.int .i64 ws, .int .i64 bu, .int .i64 wl, .int .i64 bl, .int .i64 ad, .int .i64 lf, .int .i64 sm] 25)) := (Below.refl _ _).alloc (Nat.le_refl _) _
  have HV := Lib.hid (blk_new w2 (.cells #[.int .i64 ws, .int .i64 bu, .int .i64 wl, .int .i64 bl, .int .i64 ad, .int .i64 lf, .int .i64 sm] 25))
  have HR := Lib.hid (blk_below K2 hbV)
  have H3 := Lib.hid (H2.below hbV)
  have G3 := Lib.hid (grown_below G2 hbV)
  clear K1 G1 hg hc hD H2 K2 G2 hbV hy
  generalize hW : w2.alloc (.cells #[.int .i64 ws, .int .i64 bu, .int .i64 wl, .int .i64 bl, .int .i64 ad, .int .i64 lf, .int .i64 sm] 25) = w3 at HV HR H3 G3
  have HW := Lib.hid hW
  have HV4 := Lib.hid HV.out
  have HR4 := Lib.hid HR.out
  have HG4 := Lib.hid G3.out
  have HH4 := Lib.hid H3.out
  clear hW HV HR G3 H3
  have hy := l01Below_any HH4.out.drew 5 (by omega) (by omega)
  obtain ⟨a0, a1, a2, a3, a4, a5, a6, az⟩ := cells7 HV4.out
  refine Lib.hid ?_
  go_wp2_with (fail)
  rw [HW.out]
  go_region_held3 (fun w' => ∀ i, w'.cell? ⟨w2.heap.size, i, none⟩ = w3.cell? ⟨w2.heap.size, i, none⟩)
    ((intro i; first | with_reducible exact cell_drew _ _ | ((repeat (with_reducible refine far_step ?_ (by omega))); exact kept_cell HV4.out hg (by omega) i)))
    ((go_at_call 37; refine hy.mono ?_; rintro e w4 ⟨v, rfl, va, vb, hc, hg⟩; obtain ⟨b0, b1, b2, b3, b4, b5, b6, bz⟩ := cells7 (blk_grown (w := w3.drew) HR4.out hg (by omega))))
  have R5 := Lib.hid (blk_grown (w := w3.drew) HR4.out hg (by omega))
  have G5 := Lib.hid (grown_trans HG4.out (grown_drew hg))
  clear az a0 a1 a2 a3 a4 a5 a6 bz b0 b1 b2 b3 b4 b5 b6
  simp only [Exit.then]
  go_step
  go_step
  (try simp only [Exit.inBlock, Exit.then])
  have hgg := set7 R5.out (.int .i64 ws) (.int .i64 bu) (.int .i64 wl) (.int .i64 bl) (.int .i64 ad) (.int .i64 lf) (.int .i64 sm)
  refine row_tmp_post (cs := #[.int .i64 ws, .int .i64 bu, .int .i64 wl, .int .i64 bl, .int .i64 ad, .int .i64 lf, .int .i64 sm]) rfl rfl rfl Try.underlying25 rfl keep_size rfl hgg rfl ⟨⟨ws, bu, wl, bl, ad, lf, sm⟩, IntKind.i64.wrap (v - 1), rfl, ?_⟩
  repeat (first | apply below_put (hb := Nat.le_refl _) | exact below_grown' G5.out (Nat.le_refl _) (by omega))
set_option maxRecDepth 100000 in
set_option maxHeartbeats 4000000 in
theorem drawCopied_any (B n c : Nat) (A : Option Addr) (w : World) (hB : B ≤ w.heap.size) (hcode : Code w B A n) :
    Calls Try.prog 22 #[.slice A n c] w (DrawKeep1 w) := by
  have hi := Lib.hid keep_size
  have hb0 : Below w.heap.size w (w.alloc zero7) := (Below.refl _ _).alloc (Nat.le_refl _) _
  have hcode0 := hcode.below hB hb0
  have hN := l01New_any B n c A (w.alloc zero7) hcode0
  have HD := fun (w1 : World) hc hb => new_drawn (c := c) (w1 := w1) (Nat.le_trans hB hb0.size) hcode0 hc hb
  have K0 := Lib.hid (blk_new w zero7)
  have hg0 := grown_of_below (g := w.heap.size + 1) hb0
  have hs1 : (w.alloc zero7).heap.size = w.heap.size + 1 := by simp
  rw [hs1] at HD
  unfold NewPost at hN
  rw [hs1] at hN
  have hs0 := Lib.hid hs1
  unfold zero7 at hN HD
  have G0 := Lib.hid hg0
  clear hcode hcode0 hb0 hg0 hs1
  unfold DrawKeep1
  go_enter Try.func22, Try.ntmps22
  go_wp2_with (go_at_call 34; refine hN.mono ?_; rintro e w1 ⟨rfl, hc, hb⟩; refine Hid.out ?_)
  have hb1 : Below (w.alloc zero7).heap.size (w.alloc zero7) w1 := by rw [hs0.out]; exact hb
  have hD := HD w1 hc hb
  have hy := l08Odd_any hD
  have K1 := Lib.hid (blk_below K0.out hb1)
  have G1 := Lib.hid (grown_below G0.out hb1)
  have hz : w.heap.size < w1.heap.size := (Array.getElem?_eq_some_iff.1 K1.out).1
  unfold KeepPost at hy
  clear hN HD hc hb K0 G0 hb1 hs0
  refine Lib.hid ?_
  go_wp2_with (go_at_call 35; refine hy.mono ?_; rintro e w2 ⟨⟨ws, bu, wl, bl, ad, lf, sm⟩, rfl, hc, hg⟩; refine Hid.out ?_)
  rw [keepV_mk]
  have H2 := hD.next hc hg
  have K2 := blk_grown K1.out hg (by omega)
  have G2 := grown_trans G1.out hg
  have hz2 : w.heap.size < w2.heap.size := (Array.getElem?_eq_some_iff.1 K2).1
  have hgl2 : w.heap.size + 1 < w2.heap.size := H2.cur.lt
  have hbV : Below w2.heap.size w2 (w2.alloc (.cells #[.int .i64 ws, .int .i64 bu, .int .i64 wl, .int .i64 bl, .int .i64 ad, .int .i64 lf, .int .i64 sm] 25)) := (Below.refl _ _).alloc (Nat.le_refl _) _
  have HV := Lib.hid (blk_new w2 (.cells #[.int .i64 ws, .int .i64 bu, .int .i64 wl, .int .i64 bl, .int .i64 ad, .int .i64 lf, .int .i64 sm] 25))
  have HR := Lib.hid (blk_below K2 hbV)
  have H3 := Lib.hid (H2.below hbV)
  have G3 := Lib.hid (grown_below G2 hbV)
  clear K1 G1 hg hc hD H2 K2 G2 hbV hy
  generalize hW : w2.alloc (.cells #[.int .i64 ws, .int .i64 bu, .int .i64 wl, .int .i64 bl, .int .i64 ad, .int .i64 lf, .int .i64 sm] 25) = w3 at HV HR H3 G3
  have HW := Lib.hid hW
  have HV4 := Lib.hid HV.out
  have HR4 := Lib.hid HR.out
  have HG4 := Lib.hid G3.out
  have HH4 := Lib.hid H3.out
  clear hW HV HR G3 H3
  have hy := l02Odd_any HH4.out.drew
  obtain ⟨a0, a1, a2, a3, a4, a5, a6, az⟩ := cells7 HV4.out
  refine Lib.hid ?_
  go_wp2_with (fail)
  rw [HW.out]
  go_region_held3 (fun w' => ∀ i, w'.cell? ⟨w2.heap.size, i, none⟩ = w3.cell? ⟨w2.heap.size, i, none⟩)
    ((intro i; first | with_reducible exact cell_drew _ _ | ((repeat (with_reducible refine far_step ?_ (by omega))); exact kept_cell HV4.out hg (by omega) i)))
    ((go_at_call 47; refine hy.mono ?_; rintro e w4 ⟨v, rfl, va, vb, hc, hg⟩; obtain ⟨b0, b1, b2, b3, b4, b5, b6, bz⟩ := cells7 (blk_grown (w := w3.drew) HR4.out hg (by omega))))
  have R5 := Lib.hid (blk_grown (w := w3.drew) HR4.out hg (by omega))
  have G5 := Lib.hid (grown_trans HG4.out (grown_drew hg))
  clear az a0 a1 a2 a3 a4 a5 a6 bz b0 b1 b2 b3 b4 b5 b6
  simp only [Exit.then]
  go_step
  go_step
  (try simp only [Exit.inBlock, Exit.then])
  have hgg := set7 R5.out (.int .i64 ws) (.int .i64 bu) (.int .i64 wl) (.int .i64 bl) (.int .i64 ad) (.int .i64 lf) (.int .i64 sm)
  refine row_tmp_post (cs := #[.int .i64 ws, .int .i64 bu, .int .i64 wl, .int .i64 bl, .int .i64 ad, .int .i64 lf, .int .i64 sm]) rfl rfl rfl Try.underlying25 rfl keep_size rfl hgg rfl ⟨⟨ws, bu, wl, bl, ad, lf, sm⟩, v, rfl, ?_⟩
  repeat (first | apply below_put (hb := Nat.le_refl _) | exact below_grown' G5.out (Nat.le_refl _) (by omega))
set_option maxRecDepth 100000 in
set_option maxHeartbeats 4000000 in
theorem drawReadK_any (B n c : Nat) (A : Option Addr) (w : World) (hB : B ≤ w.heap.size) (hcode : Code w B A n) :
    Calls Try.prog 28 #[.slice A n c] w (DrawKeep1 w) := by
  have hi := Lib.hid keep_size
  have hb0 : Below w.heap.size w (w.alloc zero7) := (Below.refl _ _).alloc (Nat.le_refl _) _
  have hcode0 := hcode.below hB hb0
  have hN := l01New_any B n c A (w.alloc zero7) hcode0
  have HD := fun (w1 : World) hc hb => new_drawn (c := c) (w1 := w1) (Nat.le_trans hB hb0.size) hcode0 hc hb
  have K0 := Lib.hid (blk_new w zero7)
  have hg0 := grown_of_below (g := w.heap.size + 1) hb0
  have hs1 : (w.alloc zero7).heap.size = w.heap.size + 1 := by simp
  rw [hs1] at HD
  unfold NewPost at hN
  rw [hs1] at hN
  have hs0 := Lib.hid hs1
  unfold zero7 at hN HD
  have G0 := Lib.hid hg0
  clear hcode hcode0 hb0 hg0 hs1
  unfold DrawKeep1
  go_enter Try.func28, Try.ntmps28
  go_wp2_with (go_at_call 34; refine hN.mono ?_; rintro e w1 ⟨rfl, hc, hb⟩; refine Hid.out ?_)
  have hb1 : Below (w.alloc zero7).heap.size (w.alloc zero7) w1 := by rw [hs0.out]; exact hb
  have hD := HD w1 hc hb
  have hy := l08Odd_any hD
  have K1 := Lib.hid (blk_below K0.out hb1)
  have G1 := Lib.hid (grown_below G0.out hb1)
  have hz : w.heap.size < w1.heap.size := (Array.getElem?_eq_some_iff.1 K1.out).1
  unfold KeepPost at hy
  clear hN HD hc hb K0 G0 hb1 hs0
  refine Lib.hid ?_
  go_wp2_with (go_at_call 35; refine hy.mono ?_; rintro e w2 ⟨⟨ws, bu, wl, bl, ad, lf, sm⟩, rfl, hc, hg⟩; refine Hid.out ?_)
  rw [keepV_mk]
  have H2 := hD.next hc hg
  have K2 := blk_grown K1.out hg (by omega)
  have G2 := grown_trans G1.out hg
  have hz2 : w.heap.size < w2.heap.size := (Array.getElem?_eq_some_iff.1 K2).1
  have hgl2 : w.heap.size + 1 < w2.heap.size := H2.cur.lt
  have hbV : Below w2.heap.size w2 (w2.alloc (.cells #[.int .i64 ws, .int .i64 bu, .int .i64 wl, .int .i64 bl, .int .i64 ad, .int .i64 lf, .int .i64 sm] 25)) := (Below.refl _ _).alloc (Nat.le_refl _) _
  have HV := Lib.hid (blk_new w2 (.cells #[.int .i64 ws, .int .i64 bu, .int .i64 wl, .int .i64 bl, .int .i64 ad, .int .i64 lf, .int .i64 sm] 25))
  have HR := Lib.hid (blk_below K2 hbV)
  have H3 := Lib.hid (H2.below hbV)
  have G3 := Lib.hid (grown_below G2 hbV)
  clear K1 G1 hg hc hD H2 K2 G2 hbV hy
  generalize hW : w2.alloc (.cells #[.int .i64 ws, .int .i64 bu, .int .i64 wl, .int .i64 bl, .int .i64 ad, .int .i64 lf, .int .i64 sm] 25) = w3 at HV HR H3 G3
  have HW := Lib.hid hW
  have HV4 := Lib.hid HV.out
  have HR4 := Lib.hid HR.out
  have HG4 := Lib.hid G3.out
  have HH4 := Lib.hid H3.out
  clear hW HV HR G3 H3
  have hy := l06Reg_any HH4.out.drew
  obtain ⟨a0, a1, a2, a3, a4, a5, a6, az⟩ := cells7 HV4.out
  refine Lib.hid ?_
  go_wp2_with (fail)
  rw [HW.out]
  go_region_held3 (fun w' => ∀ i, w'.cell? ⟨w2.heap.size, i, none⟩ = w3.cell? ⟨w2.heap.size, i, none⟩)
    ((intro i; first | with_reducible exact cell_drew _ _ | ((repeat (with_reducible refine far_step ?_ (by omega))); exact kept_cell HV4.out hg (by omega) i)))
    ((go_at_call 48; refine hy.mono ?_; rintro e w4 ⟨v, rfl, va, vb, hc, hg⟩; obtain ⟨b0, b1, b2, b3, b4, b5, b6, bz⟩ := cells7 (blk_grown (w := w3.drew) HR4.out hg (by omega))))
  have R5 := Lib.hid (blk_grown (w := w3.drew) HR4.out hg (by omega))
  have G5 := Lib.hid (grown_trans HG4.out (grown_drew hg))
  clear az a0 a1 a2 a3 a4 a5 a6 bz b0 b1 b2 b3 b4 b5 b6
  simp only [Exit.then]
  go_step
  go_step
  (try simp only [Exit.inBlock, Exit.then])
  have hgg := set7 R5.out (.int .i64 ws) (.int .i64 bu) (.int .i64 wl) (.int .i64 bl) (.int .i64 ad) (.int .i64 lf) (.int .i64 sm)
  refine row_tmp_post (cs := #[.int .i64 ws, .int .i64 bu, .int .i64 wl, .int .i64 bl, .int .i64 ad, .int .i64 lf, .int .i64 sm]) rfl rfl rfl Try.underlying25 rfl keep_size rfl hgg rfl ⟨⟨ws, bu, wl, bl, ad, lf, sm⟩, v, rfl, ?_⟩
  repeat (first | apply below_put (hb := Nat.le_refl _) | exact below_grown' G5.out (Nat.le_refl _) (by omega))
set_option maxRecDepth 100000 in
set_option maxHeartbeats 4000000 in
theorem drawWriteK_any (B n c : Nat) (A : Option Addr) (w : World) (hB : B ≤ w.heap.size) (hcode : Code w B A n) :
    Calls Try.prog 26 #[.slice A n c] w (DrawKeep2 w) := by
  have hi := Lib.hid keep_size
  have hb0 : Below w.heap.size w (w.alloc zero7) := (Below.refl _ _).alloc (Nat.le_refl _) _
  have hcode0 := hcode.below hB hb0
  have hN := l01New_any B n c A (w.alloc zero7) hcode0
  have HD := fun (w1 : World) hc hb => new_drawn (c := c) (w1 := w1) (Nat.le_trans hB hb0.size) hcode0 hc hb
  have K0 := Lib.hid (blk_new w zero7)
  have hg0 := grown_of_below (g := w.heap.size + 1) hb0
  have hs1 : (w.alloc zero7).heap.size = w.heap.size + 1 := by simp
  rw [hs1] at HD
  unfold NewPost at hN
  rw [hs1] at hN
  have hs0 := Lib.hid hs1
  unfold zero7 at hN HD
  have G0 := Lib.hid hg0
  clear hcode hcode0 hb0 hg0 hs1
  unfold DrawKeep2
  go_enter Try.func26, Try.ntmps26
  go_wp2_with (go_at_call 34; refine hN.mono ?_; rintro e w1 ⟨rfl, hc, hb⟩; refine Hid.out ?_)
  have hb1 : Below (w.alloc zero7).heap.size (w.alloc zero7) w1 := by rw [hs0.out]; exact hb
  have hD := HD w1 hc hb
  have hy := l08Odd_any hD
  have K1 := Lib.hid (blk_below K0.out hb1)
  have G1 := Lib.hid (grown_below G0.out hb1)
  have hz : w.heap.size < w1.heap.size := (Array.getElem?_eq_some_iff.1 K1.out).1
  unfold KeepPost at hy
  clear hN HD hc hb K0 G0 hb1 hs0
  refine Lib.hid ?_
  go_wp2_with (go_at_call 35; refine hy.mono ?_; rintro e w2 ⟨⟨ws, bu, wl, bl, ad, lf, sm⟩, rfl, hc, hg⟩; refine Hid.out ?_)
  rw [keepV_mk]
  have H2 := hD.next hc hg
  have K2 := blk_grown K1.out hg (by omega)
  have G2 := grown_trans G1.out hg
  have hz2 : w.heap.size < w2.heap.size := (Array.getElem?_eq_some_iff.1 K2).1
  have hgl2 : w.heap.size + 1 < w2.heap.size := H2.cur.lt
  have hbV : Below w2.heap.size w2 (w2.alloc (.cells #[.int .i64 ws, .int .i64 bu, .int .i64 wl, .int .i64 bl, .int .i64 ad, .int .i64 lf, .int .i64 sm] 25)) := (Below.refl _ _).alloc (Nat.le_refl _) _
  have HV := Lib.hid (blk_new w2 (.cells #[.int .i64 ws, .int .i64 bu, .int .i64 wl, .int .i64 bl, .int .i64 ad, .int .i64 lf, .int .i64 sm] 25))
  have HR := Lib.hid (blk_below K2 hbV)
  have H3 := Lib.hid (H2.below hbV)
  have G3 := Lib.hid (grown_below G2 hbV)
  clear K1 G1 hg hc hD H2 K2 G2 hbV hy
  have hy := l06Reg_any H3.out
  refine Lib.hid ?_
  go_wp2_with (go_at_call 48; refine hy.mono ?_; rintro e w3 ⟨r, rfl, r0, r1, hc, hg⟩; refine Hid.out ?_)
  obtain ⟨H4, V4, R4, G4⟩ := make_two H3.out HV.out HR.out G3.out (by omega) (by omega) hc hg
  have HV4 := Lib.hid V4
  have HR4 := Lib.hid R4
  have HG4 := Lib.hid G4
  have HH4 := Lib.hid H4
  clear hc hg H4 V4 R4 G4 HV HR G3 H3 hy r0 r1
  have hy := l02Odd_any HH4.out.drew
  obtain ⟨a0, a1, a2, a3, a4, a5, a6, az⟩ := cells7 HV4.out
  refine Lib.hid ?_
  go_wp2_with (fail)
  go_region_held3 (fun w' => ∀ i, w'.cell? ⟨w2.heap.size, i, none⟩ = w3.cell? ⟨w2.heap.size, i, none⟩)
    ((intro i; first | with_reducible exact cell_drew _ _ | ((repeat (with_reducible refine far_step ?_ (by omega))); exact kept_cell HV4.out hg (by omega) i)))
    ((go_at_call 47; refine hy.mono ?_; rintro e w4 ⟨v, rfl, va, vb, hc, hg⟩; obtain ⟨b0, b1, b2, b3, b4, b5, b6, bz⟩ := cells7 (blk_grown (w := w3.drew) HR4.out hg (by omega))))
  have R5 := Lib.hid (blk_grown (w := w3.drew) HR4.out hg (by omega))
  have G5 := Lib.hid (grown_trans HG4.out (grown_drew hg))
  clear az a0 a1 a2 a3 a4 a5 a6 bz b0 b1 b2 b3 b4 b5 b6
  simp only [Exit.then]
  go_step
  go_step
  (try simp only [Exit.inBlock, Exit.then])
  have hgg := set7 R5.out (.int .i64 ws) (.int .i64 bu) (.int .i64 wl) (.int .i64 bl) (.int .i64 ad) (.int .i64 lf) (.int .i64 sm)
  refine row_tmps_post (cs := #[.int .i64 ws, .int .i64 bu, .int .i64 wl, .int .i64 bl, .int .i64 ad, .int .i64 lf, .int .i64 sm]) rfl rfl rfl rfl Try.underlying25 rfl keep_size rfl hgg rfl ⟨⟨ws, bu, wl, bl, ad, lf, sm⟩, r, v, rfl, ?_⟩
  repeat (first | apply below_put (hb := Nat.le_refl _) | exact below_grown' G5.out (Nat.le_refl _) (by omega))
end Go.Proofs.Ytcnajmmpijhniaa
