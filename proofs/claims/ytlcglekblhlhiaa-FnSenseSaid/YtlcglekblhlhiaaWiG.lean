/-
  The walk of the law FnSense: it returns true, whatever is drawn.
  Conditions: none.
-/
import Derived.Test.YtlcglekblhlhiaaWiF
import Derived.Test.YtlcglekblhlhiaaWiB
namespace Go.Proofs.Ytlcglekblhlhiaa
open Go.RowKit
theorem held4 {w0 w' : World} (h : Below w0.heap.size w0 w') {b c d f : Nat} (hb : b < w0.heap.size) (hc : c < w0.heap.size) (hd : d < w0.heap.size) (hf : f < w0.heap.size) :
    (∀ i, w'.cell? ⟨b, i, none⟩ = w0.cell? ⟨b, i, none⟩) ∧ (∀ i, w'.cell? ⟨c, i, none⟩ = w0.cell? ⟨c, i, none⟩) ∧ (∀ i, w'.cell? ⟨d, i, none⟩ = w0.cell? ⟨d, i, none⟩) ∧ (∀ i, w'.cell? ⟨f, i, none⟩ = w0.cell? ⟨f, i, none⟩) ∧ Hid (Below w0.heap.size w0 w') :=
  ⟨fun i => h.cell (p := ⟨b, i, none⟩) hb, fun i => h.cell (p := ⟨c, i, none⟩) hc, fun i => h.cell (p := ⟨d, i, none⟩) hd, fun i => h.cell (p := ⟨f, i, none⟩) hf, h⟩
theorem held4_next {w0 wp wq : World} {b c d f : Nat} (hS : (∀ i, wp.cell? ⟨b, i, none⟩ = w0.cell? ⟨b, i, none⟩) ∧ (∀ i, wp.cell? ⟨c, i, none⟩ = w0.cell? ⟨c, i, none⟩) ∧ (∀ i, wp.cell? ⟨d, i, none⟩ = w0.cell? ⟨d, i, none⟩) ∧ (∀ i, wp.cell? ⟨f, i, none⟩ = w0.cell? ⟨f, i, none⟩) ∧ Hid (Below w0.heap.size w0 wp))
    (hq : Below wp.heap.size wp wq) (hb : b < w0.heap.size) (hc : c < w0.heap.size) (hd : d < w0.heap.size) (hf : f < w0.heap.size) :
    (∀ i, wq.cell? ⟨b, i, none⟩ = w0.cell? ⟨b, i, none⟩) ∧ (∀ i, wq.cell? ⟨c, i, none⟩ = w0.cell? ⟨c, i, none⟩) ∧ (∀ i, wq.cell? ⟨d, i, none⟩ = w0.cell? ⟨d, i, none⟩) ∧ (∀ i, wq.cell? ⟨f, i, none⟩ = w0.cell? ⟨f, i, none⟩) ∧ Hid (Below w0.heap.size w0 wq) :=
  held4 (below_then hS.2.2.2.2.out hq) hb hc hd hf
theorem again_none (x : Bool) : senseE x false x = false := by cases x <;> rfl
set_option maxRecDepth 100000 in
set_option maxHeartbeats 4000000 in
theorem sense_law (A : Option Addr) (n c : Nat) (W : World) (hrow : RowB W A n) :
    Calls Try.prog 3 #[.slice A n c] W fun e w' => e = .returned (.bool true) ∧ Below W.heap.size W w' := by
  have hm := hrow.1
  unfold maxLen at hm
  by_cases hbig : 1048576 < n
  · clear hrow
    go_enter Try.func3, Try.ntmps3
    go_wp2_with (go_in)
    go_ret
    exact ⟨rfl, Below.refl _ _⟩
  · have hcode := hrow.code (by omega)
    have HC := Lib.hid hcode
    have hi := Lib.hid wires_size
    have hD := drawSense_any W.heap.size n c A W (Nat.le_refl _) hcode
    unfold DrawWires2 at hD
    clear hrow hcode
    go_enter Try.func3, Try.ntmps3
    go_wp2_with (first
      | (go_at_call 9; go_in)
      | (go_at_call 10; refine hD.mono ?_; rintro e w1 ⟨a, b, d, x, y, rfl, hb1⟩; refine Hid.out ?_))
    clear hD
    have hs := spec_sense a b d x y
    have hp := impl_sense a b d x y
    obtain ⟨q, hq⟩ : ∃ q, q = senseE a b x := ⟨_, rfl⟩
    rw [← hq] at hs hp
    have HQ := Lib.hid hq
    have hg := impl_sense x false y x y
    rw [again_none] at hg
    have ht := impl_taken x q y
    simp only [wiresV_mk] at hs hp hg ht ⊢
    have HS := Lib.hid hs
    have HI := Lib.hid hp
    have HG := Lib.hid hg
    have HM := Lib.hid ht
    clear hs hp hg ht hq
    have J1 := Lib.hid (blk_new w1 (.cells #[.bool a, .bool b, .bool d] 25))
    have B := Lib.hid (below_alloc hb1 (.cells #[.bool a, .bool b, .bool d] 25))
    clear hb1
    refine Lib.hid ?_
    go_wp2_with (first
      | (refine load_row rfl 25 (.tmp 3) rfl w1.heap.size rfl 3 _ Try.underlying25 rfl hi.out J1.out rfl ?_)
      | (go_at_call 11; (with_reducible refine (HI.out _).mono ?_); rintro e w2 ⟨rfl, hb⟩; refine Hid.out ?_))
    have J1 := Lib.hid (blk_old (o := (.cells #[.bool x, .bool q, .bool y] 25)) (blk_below J1.out hb))
    have J2 := Lib.hid (blk_new w2 (.cells #[.bool x, .bool q, .bool y] 25))
    have B := Lib.hid (below_alloc (below_then B.out hb) (.cells #[.bool x, .bool q, .bool y] 25))
    have hD := drawTake_any W.heap.size n c A _ B.out.size (HC.out.below (Nat.le_refl _) B.out)
    unfold DrawWires1 at hD
    clear hb
    refine Lib.hid ?_
    go_wp2_with (go_at_call 12; refine hD.mono ?_; rintro e w3 ⟨ka, kb, kd, p, rfl, hb⟩; refine Hid.out ?_)
    have hs := spec_take ka kb kd p
    have hp := impl_take ka kb kd p
    generalize takeN kb kd p = tk at hs hp
    simp only [wiresV_mk] at hs hp ⊢
    have HTS := Lib.hid hs
    have HTI := Lib.hid hp
    have J1 := Lib.hid (blk_old (o := (.cells #[.bool ka, .bool kb, .bool kd] 25)) (blk_below J1.out hb))
    have J2 := Lib.hid (blk_old (o := (.cells #[.bool ka, .bool kb, .bool kd] 25)) (blk_below J2.out hb))
    have J3 := Lib.hid (blk_new w3 (.cells #[.bool ka, .bool kb, .bool kd] 25))
    have B := Lib.hid (below_alloc (below_then B.out hb) (.cells #[.bool ka, .bool kb, .bool kd] 25))
    clear hs hp hD
    have hD := drawTaken_any W.heap.size n c A _ B.out.size (HC.out.below (Nat.le_refl _) B.out)
    unfold DrawWires at hD
    clear hb
    refine Lib.hid ?_
    go_wp2_with (go_at_call 13; refine hD.mono ?_; rintro e w4 ⟨ta, tb, td, rfl, hb⟩; refine Hid.out ?_)
    have hs := spec_taken ta tb td
    have hp := impl_taken ta tb td
    simp only [wiresV_mk] at hs hp ⊢
    have HNS := Lib.hid hs
    have HNI := Lib.hid hp
    have J1 := Lib.hid (blk_old (o := (.cells #[.bool ta, .bool tb, .bool td] 25)) (blk_below J1.out hb))
    have J2 := Lib.hid (blk_old (o := (.cells #[.bool ta, .bool tb, .bool td] 25)) (blk_below J2.out hb))
    have J3 := Lib.hid (blk_old (o := (.cells #[.bool ta, .bool tb, .bool td] 25)) (blk_below J3.out hb))
    have J4 := Lib.hid (blk_new w4 (.cells #[.bool ta, .bool tb, .bool td] 25))
    have B := Lib.hid (below_alloc (below_then B.out hb) (.cells #[.bool ta, .bool tb, .bool td] 25))
    clear hs hp hD
    have hD := drawVector_any W.heap.size n c A _ B.out.size (HC.out.below (Nat.le_refl _) B.out)
    clear hb HC
    refine Lib.hid ?_
    go_wp2_with (go_at_call 14; refine hD.mono ?_; rintro e w0 ⟨v, rfl, hb⟩; refine Hid.out ?_)
    have hs := spec_vector v
    have hp := impl_vector v
    generalize vecN v = vn at hs hp
    have HVS := Lib.hid hs
    have HVI := Lib.hid hp
    have k1 := blk_below J1.out hb
    have k2 := blk_below J2.out hb
    have k3 := blk_below J3.out hb
    have k4 := blk_below J4.out hb
    have B := Lib.hid (below_then B.out hb)
    clear hs hp hD hb J1 J2 J3 J4
    have lt1 := (Array.getElem?_eq_some_iff.1 k1).1
    have lt2 := (Array.getElem?_eq_some_iff.1 k2).1
    have lt3 := (Array.getElem?_eq_some_iff.1 k3).1
    have lt4 := (Array.getElem?_eq_some_iff.1 k4).1
    obtain ⟨p0, p1, p2, _⟩ := cells3 k1
    obtain ⟨q0, q1, q2, _⟩ := cells3 k2
    obtain ⟨r0, r1, r2, _⟩ := cells3 k3
    obtain ⟨s0, s1, s2, _⟩ := cells3 k4
    have K1 := Lib.hid k1
    have K2 := Lib.hid k2
    clear k1 k2 k3 k4
    refine Lib.hid ?_
    go_wp2_with (fail)
    go_region_held3 (fun w' => (∀ i, w'.cell? ⟨w1.heap.size, i, none⟩ = w0.cell? ⟨w1.heap.size, i, none⟩) ∧ (∀ i, w'.cell? ⟨w2.heap.size, i, none⟩ = w0.cell? ⟨w2.heap.size, i, none⟩) ∧ (∀ i, w'.cell? ⟨w3.heap.size, i, none⟩ = w0.cell? ⟨w3.heap.size, i, none⟩) ∧ (∀ i, w'.cell? ⟨w4.heap.size, i, none⟩ = w0.cell? ⟨w4.heap.size, i, none⟩) ∧ Hid (Below w0.heap.size w0 w'))
      (first | assumption | exact held4 ((Below.refl _ _).drew) lt1 lt2 lt3 lt4 | exact held4_next (by assumption) hbq lt1 lt2 lt3 lt4)
      (first
        | (go_at_call 15; (with_reducible refine (HS.out _).mono ?_); rintro e wq ⟨rfl, hbq⟩)
        | (go_at_call 16; (with_reducible refine (HTI.out _).mono ?_); rintro e wq ⟨rfl, hbq⟩)
        | (go_at_call 17; (with_reducible refine (HTS.out _).mono ?_); rintro e wq ⟨rfl, hbq⟩)
        | (go_at_call 18; (with_reducible refine (HNI.out _).mono ?_); rintro e wq ⟨rfl, hbq⟩)
        | (go_at_call 19; (with_reducible refine (HNS.out _).mono ?_); rintro e wq ⟨rfl, hbq⟩)
        | (go_at_call 20; (with_reducible refine (HVI.out _).mono ?_); rintro e wq ⟨rfl, rfl⟩)
        | (go_at_call 21; (with_reducible refine (HVS.out _).mono ?_); rintro e wq ⟨rfl, rfl⟩))
    rename_i hH
    obtain ⟨_, _, _, _, hBq⟩ := hH
    have K1 := Lib.hid (blk_below K1.out hBq.out)
    have K2 := Lib.hid (blk_below K2.out hBq.out)
    have B := Lib.hid (below_then B.out hBq.out)
    clear HS HTI HTS HNI HNS HVI HVS hBq lt1 lt2 lt3 lt4 p0 p1 p2 q0 q1 q2 r0 r1 r2 s0 s1 s2 hbq
    go_wp2_with (first
      | (refine load_row rfl 25 (.tmp 6) rfl w2.heap.size rfl 3 _ Try.underlying25 rfl hi.out K2.out rfl ?_)
      | (go_at_call 18; (with_reducible refine (HM.out _).mono ?_); rintro e w5 ⟨rfl, hb⟩; refine Hid.out ?_))
    have K1 := Lib.hid (blk_below K1.out hb)
    have K2 := Lib.hid (blk_below K2.out hb)
    have B := Lib.hid (below_then B.out hb)
    clear hb HM
    refine Lib.hid ?_
    go_wp2_with (go_at_call 11; (with_reducible refine (HG.out _).mono ?_); rintro e w6 ⟨rfl, hb⟩; refine Hid.out ?_)
    have k1 := blk_old (o := (.cells #[.bool x, .bool false, .bool y] 25)) (blk_below K1.out hb)
    have k2 := blk_old (o := (.cells #[.bool x, .bool false, .bool y] 25)) (blk_below K2.out hb)
    have BZ := Lib.hid (below_alloc (below_then B.out hb) (.cells #[.bool x, .bool false, .bool y] 25))
    obtain ⟨p0, p1, p2, _⟩ := cells3 k1
    obtain ⟨q0, q1, q2, _⟩ := cells3 k2
    obtain ⟨z0, z1, z2, _⟩ := cells3 (blk_new w6 (.cells #[.bool x, .bool false, .bool y] 25))
    have hq := HQ.out
    clear hb HG HQ K1 K2 k1 k2 HI
    refine Lib.hid ?_
    cases b <;> cases x <;> cases a
    all_goals
      obtain rfl := hq
      go_wp2
      go_ret
      exact ⟨by simp, BZ.out⟩
end Go.Proofs.Ytlcglekblhlhiaa
