/-
  The walk of the law FnChip: it returns true, whatever is drawn.
  Conditions: none.
-/
import Derived.Test.YthelaeejgppjhaaChG
import Derived.Test.YthelaeejgppjhaaChI
namespace Go.Proofs.Ythelaeejgppjhaa
open Go.RowKit
theorem held3 {w0 w' : World} (h : Below w0.heap.size w0 w') {b c d : Nat} (hb : b < w0.heap.size) (hc : c < w0.heap.size) (hd : d < w0.heap.size) :
    (∀ i, w'.cell? ⟨b, i, none⟩ = w0.cell? ⟨b, i, none⟩) ∧ (∀ i, w'.cell? ⟨c, i, none⟩ = w0.cell? ⟨c, i, none⟩) ∧ (∀ i, w'.cell? ⟨d, i, none⟩ = w0.cell? ⟨d, i, none⟩) ∧ Hid (Below w0.heap.size w0 w') :=
  ⟨fun i => h.cell (p := ⟨b, i, none⟩) hb, fun i => h.cell (p := ⟨c, i, none⟩) hc, fun i => h.cell (p := ⟨d, i, none⟩) hd, h⟩
theorem held3_next {w0 wp wq : World} {b c d : Nat} (hS : (∀ i, wp.cell? ⟨b, i, none⟩ = w0.cell? ⟨b, i, none⟩) ∧ (∀ i, wp.cell? ⟨c, i, none⟩ = w0.cell? ⟨c, i, none⟩) ∧ (∀ i, wp.cell? ⟨d, i, none⟩ = w0.cell? ⟨d, i, none⟩) ∧ Hid (Below w0.heap.size w0 wp))
    (hq : Below wp.heap.size wp wq) (hb : b < w0.heap.size) (hc : c < w0.heap.size) (hd : d < w0.heap.size) :
    (∀ i, wq.cell? ⟨b, i, none⟩ = w0.cell? ⟨b, i, none⟩) ∧ (∀ i, wq.cell? ⟨c, i, none⟩ = w0.cell? ⟨c, i, none⟩) ∧ (∀ i, wq.cell? ⟨d, i, none⟩ = w0.cell? ⟨d, i, none⟩) ∧ Hid (Below w0.heap.size w0 wq) :=
  held3 (below_then hS.2.2.2.out hq) hb hc hd
theorem flag_in : ∀ p q a b : Bool, bits .and .i64 (mkF (p || a) (q || b)) (mkF p q) = mkF p q := by decide
set_option maxRecDepth 100000 in
set_option maxHeartbeats 4000000 in
theorem chip_law (A : Option Addr) (n c : Nat) (W : World) (hrow : RowB W A n) :
    Calls Try.prog 3 #[.slice A n c] W fun e w' => e = .returned (.bool true) ∧ Below W.heap.size W w' := by
  have hm := hrow.1
  unfold maxLen at hm
  by_cases hbig : 1048576 < n
  · clear hrow
    go_enter Try.func3, Try.ntmps3
    go_wp2_with (go_in)
    go_ret
    exact ⟨rfl, Below.refl _ _⟩
  · have hcode := hrow.code (by omega)
    have HC := Lib.hid hcode
    have hi := Lib.hid chip_size
    have hD := drawTickChip_any W.heap.size n c A W (Nat.le_refl _) hcode
    unfold DrawChip at hD
    clear hrow hcode
    go_enter Try.func3, Try.ntmps3
    go_wp2_with (first
      | (go_at_call 8; go_in)
      | (go_at_call 9; refine hD.mono ?_; rintro e w1 ⟨x, hf, rfl, hb1⟩; refine Hid.out ?_))
    clear hD
    have HT := impl_tick x hf
    have HTS := spec_tick x hf
    have HO := impl_chipOk x hf
    have HOS := spec_chipOk x hf
    have hyes : okC x = true → tickI x = tickR x := tick_yes
    have hno : okC x = false → tickI x = x := tick_no
    have hrt : okC x = true → (tickR x).right := fun h => tickR_right ((okC_iff x).1 h)
    have hfit : (tickI x).fits := by
      cases h : okC x
      · rw [hno h]; exact hf
      · rw [hyes h]; exact (hrt h).fits
    have HOD := impl_chipOk (tickI x) hfit
    obtain ⟨d, hd⟩ : ∃ d, d = tickI x := ⟨_, rfl⟩
    rw [← hd] at HT HTS HOD
    have HE := Lib.hid hd
    have HY := Lib.hid hyes
    have HN := Lib.hid hno
    have HRT := Lib.hid hrt
    clear hd hyes hno hrt hf hfit
    obtain ⟨K, hK⟩ : ∃ K, K = okC x := ⟨_, rfl⟩
    rw [← hK] at HO HOS
    have HK := Lib.hid hK
    clear hK
    obtain ⟨c1, l1, v1, ag, c2, o2, v2, pt, dr, fl, ms⟩ := x
    obtain ⟨dc1, dl1, dv1, dag, dc2, do2, dv2, dpt, ddr, dfl, dms⟩ := d
    simp only [chipV_mk] at HT HTS HO HOS HOD ⊢
    have HT := Lib.hid HT
    have HTS := Lib.hid HTS
    have HO := Lib.hid HO
    have HOS := Lib.hid HOS
    have HOD := Lib.hid HOD
    refine Lib.hid ?_
    go_wp2_with (go_at_call 10; (with_reducible refine (HT.out _).mono ?_); rintro e w2 ⟨rfl, hb2⟩; refine Hid.out ?_)
    have J1 := Lib.hid (blk_old (o := .cells #[.int .i64 dc1, .int .i64 dl1, .bool dv1, .bool dag, .int .i64 dc2, .int .i64 do2, .bool dv2, .int .i64 dpt, .int .i64 ddr, .int .i64 dfl, .int .i64 dms] 25) (blk_below (blk_new w1 (.cells #[.int .i64 c1, .int .i64 l1, .bool v1, .bool ag, .int .i64 c2, .int .i64 o2, .bool v2, .int .i64 pt, .int .i64 dr, .int .i64 fl, .int .i64 ms] 25)) hb2))
    have J2 := Lib.hid (blk_new w2 (.cells #[.int .i64 dc1, .int .i64 dl1, .bool dv1, .bool dag, .int .i64 dc2, .int .i64 do2, .bool dv2, .int .i64 dpt, .int .i64 ddr, .int .i64 dfl, .int .i64 dms] 25))
    have BA := Lib.hid (below_alloc (below_then (below_alloc hb1 _) hb2) (.cells #[.int .i64 dc1, .int .i64 dl1, .bool dv1, .bool dag, .int .i64 dc2, .int .i64 do2, .bool dv2, .int .i64 dpt, .int .i64 ddr, .int .i64 dfl, .int .i64 dms] 25))
    have hD := drawAsks_any W.heap.size n c A _ BA.out.size (HC.out.below (Nat.le_refl _) BA.out)
    unfold DrawChip at hD
    clear hb1 hb2
    refine Lib.hid ?_
    go_wp2_with (go_at_call 11; refine hD.mono ?_; rintro e w3 ⟨y, hfy, rfl, hb3⟩; refine Hid.out ?_)
    have HA := impl_asks y hfy
    have HAS := spec_asks y
    generalize asksC y = Y at *
    clear hD hfy HC
    obtain ⟨yc1, yl1, yv1, yag, yc2, yo2, yv2, ypt, ydr, yfl, yms⟩ := y
    simp only [chipV_mk] at HA HAS ⊢
    have HA := Lib.hid HA
    have HAS := Lib.hid HAS
    have k1 := blk_old (o := .cells #[.int .i64 yc1, .int .i64 yl1, .bool yv1, .bool yag, .int .i64 yc2, .int .i64 yo2, .bool yv2, .int .i64 ypt, .int .i64 ydr, .int .i64 yfl, .int .i64 yms] 25) (blk_below J1.out hb3)
    have k2 := blk_old (o := .cells #[.int .i64 yc1, .int .i64 yl1, .bool yv1, .bool yag, .int .i64 yc2, .int .i64 yo2, .bool yv2, .int .i64 ypt, .int .i64 ydr, .int .i64 yfl, .int .i64 yms] 25) (blk_below J2.out hb3)
    have k3 := blk_new w3 (.cells #[.int .i64 yc1, .int .i64 yl1, .bool yv1, .bool yag, .int .i64 yc2, .int .i64 yo2, .bool yv2, .int .i64 ypt, .int .i64 ydr, .int .i64 yfl, .int .i64 yms] 25)
    have B := below_alloc (below_then BA.out hb3) (.cells #[.int .i64 yc1, .int .i64 yl1, .bool yv1, .bool yag, .int .i64 yc2, .int .i64 yo2, .bool yv2, .int .i64 ypt, .int .i64 ydr, .int .i64 yfl, .int .i64 yms] 25)
    clear BA
    obtain ⟨w0, hw0⟩ : ∃ w0, w0 = w3.alloc (.cells #[.int .i64 yc1, .int .i64 yl1, .bool yv1, .bool yag, .int .i64 yc2, .int .i64 yo2, .bool yv2, .int .i64 ypt, .int .i64 ydr, .int .i64 yfl, .int .i64 yms] 25) := ⟨_, rfl⟩
    rw [← hw0] at k1 k2 k3 B
    have lt1 := blk_lt k1
    have lt2 := blk_lt k2
    have lt3 := blk_lt k3
    obtain ⟨p0, p1, p2, p3, p4, p5, p6, p7, p8, p9, p10, _⟩ := cells11 k1
    obtain ⟨q0, q1, q2, q3, q4, q5, q6, q7, q8, q9, q10, _⟩ := cells11 k2
    obtain ⟨r0, r1, r2, r3, r4, r5, r6, r7, r8, r9, r10, _⟩ := cells11 k3
    have KK1 := Lib.hid k1
    have KK2 := Lib.hid k2
    have HW0 := Lib.hid hw0
    have HBB := Lib.hid B
    clear B hb3 J1 J2 k1 k2 k3
    refine Lib.hid ?_
    go_wp2_with (fail)
    rw [← HW0.out]
    clear hw0
    go_region_held3 (fun w' => (∀ i, w'.cell? ⟨w1.heap.size, i, none⟩ = w0.cell? ⟨w1.heap.size, i, none⟩) ∧ (∀ i, w'.cell? ⟨w2.heap.size, i, none⟩ = w0.cell? ⟨w2.heap.size, i, none⟩) ∧ (∀ i, w'.cell? ⟨w3.heap.size, i, none⟩ = w0.cell? ⟨w3.heap.size, i, none⟩) ∧ Hid (Below w0.heap.size w0 w'))
      (first | exact held3 ((Below.refl _ _).drew) lt1 lt2 lt3 | exact held3_next (by assumption) hbq lt1 lt2 lt3)
      (first
        | (go_at_call 12; (with_reducible refine (HTS.out _).mono ?_); rintro e wq ⟨rfl, hbq⟩)
        | (go_at_call 13; (with_reducible refine (HO.out _).mono ?_); rintro e wq ⟨rfl, hbq⟩)
        | (go_at_call 14; (with_reducible refine (HOS.out _).mono ?_); rintro e wq ⟨rfl, hbq⟩)
        | (go_at_call 15; (with_reducible refine (HA.out _).mono ?_); rintro e wq ⟨rfl, hbq⟩)
        | (go_at_call 16; (with_reducible refine (HAS.out _).mono ?_); rintro e wq ⟨rfl, hbq⟩))
    rename_i hH
    obtain ⟨_, _, _, hBq⟩ := hH
    have K1 := Lib.hid (blk_below KK1.out hBq.out)
    have K2 := Lib.hid (blk_below KK2.out hBq.out)
    have BX := Lib.hid (below_then HBB.out hBq.out)
    clear HBB
    have B := BX
    clear BX
    clear HT HTS HO HA HAS KK1 KK2 hBq lt1 lt2 lt3 p0 p1 p2 p3 p4 p5 p6 p7 p8 p9 p10 q0 q1 q2 q3 q4 q5 q6 q7 q8 q9 q10 r0 r1 r2 r3 r4 r5 r6 r7 r8 r9 r10 hbq
    cases K
    · have e := HE.out.trans (HN.out HK.out.symm)
      simp only [ChipI.mk.injEq] at e
      obtain ⟨rfl, rfl, rfl, rfl, rfl, rfl, rfl, rfl, rfl, rfl, rfl⟩ := e
      clear HE HN HY HRT HOD
      go_wp2_with (first
        | (refine load_row rfl 25 (.tmp 3) rfl w1.heap.size rfl 11 _ Try.underlying25 rfl hi.out K1.out rfl ?_)
        | (go_at_call 14; (with_reducible refine (HOS.out _).mono ?_); rintro e w5 ⟨rfl, hb5⟩; refine Hid.out ?_))
      have K1 := Lib.hid (blk_below K1.out hb5)
      have K2 := Lib.hid (blk_below K2.out hb5)
      have B := Lib.hid (below_then B.out hb5)
      clear hb5
      refine Lib.hid ?_
      go_wp2_with (first
        | (refine load_row rfl 25 (.tmp 4) rfl w2.heap.size rfl 11 _ Try.underlying25 rfl hi.out K2.out rfl ?_)
        | (refine load_row rfl 25 (.tmp 3) rfl w1.heap.size rfl 11 _ Try.underlying25 rfl hi.out K1.out rfl ?_))
      go_ret
      exact ⟨rfl, B.out⟩
    · have hr := (okC_iff _).1 HK.out.symm
      have hrd := HRT.out HK.out.symm
      have e := HE.out.trans (HY.out HK.out.symm)
      rw [← HY.out HK.out.symm, ← HE.out] at hrd
      have HOD := HOD.out
      rw [(okC_iff _).2 hrd] at HOD
      obtain ⟨p, q, hpq⟩ : ∃ p q, fl = mkF p q := ⟨_, _, mk_isF hr.fl⟩
      subst hpq
      simp only [tickR, ChipI.mk.injEq, f6_mk, f5_mk] at e
      obtain ⟨x1, u2, u3, u4, u5, u6, u7, rfl, u9, x9, rfl⟩ := e
      clear u2 u3 u4 u5 u6 u7 u9
      have hd1 := hrd.c1
      simp only [] at hd1
      have hfl := flag_in p q (decide (c1 = 0) && v1) (decide (c2 = 0) && v2)
      rw [← x9] at hfl
      have hc1 : (c1 = 0 ∧ ¬ dc1 = -1) ∨ (¬ c1 = 0 ∧ dc1 = c1 - 1) := by
        by_cases h : c1 = 0
        · exact .inl ⟨h, by omega⟩
        · rw [if_neg h] at x1
          exact .inr ⟨h, x1⟩
      have HX := Lib.hid hfl
      have hcb := hr.c1
      simp only [] at hcb
      clear x1 x9 hr hrd HE HN HY HRT hfl
      have HOD := Lib.hid HOD
      rcases hc1 with ⟨rfl, hc1⟩ | ⟨hc0, rfl⟩
      all_goals
        go_wp2_with (first
          | (refine load_row rfl 25 (.tmp 3) rfl w1.heap.size rfl 11 _ Try.underlying25 rfl hi.out K1.out rfl ?_)
          | (go_at_call 14; (with_reducible refine (HOS.out _).mono ?_); rintro e w5 ⟨rfl, hb5⟩; refine Hid.out ?_))
        have M1 := Lib.hid (blk_below K1.out hb5)
        have M2 := Lib.hid (blk_below K2.out hb5)
        have B5 := Lib.hid (below_then B.out hb5)
        clear hb5
        refine Lib.hid ?_
        go_wp2_with (first
          | (refine load_row rfl 25 (.tmp 4) rfl w2.heap.size rfl 11 _ Try.underlying25 rfl hi.out M2.out rfl ?_)
          | (go_at_call 13; (with_reducible refine (HOD.out _).mono ?_); rintro e w6 ⟨rfl, hb6⟩; refine Hid.out ?_))
        have k1 := blk_below M1.out hb6
        have k2 := blk_below M2.out hb6
        have B6 := Lib.hid (below_then B5.out hb6)
        have a0 := cell_of_blk (i := 0) k1 rfl
        have a7 := cell_of_blk (i := 7) k1 rfl
        have a9 := cell_of_blk (i := 9) k1 rfl
        have a10 := cell_of_blk (i := 10) k1 rfl
        have g0 := cell_of_blk (i := 0) k2 rfl
        have g7 := cell_of_blk (i := 7) k2 rfl
        have g9 := cell_of_blk (i := 9) k2 rfl
        have g10 := cell_of_blk (i := 10) k2 rfl
        have hfl := HX.out
        clear hb6 k1 k2 K1 K2 M1 M2
        refine Lib.hid ?_
        go_wp2_with fail
        go_ret
        exact ⟨rfl, B6.out⟩
end Go.Proofs.Ythelaeejgppjhaa
