/-
  The walk of the law FnSpend: it returns true, whatever is drawn.
  Conditions: none.
-/
import Derived.Test.YtcnajmmpijhniaaKpE
import Derived.Test.YtcnajmmpijhniaaKpN
import Derived.Test.YtcnajmmpijhniaaHel
namespace Go.Proofs.Ytcnajmmpijhniaa
open Go.RowKit
theorem blk_size {w : World} {b : Nat} {x : Obj} (h : w.heap[b]? = some x) : b < w.heap.size := (Array.getElem?_eq_some_iff.1 h).1
theorem kept2 {w0 w' : World} (h : Below w0.heap.size w0 w') {b c : Nat} (hb : b < w0.heap.size) (hc : c < w0.heap.size) :
    (∀ i, w'.cell? ⟨b, i, none⟩ = w0.cell? ⟨b, i, none⟩) ∧ (∀ i, w'.cell? ⟨c, i, none⟩ = w0.cell? ⟨c, i, none⟩) ∧ Hid (Below w0.heap.size w0 w') :=
  ⟨fun i => h.cell (p := ⟨b, i, none⟩) hb, fun i => h.cell (p := ⟨c, i, none⟩) hc, h⟩
theorem kept2_next {w0 wp wq : World} {b c : Nat} (hS : (∀ i, wp.cell? ⟨b, i, none⟩ = w0.cell? ⟨b, i, none⟩) ∧ (∀ i, wp.cell? ⟨c, i, none⟩ = w0.cell? ⟨c, i, none⟩) ∧ Hid (Below w0.heap.size w0 wp))
    (hq : Below wp.heap.size wp wq) (hb : b < w0.heap.size) (hc : c < w0.heap.size) :
    (∀ i, wq.cell? ⟨b, i, none⟩ = w0.cell? ⟨b, i, none⟩) ∧ (∀ i, wq.cell? ⟨c, i, none⟩ = w0.cell? ⟨c, i, none⟩) ∧ Hid (Below w0.heap.size w0 wq) :=
  kept2 (below_then hS.2.2.out hq) hb hc
theorem less_le (n : Int) : lessI n ≤ n ∨ n < 0 := by unfold lessI; split <;> omega
set_option maxRecDepth 100000 in
set_option maxHeartbeats 4000000 in
theorem spend_law (A : Option Addr) (n c : Nat) (W : World) (hrow : RowB W A n) :
    Calls Try.prog 4 #[.slice A n c] W fun e w' => e = .returned (.bool true) ∧ Below W.heap.size W w' := by
  have hm := hrow.1
  unfold maxLen at hm
  by_cases hbig : 1048576 < n
  · clear hrow
    go_enter Try.func4, Try.ntmps4
    go_wp2_with (go_in)
    go_ret
    exact ⟨rfl, Below.refl _ _⟩
  · have hcode := hrow.code (by omega)
    have hi := Lib.hid keep_size
    have hD := drawSpend_any W.heap.size n c A W (Nat.le_refl _) hcode
    unfold DrawKeep1 at hD
    clear hrow hcode
    go_enter Try.func4, Try.ntmps4
    go_wp2_with (first
      | (go_at_call 13; go_in)
      | (go_at_call 20; refine hD.mono ?_; rintro e w1 ⟨x, p, rfl, hb1⟩; refine Hid.out ?_))
    clear hD
    have HT := impl_spend x p
    have HTS := spec_spend x p
    have HOS := spec_keeperOk x
    have HOD := impl_keeperOk (spendI x p)
    have hyes := fun h : okK x = true => spend_ways2 ((okK_iff x).1 h) p
    have hno := fun h : okK x = false => spend_no h p
    have hrt := fun h : okK x = true => (okK_iff (spendR x p)).2 (spendR_right ((okK_iff x).1 h) p)
    have hre : okK x = true → spendI x p = spendR x p := fun h => by unfold spendI; rw [h]; rfl
    have hrr := fun h : okK x = true => (okK_iff x).1 h
    have hrd := fun h : okK x = true => (congrArg okK (hre h)).trans (hrt h)
    clear hrt hre
    have HRD := Lib.hid hrd
    have HRR := Lib.hid hrr
    have HY := Lib.hid hyes
    have HN := Lib.hid hno
    clear hyes hno hrd hrr
    obtain ⟨d, hd⟩ : ∃ d, d = spendI x p := ⟨_, rfl⟩
    rw [← hd] at HT HTS HOD HRD HY HN
    clear hd
    obtain ⟨K, hK⟩ : ∃ K, K = okK x := ⟨_, rfl⟩
    rw [← hK] at HOS HRD HRR HY HN
    clear hK
    obtain ⟨KD, hKD⟩ : ∃ K, K = okK d := ⟨_, rfl⟩
    rw [← hKD] at HOD HRD
    clear hKD
    obtain ⟨ws, bu, wl, bl, ad, lf, sm⟩ := x
    obtain ⟨dws, dbu, dwl, dbl, dad, dlf, dsm⟩ := d
    simp only [keepV_mk] at HT HTS HOS HOD ⊢
    have HT := Lib.hid HT
    have HTS := Lib.hid HTS
    have HOS := Lib.hid HOS
    have HOD := Lib.hid HOD
    refine Lib.hid ?_
    go_wp2_with (go_at_call 19; (with_reducible refine (HT.out _).mono ?_); rintro e w2 ⟨rfl, hb2⟩; refine Hid.out ?_)
    have k1 := blk_old (o := .cells #[.int .i64 dws, .int .i64 dbu, .int .i64 dwl, .int .i64 dbl, .int .i64 dad, .int .i64 dlf, .int .i64 dsm] 25) (blk_below (blk_new w1 (.cells #[.int .i64 ws, .int .i64 bu, .int .i64 wl, .int .i64 bl, .int .i64 ad, .int .i64 lf, .int .i64 sm] 25)) hb2)
    have k2 := blk_new w2 (.cells #[.int .i64 dws, .int .i64 dbu, .int .i64 dwl, .int .i64 dbl, .int .i64 dad, .int .i64 dlf, .int .i64 dsm] 25)
    have B := below_alloc (below_then (below_alloc hb1 _) hb2) (.cells #[.int .i64 dws, .int .i64 dbu, .int .i64 dwl, .int .i64 dbl, .int .i64 dad, .int .i64 dlf, .int .i64 dsm] 25)
    obtain ⟨w0, hw0⟩ : ∃ w0, w0 = w2.alloc (.cells #[.int .i64 dws, .int .i64 dbu, .int .i64 dwl, .int .i64 dbl, .int .i64 dad, .int .i64 dlf, .int .i64 dsm] 25) := ⟨_, rfl⟩
    rw [← hw0] at k1 k2 B
    have lt1 := blk_size k1
    have lt2 := blk_size k2
    obtain ⟨p0, p1, p2, p3, p4, p5, p6, _⟩ := cells7 k1
    obtain ⟨q0, q1, q2, q3, q4, q5, q6, _⟩ := cells7 k2
    have KK1 := Lib.hid k1
    have KK2 := Lib.hid k2
    have HW0 := Lib.hid hw0
    have HBB := Lib.hid B
    clear B hb1 hb2 k1 k2
    refine Lib.hid ?_
    go_wp2_with (fail)
    rw [← HW0.out]
    clear hw0
    go_region_held3 (fun w' => (∀ i, w'.cell? ⟨w1.heap.size, i, none⟩ = w0.cell? ⟨w1.heap.size, i, none⟩) ∧ (∀ i, w'.cell? ⟨w2.heap.size, i, none⟩ = w0.cell? ⟨w2.heap.size, i, none⟩) ∧ Hid (Below w0.heap.size w0 w'))
      (first | exact kept2 ((Below.refl _ _).drew) lt1 lt2 | exact kept2_next (by assumption) hbq lt1 lt2)
      ((go_at_call 21; (with_reducible refine (HTS.out _).mono ?_); rintro e wq ⟨rfl, hbq⟩))
    rename_i hH
    obtain ⟨_, _, hBq⟩ := hH
    have K1 := Lib.hid (blk_below KK1.out hBq.out)
    have K2 := Lib.hid (blk_below KK2.out hBq.out)
    have B := Lib.hid (below_then HBB.out hBq.out)
    clear HBB HT HTS KK1 KK2 hBq lt1 lt2 p0 p1 p2 p3 p4 p5 p6 q0 q1 q2 q3 q4 q5 q6 hbq
    cases K
    · have e := HN.out rfl
      simp only [KeepI.mk.injEq] at e
      obtain ⟨rfl, rfl, rfl, rfl, rfl, rfl, rfl⟩ := e
      clear HN HY HRD HOD HRR
      go_wp2_with (first
        | (refine load_row rfl 25 (.tmp 3) rfl w1.heap.size rfl 7 _ Try.underlying25 rfl hi.out K1.out rfl ?_)
        | (go_at_call 18; (with_reducible refine (HOS.out _).mono ?_); rintro e w5 ⟨rfl, hb5⟩; refine Hid.out ?_))
      have K1 := Lib.hid (blk_below K1.out hb5)
      have K2 := Lib.hid (blk_below K2.out hb5)
      have B := Lib.hid (below_then B.out hb5)
      clear hb5
      refine Lib.hid ?_
      go_wp2_with (first
        | (refine load_row rfl 25 (.tmp 5) rfl w2.heap.size rfl 7 _ Try.underlying25 rfl hi.out K2.out rfl ?_)
        | (refine load_row rfl 25 (.tmp 3) rfl w1.heap.size rfl 7 _ Try.underlying25 rfl hi.out K1.out rfl ?_))
      go_ret
      exact ⟨rfl, B.out⟩
    · have hw := HY.out rfl
      have hr := HRR.out rfl
      have hkd := HRD.out rfl
      subst hkd
      simp only [KeepI.mk.injEq] at hw
      have l1 := less_le wl
      have l2 := less_le bl
      have r1 := hr.wl
      have r2 := hr.bl
      have r3 := hr.ws
      have r4 := hr.bu
      simp only [] at r1 r2 r3 r4
      generalize lessI wl = wl' at *
      generalize lessI bl = bl' at *
      replace l1 : wl' ≤ wl := by omega
      replace l2 : bl' ≤ bl := by omega
      clear HN HY HRD hr HRR
      rcases hw with ⟨rfl, rfl, rfl, rfl, rfl, rfl, rfl, rfl⟩ | ⟨rfl, rfl, rfl, rfl, rfl, rfl, rfl, rfl⟩ | ⟨rfl, rfl, rfl, rfl, rfl, rfl, rfl, rfl⟩ | ⟨g1, g2, g3, rfl, rfl, rfl, rfl, rfl, rfl, rfl⟩
      all_goals
        go_wp2_with (first
          | (refine load_row rfl 25 (.tmp 3) rfl w1.heap.size rfl 7 _ Try.underlying25 rfl hi.out K1.out rfl ?_)
          | (go_at_call 18; (with_reducible refine (HOS.out _).mono ?_); rintro e w5 ⟨rfl, hb5⟩; refine Hid.out ?_))
        have M1 := Lib.hid (blk_below K1.out hb5)
        have M2 := Lib.hid (blk_below K2.out hb5)
        have B5 := Lib.hid (below_then B.out hb5)
        clear hb5
        refine Lib.hid ?_
        go_wp2_with (first
          | (refine load_row rfl 25 (.tmp 5) rfl w2.heap.size rfl 7 _ Try.underlying25 rfl hi.out M2.out rfl ?_)
          | (go_at_call 17; (with_reducible refine (HOD.out _).mono ?_); rintro e w6 ⟨rfl, hb6⟩; refine Hid.out ?_))
        have k1 := blk_below M1.out hb6
        have k2 := blk_below M2.out hb6
        have B6 := Lib.hid (below_then B5.out hb6)
        have a2 := cell_of_blk (i := 2) k1 rfl
        have a3 := cell_of_blk (i := 3) k1 rfl
        have a4 := cell_of_blk (i := 4) k1 rfl
        have a5 := cell_of_blk (i := 5) k1 rfl
        have c2 := cell_of_blk (i := 2) k2 rfl
        have c3 := cell_of_blk (i := 3) k2 rfl
        have c4 := cell_of_blk (i := 4) k2 rfl
        have c5 := cell_of_blk (i := 5) k2 rfl
        clear hb6 k1 k2 K1 K2 M1 M2
        refine Lib.hid ?_
        go_wp2_with fail
        go_ret
        exact ⟨rfl, B6.out⟩
end Go.Proofs.Ytcnajmmpijhniaa
