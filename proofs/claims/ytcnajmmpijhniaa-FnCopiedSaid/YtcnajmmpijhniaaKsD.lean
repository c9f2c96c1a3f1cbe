/-
  The walk of the law FnCopied: it returns true, whatever is drawn.
  Conditions: none.
-/
import Derived.Test.YtcnajmmpijhniaaKsC
import Derived.Test.YtcnajmmpijhniaaKpF
import Derived.Test.YtcnajmmpijhniaaAtB
namespace Go.Proofs.Ytcnajmmpijhniaa
open Go.RowKit
theorem far7 {w : World} {b c : Nat} {x : Obj} (h : w.heap[b]? = some x) (hne : b ≠ c) (x0 x1 x2 x3 x4 x5 x6 : Value) :
    (((((((w.setCell ⟨c, 0, none⟩ x0).setCell ⟨c, 1, none⟩ x1).setCell ⟨c, 2, none⟩ x2).setCell ⟨c, 3, none⟩ x3).setCell ⟨c, 4, none⟩ x4).setCell ⟨c, 5, none⟩ x5).setCell ⟨c, 6, none⟩ x6).heap[b]? = some x :=
  row_far (row_far (row_far (row_far (row_far (row_far (row_far h hne) hne) hne) hne) hne) hne) hne
/-- The keeper and the one behind a copy stand where they stood; the third has copied j bytes, whose sum with the first is S. -/
def CopAt (W : World) (b1 b2 b3 : Nat) (k1 k2 : Array Value) (ws bu wl bl ad lf : Int) (j S : Int) (wr : World) : Prop :=
  Below W.heap.size W wr ∧ W.heap.size ≤ b3 ∧ b1 ≠ b3 ∧ b2 ≠ b3 ∧ wr.heap[b1]? = some (.cells k1 25 (0, 0)) ∧ wr.heap[b2]? = some (.cells k2 25 (0, 0)) ∧
  wr.heap[b3]? = some (.cells #[.int .i64 ws, .int .i64 bu, .int .i64 wl, .int .i64 bl, .int .i64 ((ad + j) % 65536), .int .i64 (lf - j), .int .i64 (S % 256)] 25 (0, 0))
theorem copy_step {ws bu wl bl ad lf S : Int} (j v : Int) (hr : KeepI.right ⟨ws, bu, wl, bl, (ad + j) % 65536, lf - j, S % 256⟩) (h : j < lf) :
    copyI ⟨ws, bu, wl, bl, (ad + j) % 65536, lf - j, S % 256⟩ v = ⟨ws, bu, wl, bl, (ad + (j + 1)) % 65536, lf - (j + 1), (S + v) % 256⟩ := by
  unfold copyI
  rw [(okK_iff _).2 hr]
  have h0 : ¬ lf - j = 0 := by omega
  simp only [h0, not_false_eq_true, and_self, if_true, copyR, KeepI.mk.injEq, true_and]
  refine ⟨?_, ?_, ?_⟩ <;> omega
set_option maxRecDepth 100000 in
set_option maxHeartbeats 8000000 in
theorem copied_law (A : Option Addr) (n c : Nat) (W : World) (hrow : RowB W A n) :
    Calls Try.prog 5 #[.slice A n c] W fun e w' => e = .returned (.bool true) ∧ Below W.heap.size W w' := by
  have hm := hrow.1
  unfold maxLen at hm
  by_cases hbig : 1048576 < n
  · clear hrow
    go_enter Try.func5, Try.ntmps5
    go_wp2_with (go_in)
    go_ret
    exact ⟨rfl, Below.refl _ _⟩
  · have hcode := hrow.code (by omega)
    have HC := Lib.hid hcode
    have hi := Lib.hid keep_size
    have hD := drawCopied_any W.heap.size n c A W (Nat.le_refl _) hcode
    unfold DrawKeep1 at hD
    clear hrow hcode
    go_enter Try.func5, Try.ntmps5
    go_wp2_with (first
      | (go_at_call 13; go_in)
      | (go_at_call 22; refine hD.mono ?_; rintro e w1 ⟨x, p, rfl, hb1⟩; refine Hid.out ?_))
    clear hD
    have HT := impl_copied x p
    have HTS := spec_copied x p
    have HOS := spec_keeperOk x
    have hno : okK x = false ∨ x.lf = 0 → copyI x p = x := by
      rintro (h | h)
      · exact copy_no h p
      · unfold copyI
        rw [if_neg (fun hh => hh.2 h)]
    have hyes : okK x = true ∧ ¬ x.lf = 0 → copyI x p = copyR x p := fun h => by unfold copyI; rw [if_pos h]
    have hrr := fun h : okK x = true => (okK_iff x).1 h
    have HRR := Lib.hid hrr
    have HY := Lib.hid hyes
    have HN := Lib.hid hno
    clear hyes hno hrr
    have hge : W.heap.size ≤ w1.heap.size := hb1.size
    obtain ⟨d, hd⟩ : ∃ d, d = copyI x p := ⟨_, rfl⟩
    rw [← hd] at HT HTS HY HN
    clear hd
    obtain ⟨K, hK⟩ : ∃ K, K = okK x := ⟨_, rfl⟩
    rw [← hK] at HOS HRR HY HN
    clear hK
    obtain ⟨ws, bu, wl, bl, ad, lf, sm⟩ := x
    obtain ⟨dws, dbu, dwl, dbl, dad, dlf, dsm⟩ := d
    simp only [keepV_mk] at HT HTS HOS ⊢
    have HT := Lib.hid HT
    have HTS := Lib.hid HTS
    have HOS := Lib.hid HOS
    refine Lib.hid ?_
    go_wp2_with (go_at_call 23; (with_reducible refine (HT.out _).mono ?_); rintro e w2 ⟨rfl, hb2⟩; refine Hid.out ?_)
    have k1 := blk_old (o := (.cells #[.int .i64 dws, .int .i64 dbu, .int .i64 dwl, .int .i64 dbl, .int .i64 dad, .int .i64 dlf, .int .i64 dsm] 25)) (blk_below (blk_new w1 (.cells #[.int .i64 ws, .int .i64 bu, .int .i64 wl, .int .i64 bl, .int .i64 ad, .int .i64 lf, .int .i64 sm] 25)) hb2)
    have k2 := blk_new w2 (.cells #[.int .i64 dws, .int .i64 dbu, .int .i64 dwl, .int .i64 dbl, .int .i64 dad, .int .i64 dlf, .int .i64 dsm] 25)
    have B := below_alloc (below_then (below_alloc hb1 _) hb2) (.cells #[.int .i64 dws, .int .i64 dbu, .int .i64 dwl, .int .i64 dbl, .int .i64 dad, .int .i64 dlf, .int .i64 dsm] 25)
    obtain ⟨w0, hw0⟩ : ∃ w0, w0 = w2.alloc (.cells #[.int .i64 dws, .int .i64 dbu, .int .i64 dwl, .int .i64 dbl, .int .i64 dad, .int .i64 dlf, .int .i64 dsm] 25) := ⟨_, rfl⟩
    rw [← hw0] at k1 k2 B
    have lt1 := blk_size k1
    have lt2 := blk_size k2
    obtain ⟨p0, p1, p2, p3, p4, p5, p6, _⟩ := cells7 k1
    obtain ⟨q0, q1, q2, q3, q4, q5, q6, _⟩ := cells7 k2
    have KK1 := Lib.hid k1
    have KK2 := Lib.hid k2
    have HW0 := Lib.hid hw0
    have HBB := Lib.hid B
    clear B hb1 hb2 k1 k2
    refine Lib.hid ?_
    go_wp2_with (fail)
    rw [← HW0.out]
    clear hw0
    go_region_held3 (fun w' => (∀ i, w'.cell? ⟨w1.heap.size, i, none⟩ = w0.cell? ⟨w1.heap.size, i, none⟩) ∧ (∀ i, w'.cell? ⟨w2.heap.size, i, none⟩ = w0.cell? ⟨w2.heap.size, i, none⟩) ∧ Hid (Below w0.heap.size w0 w'))
      (first | exact kept2 ((Below.refl _ _).drew) lt1 lt2 | exact kept2_next (by assumption) hbq lt1 lt2)
      ((go_at_call 24; (with_reducible refine (HTS.out _).mono ?_); rintro e wq ⟨rfl, hbq⟩))
    rename_i hH
    obtain ⟨_, _, hBq⟩ := hH
    have K1 := Lib.hid (blk_below KK1.out hBq.out)
    have K2 := Lib.hid (blk_below KK2.out hBq.out)
    have B := Lib.hid (below_then HBB.out hBq.out)
    clear HBB HT HTS KK1 KK2 hBq lt1 lt2 p0 p1 p2 p3 p4 p5 p6 q0 q1 q2 q3 q4 q5 q6 hbq
    have hcase : (K = false ∨ (K = true ∧ lf = 0)) ∨ (K = true ∧ ¬ lf = 0) := by
      cases K
      · exact .inl (.inl rfl)
      · by_cases h : lf = 0
        · exact .inl (.inr ⟨rfl, h⟩)
        · exact .inr ⟨rfl, h⟩
    go_wp2_with (first
      | (refine load_row rfl 25 (.tmp 3) rfl w1.heap.size rfl 7 _ Try.underlying25 rfl hi.out K1.out rfl ?_)
      | (go_at_call 18; (with_reducible refine (HOS.out _).mono ?_); rintro e w5 ⟨rfl, hb5⟩; refine Hid.out ?_))
    have k1 := blk_below K1.out hb5
    have k2 := blk_below K2.out hb5
    have B := Lib.hid (below_then B.out hb5)
    obtain ⟨p0, p1, p2, p3, p4, p5, p6, _⟩ := cells7 k1
    have K1 := Lib.hid k1
    have K2 := Lib.hid k2
    clear hb5 k1 k2
    rcases hcase with hz | ⟨rfl, hz⟩
    · have e := HN.out (by rcases hz with h | h; exact .inl h; exact .inr h.2)
      simp only [KeepI.mk.injEq] at e
      obtain ⟨rfl, rfl, rfl, rfl, rfl, rfl, rfl⟩ := e
      clear HN HY HRR
      rcases hz with rfl | ⟨rfl, rfl⟩
      all_goals
        refine Lib.hid ?_
        go_wp2_with (first
          | (refine load_row rfl 25 (.tmp 5) rfl w2.heap.size rfl 7 _ Try.underlying25 rfl hi.out K2.out rfl ?_)
          | (refine load_row rfl 25 (.tmp 3) rfl w1.heap.size rfl 7 _ Try.underlying25 rfl hi.out K1.out rfl ?_))
        go_ret
        exact ⟨rfl, B.out⟩
    · have e := HY.out ⟨rfl, hz⟩
      have hr := HRR.out rfl
      simp only [copyR, KeepI.mk.injEq] at e
      obtain ⟨rfl, rfl, rfl, rfl, rfl, rfl, rfl⟩ := e
      have rws := hr.ws
      have rbu := hr.bu
      have rwl := hr.wl
      have rbl := hr.bl
      have rad := hr.ad
      have rlf := hr.lf
      have rsm := hr.sm
      simp only [] at rws rbu rwl rbl rad rlf rsm
      clear HN HY HRR hr HOS
      refine Lib.hid ?_
      go_wp2_with fail
      have lt5 := blk_size K1.out
      go_region_held3 (fun w' => (∀ i, w'.cell? ⟨w1.heap.size, i, none⟩ = w5.cell? ⟨w1.heap.size, i, none⟩) ∧ Hid (Below w5.heap.size w5 w')) (exact kept1 ((Below.refl _ _).drew) lt5) (fail)
      rename_i hH
      clear hH p0 p1 p2 p3 p4 p5 p6
      have K1 := Lib.hid (row_drew K1.out)
      have K2 := Lib.hid (row_drew K2.out)
      have B := Lib.hid B.out.drew
      have hs5 := Lib.hid (show w5.drew.heap.size = w5.heap.size from rfl)
      generalize w5.drew = w6 at *
      have HS : Hid (CopAt W w1.heap.size w2.heap.size w6.heap.size #[.int .i64 dws, .int .i64 dbu, .int .i64 dwl, .int .i64 dbl, .int .i64 ad, .int .i64 lf, .int .i64 sm] #[.int .i64 dws, .int .i64 dbu, .int .i64 dwl, .int .i64 dbl, .int .i64 ((ad + 1) % 65536), .int .i64 (lf - 1), .int .i64 ((sm + p) % 256)] dws dbu dwl dbl ad lf ((0 : Nat) : Int) sm (w6.alloc (.cells #[.int .i64 dws, .int .i64 dbu, .int .i64 dwl, .int .i64 dbl, .int .i64 ad, .int .i64 lf, .int .i64 sm] 25))) := Lib.hid ⟨below_alloc B.out _, B.out.size, Nat.ne_of_lt (blk_size K1.out), Nat.ne_of_lt (blk_size K2.out), blk_old K1.out, blk_old K2.out, (by
        rw [show (ad + ((0 : Nat) : Int)) % 65536 = ad by omega, show lf - ((0 : Nat) : Int) = lf by omega, show sm % 256 = sm by omega]
        exact blk_new w6 _)⟩
      refine Lib.hid ?_
      go_wp2_with (refine load_row rfl 25 (.tmp 3) rfl w1.heap.size rfl 7 _ Try.underlying25 rfl hi.out K1.out rfl ?_)
      go_loopw [6, 7] (fun v6 v7 wr => ∃ (j : Nat) (S : Int), (j : Int) ≤ lf ∧ (0 ≤ S ∧ S ≤ 255 + 255 * (j : Int)) ∧ v6 = .int .i64 (j : Int) ∧ v7 = .int .i64 S ∧ Hid (CopAt W w1.heap.size w2.heap.size w6.heap.size #[.int .i64 dws, .int .i64 dbu, .int .i64 dwl, .int .i64 dbl, .int .i64 ad, .int .i64 lf, .int .i64 sm] #[.int .i64 dws, .int .i64 dbu, .int .i64 dwl, .int .i64 dbl, .int .i64 ((ad + 1) % 65536), .int .i64 (lf - 1), .int .i64 ((sm + p) % 256)] dws dbu dwl dbl ad lf (j : Int) S wr)) (fun v6 _ _ => 300 - (intOf v6).toNat)
      case atStart => exact ⟨0, sm, by omega, by omega, rfl, rfl, HS⟩
      case round =>
        obtain ⟨j, S, hj, hS0, rfl, rfl, hS⟩ := hrel
        have HB := Lib.hid hS.out.1
        have hgeb := hS.out.2.1
        have hn1 := hS.out.2.2.1
        have hn2 := hS.out.2.2.2.1
        have J1 := Lib.hid hS.out.2.2.2.2.1
        have J2 := Lib.hid hS.out.2.2.2.2.2.1
        have J3 := Lib.hid hS.out.2.2.2.2.2.2
        clear hS HS K1 K2 B
        by_cases hlt : (j : Int) < lf
        · have hr : KeepI.right ⟨dws, dbu, dwl, dbl, (ad + (j : Int)) % 65536, lf - (j : Int), S % 256⟩ := ⟨rws, rbu, rwl, rbl, (by show 0 ≤ (ad + (j : Int)) % 65536 ∧ (ad + (j : Int)) % 65536 ≤ 65535; omega), (by show 0 ≤ lf - (j : Int) ∧ lf - (j : Int) ≤ 255; omega), (by show 0 ≤ S % 256 ∧ S % 256 ≤ 255; omega)⟩
          obtain ⟨v, v0, v1, hat⟩ := at_fix (c := c) HC.out j (j : Int) rfl (by omega)
          have hcp := impl_copied ⟨dws, dbu, dwl, dbl, (ad + (j : Int)) % 65536, lf - (j : Int), S % 256⟩ v
          rw [copy_step (j : Int) v hr hlt] at hcp
          simp only [keepV_mk] at hcp
          have HCP := Lib.hid hcp
          have HAT := Lib.hid hat
          obtain ⟨s0, s1, s2, s3, s4, s5, s6, sz⟩ := cells7 J3.out
          clear hcp hat hr
          have hS1 : S ≤ 65535 := by omega
          go_wp2_with fail
          go_region_with (first
            | (go_at_call 25; refine (HAT.out _ HB.out.drew).mono ?_; rintro e w7 ⟨rfl, rfl⟩)
            | (go_at_call 23; (with_reducible refine (HCP.out _).mono ?_); rintro e w7 ⟨rfl, hb7⟩; obtain ⟨q0, q1, q2, q3, q4, q5, q6, qz⟩ := cells7 (blk_below (w := wr.drew) J3.out hb7)))
          all_goals
            clear s0 s1 s2 s3 s4 s5 s6 sz q0 q1 q2 q3 q4 q5 q6 qz
            go_wp2_with (go_at_call 25; refine (HAT.out _ (below7 (below_then HB.out.drew hb7) hgeb _ _ _ _ _ _ _)).mono ?_; rintro e w8 ⟨rfl, rfl⟩)
            go_roundw
            case rel => exact ⟨j + 1, S + v, by omega, by omega, by go_num, rfl, Lib.hid ⟨below7 (below_then HB.out.drew hb7) hgeb _ _ _ _ _ _ _, hgeb, hn1, hn2, far7 (blk_below (w := wr.drew) J1.out hb7) hn1 _ _ _ _ _ _ _, far7 (blk_below (w := wr.drew) J2.out hb7) hn2 _ _ _ _ _ _ _, by rw [show ((j + 1 : Nat) : Int) = (j : Int) + 1 by omega]; exact set7g (blk_below (w := wr.drew) J3.out hb7) _ _ _ _ _ _ _⟩⟩
            case measure => simp [intOf]; omega
        · obtain rfl : (j : Int) = lf := by omega
          have e1 := and_ad (ad + 1)
          have e2 := and_ad (ad + (j : Int))
          have e3 := and_255 S
          obtain ⟨p0, p1, p2, p3, p4, p5, p6, pz⟩ := cells7 J1.out
          obtain ⟨q0, q1, q2, q3, q4, q5, q6, qz⟩ := cells7 J2.out
          obtain ⟨s0, s1, s2, s3, s4, s5, s6, sz⟩ := cells7 J3.out
          go_wp2_with fail
          go_ret
          exact ⟨rfl, HB.out⟩
end Go.Proofs.Ytcnajmmpijhniaa
