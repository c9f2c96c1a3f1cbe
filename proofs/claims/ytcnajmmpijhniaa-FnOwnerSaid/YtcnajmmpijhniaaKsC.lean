/-
  The walk of the law FnOwner: it returns true, whatever is drawn.
  Conditions: none.
-/
import Derived.Test.YtcnajmmpijhniaaKpE
import Derived.Test.YtcnajmmpijhniaaKsA
namespace Go.Proofs.Ytcnajmmpijhniaa
open Go.RowKit
theorem kept1 {w0 w' : World} (h : Below w0.heap.size w0 w') {b : Nat} (hb : b < w0.heap.size) :
    (∀ i, w'.cell? ⟨b, i, none⟩ = w0.cell? ⟨b, i, none⟩) ∧ Hid (Below w0.heap.size w0 w') := ⟨fun i => h.cell (p := ⟨b, i, none⟩) hb, h⟩
theorem kept1_next {w0 wp wq : World} {b : Nat} (hS : (∀ i, wp.cell? ⟨b, i, none⟩ = w0.cell? ⟨b, i, none⟩) ∧ Hid (Below w0.heap.size w0 wp)) (hq : Below wp.heap.size wp wq) (hb : b < w0.heap.size) :
    (∀ i, wq.cell? ⟨b, i, none⟩ = w0.cell? ⟨b, i, none⟩) ∧ Hid (Below w0.heap.size w0 wq) := kept1 (below_then hS.2.out hq) hb
theorem set7g {w : World} {b : Nat} {t : TypeId} {y0 y1 y2 y3 y4 y5 y6 : Value} (h : w.heap[b]? = some (.cells #[y0, y1, y2, y3, y4, y5, y6] t (0, 0))) (x0 x1 x2 x3 x4 x5 x6 : Value) :
    (((((((w.setCell ⟨b, 0, none⟩ x0).setCell ⟨b, 1, none⟩ x1).setCell ⟨b, 2, none⟩ x2).setCell ⟨b, 3, none⟩ x3).setCell ⟨b, 4, none⟩ x4).setCell ⟨b, 5, none⟩ x5).setCell ⟨b, 6, none⟩ x6).heap[b]? = some (.cells #[x0, x1, x2, x3, x4, x5, x6] t (0, 0)) := by
  have e := row_set (i := 6) (v := x6) (row_set (i := 5) (v := x5) (row_set (i := 4) (v := x4) (row_set (i := 3) (v := x3) (row_set (i := 2) (v := x2) (row_set (i := 1) (v := x1) (row_set (i := 0) (v := x0) h))))))
  simp only [List.setIfInBounds_toArray, List.set_cons_zero, List.set_cons_succ] at e
  exact e
theorem below7 {B b : Nat} {w w1 : World} (h : Below B w w1) (hb : B ≤ b) (x0 x1 x2 x3 x4 x5 x6 : Value) :
    Below B w (((((((w1.setCell ⟨b, 0, none⟩ x0).setCell ⟨b, 1, none⟩ x1).setCell ⟨b, 2, none⟩ x2).setCell ⟨b, 3, none⟩ x3).setCell ⟨b, 4, none⟩ x4).setCell ⟨b, 5, none⟩ x5).setCell ⟨b, 6, none⟩ x6) :=
  below_put (below_put (below_put (below_put (below_put (below_put (below_put h hb) hb) hb) hb) hb) hb) hb
/-- The keeper that stands there behind so many clocks of others. -/
def OwnAt (W : World) (b : Nat) (ws bu ad lf sm j : Int) (wr : World) : Prop :=
  Below W.heap.size W wr ∧ W.heap.size ≤ b ∧ ∃ wl bl : Int, (0 ≤ wl ∧ wl ≤ ws) ∧ (0 ≤ bl ∧ bl ≤ bu) ∧ j + wl + bl ≤ ws + bu ∧ wr.heap[b]? = some (.cells #[.int .i64 ws, .int .i64 bu, .int .i64 wl, .int .i64 bl, .int .i64 ad, .int .i64 lf, .int .i64 sm] 25 (0, 0))
theorem own_free {k : KeepI} (hr : k.right) : (ownI k true true = 2 ∧ 0 < k.bl ∧ spendI k 2 = { k with bl := k.bl - 1 }) ∨ (ownI k true true = 1 ∧ 0 < k.wl ∧ spendI k 1 = { k with wl := k.wl - 1 }) ∨ ownI k true true = 0 := by
  have hk := (okK_iff k).2 hr
  by_cases h1 : 0 < k.lf ∧ 0 < k.bl
  · have hz : ¬ k.bl = 0 := by omega
    exact .inl ⟨ownI_copy k true h1.1 h1.2, h1.2, by unfold spendI spendR lessI; rw [hk]; simp [hz]⟩
  · by_cases h2 : 0 < k.wl
    · have hz : ¬ k.wl = 0 := by omega
      exact .inr (.inl ⟨ownI_wait h1 h2, h2, by unfold spendI spendR lessI; rw [hk]; simp [hz]⟩)
    · exact .inr (.inr (ownI_core h1 (fun h => h2 h.2)))
theorem spend_core {k : KeepI} (hr : k.right) : spendI k 0 = { k with wl := k.ws, bl := k.bu } := by
  unfold spendI spendR
  rw [(okK_iff k).2 hr]
  rfl
set_option maxRecDepth 100000 in
set_option maxHeartbeats 8000000 in
theorem owner_law (A : Option Addr) (n c : Nat) (W : World) (hrow : RowB W A n) :
    Calls Try.prog 3 #[.slice A n c] W fun e w' => e = .returned (.bool true) ∧ Below W.heap.size W w' := by
  have hm := hrow.1
  unfold maxLen at hm
  by_cases hbig : 1048576 < n
  · clear hrow
    go_enter Try.func3, Try.ntmps3
    go_wp2_with (go_in)
    go_ret
    exact ⟨rfl, Below.refl _ _⟩
  · have hcode := hrow.code (by omega)
    have hi := Lib.hid keep_size
    have hD := drawOwner_any W.heap.size n c A W (Nat.le_refl _) hcode
    unfold DrawKeepB at hD
    clear hrow hcode
    go_enter Try.func3, Try.ntmps3
    go_wp2_with (first
      | (go_at_call 13; go_in)
      | (go_at_call 14; refine hD.mono ?_; rintro e w1 ⟨x, wait, reading, rfl, hb1⟩; refine Hid.out ?_))
    clear hD
    have HT := impl_owner x wait reading
    have HOS := spec_owner x wait reading
    have HKS := spec_keeperOk x
    have HKI := impl_keeperOk x
    have hno : reading = false → ownI x wait reading = 0 := by rintro rfl; rfl
    have HN := Lib.hid hno
    clear hno
    have hge : W.heap.size ≤ w1.heap.size := hb1.size
    obtain ⟨O, hO⟩ : ∃ O, O = ownI x wait reading := ⟨_, rfl⟩
    rw [← hO] at HT HOS HN
    clear hO
    obtain ⟨K, hK⟩ : ∃ K, K = okK x := ⟨_, rfl⟩
    rw [← hK] at HKS HKI
    have HRR : Hid (K = true → x.right) := Lib.hid (fun h => (okK_iff x).1 (hK.symm.trans h))
    clear hK
    obtain ⟨ws, bu, wl, bl, ad, lf, sm⟩ := x
    simp only [keepV_mk] at HT HOS HKS HKI ⊢
    have HT := Lib.hid HT
    have HOS := Lib.hid HOS
    have HKS := Lib.hid HKS
    have HKI := Lib.hid HKI
    refine Lib.hid ?_
    go_wp2_with (go_at_call 15; (with_reducible refine (HT.out _).mono ?_); rintro e w0 ⟨rfl, hb2⟩; refine Hid.out ?_)
    have k1 := blk_below (blk_new w1 (.cells #[.int .i64 ws, .int .i64 bu, .int .i64 wl, .int .i64 bl, .int .i64 ad, .int .i64 lf, .int .i64 sm] 25)) hb2
    have BB := Lib.hid (below_then (below_alloc hb1 _) hb2)
    have lt1 := blk_size k1
    obtain ⟨p0, p1, p2, p3, p4, p5, p6, _⟩ := cells7 k1
    have KK1 := Lib.hid k1
    clear hb1 hb2 k1
    refine Lib.hid ?_
    go_wp2_with (fail)
    cases reading
    · have hO := HN.out rfl
      subst hO
      go_region_held3 (fun w' => (∀ i, w'.cell? ⟨w1.heap.size, i, none⟩ = w0.cell? ⟨w1.heap.size, i, none⟩) ∧ Hid (Below w0.heap.size w0 w'))
        (first | exact kept1 ((Below.refl _ _).drew) lt1 | exact kept1_next (by assumption) hbq lt1)
        (first
        | (go_at_call 16; (with_reducible refine (HOS.out _).mono ?_); rintro e wq ⟨rfl, hbq⟩)
        | (go_at_call 17; (with_reducible refine (HKI.out _).mono ?_); rintro e wq ⟨rfl, hbq⟩)
        | (go_at_call 18; (with_reducible refine (HKS.out _).mono ?_); rintro e wq ⟨rfl, hbq⟩))
      rename_i hHeld
      obtain ⟨_, hBq⟩ := hHeld
      have K1 := Lib.hid (blk_below KK1.out hBq.out)
      have B := Lib.hid (below_then BB.out hBq.out)
      clear BB HT HOS KK1 hBq lt1 p0 p1 p2 p3 p4 p5 p6
      go_wp2_with (first
        | (refine load_row rfl 25 (.tmp 3) rfl w1.heap.size rfl 7 _ Try.underlying25 rfl hi.out K1.out rfl ?_)
        | (go_at_call 18; (with_reducible refine (HKS.out _).mono ?_); rintro e w5 ⟨rfl, hb5⟩; refine Hid.out ?_))
      have K1 := Lib.hid (blk_below K1.out hb5)
      have B := Lib.hid (below_then B.out hb5)
      clear hb5
      cases K
      · refine Lib.hid ?_
        go_wp2_with fail
        go_ret
        exact ⟨rfl, B.out⟩
      · have hr := HRR.out rfl
        have HS : Hid (OwnAt W w1.heap.size ws bu ad lf sm ((0 : Nat) : Int) w5) := Lib.hid ⟨B.out, hge, wl, bl, hr.wl, hr.bl, (by have h1 := hr.wl; have h2 := hr.bl; simp only [] at h1 h2; omega), K1.out⟩
        have rws := hr.ws
        have rbu := hr.bu
        have rad := hr.ad
        have rlf := hr.lf
        have rsm := hr.sm
        simp only [] at rws rbu rad rlf rsm
        clear HKI HKS HRR HN hr K1 B
        refine Lib.hid ?_
        go_wp2_with fail
        go_loopw [7] (fun v7 wr => ∃ j : Nat, j ≤ 16 ∧ v7 = .int .i64 (j : Int) ∧ Hid (OwnAt W w1.heap.size ws bu ad lf sm (j : Int) wr)) (fun v7 _ => 16 - (intOf v7).toNat)
        case atStart => exact ⟨0, by omega, rfl, HS⟩
        case round =>
          obtain ⟨j, hj, rfl, hS⟩ := hrel
          have HB := Lib.hid hS.out.1
          obtain ⟨wl', bl', rwl, rbl, hsum, hrow⟩ := hS.out.2.2
          have hr : KeepI.right ⟨ws, bu, wl', bl', ad, lf, sm⟩ := ⟨rws, rbu, rwl, rbl, rad, rlf, rsm⟩
          have hOW := impl_owner ⟨ws, bu, wl', bl', ad, lf, sm⟩ true true
          have hSP := impl_spend ⟨ws, bu, wl', bl', ad, lf, sm⟩ (ownI ⟨ws, bu, wl', bl', ad, lf, sm⟩ true true)
          have hw := own_free hr
          have hcr := spend_core hr
          have hS0 := impl_spend ⟨ws, bu, wl', bl', ad, lf, sm⟩ 0
          have hKO := impl_keeperOk ⟨ws, bu, ws, bu, ad, lf, sm⟩
          have hok : okK ⟨ws, bu, ws, bu, ad, lf, sm⟩ = true := (okK_iff _).2 ⟨rws, rbu, ⟨rws.1, Int.le_refl _⟩, ⟨rbu.1, Int.le_refl _⟩, rad, rlf, rsm⟩
          rw [hcr] at hS0
          rw [hok] at hKO
          generalize ownI ⟨ws, bu, wl', bl', ad, lf, sm⟩ true true = o at *
          have K := Lib.hid hrow
          have HJ := Lib.hid hsum
          clear hS hok hcr hr hrow hsum HS
          rcases hw with ⟨rfl, g1, e⟩ | ⟨rfl, g1, e⟩ | rfl
          rotate_left 2
          · simp only [keepV_mk] at hOW hS0 hKO
            have HOW := Lib.hid hOW
            have HS0 := Lib.hid hS0
            have HKO := Lib.hid hKO
            clear hOW hS0 hKO hSP
            go_wp2_with (first
              | (refine load_row rfl 25 (.tmp 3) rfl w1.heap.size rfl 7 _ Try.underlying25 rfl hi.out K.out rfl ?_)
              | (go_at_call 15; (with_reducible refine (HOW.out _).mono ?_); rintro e w6 ⟨rfl, hb6⟩; refine Hid.out ?_))
            have B := Lib.hid (below_then HB.out hb6)
            have K := Lib.hid (blk_below K.out hb6)
            clear hb6 HB
            refine Lib.hid ?_
            go_wp2_with (first
              | (refine load_row rfl 25 (.tmp 3) rfl w1.heap.size rfl 7 _ Try.underlying25 rfl hi.out K.out rfl ?_)
              | (go_at_call 19; (with_reducible refine (HS0.out _).mono ?_); rintro e w7 ⟨rfl, hb7⟩; refine Hid.out ?_))
            have B := Lib.hid (below_then B.out hb7)
            have K := Lib.hid (blk_below K.out hb7)
            clear hb7
            refine Lib.hid ?_
            go_wp2_with (refine store_row rfl 25 (.tmp 3) _ rfl w1.heap.size _ rfl rfl 7 hi.out K.out rfl rfl (by rfl) ?_; refine Hid.out ?_)
            have hle : (j : Int) ≤ ws + bu := by have := HJ.out; omega
            obtain ⟨p0, p1, p2, p3, p4, p5, p6, pz⟩ := cells7 (setRow_heap w7 w1.heap.size _ #[.int .i64 ws, .int .i64 bu, .int .i64 ws, .int .i64 bu, .int .i64 ad, .int .i64 lf, .int .i64 sm] _ _ K.out)
            refine Lib.hid ?_
            go_wp2_with (go_at_call 17; (with_reducible refine (HKO.out _).mono ?_); rintro e w9 ⟨rfl, hb9⟩)
            go_ret
            exact ⟨rfl, below_then (below_row B.out hge) hb9⟩
          all_goals
            rw [e] at hSP
            simp only [keepV_mk] at hOW hSP
            have HOW := Lib.hid hOW
            have HSP := Lib.hid hSP
            clear hOW hS0 hKO hSP e
            go_wp2_with (first
              | (refine load_row rfl 25 (.tmp 3) rfl w1.heap.size rfl 7 _ Try.underlying25 rfl hi.out K.out rfl ?_)
              | (go_at_call 15; (with_reducible refine (HOW.out _).mono ?_); rintro e w6 ⟨rfl, hb6⟩; refine Hid.out ?_))
            have B := Lib.hid (below_then HB.out hb6)
            have K := Lib.hid (blk_below K.out hb6)
            obtain ⟨p0, p1, p2, p3, p4, p5, p6, pz⟩ := cells7 K.out
            clear hb6 HB
            refine Lib.hid ?_
            go_wp2_with fail
            go_region_with (first
              | (go_at_call 15; (with_reducible refine (HOW.out _).mono ?_); rintro e w7 ⟨rfl, hb7⟩; obtain ⟨q0, q1, q2, q3, q4, q5, q6, qz⟩ := cells7 (blk_below (w := w6.drew) K.out hb7))
              | (go_at_call 19; (with_reducible refine (HSP.out _).mono ?_); rintro e w8 ⟨rfl, hb8⟩; obtain ⟨s0, s1, s2, s3, s4, s5, s6, sz⟩ := cells7 (blk_below (blk_below (w := w6.drew) K.out hb7) hb8)))
            all_goals
              clear p0 p1 p2 p3 p4 p5 p6 pz q0 q1 q2 q3 q4 q5 q6 qz s0 s1 s2 s3 s4 s5 s6 sz
              go_wp2_with fail
              go_roundw
              case rel => exact ⟨j + 1, by have := HJ.out; omega, by go_num, Lib.hid ⟨below7 (below_then (below_then B.out.drew hb7) hb8) hge _ _ _ _ _ _ _, hge, _, _, (by constructor <;> first | exact rwl | omega), (by first | exact rbl | omega), (by have := HJ.out; omega), set7g (blk_below (blk_below (w := w6.drew) K.out hb7) hb8) _ _ _ _ _ _ _⟩⟩
              case measure => simp [intOf]; have := HJ.out; omega
    · refine wp_region_held_drew (S := (fun w' => (∀ i, w'.cell? ⟨w1.heap.size, i, none⟩ = w0.cell? ⟨w1.heap.size, i, none⟩) ∧ Hid (Below w0.heap.size w0 w'))) (by kernel_rfl) (kept1 ((Below.refl _ _).drew) lt1) (fun hHeld => ?_)
      refine wpAnyH_take (i := 0) (oi := _) (v := ?_) rfl (by kernel_rfl) (by kernel_rfl) (by kernel_rfl) (fun _ _ _ h => h) (Or.inl ⟨by rfl, ?_⟩) hHeld ?_
      rotate_left 1
      · intro wz hz
        (try dsimp only at hz)
        go_simp
        (try with_reducible rfl)
      (try simp only [Act.put, List.getElem_toArray, List.getElem_cons_zero, List.setIfInBounds_toArray, List.set_cons_zero, List.set_cons_succ])
      refine wpAnyH_take (i := 1) (oi := _) (v := ?_) rfl (by kernel_rfl) (by kernel_rfl) (by kernel_rfl) (fun _ _ _ h => h) (Or.inl ⟨by rfl, ?_⟩) hHeld ?_
      rotate_left 1
      · intro wz hz
        (try dsimp only at hz)
        go_simp
        (try with_reducible rfl)
      (try simp only [Act.put, List.getElem_toArray, List.getElem_cons_zero, List.getElem_cons_succ, List.setIfInBounds_toArray, List.set_cons_zero, List.set_cons_succ])
      refine wpAnyH_take (i := 2) (oi := _) (v := ?_) rfl (by kernel_rfl) (by kernel_rfl) (by kernel_rfl) (fun _ _ _ h => h) (Or.inl ⟨by rfl, ?_⟩) hHeld ?_
      rotate_left 1
      · intro wz hz
        (try dsimp only at hz)
        go_simp
        (try with_reducible rfl)
      (try simp only [Act.put, List.getElem_toArray, List.getElem_cons_zero, List.getElem_cons_succ, List.setIfInBounds_toArray, List.set_cons_zero, List.set_cons_succ])
      refine wpAnyH_take (i := 3) (oi := _) (v := ?_) rfl (by kernel_rfl) (by kernel_rfl) (by kernel_rfl) (fun _ _ _ h => h) (Or.inl ⟨by rfl, ?_⟩) hHeld ?_
      rotate_left 1
      · intro wz hz
        (try dsimp only at hz)
        go_simp
        (try with_reducible rfl)
      (try simp only [Act.put, List.getElem_toArray, List.getElem_cons_zero, List.getElem_cons_succ, List.setIfInBounds_toArray, List.set_cons_zero, List.set_cons_succ])
      refine wpAnyH_ready (rs := [4]) (by kernel_rfl) (by simp) ?_
      refine AllReadyH.cons (o := _) rfl (fun K' hK' => ?_) ?_
      · go_simp
        (go_at_call 16; (with_reducible refine (HOS.out _).mono ?_); rintro e wq ⟨rfl, hbq⟩)
        refine hK'.out _ _ (kept1_next hHeld hbq lt1) (fun hHeld => ?_)
        clear hK' K'
        (try simp only [Act.put, List.getElem_toArray, List.getElem_cons_zero, List.getElem_cons_succ, List.setIfInBounds_toArray, List.set_cons_zero, List.set_cons_succ])
        refine wpAnyH_take (i := 5) (oi := _) (v := ?_) rfl (by kernel_rfl) (by kernel_rfl) (by kernel_rfl) (fun _ _ _ h => h) (Or.inl ⟨by rfl, ?_⟩) hHeld ?_
        rotate_left 1
        · intro wz hz
          (try dsimp only at hz)
          go_simp
          (try with_reducible rfl)
        (try simp only [Act.put, List.getElem_toArray, List.getElem_cons_zero, List.getElem_cons_succ, List.setIfInBounds_toArray, List.set_cons_zero, List.set_cons_succ])
        refine wpAnyH_take (i := 6) (oi := _) (v := ?_) rfl (by kernel_rfl) (by kernel_rfl) (by kernel_rfl) (fun _ _ _ h => h) (Or.inl ⟨by rfl, ?_⟩) hHeld ?_
        rotate_left 1
        · intro wz hz
          (try dsimp only at hz)
          go_simp
          (try with_reducible rfl)
        (try simp only [Act.put, List.getElem_toArray, List.getElem_cons_zero, List.getElem_cons_succ, List.setIfInBounds_toArray, List.set_cons_zero, List.set_cons_succ])
        refine wpAnyH_take (i := 7) (oi := _) (v := ?_) rfl (by kernel_rfl) (by kernel_rfl) (by kernel_rfl) (fun _ _ _ h => h) (Or.inl ⟨by rfl, ?_⟩) hHeld ?_
        rotate_left 1
        · intro wz hz
          (try dsimp only at hz)
          go_simp
          (try with_reducible rfl)
        (try simp only [Act.put, List.getElem_toArray, List.getElem_cons_zero, List.getElem_cons_succ, List.setIfInBounds_toArray, List.set_cons_zero, List.set_cons_succ])
        refine wpAnyH_take (i := 9) (oi := _) (v := ?_) rfl (by kernel_rfl) (by kernel_rfl) (by kernel_rfl) (fun _ _ _ h => h) (Or.inl ⟨by rfl, ?_⟩) hHeld ?_
        rotate_left 1
        · intro wz hz
          (try dsimp only at hz)
          go_simp
          (try with_reducible rfl)
        (try simp only [Act.put, List.getElem_toArray, List.getElem_cons_zero, List.getElem_cons_succ, List.setIfInBounds_toArray, List.set_cons_zero, List.set_cons_succ])
        refine wpAnyH_ready (rs := [8]) (by kernel_rfl) (by simp) ?_
        refine AllReadyH.cons (o := _) rfl (fun K' hK' => ?_) ?_
        · go_simp
          (go_at_call 17; (with_reducible refine (HKI.out _).mono ?_); rintro e wq ⟨rfl, hbq⟩)
          refine hK'.out _ _ (kept1_next hHeld hbq lt1) (fun hHeld => ?_)
          clear hK' K'
          (try simp only [Act.put, List.getElem_toArray, List.getElem_cons_zero, List.getElem_cons_succ, List.setIfInBounds_toArray, List.set_cons_zero, List.set_cons_succ])
          refine wpAnyH_ready (rs := [10]) (by kernel_rfl) (by simp) ?_
          refine AllReadyH.cons (o := _) rfl (fun K' hK' => ?_) ?_
          · go_simp
            (go_at_call 18; (with_reducible refine (HKS.out _).mono ?_); rintro e wq ⟨rfl, hbq⟩)
            refine hK'.out _ _ (kept1_next hHeld hbq lt1) (fun hHeld => ?_)
            clear hK' K'
            (try simp only [Act.put, List.getElem_toArray, List.getElem_cons_zero, List.getElem_cons_succ, List.setIfInBounds_toArray, List.set_cons_zero, List.set_cons_succ])
            refine wpAnyH_take (i := 11) (oi := _) (v := ?_) rfl (by kernel_rfl) (by kernel_rfl) (by kernel_rfl) (fun _ _ _ h => h) (Or.inl ⟨by rfl, ?_⟩) hHeld ?_
            rotate_left 1
            · intro wz hz
              (try dsimp only at hz)
              go_simp
              (try with_reducible rfl)
            (try simp only [Act.put, List.getElem_toArray, List.getElem_cons_zero, List.getElem_cons_succ, List.setIfInBounds_toArray, List.set_cons_zero, List.set_cons_succ])
            refine wpAnyH_take (i := 12) (oi := _) (v := ?_) rfl (by kernel_rfl) (by kernel_rfl) (by kernel_rfl) (fun _ _ _ h => h) (Or.inl ⟨by rfl, ?_⟩) hHeld ?_
            rotate_left 1
            · intro wz hz
              (try dsimp only at hz)
              go_simp
              (try with_reducible rfl)
            (try simp only [Act.put, List.getElem_toArray, List.getElem_cons_zero, List.getElem_cons_succ, List.setIfInBounds_toArray, List.set_cons_zero, List.set_cons_succ])
            refine wpAnyH_take (i := 13) (oi := _) (v := ?_) rfl (by kernel_rfl) (by kernel_rfl) (by kernel_rfl) (fun _ _ _ h => h) (Or.inl ⟨by rfl, ?_⟩) hHeld ?_
            rotate_left 1
            · intro wz hz
              (try dsimp only at hz)
              go_simp
              (try with_reducible rfl)
            (try simp only [Act.put, List.getElem_toArray, List.getElem_cons_zero, List.getElem_cons_succ, List.setIfInBounds_toArray, List.set_cons_zero, List.set_cons_succ])
            refine wpAnyH_take (i := 14) (oi := _) (v := ?_) rfl (by kernel_rfl) (by kernel_rfl) (by kernel_rfl) (fun _ _ _ h => h) (Or.inl ⟨by rfl, ?_⟩) hHeld ?_
            rotate_left 1
            · intro wz hz
              (try dsimp only at hz)
              go_simp
              (try with_reducible rfl)
            (try simp only [Act.put, List.getElem_toArray, List.getElem_cons_zero, List.getElem_cons_succ, List.setIfInBounds_toArray, List.set_cons_zero, List.set_cons_succ])
            refine wpAnyH_take (i := 15) (oi := _) (v := ?_) rfl (by kernel_rfl) (by kernel_rfl) (by kernel_rfl) (fun _ _ _ h => h) (Or.inl ⟨by rfl, ?_⟩) hHeld ?_
            rotate_left 1
            · intro wz hz
              (try dsimp only at hz)
              go_simp
              (try with_reducible rfl)
            (try simp only [Act.put, List.getElem_toArray, List.getElem_cons_zero, List.getElem_cons_succ, List.setIfInBounds_toArray, List.set_cons_zero, List.set_cons_succ])
            refine wpAnyH_take (i := 16) (oi := _) (v := ?_) rfl (by kernel_rfl) (by kernel_rfl) (by kernel_rfl) (fun _ _ _ h => h) (Or.inl ⟨by rfl, ?_⟩) hHeld ?_
            rotate_left 1
            · intro wz hz
              (try dsimp only at hz)
              go_simp
              (try with_reducible rfl)
            (try simp only [Act.put, List.getElem_toArray, List.getElem_cons_zero, List.getElem_cons_succ, List.setIfInBounds_toArray, List.set_cons_zero, List.set_cons_succ])
            refine wpAnyH_take (i := 17) (oi := _) (v := undef) rfl (by kernel_rfl) (by kernel_rfl) (by kernel_rfl) (fun _ _ _ h => h) (Or.inr ⟨by rfl, rfl⟩) hHeld ?_
            (try simp only [Act.put, List.getElem_toArray, List.getElem_cons_zero, List.getElem_cons_succ, List.setIfInBounds_toArray, List.set_cons_zero, List.set_cons_succ])
            refine wpAnyH_take (i := 18) (oi := _) (v := undef) rfl (by kernel_rfl) (by kernel_rfl) (by kernel_rfl) (fun _ _ _ h => h) (Or.inr ⟨by rfl, rfl⟩) hHeld ?_
            (try simp only [Act.put, List.getElem_toArray, List.getElem_cons_zero, List.getElem_cons_succ, List.setIfInBounds_toArray, List.set_cons_zero, List.set_cons_succ])
            refine wpAnyH_take (i := 19) (oi := _) (v := ?_) rfl (by kernel_rfl) (by kernel_rfl) (by kernel_rfl) (fun _ _ _ h => h) (Or.inl ⟨by rfl, ?_⟩) hHeld ?_
            rotate_left 1
            · intro wz hz
              (try dsimp only at hz)
              go_simp
              (try with_reducible rfl)
            (try simp only [Act.put, List.getElem_toArray, List.getElem_cons_zero, List.getElem_cons_succ, List.setIfInBounds_toArray, List.set_cons_zero, List.set_cons_succ])
            refine wpAnyH_take (i := 20) (oi := _) (v := ?_) rfl (by kernel_rfl) (by kernel_rfl) (by kernel_rfl) (fun _ _ _ h => h) (Or.inl ⟨by rfl, ?_⟩) hHeld ?_
            rotate_left 1
            · intro wz hz
              (try dsimp only at hz)
              go_simp
              (try with_reducible rfl)
            (try simp only [Act.put, List.getElem_toArray, List.getElem_cons_zero, List.getElem_cons_succ, List.setIfInBounds_toArray, List.set_cons_zero, List.set_cons_succ])
            refine wpAnyH_done (by kernel_rfl) ?_ _
            obtain ⟨_, hBq⟩ := hHeld
            have K1 := Lib.hid (blk_below KK1.out hBq.out)
            have B := Lib.hid (below_then BB.out hBq.out)
            clear BB HT HOS KK1 hBq lt1 p0 p1 p2 p3 p4 p5 p6
            go_wp2_with (first
              | (refine load_row rfl 25 (.tmp 3) rfl w1.heap.size rfl 7 _ Try.underlying25 rfl hi.out K1.out rfl ?_)
              | (go_at_call 18; (with_reducible refine (HKS.out _).mono ?_); rintro e w5 ⟨rfl, hb5⟩; refine Hid.out ?_))
            have K1 := Lib.hid (blk_below K1.out hb5)
            have B := Lib.hid (below_then B.out hb5)
            clear hb5
            cases K
            · refine Lib.hid ?_
              go_wp2_with fail
              go_ret
              exact ⟨rfl, B.out⟩
            · have hr := HRR.out rfl
              have HS : Hid (OwnAt W w1.heap.size ws bu ad lf sm ((0 : Nat) : Int) w5) := Lib.hid ⟨B.out, hge, wl, bl, hr.wl, hr.bl, (by have h1 := hr.wl; have h2 := hr.bl; simp only [] at h1 h2; omega), K1.out⟩
              have rws := hr.ws
              have rbu := hr.bu
              have rad := hr.ad
              have rlf := hr.lf
              have rsm := hr.sm
              simp only [] at rws rbu rad rlf rsm
              clear HKI HKS HRR HN hr K1 B
              refine Lib.hid ?_
              go_wp2_with fail
              go_loopw [7] (fun v7 wr => ∃ j : Nat, j ≤ 16 ∧ v7 = .int .i64 (j : Int) ∧ Hid (OwnAt W w1.heap.size ws bu ad lf sm (j : Int) wr)) (fun v7 _ => 16 - (intOf v7).toNat)
              case atStart => exact ⟨0, by omega, rfl, HS⟩
              case round =>
                obtain ⟨j, hj, rfl, hS⟩ := hrel
                have HB := Lib.hid hS.out.1
                obtain ⟨wl', bl', rwl, rbl, hsum, hrow⟩ := hS.out.2.2
                have hr : KeepI.right ⟨ws, bu, wl', bl', ad, lf, sm⟩ := ⟨rws, rbu, rwl, rbl, rad, rlf, rsm⟩
                have hOW := impl_owner ⟨ws, bu, wl', bl', ad, lf, sm⟩ true true
                have hSP := impl_spend ⟨ws, bu, wl', bl', ad, lf, sm⟩ (ownI ⟨ws, bu, wl', bl', ad, lf, sm⟩ true true)
                have hw := own_free hr
                have hcr := spend_core hr
                have hS0 := impl_spend ⟨ws, bu, wl', bl', ad, lf, sm⟩ 0
                have hKO := impl_keeperOk ⟨ws, bu, ws, bu, ad, lf, sm⟩
                have hok : okK ⟨ws, bu, ws, bu, ad, lf, sm⟩ = true := (okK_iff _).2 ⟨rws, rbu, ⟨rws.1, Int.le_refl _⟩, ⟨rbu.1, Int.le_refl _⟩, rad, rlf, rsm⟩
                rw [hcr] at hS0
                rw [hok] at hKO
                generalize ownI ⟨ws, bu, wl', bl', ad, lf, sm⟩ true true = o at *
                have K := Lib.hid hrow
                have HJ := Lib.hid hsum
                clear hS hok hcr hr hrow hsum HS
                rcases hw with ⟨rfl, g1, e⟩ | ⟨rfl, g1, e⟩ | rfl
                rotate_left 2
                · simp only [keepV_mk] at hOW hS0 hKO
                  have HOW := Lib.hid hOW
                  have HS0 := Lib.hid hS0
                  have HKO := Lib.hid hKO
                  clear hOW hS0 hKO hSP
                  go_wp2_with (first
                    | (refine load_row rfl 25 (.tmp 3) rfl w1.heap.size rfl 7 _ Try.underlying25 rfl hi.out K.out rfl ?_)
                    | (go_at_call 15; (with_reducible refine (HOW.out _).mono ?_); rintro e w6 ⟨rfl, hb6⟩; refine Hid.out ?_))
                  have B := Lib.hid (below_then HB.out hb6)
                  have K := Lib.hid (blk_below K.out hb6)
                  clear hb6 HB
                  refine Lib.hid ?_
                  go_wp2_with (first
                    | (refine load_row rfl 25 (.tmp 3) rfl w1.heap.size rfl 7 _ Try.underlying25 rfl hi.out K.out rfl ?_)
                    | (go_at_call 19; (with_reducible refine (HS0.out _).mono ?_); rintro e w7 ⟨rfl, hb7⟩; refine Hid.out ?_))
                  have B := Lib.hid (below_then B.out hb7)
                  have K := Lib.hid (blk_below K.out hb7)
                  clear hb7
                  refine Lib.hid ?_
                  go_wp2_with (refine store_row rfl 25 (.tmp 3) _ rfl w1.heap.size _ rfl rfl 7 hi.out K.out rfl rfl (by rfl) ?_; refine Hid.out ?_)
                  have hle : (j : Int) ≤ ws + bu := by have := HJ.out; omega
                  obtain ⟨p0, p1, p2, p3, p4, p5, p6, pz⟩ := cells7 (setRow_heap w7 w1.heap.size _ #[.int .i64 ws, .int .i64 bu, .int .i64 ws, .int .i64 bu, .int .i64 ad, .int .i64 lf, .int .i64 sm] _ _ K.out)
                  refine Lib.hid ?_
                  go_wp2_with (go_at_call 17; (with_reducible refine (HKO.out _).mono ?_); rintro e w9 ⟨rfl, hb9⟩)
                  go_ret
                  exact ⟨rfl, below_then (below_row B.out hge) hb9⟩
                all_goals
                  rw [e] at hSP
                  simp only [keepV_mk] at hOW hSP
                  have HOW := Lib.hid hOW
                  have HSP := Lib.hid hSP
                  clear hOW hS0 hKO hSP e
                  go_wp2_with (first
                    | (refine load_row rfl 25 (.tmp 3) rfl w1.heap.size rfl 7 _ Try.underlying25 rfl hi.out K.out rfl ?_)
                    | (go_at_call 15; (with_reducible refine (HOW.out _).mono ?_); rintro e w6 ⟨rfl, hb6⟩; refine Hid.out ?_))
                  have B := Lib.hid (below_then HB.out hb6)
                  have K := Lib.hid (blk_below K.out hb6)
                  obtain ⟨p0, p1, p2, p3, p4, p5, p6, pz⟩ := cells7 K.out
                  clear hb6 HB
                  refine Lib.hid ?_
                  go_wp2_with fail
                  go_region_with (first
                    | (go_at_call 15; (with_reducible refine (HOW.out _).mono ?_); rintro e w7 ⟨rfl, hb7⟩; obtain ⟨q0, q1, q2, q3, q4, q5, q6, qz⟩ := cells7 (blk_below (w := w6.drew) K.out hb7))
                    | (go_at_call 19; (with_reducible refine (HSP.out _).mono ?_); rintro e w8 ⟨rfl, hb8⟩; obtain ⟨s0, s1, s2, s3, s4, s5, s6, sz⟩ := cells7 (blk_below (blk_below (w := w6.drew) K.out hb7) hb8)))
                  all_goals
                    clear p0 p1 p2 p3 p4 p5 p6 pz q0 q1 q2 q3 q4 q5 q6 qz s0 s1 s2 s3 s4 s5 s6 sz
                    go_wp2_with fail
                    go_roundw
                    case rel => exact ⟨j + 1, by have := HJ.out; omega, by go_num, Lib.hid ⟨below7 (below_then (below_then B.out.drew hb7) hb8) hge _ _ _ _ _ _ _, hge, _, _, (by constructor <;> first | exact rwl | omega), (by first | exact rbl | omega), (by have := HJ.out; omega), set7g (blk_below (blk_below (w := w6.drew) K.out hb7) hb8) _ _ _ _ _ _ _⟩⟩
                    case measure => simp [intOf]; have := HJ.out; omega
          exact AllReadyH.nil
        exact AllReadyH.nil
      exact AllReadyH.nil
end Go.Proofs.Ytcnajmmpijhniaa
