/-
  The walk of the law FnKeeper: it returns true, whatever is drawn.
  Conditions: none.
-/
import Derived.Test.YtcnajmmpijhniaaKsA
import Derived.Test.YtcnajmmpijhniaaKpG
import Derived.Test.YtcnajmmpijhniaaKpH
namespace Go.Proofs.Ytcnajmmpijhniaa
open Go.RowKit
theorem read_written {k : KeepI} (hr : k.right) (r v : Int) : readKI (writeKI k r v) r = v % 256 := by
  have hy : okK (writeKI k r v) = true := by
    unfold writeKI
    rw [(okK_iff k).2 hr]
    exact (okK_iff _).2 (writeKR_right hr _ _ (by omega))
  have e : writeKI k r v = writeKR k (r % 4) (v % 256) := by unfold writeKI; rw [(okK_iff k).2 hr]; rfl
  unfold readKI
  rw [hy, e]
  have h5 := hr.ad
  have hv : 0 ≤ v % 256 ∧ v % 256 ≤ 255 := by omega
  generalize v % 256 = V at *
  unfold readKR writeKR
  have h : r % 4 = 0 ∨ r % 4 = 1 ∨ r % 4 = 2 ∨ r % 4 = 3 := by omega
  rcases h with h | h | h | h
  all_goals
    rw [h]
    simp
    try omega
theorem read_other {k : KeepI} (hr : k.right) (r v s : Int) (hs : ¬ s % 4 = r % 4) : readKI (writeKI k r v) s = readKI k s := by
  have hy : okK (writeKI k r v) = true := by
    unfold writeKI
    rw [(okK_iff k).2 hr]
    exact (okK_iff _).2 (writeKR_right hr _ _ (by omega))
  have e : writeKI k r v = writeKR k (r % 4) (v % 256) := by unfold writeKI; rw [(okK_iff k).2 hr]; rfl
  unfold readKI
  rw [hy, e, (okK_iff k).2 hr]
  have h5 := hr.ad
  have hv : 0 ≤ v % 256 ∧ v % 256 ≤ 255 := by omega
  generalize v % 256 = V at *
  unfold readKR writeKR
  have h : r % 4 = 0 ∨ r % 4 = 1 ∨ r % 4 = 2 ∨ r % 4 = 3 := by omega
  have h2 : s % 4 = 0 ∨ s % 4 = 1 ∨ s % 4 = 2 ∨ s % 4 = 3 := by omega
  rcases h with h | h | h | h <;> rcases h2 with h2 | h2 | h2 | h2
  all_goals
    rw [h, h2] at hs ⊢
    simp at hs ⊢
    try omega
theorem write_bu {k : KeepI} (r v : Int) : (writeKI k r v).bu = k.bu := by
  unfold writeKI
  split
  · unfold writeKR
    repeat' split
    all_goals rfl
  · rfl
theorem kept3 {w0 w' : World} (h : Below w0.heap.size w0 w') {b c d : Nat} (hb : b < w0.heap.size) (hc : c < w0.heap.size) (hd : d < w0.heap.size) :
    (∀ i, w'.cell? ⟨b, i, none⟩ = w0.cell? ⟨b, i, none⟩) ∧ (∀ i, w'.cell? ⟨c, i, none⟩ = w0.cell? ⟨c, i, none⟩) ∧ (∀ i, w'.cell? ⟨d, i, none⟩ = w0.cell? ⟨d, i, none⟩) ∧ Hid (Below w0.heap.size w0 w') :=
  ⟨fun i => h.cell (p := ⟨b, i, none⟩) hb, fun i => h.cell (p := ⟨c, i, none⟩) hc, fun i => h.cell (p := ⟨d, i, none⟩) hd, h⟩
theorem kept3_next {w0 wp wq : World} {b c d : Nat} (hS : (∀ i, wp.cell? ⟨b, i, none⟩ = w0.cell? ⟨b, i, none⟩) ∧ (∀ i, wp.cell? ⟨c, i, none⟩ = w0.cell? ⟨c, i, none⟩) ∧ (∀ i, wp.cell? ⟨d, i, none⟩ = w0.cell? ⟨d, i, none⟩) ∧ Hid (Below w0.heap.size w0 wp))
    (hq : Below wp.heap.size wp wq) (hb : b < w0.heap.size) (hc : c < w0.heap.size) (hd : d < w0.heap.size) :
    (∀ i, wq.cell? ⟨b, i, none⟩ = w0.cell? ⟨b, i, none⟩) ∧ (∀ i, wq.cell? ⟨c, i, none⟩ = w0.cell? ⟨c, i, none⟩) ∧ (∀ i, wq.cell? ⟨d, i, none⟩ = w0.cell? ⟨d, i, none⟩) ∧ Hid (Below w0.heap.size w0 wq) :=
  kept3 (below_then hS.2.2.2.out hq) hb hc hd
set_option maxRecDepth 100000 in
set_option maxHeartbeats 8000000 in
theorem keeper_law (A : Option Addr) (n c : Nat) (W : World) (hrow : RowB W A n) :
    Calls Try.prog 6 #[.slice A n c] W fun e w' => e = .returned (.bool true) ∧ Below W.heap.size W w' := by
  have hm := hrow.1
  unfold maxLen at hm
  by_cases hbig : 1048576 < n
  · clear hrow
    go_enter Try.func6, Try.ntmps6
    go_wp2_with (go_in)
    go_ret
    exact ⟨rfl, Below.refl _ _⟩
  · have hcode := hrow.code (by omega)
    have HC := Lib.hid hcode
    have hi := Lib.hid keep_size
    have hD := drawWriteK_any W.heap.size n c A W (Nat.le_refl _) hcode
    unfold DrawKeep2 at hD
    clear hrow hcode
    go_enter Try.func6, Try.ntmps6
    go_wp2_with (first
      | (go_at_call 13; go_in)
      | (go_at_call 26; refine hD.mono ?_; rintro e w1 ⟨x, r, v, rfl, hb1⟩; refine Hid.out ?_))
    clear hD
    have HT := impl_writeK x r v
    have HTS := spec_writeK x r v
    have HOS := spec_keeperOk x
    have HOD := impl_keeperOk (writeKI x r v)
    have HRL := impl_readK (writeKI x r v) r
    have HRM := impl_readK (writeKI x r v) (IntKind.i64.wrap (r + 1))
    have HRK := impl_readK x (IntKind.i64.wrap (r + 1))
    have hbu := write_bu (k := x) r v
    have hyes : okK x = true → okK (writeKI x r v) = true ∧ readKI (writeKI x r v) r = bits .and .i64 v 255 ∧ readKI (writeKI x r v) (IntKind.i64.wrap (r + 1)) = readKI x (IntKind.i64.wrap (r + 1)) := by
      intro h
      have hr := (okK_iff x).1 h
      refine ⟨?_, ?_, ?_⟩
      · unfold writeKI
        rw [h]
        exact (okK_iff _).2 (writeKR_right hr _ _ (by omega))
      · rw [and_255]
        exact read_written hr r v
      · exact read_other hr r v _ (by rw [IntKind.wrap_i64]; omega)
    have hno : okK x = false → writeKI x r v = x ∧ readKI (writeKI x r v) r = 0 := by
      intro h
      have e := keep_write_no h r v
      exact ⟨e, by rw [e]; exact keep_read_no h r⟩
    generalize readKI (writeKI x r v) r = R1 at *
    generalize readKI (writeKI x r v) (IntKind.i64.wrap (r + 1)) = R2 at *
    generalize readKI x (IntKind.i64.wrap (r + 1)) = R3 at *
    obtain ⟨d, hd⟩ : ∃ d, d = writeKI x r v := ⟨_, rfl⟩
    rw [← hd] at HT HTS HOD HRL HRM hbu hyes hno
    clear hd
    obtain ⟨K, hK⟩ : ∃ K, K = okK x := ⟨_, rfl⟩
    rw [← hK] at HOS hyes hno
    clear hK
    obtain ⟨KD, hKD⟩ : ∃ K, K = okK d := ⟨_, rfl⟩
    rw [← hKD] at HOD hyes
    clear hKD
    have HY := Lib.hid hyes
    have HN := Lib.hid hno
    have HBU := Lib.hid hbu
    clear hyes hno hbu
    obtain ⟨ws, bu, wl, bl, ad, lf, sm⟩ := x
    obtain ⟨dws, dbu, dwl, dbl, dad, dlf, dsm⟩ := d
    simp only [keepV_mk] at HT HTS HOS HOD HRL HRM HRK ⊢
    have HT := Lib.hid HT
    have HTS := Lib.hid HTS
    have HOS := Lib.hid HOS
    have HOD := Lib.hid HOD
    have HRL := Lib.hid HRL
    have HRM := Lib.hid HRM
    have HRK := Lib.hid HRK
    refine Lib.hid ?_
    go_wp2_with (go_at_call 27; (with_reducible refine (HT.out _).mono ?_); rintro e w2 ⟨rfl, hb2⟩; refine Hid.out ?_)
    have J1 := Lib.hid (blk_old (o := (.cells #[.int .i64 dws, .int .i64 dbu, .int .i64 dwl, .int .i64 dbl, .int .i64 dad, .int .i64 dlf, .int .i64 dsm] 25)) (blk_below (blk_new w1 (.cells #[.int .i64 ws, .int .i64 bu, .int .i64 wl, .int .i64 bl, .int .i64 ad, .int .i64 lf, .int .i64 sm] 25)) hb2))
    have J2 := Lib.hid (blk_new w2 (.cells #[.int .i64 dws, .int .i64 dbu, .int .i64 dwl, .int .i64 dbl, .int .i64 dad, .int .i64 dlf, .int .i64 dsm] 25))
    have BA := Lib.hid (below_alloc (below_then (below_alloc hb1 _) hb2) (.cells #[.int .i64 dws, .int .i64 dbu, .int .i64 dwl, .int .i64 dbl, .int .i64 dad, .int .i64 dlf, .int .i64 dsm] 25))
    have hD := drawReadK_any W.heap.size n c A _ BA.out.size (HC.out.below (Nat.le_refl _) BA.out)
    unfold DrawKeep1 at hD
    clear hb1 hb2
    refine Lib.hid ?_
    go_wp2_with (go_at_call 28; refine hD.mono ?_; rintro e w3 ⟨y, s, rfl, hb3⟩; refine Hid.out ?_)
    have HA := impl_readK y s
    have HAS := spec_readK y s
    generalize readKI y s = Y at *
    clear hD HC
    obtain ⟨yws, ybu, ywl, ybl, yad, ylf, ysm⟩ := y
    simp only [keepV_mk] at HA HAS ⊢
    have HA := Lib.hid HA
    have HAS := Lib.hid HAS
    have k1 := blk_old (o := (.cells #[.int .i64 yws, .int .i64 ybu, .int .i64 ywl, .int .i64 ybl, .int .i64 yad, .int .i64 ylf, .int .i64 ysm] 25)) (blk_below J1.out hb3)
    have k2 := blk_old (o := (.cells #[.int .i64 yws, .int .i64 ybu, .int .i64 ywl, .int .i64 ybl, .int .i64 yad, .int .i64 ylf, .int .i64 ysm] 25)) (blk_below J2.out hb3)
    have k3 := blk_new w3 (.cells #[.int .i64 yws, .int .i64 ybu, .int .i64 ywl, .int .i64 ybl, .int .i64 yad, .int .i64 ylf, .int .i64 ysm] 25)
    have B := below_alloc (below_then BA.out hb3) (.cells #[.int .i64 yws, .int .i64 ybu, .int .i64 ywl, .int .i64 ybl, .int .i64 yad, .int .i64 ylf, .int .i64 ysm] 25)
    clear BA
    obtain ⟨w0, hw0⟩ : ∃ w0, w0 = w3.alloc (.cells #[.int .i64 yws, .int .i64 ybu, .int .i64 ywl, .int .i64 ybl, .int .i64 yad, .int .i64 ylf, .int .i64 ysm] 25) := ⟨_, rfl⟩
    rw [← hw0] at k1 k2 k3 B
    have lt1 := blk_size k1
    have lt2 := blk_size k2
    have lt3 := blk_size k3
    obtain ⟨p0, p1, p2, p3, p4, p5, p6, _⟩ := cells7 k1
    obtain ⟨q0, q1, q2, q3, q4, q5, q6, _⟩ := cells7 k2
    obtain ⟨r0, r1, r2, r3, r4, r5, r6, _⟩ := cells7 k3
    have KK1 := Lib.hid k1
    have KK2 := Lib.hid k2
    have HW0 := Lib.hid hw0
    have HBB := Lib.hid B
    clear B hb3 J1 J2 k1 k2 k3
    refine Lib.hid ?_
    go_wp2_with (fail)
    rw [← HW0.out]
    clear hw0
    go_region_held3 (fun w' => (∀ i, w'.cell? ⟨w1.heap.size, i, none⟩ = w0.cell? ⟨w1.heap.size, i, none⟩) ∧ (∀ i, w'.cell? ⟨w2.heap.size, i, none⟩ = w0.cell? ⟨w2.heap.size, i, none⟩) ∧ (∀ i, w'.cell? ⟨w3.heap.size, i, none⟩ = w0.cell? ⟨w3.heap.size, i, none⟩) ∧ Hid (Below w0.heap.size w0 w'))
      (first | exact kept3 ((Below.refl _ _).drew) lt1 lt2 lt3 | exact kept3_next (by assumption) hbq lt1 lt2 lt3)
      (first
        | (go_at_call 29; (with_reducible refine (HTS.out _).mono ?_); rintro e wq ⟨rfl, hbq⟩)
        | (go_at_call 30; (with_reducible refine (HA.out _).mono ?_); rintro e wq ⟨rfl, hbq⟩)
        | (go_at_call 31; (with_reducible refine (HAS.out _).mono ?_); rintro e wq ⟨rfl, hbq⟩))
    rename_i hH
    obtain ⟨_, _, _, hBq⟩ := hH
    have K1 := Lib.hid (blk_below KK1.out hBq.out)
    have K2 := Lib.hid (blk_below KK2.out hBq.out)
    have B := Lib.hid (below_then HBB.out hBq.out)
    clear HBB HT HTS HA HAS KK1 KK2 hBq lt1 lt2 lt3 p0 p1 p2 p3 p4 p5 p6 q0 q1 q2 q3 q4 q5 q6 r0 r1 r2 r3 r4 r5 r6 hbq
    cases K
    · obtain ⟨e, e2⟩ := HN.out rfl
      simp only [KeepI.mk.injEq] at e
      obtain ⟨rfl, rfl, rfl, rfl, rfl, rfl, rfl⟩ := e
      subst e2
      clear HN HY HOD HRM HRK HBU
      go_wp2_with (first
        | (refine load_row rfl 25 (.tmp 3) rfl w1.heap.size rfl 7 _ Try.underlying25 rfl hi.out K1.out rfl ?_)
        | (go_at_call 18; (with_reducible refine (HOS.out _).mono ?_); rintro e w5 ⟨rfl, hb5⟩; refine Hid.out ?_))
      have k2 := blk_below K2.out hb5
      obtain ⟨q0, q1, q2, q3, q4, q5, q6, _⟩ := cells7 k2
      have K1 := Lib.hid (blk_below K1.out hb5)
      have K2 := Lib.hid k2
      have B := Lib.hid (below_then B.out hb5)
      clear hb5 k2
      refine Lib.hid ?_
      go_wp2_with (first
        | (refine load_row rfl 25 (.tmp 6) rfl w2.heap.size rfl 7 _ Try.underlying25 rfl hi.out K2.out rfl ?_)
        | (refine load_row rfl 25 (.tmp 3) rfl w1.heap.size rfl 7 _ Try.underlying25 rfl hi.out K1.out rfl ?_)
        | (go_at_call 30; (with_reducible refine (HRL.out _).mono ?_); rintro e w6 ⟨rfl, hb6⟩))
      go_ret
      exact ⟨rfl, below_then B.out hb6⟩
    · obtain ⟨e1, e2, e3⟩ := HY.out rfl
      have hbu := HBU.out
      subst e1 e2 e3 hbu
      clear HN HY HBU
      go_wp2_with (first
        | (refine load_row rfl 25 (.tmp 3) rfl w1.heap.size rfl 7 _ Try.underlying25 rfl hi.out K1.out rfl ?_)
        | (go_at_call 18; (with_reducible refine (HOS.out _).mono ?_); rintro e w5 ⟨rfl, hb5⟩; refine Hid.out ?_))
      have k1 := blk_below K1.out hb5
      have k2 := blk_below K2.out hb5
      have B5 := Lib.hid (below_then B.out hb5)
      obtain ⟨p0, p1, p2, p3, p4, p5, p6, _⟩ := cells7 k1
      obtain ⟨q0, q1, q2, q3, q4, q5, q6, _⟩ := cells7 k2
      have lt1 := blk_size k1
      have lt2 := blk_size k2
      clear hb5 k1 k2 K1 K2 B
      refine Lib.hid ?_
      go_wp2_with (fail)
      go_region_held3 (fun w' => (∀ i, w'.cell? ⟨w1.heap.size, i, none⟩ = w5.cell? ⟨w1.heap.size, i, none⟩) ∧ (∀ i, w'.cell? ⟨w2.heap.size, i, none⟩ = w5.cell? ⟨w2.heap.size, i, none⟩) ∧ Hid (Below w5.heap.size w5 w'))
        (first | exact kept2 ((Below.refl _ _).drew) lt1 lt2 | exact kept2_next (by assumption) hbq lt1 lt2)
        (first
          | (go_at_call 17; (with_reducible refine (HOD.out _).mono ?_); rintro e wq ⟨rfl, hbq⟩)
          | (go_at_call 30; (with_reducible refine (HRL.out _).mono ?_); rintro e wq ⟨rfl, hbq⟩)
          | (go_at_call 30; (with_reducible refine (HRM.out _).mono ?_); rintro e wq ⟨rfl, hbq⟩)
          | (go_at_call 30; (with_reducible refine (HRK.out _).mono ?_); rintro e wq ⟨rfl, hbq⟩))
      rename_i hH
      obtain ⟨_, _, hBq⟩ := hH
      clear p0 p1 p2 p3 p4 p5 p6 q0 q1 q2 q3 q4 q5 q6
      go_wp2_with fail
      go_ret
      exact ⟨rfl, below_then B5.out hBq.out⟩
end Go.Proofs.Ytcnajmmpijhniaa
