/-
  The walks of the six exact laws of chapter 8: the program's functions answer as the model's.
  Conditions: none; each walk leaves old memory as it was.
-/
import Derived.Test.YtcnajmmpijhniaaKpE
import Derived.Test.YtcnajmmpijhniaaKpG
import Derived.Test.YtcnajmmpijhniaaKpH
namespace Go.Proofs.Ytcnajmmpijhniaa
open Go.RowKit
set_option maxRecDepth 100000 in
set_option maxHeartbeats 4000000 in
theorem exact_keeperOk (k : KeepI) (W : World) :
    Calls Try.prog 7 #[keepV k] W fun e w' => e = .returned (.bool true) ∧ Below W.heap.size W w' := by
  have hl := Lib.hid lkeep_size
  have HT := Lib.hid (to_keep k)
  have HS := Lib.hid (spec_keeperOk k)
  have HI := Lib.hid (impl_keeperOk k)
  generalize okK k = d at *
  obtain ⟨ws, bu, wl, bl, ad, lf, sm⟩ := k
  simp only [keepV_mk] at HT HS HI ⊢
  go_enter Try.func7, Try.ntmps7
  go_wp2_with (go_at_call 32; refine (HT.out _).mono ?_; rintro e w1 ⟨rfl, hb1⟩; refine Hid.out ?_)
  have K := Lib.hid (blk_below (blk_new W (.cells #[.int .i64 ws, .int .i64 bu, .int .i64 wl, .int .i64 bl, .int .i64 ad, .int .i64 lf, .int .i64 sm] 38)) hb1)
  have B := Lib.hid (below_then ((Below.refl W.heap.size W).alloc (Nat.le_refl _) _) hb1)
  clear hb1
  refine Lib.hid ?_
  go_wp2_with (go_at_call 18; refine (HS.out _).mono ?_; rintro e w2 ⟨rfl, hb2⟩; refine Hid.out ?_)
  have K := Lib.hid (blk_below K.out hb2)
  have B := Lib.hid (below_then B.out hb2)
  clear hb2
  refine Lib.hid ?_
  go_wp2_with (first
    | (refine load_row rfl 38 (.tmp 1) rfl W.heap.size rfl 7 _ Try.underlying38 rfl hl.out K.out rfl ?_)
    | (go_at_call 32; refine (HT.out _).mono ?_; rintro e w3 ⟨rfl, hb3⟩; refine Hid.out ?_))
  have B := Lib.hid (below_then B.out hb3)
  clear hb3 K
  refine Lib.hid ?_
  go_wp2_with (go_at_call 17; refine (HI.out _).mono ?_; rintro e w4 ⟨rfl, hb4⟩; refine Hid.out ?_)
  have B := Lib.hid (below_then B.out hb4)
  clear hb4
  refine Lib.hid ?_
  go_wp2
  go_ret
  exact ⟨rfl, B.out⟩
set_option maxRecDepth 100000 in
set_option maxHeartbeats 4000000 in
theorem exact_owner (k : KeepI) (wait reading : Bool) (W : World) :
    Calls Try.prog 8 #[keepV k, .bool wait, .bool reading] W fun e w' => e = .returned (.bool true) ∧ Below W.heap.size W w' := by
  have hl := Lib.hid lkeep_size
  have HT := Lib.hid (to_keep k)
  have HS := Lib.hid (spec_owner k wait reading)
  have HI := Lib.hid (impl_owner k wait reading)
  generalize ownI k wait reading = d at *
  obtain ⟨ws, bu, wl, bl, ad, lf, sm⟩ := k
  simp only [keepV_mk] at HT HS HI ⊢
  go_enter Try.func8, Try.ntmps8
  go_wp2_with (go_at_call 32; refine (HT.out _).mono ?_; rintro e w1 ⟨rfl, hb1⟩; refine Hid.out ?_)
  have K := Lib.hid (blk_below (blk_new W (.cells #[.int .i64 ws, .int .i64 bu, .int .i64 wl, .int .i64 bl, .int .i64 ad, .int .i64 lf, .int .i64 sm] 38)) hb1)
  have B := Lib.hid (below_then ((Below.refl W.heap.size W).alloc (Nat.le_refl _) _) hb1)
  clear hb1
  refine Lib.hid ?_
  go_wp2_with (go_at_call 16; refine (HS.out _).mono ?_; rintro e w2 ⟨rfl, hb2⟩; refine Hid.out ?_)
  have K := Lib.hid (blk_below K.out hb2)
  have B := Lib.hid (below_then B.out hb2)
  clear hb2
  refine Lib.hid ?_
  go_wp2_with (first
    | (refine load_row rfl 38 (.tmp 3) rfl W.heap.size rfl 7 _ Try.underlying38 rfl hl.out K.out rfl ?_)
    | (go_at_call 32; refine (HT.out _).mono ?_; rintro e w3 ⟨rfl, hb3⟩; refine Hid.out ?_))
  have B := Lib.hid (below_then B.out hb3)
  clear hb3 K
  refine Lib.hid ?_
  go_wp2_with (go_at_call 15; refine (HI.out _).mono ?_; rintro e w4 ⟨rfl, hb4⟩; refine Hid.out ?_)
  have B := Lib.hid (below_then B.out hb4)
  clear hb4
  refine Lib.hid ?_
  go_wp2
  go_ret
  exact ⟨rfl, B.out⟩
set_option maxRecDepth 100000 in
set_option maxHeartbeats 4000000 in
theorem exact_spend (k : KeepI) (o : Int) (W : World) :
    Calls Try.prog 9 #[keepV k, .int .i64 o] W fun e w' => e = .returned (.bool true) ∧ Below W.heap.size W w' := by
  have hl := Lib.hid lkeep_size
  have hi := Lib.hid keep_size
  have HT := Lib.hid (to_keep k)
  have HS := Lib.hid (spec_spend k o)
  have HI := Lib.hid (impl_spend k o)
  have HE := Lib.hid (eq_keep (spendI k o))
  generalize spendI k o = d at *
  obtain ⟨dws, dbu, dwl, dbl, dad, dlf, dsm⟩ := d
  obtain ⟨ws, bu, wl, bl, ad, lf, sm⟩ := k
  simp only [keepV_mk] at HT HS HI HE ⊢
  go_enter Try.func9, Try.ntmps9
  go_wp2_with (go_at_call 32; refine (HT.out _).mono ?_; rintro e w1 ⟨rfl, hb1⟩; refine Hid.out ?_)
  have K := Lib.hid (blk_below (blk_new W (.cells #[.int .i64 ws, .int .i64 bu, .int .i64 wl, .int .i64 bl, .int .i64 ad, .int .i64 lf, .int .i64 sm] 38)) hb1)
  have B := Lib.hid (below_then ((Below.refl W.heap.size W).alloc (Nat.le_refl _) _) hb1)
  clear hb1
  refine Lib.hid ?_
  go_wp2_with (go_at_call 21; refine (HS.out _).mono ?_; rintro e w2 ⟨rfl, hb2⟩; refine Hid.out ?_)
  have K := Lib.hid (blk_below K.out hb2)
  have B := Lib.hid (below_then B.out hb2)
  clear hb2
  refine Lib.hid ?_
  go_wp2_with (first
    | (refine load_row rfl 38 (.tmp 2) rfl W.heap.size rfl 7 _ Try.underlying38 rfl hl.out (blk_old K.out) rfl ?_)
    | (go_at_call 32; refine (HT.out _).mono ?_; rintro e w3 ⟨rfl, hb3⟩; refine Hid.out ?_))
  have K0 := Lib.hid (blk_below (blk_new w2 (.cells #[.int .i64 dws, .int .i64 dbu, .int .i64 dwl, .int .i64 dbl, .int .i64 dad, .int .i64 dlf, .int .i64 dsm] 25)) hb3)
  have B := Lib.hid (below_then (below_alloc B.out _) hb3)
  clear hb3 K
  refine Lib.hid ?_
  go_wp2_with (go_at_call 19; refine (HI.out _).mono ?_; rintro e w4 ⟨rfl, hb4⟩; refine Hid.out ?_)
  have B := Lib.hid (below_then B.out hb4)
  have K0 := Lib.hid (blk_below K0.out hb4)
  clear hb4
  refine Lib.hid ?_
  go_wp2_with (first
    | (refine load_row rfl 25 (.tmp 5) rfl w2.heap.size rfl 7 _ Try.underlying25 rfl hi.out (blk_old K0.out) rfl ?_)
    | (go_at_call 33; refine (HE.out _).mono ?_; rintro e w5 ⟨rfl, hb5⟩))
  go_ret
  exact ⟨rfl, below_then (below_alloc B.out _) hb5⟩
set_option maxRecDepth 100000 in
set_option maxHeartbeats 4000000 in
theorem exact_copied (k : KeepI) (v : Int) (W : World) :
    Calls Try.prog 10 #[keepV k, .int .i64 v] W fun e w' => e = .returned (.bool true) ∧ Below W.heap.size W w' := by
  have hl := Lib.hid lkeep_size
  have hi := Lib.hid keep_size
  have HT := Lib.hid (to_keep k)
  have HS := Lib.hid (spec_copied k v)
  have HI := Lib.hid (impl_copied k v)
  have HE := Lib.hid (eq_keep (copyI k v))
  generalize copyI k v = d at *
  obtain ⟨dws, dbu, dwl, dbl, dad, dlf, dsm⟩ := d
  obtain ⟨ws, bu, wl, bl, ad, lf, sm⟩ := k
  simp only [keepV_mk] at HT HS HI HE ⊢
  go_enter Try.func10, Try.ntmps10
  go_wp2_with (go_at_call 32; refine (HT.out _).mono ?_; rintro e w1 ⟨rfl, hb1⟩; refine Hid.out ?_)
  have K := Lib.hid (blk_below (blk_new W (.cells #[.int .i64 ws, .int .i64 bu, .int .i64 wl, .int .i64 bl, .int .i64 ad, .int .i64 lf, .int .i64 sm] 38)) hb1)
  have B := Lib.hid (below_then ((Below.refl W.heap.size W).alloc (Nat.le_refl _) _) hb1)
  clear hb1
  refine Lib.hid ?_
  go_wp2_with (go_at_call 24; refine (HS.out _).mono ?_; rintro e w2 ⟨rfl, hb2⟩; refine Hid.out ?_)
  have K := Lib.hid (blk_below K.out hb2)
  have B := Lib.hid (below_then B.out hb2)
  clear hb2
  refine Lib.hid ?_
  go_wp2_with (first
    | (refine load_row rfl 38 (.tmp 2) rfl W.heap.size rfl 7 _ Try.underlying38 rfl hl.out (blk_old K.out) rfl ?_)
    | (go_at_call 32; refine (HT.out _).mono ?_; rintro e w3 ⟨rfl, hb3⟩; refine Hid.out ?_))
  have K0 := Lib.hid (blk_below (blk_new w2 (.cells #[.int .i64 dws, .int .i64 dbu, .int .i64 dwl, .int .i64 dbl, .int .i64 dad, .int .i64 dlf, .int .i64 dsm] 25)) hb3)
  have B := Lib.hid (below_then (below_alloc B.out _) hb3)
  clear hb3 K
  refine Lib.hid ?_
  go_wp2_with (go_at_call 23; refine (HI.out _).mono ?_; rintro e w4 ⟨rfl, hb4⟩; refine Hid.out ?_)
  have B := Lib.hid (below_then B.out hb4)
  have K0 := Lib.hid (blk_below K0.out hb4)
  clear hb4
  refine Lib.hid ?_
  go_wp2_with (first
    | (refine load_row rfl 25 (.tmp 5) rfl w2.heap.size rfl 7 _ Try.underlying25 rfl hi.out (blk_old K0.out) rfl ?_)
    | (go_at_call 33; refine (HE.out _).mono ?_; rintro e w5 ⟨rfl, hb5⟩))
  go_ret
  exact ⟨rfl, below_then (below_alloc B.out _) hb5⟩
set_option maxRecDepth 100000 in
set_option maxHeartbeats 4000000 in
theorem exact_readK (k : KeepI) (r : Int) (W : World) :
    Calls Try.prog 11 #[keepV k, .int .i64 r] W fun e w' => e = .returned (.bool true) ∧ Below W.heap.size W w' := by
  have hl := Lib.hid lkeep_size
  have HT := Lib.hid (to_keep k)
  have HS := Lib.hid (spec_readK k r)
  have HI := Lib.hid (impl_readK k r)
  generalize readKI k r = d at *
  obtain ⟨ws, bu, wl, bl, ad, lf, sm⟩ := k
  simp only [keepV_mk] at HT HS HI ⊢
  go_enter Try.func11, Try.ntmps11
  go_wp2_with (go_at_call 32; refine (HT.out _).mono ?_; rintro e w1 ⟨rfl, hb1⟩; refine Hid.out ?_)
  have K := Lib.hid (blk_below (blk_new W (.cells #[.int .i64 ws, .int .i64 bu, .int .i64 wl, .int .i64 bl, .int .i64 ad, .int .i64 lf, .int .i64 sm] 38)) hb1)
  have B := Lib.hid (below_then ((Below.refl W.heap.size W).alloc (Nat.le_refl _) _) hb1)
  clear hb1
  refine Lib.hid ?_
  go_wp2_with (go_at_call 31; refine (HS.out _).mono ?_; rintro e w2 ⟨rfl, hb2⟩; refine Hid.out ?_)
  have K := Lib.hid (blk_below K.out hb2)
  have B := Lib.hid (below_then B.out hb2)
  clear hb2
  refine Lib.hid ?_
  go_wp2_with (first
    | (refine load_row rfl 38 (.tmp 2) rfl W.heap.size rfl 7 _ Try.underlying38 rfl hl.out K.out rfl ?_)
    | (go_at_call 32; refine (HT.out _).mono ?_; rintro e w3 ⟨rfl, hb3⟩; refine Hid.out ?_))
  have B := Lib.hid (below_then B.out hb3)
  clear hb3 K
  refine Lib.hid ?_
  go_wp2_with (go_at_call 30; refine (HI.out _).mono ?_; rintro e w4 ⟨rfl, hb4⟩; refine Hid.out ?_)
  have B := Lib.hid (below_then B.out hb4)
  clear hb4
  refine Lib.hid ?_
  go_wp2
  go_ret
  exact ⟨rfl, B.out⟩
set_option maxRecDepth 100000 in
set_option maxHeartbeats 4000000 in
theorem exact_writeK (k : KeepI) (r v : Int) (W : World) :
    Calls Try.prog 12 #[keepV k, .int .i64 r, .int .i64 v] W fun e w' => e = .returned (.bool true) ∧ Below W.heap.size W w' := by
  have hl := Lib.hid lkeep_size
  have hi := Lib.hid keep_size
  have HT := Lib.hid (to_keep k)
  have HS := Lib.hid (spec_writeK k r v)
  have HI := Lib.hid (impl_writeK k r v)
  have HE := Lib.hid (eq_keep (writeKI k r v))
  generalize writeKI k r v = d at *
  obtain ⟨dws, dbu, dwl, dbl, dad, dlf, dsm⟩ := d
  obtain ⟨ws, bu, wl, bl, ad, lf, sm⟩ := k
  simp only [keepV_mk] at HT HS HI HE ⊢
  go_enter Try.func12, Try.ntmps12
  go_wp2_with (go_at_call 32; refine (HT.out _).mono ?_; rintro e w1 ⟨rfl, hb1⟩; refine Hid.out ?_)
  have K := Lib.hid (blk_below (blk_new W (.cells #[.int .i64 ws, .int .i64 bu, .int .i64 wl, .int .i64 bl, .int .i64 ad, .int .i64 lf, .int .i64 sm] 38)) hb1)
  have B := Lib.hid (below_then ((Below.refl W.heap.size W).alloc (Nat.le_refl _) _) hb1)
  clear hb1
  refine Lib.hid ?_
  go_wp2_with (go_at_call 29; refine (HS.out _).mono ?_; rintro e w2 ⟨rfl, hb2⟩; refine Hid.out ?_)
  have K := Lib.hid (blk_below K.out hb2)
  have B := Lib.hid (below_then B.out hb2)
  clear hb2
  refine Lib.hid ?_
  go_wp2_with (first
    | (refine load_row rfl 38 (.tmp 3) rfl W.heap.size rfl 7 _ Try.underlying38 rfl hl.out (blk_old K.out) rfl ?_)
    | (go_at_call 32; refine (HT.out _).mono ?_; rintro e w3 ⟨rfl, hb3⟩; refine Hid.out ?_))
  have K0 := Lib.hid (blk_below (blk_new w2 (.cells #[.int .i64 dws, .int .i64 dbu, .int .i64 dwl, .int .i64 dbl, .int .i64 dad, .int .i64 dlf, .int .i64 dsm] 25)) hb3)
  have B := Lib.hid (below_then (below_alloc B.out _) hb3)
  clear hb3 K
  refine Lib.hid ?_
  go_wp2_with (go_at_call 27; refine (HI.out _).mono ?_; rintro e w4 ⟨rfl, hb4⟩; refine Hid.out ?_)
  have B := Lib.hid (below_then B.out hb4)
  have K0 := Lib.hid (blk_below K0.out hb4)
  clear hb4
  refine Lib.hid ?_
  go_wp2_with (first
    | (refine load_row rfl 25 (.tmp 7) rfl w2.heap.size rfl 7 _ Try.underlying25 rfl hi.out (blk_old K0.out) rfl ?_)
    | (go_at_call 33; refine (HE.out _).mono ?_; rintro e w5 ⟨rfl, hb5⟩))
  go_ret
  exact ⟨rfl, below_then (below_alloc B.out _) hb5⟩
theorem law_keeperOk (ws bu wl bl ad lf sm : Int) (W : World) :
    Calls Try.prog 7 #[.agg #[.int .i64 ws, .int .i64 bu, .int .i64 wl, .int .i64 bl, .int .i64 ad, .int .i64 lf, .int .i64 sm]] W fun e w' => e = .returned (.bool true) ∧ Below W.heap.size W w' :=
  exact_keeperOk ⟨ws, bu, wl, bl, ad, lf, sm⟩ W
theorem law_owner (ws bu wl bl ad lf sm : Int) (wait reading : Bool) (W : World) :
    Calls Try.prog 8 #[.agg #[.int .i64 ws, .int .i64 bu, .int .i64 wl, .int .i64 bl, .int .i64 ad, .int .i64 lf, .int .i64 sm], .bool wait, .bool reading] W fun e w' => e = .returned (.bool true) ∧ Below W.heap.size W w' :=
  exact_owner ⟨ws, bu, wl, bl, ad, lf, sm⟩ wait reading W
theorem law_spend (ws bu wl bl ad lf sm : Int) (o : Int) (W : World) :
    Calls Try.prog 9 #[.agg #[.int .i64 ws, .int .i64 bu, .int .i64 wl, .int .i64 bl, .int .i64 ad, .int .i64 lf, .int .i64 sm], .int .i64 o] W fun e w' => e = .returned (.bool true) ∧ Below W.heap.size W w' :=
  exact_spend ⟨ws, bu, wl, bl, ad, lf, sm⟩ o W
theorem law_copied (ws bu wl bl ad lf sm : Int) (v : Int) (W : World) :
    Calls Try.prog 10 #[.agg #[.int .i64 ws, .int .i64 bu, .int .i64 wl, .int .i64 bl, .int .i64 ad, .int .i64 lf, .int .i64 sm], .int .i64 v] W fun e w' => e = .returned (.bool true) ∧ Below W.heap.size W w' :=
  exact_copied ⟨ws, bu, wl, bl, ad, lf, sm⟩ v W
theorem law_readK (ws bu wl bl ad lf sm : Int) (r : Int) (W : World) :
    Calls Try.prog 11 #[.agg #[.int .i64 ws, .int .i64 bu, .int .i64 wl, .int .i64 bl, .int .i64 ad, .int .i64 lf, .int .i64 sm], .int .i64 r] W fun e w' => e = .returned (.bool true) ∧ Below W.heap.size W w' :=
  exact_readK ⟨ws, bu, wl, bl, ad, lf, sm⟩ r W
theorem law_writeK (ws bu wl bl ad lf sm : Int) (r v : Int) (W : World) :
    Calls Try.prog 12 #[.agg #[.int .i64 ws, .int .i64 bu, .int .i64 wl, .int .i64 bl, .int .i64 ad, .int .i64 lf, .int .i64 sm], .int .i64 r, .int .i64 v] W fun e w' => e = .returned (.bool true) ∧ Below W.heap.size W w' :=
  exact_writeK ⟨ws, bu, wl, bl, ad, lf, sm⟩ r v W
end Go.Proofs.Ytcnajmmpijhniaa
