/-
  The walks of the four exact laws of chapter 7: the program's functions answer as the model's.
  Conditions: none; each walk leaves old memory as it was.
-/
import Derived.Test.YtlcglekblhlhiaaWiC
namespace Go.Proofs.Ytlcglekblhlhiaa
open Go.RowKit
theorem lwires_size : (Try.prog.info? 36).map (·.size) = some 3 := by kernel_rfl
theorem to_wires (n e i : Bool) (w : World) : Calls Try.prog 22 #[wiresV n e i] w fun er w' => er = .returned (wiresV n e i) ∧ Below w.heap.size w w' := by
  rw [wiresV_mk]
  go_enter Try.func22, Try.ntmps22
  go_wp2
  exact bodyPost_ret (v := .agg #[.bool n, .bool e, .bool i]) (by simp [results, Try.results22, go_sem]) rfl ⟨rfl, (((Below.refl _ _).alloc (Nat.le_refl _) _).alloc (by simp) _).alloc (by simp; omega) _⟩
theorem eq_wires (n e i : Bool) (w : World) : Calls Try.prog 23 #[wiresV n e i, wiresV n e i] w fun er w' => er = .returned (.bool true) ∧ Below w.heap.size w w' := by
  rw [wiresV_mk]
  go_enter Try.func23, Try.ntmps23
  go_wp2
  go_ret
  exact ⟨rfl, below_alloc (below_alloc (Below.refl _ _) _) _⟩
theorem exact_vector (t : Int) (W : World) : Calls Try.prog 8 #[.int .i64 t] W fun e w' => e = .returned (.bool true) ∧ Below W.heap.size W w' := by
  have HS := Lib.hid (spec_vector t)
  have HI := Lib.hid (impl_vector t)
  generalize vecN t = k at *
  go_enter Try.func8, Try.ntmps8
  go_wp2_with (first
    | (go_at_call 21; refine (HS.out _).mono ?_; rintro e w' ⟨rfl, rfl⟩)
    | (go_at_call 20; refine (HI.out _).mono ?_; rintro e w' ⟨rfl, rfl⟩))
  go_ret
  exact ⟨rfl, Below.refl _ _⟩
set_option maxRecDepth 100000 in
theorem exact_take (n e i : Bool) (p : Int) (W : World) : Calls Try.prog 6 #[wiresV n e i, .int .i64 p] W fun e w' => e = .returned (.bool true) ∧ Below W.heap.size W w' := by
  have hl := Lib.hid lwires_size
  have HT := Lib.hid (to_wires n e i)
  have HS := Lib.hid (spec_take n e i p)
  have HI := Lib.hid (impl_take n e i p)
  generalize takeN e i p = k at *
  rw [wiresV_mk] at *
  go_enter Try.func6, Try.ntmps6
  go_wp2_with (go_at_call 22; refine (HT.out _).mono ?_; rintro e w1 ⟨rfl, hb1⟩; refine Hid.out ?_)
  have K := Lib.hid (blk_below (blk_new W (.cells #[.bool n, .bool e, .bool i] 36)) hb1)
  have B := Lib.hid (below_then ((Below.refl W.heap.size W).alloc (Nat.le_refl _) _) hb1)
  clear hb1
  refine Lib.hid ?_
  go_wp2_with (go_at_call 17; refine (HS.out _).mono ?_; rintro e w2 ⟨rfl, hb2⟩; refine Hid.out ?_)
  have K := Lib.hid (blk_below K.out hb2)
  have B := Lib.hid (below_then B.out hb2)
  clear hb2
  refine Lib.hid ?_
  go_wp2_with (first
    | (refine load_row rfl 36 (.tmp 2) rfl W.heap.size rfl 3 _ Try.underlying36 rfl hl.out K.out rfl ?_)
    | (go_at_call 22; refine (HT.out _).mono ?_; rintro e w3 ⟨rfl, hb3⟩; refine Hid.out ?_))
  have B := Lib.hid (below_then B.out hb3)
  clear hb3 K
  refine Lib.hid ?_
  go_wp2_with (go_at_call 16; refine (HI.out _).mono ?_; rintro e w4 ⟨rfl, hb4⟩; refine Hid.out ?_)
  have B := Lib.hid (below_then B.out hb4)
  clear hb4
  refine Lib.hid ?_
  go_wp2
  go_ret
  exact ⟨rfl, B.out⟩
set_option maxRecDepth 100000 in
set_option maxHeartbeats 1000000 in
theorem exact_taken (n e i : Bool) (W : World) : Calls Try.prog 7 #[wiresV n e i] W fun e w' => e = .returned (.bool true) ∧ Below W.heap.size W w' := by
  have hl := Lib.hid lwires_size
  have hi := Lib.hid wires_size
  have HT := Lib.hid (to_wires n e i)
  have HS := Lib.hid (spec_taken n e i)
  have HI := Lib.hid (impl_taken n e i)
  have HE := Lib.hid (eq_wires n false i)
  simp only [wiresV_mk] at HT HS HI HE ⊢
  go_enter Try.func7, Try.ntmps7
  go_wp2_with (go_at_call 22; refine (HT.out _).mono ?_; rintro e w1 ⟨rfl, hb1⟩; refine Hid.out ?_)
  have K := Lib.hid (blk_below (blk_new W (.cells #[.bool n, .bool e, .bool i] 36)) hb1)
  have B := Lib.hid (below_then ((Below.refl W.heap.size W).alloc (Nat.le_refl _) _) hb1)
  clear hb1
  refine Lib.hid ?_
  go_wp2_with (go_at_call 19; refine (HS.out _).mono ?_; rintro e w2 ⟨rfl, hb2⟩; refine Hid.out ?_)
  have K := Lib.hid (blk_below K.out hb2)
  have B := Lib.hid (below_then B.out hb2)
  clear hb2
  refine Lib.hid ?_
  go_wp2_with (first
    | (refine load_row rfl 36 (.tmp 1) rfl W.heap.size rfl 3 _ Try.underlying36 rfl hl.out (blk_old K.out) rfl ?_)
    | (go_at_call 22; refine (HT.out _).mono ?_; rintro e w3 ⟨rfl, hb3⟩; refine Hid.out ?_))
  have K0 := Lib.hid (blk_below (blk_new w2 (.cells #[.bool n, .bool false, .bool i] 25)) hb3)
  have B := Lib.hid (below_then (below_alloc B.out _) hb3)
  clear hb3 K
  refine Lib.hid ?_
  go_wp2_with (go_at_call 18; refine (HI.out _).mono ?_; rintro e w4 ⟨rfl, hb4⟩; refine Hid.out ?_)
  have B := Lib.hid (below_then B.out hb4)
  have K0 := Lib.hid (blk_below K0.out hb4)
  clear hb4
  refine Lib.hid ?_
  go_wp2_with (first
    | (refine load_row rfl 25 (.tmp 3) rfl w2.heap.size rfl 3 _ Try.underlying25 rfl hi.out (blk_old K0.out) rfl ?_)
    | (go_at_call 23; refine (HE.out _).mono ?_; rintro e w5 ⟨rfl, hb5⟩))
  go_ret
  exact ⟨rfl, below_then (below_alloc B.out _) hb5⟩
set_option maxRecDepth 100000 in
set_option maxHeartbeats 1000000 in
theorem exact_sense (n e i nmi irq : Bool) (W : World) : Calls Try.prog 5 #[wiresV n e i, .bool nmi, .bool irq] W fun e w' => e = .returned (.bool true) ∧ Below W.heap.size W w' := by
  have hl := Lib.hid lwires_size
  have hi := Lib.hid wires_size
  have HT := Lib.hid (to_wires n e i)
  have HS := Lib.hid (spec_sense n e i nmi irq)
  have HI := Lib.hid (impl_sense n e i nmi irq)
  generalize senseE n e nmi = k at *
  have HE := Lib.hid (eq_wires nmi k irq)
  simp only [wiresV_mk] at HT HS HI HE ⊢
  go_enter Try.func5, Try.ntmps5
  go_wp2_with (go_at_call 22; refine (HT.out _).mono ?_; rintro e w1 ⟨rfl, hb1⟩; refine Hid.out ?_)
  have K := Lib.hid (blk_below (blk_new W (.cells #[.bool n, .bool e, .bool i] 36)) hb1)
  have B := Lib.hid (below_then ((Below.refl W.heap.size W).alloc (Nat.le_refl _) _) hb1)
  clear hb1
  refine Lib.hid ?_
  go_wp2_with (go_at_call 15; refine (HS.out _).mono ?_; rintro e w2 ⟨rfl, hb2⟩; refine Hid.out ?_)
  have K := Lib.hid (blk_below K.out hb2)
  have B := Lib.hid (below_then B.out hb2)
  clear hb2
  refine Lib.hid ?_
  go_wp2_with (first
    | (refine load_row rfl 36 (.tmp 3) rfl W.heap.size rfl 3 _ Try.underlying36 rfl hl.out (blk_old K.out) rfl ?_)
    | (go_at_call 22; refine (HT.out _).mono ?_; rintro e w3 ⟨rfl, hb3⟩; refine Hid.out ?_))
  have K0 := Lib.hid (blk_below (blk_new w2 (.cells #[.bool nmi, .bool k, .bool irq] 25)) hb3)
  have B := Lib.hid (below_then (below_alloc B.out _) hb3)
  clear hb3 K
  refine Lib.hid ?_
  go_wp2_with (go_at_call 11; refine (HI.out _).mono ?_; rintro e w4 ⟨rfl, hb4⟩; refine Hid.out ?_)
  have B := Lib.hid (below_then B.out hb4)
  have K0 := Lib.hid (blk_below K0.out hb4)
  clear hb4
  refine Lib.hid ?_
  go_wp2_with (first
    | (refine load_row rfl 25 (.tmp 7) rfl w2.heap.size rfl 3 _ Try.underlying25 rfl hi.out (blk_old K0.out) rfl ?_)
    | (go_at_call 23; refine (HE.out _).mono ?_; rintro e w5 ⟨rfl, hb5⟩))
  go_ret
  exact ⟨rfl, below_then (below_alloc B.out _) hb5⟩
end Go.Proofs.Ytlcglekblhlhiaa
