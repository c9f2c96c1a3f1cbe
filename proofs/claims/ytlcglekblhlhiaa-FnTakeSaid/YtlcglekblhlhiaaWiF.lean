/-
  The walk of the law FnTake: it returns true, whatever is drawn.
  Conditions: none.
-/
import Derived.Test.YtlcglekblhlhiaaWiE
import Derived.Test.YtlcglekblhlhiaaWiC
namespace Go.Proofs.Ytlcglekblhlhiaa
open Go.RowKit
theorem tst_or4_all : ∀ b : BitVec 8, ((b ||| 4) &&& 4 != 0) = true := by decide +kernel
theorem tst_no4_all : ∀ b : BitVec 8, ((b &&& ~~~4) &&& 4 != 0) = false := by decide +kernel
theorem tst_or4 (p : Int) : tst (bits .or .i64 p 4) 4 = true := by
  unfold tst
  rw [B8_bits]
  exact tst_or4_all (B8 p)
theorem tst_no4 (p : Int) : tst (bits .andNot .i64 p 4) 4 = false := by
  unfold tst
  rw [B8_bits]
  exact tst_no4_all (B8 p)
/-- What is taken as it is, masked and free. -/
theorem take_ways (e i : Bool) (p : Int) : ∃ t m f : Int, takeN e i p = t ∧ takeN e i (bits .or .i64 p 4) = m ∧ takeN e i (bits .andNot .i64 p 4) = f ∧
    ((e = true ∧ t = 2 ∧ m = 2 ∧ f = 2) ∨ (e = false ∧ i = false ∧ t = 0 ∧ m = 0 ∧ f = 0) ∨ (e = false ∧ i = true ∧ t = 0 ∧ m = 0 ∧ f = 1) ∨ (e = false ∧ i = true ∧ t = 1 ∧ m = 0 ∧ f = 1)) := by
  refine ⟨_, _, _, rfl, rfl, rfl, ?_⟩
  unfold takeN
  rw [tst_or4, tst_no4]
  cases e <;> cases i <;> cases tst p 4 <;> simp
set_option maxRecDepth 100000 in
set_option maxHeartbeats 4000000 in
theorem take_law (A : Option Addr) (n c : Nat) (W : World) (hrow : RowB W A n) :
    Calls Try.prog 4 #[.slice A n c] W fun e w' => e = .returned (.bool true) ∧ Below W.heap.size W w' := by
  have hm := hrow.1
  unfold maxLen at hm
  by_cases hbig : 1048576 < n
  · clear hrow
    go_enter Try.func4, Try.ntmps4
    go_wp2_with (go_in)
    go_ret
    exact ⟨rfl, Below.refl _ _⟩
  · have hcode := hrow.code (by omega)
    have hi := Lib.hid wires_size
    have hD := drawTake_any W.heap.size n c A W (Nat.le_refl _) hcode
    have HV2 := Lib.hid (impl_vector 2)
    have HV3 := Lib.hid (impl_vector 3)
    have HV1 := Lib.hid (impl_vector 1)
    unfold DrawWires1 at hD
    clear hrow hcode
    go_enter Try.func4, Try.ntmps4
    go_wp2_with (first
      | (go_at_call 9; go_in)
      | (go_at_call 12; refine hD.mono ?_; rintro e w1 ⟨a, b, d, p, rfl, hb1⟩; refine Hid.out ?_))
    rw [wiresV_mk]
    obtain ⟨t, m, f, h1, h2, h3, hc⟩ := take_ways b d p
    have HS := Lib.hid (spec_take a b d p)
    have HI := Lib.hid (impl_take a b d p)
    have HM := Lib.hid (impl_take a b d (bits .or .i64 p 4))
    have HF := Lib.hid (impl_take a b d (bits .andNot .i64 p 4))
    rw [h1] at HS HI
    rw [h2] at HM
    rw [h3] at HF
    simp only [wiresV_mk] at HS HI HM HF
    have K := Lib.hid (blk_new w1 (.cells #[.bool a, .bool b, .bool d] 25))
    have B := Lib.hid (hb1.trans (((Below.refl w1.heap.size w1).alloc (Nat.le_refl _) (.cells #[.bool a, .bool b, .bool d] 25)).mono hb1.size))
    clear hD h1 h2 h3 hb1
    rcases hc with ⟨rfl, rfl, rfl, rfl⟩ | ⟨rfl, rfl, rfl, rfl, rfl⟩ | ⟨rfl, rfl, rfl, rfl, rfl⟩ | ⟨rfl, rfl, rfl, rfl, rfl⟩
    all_goals
      refine Lib.hid ?_
      go_wp2_with (first
        | (refine load_row rfl 25 (.tmp 3) rfl w1.heap.size rfl 3 _ Try.underlying25 rfl hi.out K.out rfl ?_)
        | (go_at_call 16; refine (HI.out _).mono ?_; rintro e w2 ⟨rfl, hb⟩; refine Hid.out ?_))
      have K := Lib.hid (blk_below K.out hb)
      have B := Lib.hid (B.out.trans (hb.mono (by have := B.out.size; omega)))
      clear hb HI
      refine Lib.hid ?_
      go_wp2_with (first
        | (refine load_row rfl 25 (.tmp 3) rfl w1.heap.size rfl 3 _ Try.underlying25 rfl hi.out K.out rfl ?_)
        | (go_at_call 17; refine (HS.out _).mono ?_; rintro e w3 ⟨rfl, hb⟩; refine Hid.out ?_))
      have K := Lib.hid (blk_below K.out hb)
      have B := Lib.hid (B.out.trans (hb.mono (by have := B.out.size; omega)))
      clear hb HS
      refine Lib.hid ?_
      go_wp2_with (first
        | (refine load_row rfl 25 (.tmp 3) rfl w1.heap.size rfl 3 _ Try.underlying25 rfl hi.out K.out rfl ?_)
        | (go_at_call 16; refine (HM.out _).mono ?_; rintro e w4 ⟨rfl, hb⟩; refine Hid.out ?_))
      have K := Lib.hid (blk_below K.out hb)
      have B := Lib.hid (B.out.trans (hb.mono (by have := B.out.size; omega)))
      clear hb HM
      refine Lib.hid ?_
      go_wp2_with (first
        | (refine load_row rfl 25 (.tmp 3) rfl w1.heap.size rfl 3 _ Try.underlying25 rfl hi.out K.out rfl ?_)
        | (go_at_call 16; refine (HF.out _).mono ?_; rintro e w5 ⟨rfl, hb⟩; refine Hid.out ?_))
      have B := Lib.hid (B.out.trans (hb.mono (by have := B.out.size; omega)))
      obtain ⟨c0, c1, c2, cz⟩ := cells3 (blk_below K.out hb)
      clear hb HF cz c0 K
      refine Lib.hid ?_
      go_wp2_with (first
        | (go_at_call 20; first
            | (refine (HV2.out _).mono ?_; rintro e w' ⟨rfl, rfl⟩)
            | (refine (HV3.out _).mono ?_; rintro e w' ⟨rfl, rfl⟩)
            | (refine (HV1.out _).mono ?_; rintro e w' ⟨rfl, rfl⟩)))
      go_ret
      exact ⟨rfl, B.out⟩
end Go.Proofs.Ytlcglekblhlhiaa
