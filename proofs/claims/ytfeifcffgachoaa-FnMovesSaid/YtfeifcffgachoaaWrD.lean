/-
  The walk of the law FnMoves: it returns true, whatever is drawn.
  Conditions: as each says; each walk leaves old memory as it was.
-/
import Derived.Test.YtfeifcffgachoaaWrB
import Derived.Test.YtfeifcffgachoaaRgC
import Derived.Test.YtfeifcffgachoaaWoP
namespace Go.Proofs.Ytfeifcffgachoaa
open Go.RowKit
theorem or_all : ∀ p : Fin 256, bits .or .i64 (wI (wI (p.val : Int) 1 true) 1 false) 1 = bits .or .i64 (p.val : Int) 1 := by decide +kernel
theorem or_same (p : Int) (h : 0 ≤ p ∧ p < 256) : bits .or .i64 (wI (wI p 1 true) 1 false) 1 = bits .or .i64 p 1 := by
  have := or_all ⟨p.toNat, by omega⟩
  rwa [show ((⟨p.toNat, by omega⟩ : Fin 256).val : Int) = p by show ((p.toNat : Nat) : Int) = p; omega] at this
theorem c_on (p : Int) : (bits .and .i64 (wI p 1 true) 1 != 0) = true := by rw [tst_i64 _ 1 (by omega), tst_same _ 1 _ (by decide)]
theorem c_off (p : Int) : (bits .and .i64 (wI p 1 false) 1 == 0) = true := by rw [tst_0 _ 1 (by omega), tst_same _ 1 _ (by decide)]; rfl
theorem ap_inx (a p pc s x y : Int) (w : World) : Calls Try.prog 11 #[.agg #[.int .i64 a, .int .i64 x, .int .i64 y, .int .i64 s, .int .i64 p, .int .i64 pc], .string ⟨#[73, 78, 88]⟩, .int .i64 0] w fun e w' => e = .returned (.tuple #[.agg #[.int .i64 a, .int .i64 ((x + 1) % 256), .int .i64 y, .int .i64 s, .int .i64 (nzI p ((x + 1) % 256)), .int .i64 pc], .int .i64 0]) ∧ Below w.heap.size w w' := by
  have h := impl_apply ⟨a, x, y, s, p, pc⟩ ⟨#[73, 78, 88]⟩ 0 w
  rw [show applyI ⟨a, x, y, s, p, pc⟩ ⟨#[73, 78, 88]⟩ 0 = (⟨a, (x + 1) % 256, y, s, nzI p ((x + 1) % 256), pc⟩, 0 % 256) from rfl, show (0 : Int) % 256 = 0 by decide] at h
  simp only [regI_mk] at h
  exact h
theorem ap_dex_impl (a p pc s x y : Int) (hx : 0 ≤ x ∧ x ≤ 255) (w : World) : Calls Try.prog 11 #[.agg #[.int .i64 a, .int .i64 ((x + 1) % 256), .int .i64 y, .int .i64 s, .int .i64 p, .int .i64 pc], .string ⟨#[68, 69, 88]⟩, .int .i64 0] w fun e w' => e = .returned (.tuple #[.agg #[.int .i64 a, .int .i64 x, .int .i64 y, .int .i64 s, .int .i64 (nzI p x), .int .i64 pc], .int .i64 0]) ∧ Below w.heap.size w w' := by
  have h := impl_apply ⟨a, (x + 1) % 256, y, s, p, pc⟩ ⟨#[68, 69, 88]⟩ 0 w
  rw [show applyI ⟨a, (x + 1) % 256, y, s, p, pc⟩ ⟨#[68, 69, 88]⟩ 0 = (⟨a, ((x + 1) % 256 - 1) % 256, y, s, nzI p (((x + 1) % 256 - 1) % 256), pc⟩, 0 % 256) from rfl, show (0 : Int) % 256 = 0 by decide] at h
  simp only [regI_mk] at h
  rw [show ((x + 1) % 256 - 1) % 256 = x by omega] at h
  exact h
theorem ap_dex_spec (a p pc s x y : Int) (hx : 0 ≤ x ∧ x ≤ 255) (w : World) : Calls Try.prog 12 #[.agg #[.int .i64 a, .int .i64 ((x + 1) % 256), .int .i64 y, .int .i64 s, .int .i64 p, .int .i64 pc], .string ⟨#[68, 69, 88]⟩, .int .i64 0] w fun e w' => e = .returned (.tuple #[.agg #[.int .i64 a, .int .i64 x, .int .i64 y, .int .i64 s, .int .i64 (nzI p x), .int .i64 pc], .int .i64 0]) ∧ Below w.heap.size w w' := by
  have h := spec_apply ⟨a, (x + 1) % 256, y, s, p, pc⟩ ⟨#[68, 69, 88]⟩ 0 w
  unfold ApplyPost at h
  rw [show applyI ⟨a, (x + 1) % 256, y, s, p, pc⟩ ⟨#[68, 69, 88]⟩ 0 = (⟨a, ((x + 1) % 256 - 1) % 256, y, s, nzI p (((x + 1) % 256 - 1) % 256), pc⟩, 0 % 256) from rfl, show (0 : Int) % 256 = 0 by decide] at h
  simp only [regI_mk] at h
  rw [show ((x + 1) % 256 - 1) % 256 = x by omega] at h
  exact h
theorem ap_txs (a p pc s x y : Int) (w : World) : Calls Try.prog 11 #[.agg #[.int .i64 a, .int .i64 x, .int .i64 y, .int .i64 s, .int .i64 p, .int .i64 pc], .string ⟨#[84, 88, 83]⟩, .int .i64 0] w fun e w' => e = .returned (.tuple #[.agg #[.int .i64 a, .int .i64 x, .int .i64 y, .int .i64 x, .int .i64 p, .int .i64 pc], .int .i64 0]) ∧ Below w.heap.size w w' := by
  have h := impl_apply ⟨a, x, y, s, p, pc⟩ ⟨#[84, 88, 83]⟩ 0 w
  rw [show applyI ⟨a, x, y, s, p, pc⟩ ⟨#[84, 88, 83]⟩ 0 = (⟨a, x, y, x, p, pc⟩, 0 % 256) from rfl, show (0 : Int) % 256 = 0 by decide] at h
  simp only [regI_mk] at h
  exact h
theorem ap_tsx (a p pc x y : Int) (hx : 0 ≤ x ∧ x ≤ 255) (w : World) : Calls Try.prog 11 #[.agg #[.int .i64 a, .int .i64 x, .int .i64 y, .int .i64 x, .int .i64 p, .int .i64 pc], .string ⟨#[84, 83, 88]⟩, .int .i64 0] w fun e w' => e = .returned (.tuple #[.agg #[.int .i64 a, .int .i64 x, .int .i64 y, .int .i64 x, .int .i64 (nzI p x), .int .i64 pc], .int .i64 0]) ∧ Below w.heap.size w w' := by
  have h := impl_apply ⟨a, x, y, x, p, pc⟩ ⟨#[84, 83, 88]⟩ 0 w
  rw [show applyI ⟨a, x, y, x, p, pc⟩ ⟨#[84, 83, 88]⟩ 0 = (⟨a, x % 256, y, x, nzI p (x % 256), pc⟩, 0 % 256) from rfl, show (0 : Int) % 256 = 0 by decide] at h
  simp only [regI_mk] at h
  rw [show x % 256 = x by omega] at h
  exact h
theorem ap_sec (a p pc s x y : Int) (w : World) : Calls Try.prog 11 #[.agg #[.int .i64 a, .int .i64 x, .int .i64 y, .int .i64 s, .int .i64 p, .int .i64 pc], .string ⟨#[83, 69, 67]⟩, .int .i64 0] w fun e w' => e = .returned (.tuple #[.agg #[.int .i64 a, .int .i64 x, .int .i64 y, .int .i64 s, .int .i64 (wI p 1 true), .int .i64 pc], .int .i64 0]) ∧ Below w.heap.size w w' := by
  have h := impl_apply ⟨a, x, y, s, p, pc⟩ ⟨#[83, 69, 67]⟩ 0 w
  rw [show applyI ⟨a, x, y, s, p, pc⟩ ⟨#[83, 69, 67]⟩ 0 = (⟨a, x, y, s, wI p 1 true, pc⟩, 0 % 256) from rfl, show (0 : Int) % 256 = 0 by decide] at h
  simp only [regI_mk] at h
  exact h
theorem ap_clc (a p pc s x y : Int) (w : World) : Calls Try.prog 11 #[.agg #[.int .i64 a, .int .i64 x, .int .i64 y, .int .i64 s, .int .i64 p, .int .i64 pc], .string ⟨#[67, 76, 67]⟩, .int .i64 0] w fun e w' => e = .returned (.tuple #[.agg #[.int .i64 a, .int .i64 x, .int .i64 y, .int .i64 s, .int .i64 (wI p 1 false), .int .i64 pc], .int .i64 0]) ∧ Below w.heap.size w w' := by
  have h := impl_apply ⟨a, x, y, s, p, pc⟩ ⟨#[67, 76, 67]⟩ 0 w
  rw [show applyI ⟨a, x, y, s, p, pc⟩ ⟨#[67, 76, 67]⟩ 0 = (⟨a, x, y, s, wI p 1 false, pc⟩, 0 % 256) from rfl, show (0 : Int) % 256 = 0 by decide] at h
  simp only [regI_mk] at h
  exact h
set_option maxRecDepth 100000 in
set_option maxHeartbeats 4000000 in
theorem moves_law (A : Option Addr) (n c : Nat) (W : World) (hrow : RowB W A n) :
    Calls Try.prog 4 #[.slice A n c] W fun e w' => e = .returned (.bool true) ∧ Below W.heap.size W w' := by
  have hm := hrow.1
  unfold maxLen at hm
  by_cases hbig : 1048576 < n
  · clear hrow
    go_enter Try.func4, Try.ntmps4
    go_wp2_with (go_in)
    go_ret
    exact ⟨rfl, Below.refl _ _⟩
  have hcode := hrow.code (by omega)
  have hi := Lib.hid reg_size
  have hD := drawApply_any W.heap.size n c A W (Nat.le_refl _) hcode
  unfold DrawApplyPost at hD
  clear hrow hcode
  go_enter Try.func4, Try.ntmps4
  go_wp2_with (first
    | (go_at_call 9; go_in)
    | (go_at_call 10; refine hD.mono ?_; rintro e w1 ⟨k, nm, v, rfl, hok, hb⟩; refine Hid.out ?_))
  clear hD
  obtain ⟨a, x, y, s, p, pc⟩ := k
  have hx := hok.x
  have hp := hok.p
  clear hok
  simp only [] at hx hp
  rw [regI_mk]
  have hA := ap_inx a p pc s x y
  have hB := fun w => ap_dex_impl a (nzI p ((x + 1) % 256)) pc s x y hx w
  have hS := fun w => ap_dex_spec a (nzI p ((x + 1) % 256)) pc s x y hx w
  have hC := ap_txs a p pc s x y
  have hE := fun w => ap_tsx a p pc x y hx w
  have hF := ap_sec a p pc s x y
  have hG := ap_clc a (wI p 1 true) pc s x y
  have z1 := c_on p
  have z2 := c_off (wI p 1 true)
  have z3 := or_same p hp
  generalize nzI (nzI p ((x + 1) % 256)) x = P2 at *
  generalize nzI p ((x + 1) % 256) = P1 at *
  generalize nzI p x = P3 at *
  generalize wI (wI p 1 true) 1 false = P5 at *
  generalize wI p 1 true = P4 at *
  obtain ⟨X1, hX1⟩ : ∃ X1, (x + 1) % 256 = X1 := ⟨_, rfl⟩
  rw [hX1] at hA hB hS
  replace hA := Lib.hid hA
  replace hB := Lib.hid hB
  replace hS := Lib.hid hS
  replace hC := Lib.hid hC
  replace hE := Lib.hid hE
  replace hF := Lib.hid hF
  replace hG := Lib.hid hG
  have hX1 := Lib.hid hX1
  have hp := Lib.hid hp
  have B := Lib.hid hb
  clear hb
  refine Lib.hid ?_
  go_wp2_with (first
    | (go_at_call 11; (with_reducible refine (hA.out _).mono ?_); rintro e w2 ⟨rfl, hb⟩; refine Hid.out ?_))
  have K3 := Lib.hid (blk_below (blk_new w1 (.cells #[.int .i64 a, .int .i64 x, .int .i64 y, .int .i64 s, .int .i64 p, .int .i64 pc] 25)) hb)
  have B := Lib.hid (below_then (below_alloc B.out _) hb)
  clear hb
  refine Lib.hid ?_
  go_wp2_with (first
    | (go_at_call 11; (with_reducible refine (hB.out _).mono ?_); rintro e w3 ⟨rfl, hb⟩; refine Hid.out ?_))
  have K3 := Lib.hid (blk_below (blk_old K3.out) hb)
  have K6 := Lib.hid (blk_below (blk_new w2 (.cells #[.int .i64 a, .int .i64 X1, .int .i64 y, .int .i64 s, .int .i64 P1, .int .i64 pc] 25)) hb)
  have B := Lib.hid (below_then (below_alloc B.out _) hb)
  clear hb
  refine Lib.hid ?_
  go_wp2_with (first
    | (refine load_row rfl 25 (.tmp 3) rfl w1.heap.size rfl 6 _ Try.underlying25 rfl hi.out (blk_old K3.out) rfl ?_)
    | (go_at_call 11; (with_reducible refine (hC.out _).mono ?_); rintro e w4 ⟨rfl, hb⟩; refine Hid.out ?_))
  have K3 := Lib.hid (blk_below (blk_old K3.out) hb)
  have K6 := Lib.hid (blk_below (blk_old K6.out) hb)
  have K8 := Lib.hid (blk_below (blk_new w3 (.cells #[.int .i64 a, .int .i64 x, .int .i64 y, .int .i64 s, .int .i64 P2, .int .i64 pc] 25)) hb)
  have B := Lib.hid (below_then (below_alloc B.out _) hb)
  clear hb
  refine Lib.hid ?_
  go_wp2_with (first
    | (go_at_call 11; (with_reducible refine (hE.out _).mono ?_); rintro e w5 ⟨rfl, hb⟩; refine Hid.out ?_))
  have K3 := Lib.hid (blk_below (blk_old K3.out) hb)
  have K6 := Lib.hid (blk_below (blk_old K6.out) hb)
  have K8 := Lib.hid (blk_below (blk_old K8.out) hb)
  have K10 := Lib.hid (blk_below (blk_new w4 (.cells #[.int .i64 a, .int .i64 x, .int .i64 y, .int .i64 x, .int .i64 p, .int .i64 pc] 25)) hb)
  have B := Lib.hid (below_then (below_alloc B.out _) hb)
  clear hb
  refine Lib.hid ?_
  go_wp2_with (first
    | (refine load_row rfl 25 (.tmp 3) rfl w1.heap.size rfl 6 _ Try.underlying25 rfl hi.out (blk_old K3.out) rfl ?_)
    | (go_at_call 11; (with_reducible refine (hF.out _).mono ?_); rintro e w6 ⟨rfl, hb⟩; refine Hid.out ?_))
  have K3 := Lib.hid (blk_below (blk_old K3.out) hb)
  have K6 := Lib.hid (blk_below (blk_old K6.out) hb)
  have K8 := Lib.hid (blk_below (blk_old K8.out) hb)
  have K10 := Lib.hid (blk_below (blk_old K10.out) hb)
  have K12 := Lib.hid (blk_below (blk_new w5 (.cells #[.int .i64 a, .int .i64 x, .int .i64 y, .int .i64 x, .int .i64 P3, .int .i64 pc] 25)) hb)
  have B := Lib.hid (below_then (below_alloc B.out _) hb)
  clear hb
  refine Lib.hid ?_
  go_wp2_with (first
    | (go_at_call 11; (with_reducible refine (hG.out _).mono ?_); rintro e w7 ⟨rfl, hb⟩; refine Hid.out ?_))
  have K3 := Lib.hid (blk_below (blk_old K3.out) hb)
  have K6 := Lib.hid (blk_below (blk_old K6.out) hb)
  have K8 := Lib.hid (blk_below (blk_old K8.out) hb)
  have K10 := Lib.hid (blk_below (blk_old K10.out) hb)
  have K12 := Lib.hid (blk_below (blk_old K12.out) hb)
  have K14 := Lib.hid (blk_below (blk_new w6 (.cells #[.int .i64 a, .int .i64 x, .int .i64 y, .int .i64 s, .int .i64 P4, .int .i64 pc] 25)) hb)
  have B := Lib.hid (below_then (below_alloc B.out _) hb)
  clear hb
  refine Lib.hid ?_
  go_wp2_with (first
    | (refine load_row rfl 25 (.tmp 6) rfl w2.heap.size rfl 6 _ Try.underlying25 rfl hi.out (blk_old K6.out) rfl ?_)
    | (go_at_call 12; (with_reducible refine (hS.out _).mono ?_); rintro e w8 ⟨rfl, hb⟩; refine Hid.out ?_))
  have K3 := Lib.hid (blk_below (blk_old K3.out) hb)
  have K6 := Lib.hid (blk_below (blk_old K6.out) hb)
  have K8 := Lib.hid (blk_below (blk_old K8.out) hb)
  have K10 := Lib.hid (blk_below (blk_old K10.out) hb)
  have K12 := Lib.hid (blk_below (blk_old K12.out) hb)
  have K14 := Lib.hid (blk_below (blk_old K14.out) hb)
  have K16 := Lib.hid (blk_below (blk_new w7 (.cells #[.int .i64 a, .int .i64 x, .int .i64 y, .int .i64 s, .int .i64 P5, .int .i64 pc] 25)) hb)
  have B := Lib.hid (below_then (below_alloc B.out _) hb)
  clear hb
  have cK3_1 := cell_of_blk (i := 1) (blk_old (o := .cells #[.int .i64 a, .int .i64 x, .int .i64 y, .int .i64 s, .int .i64 P2, .int .i64 pc] 25) K3.out) rfl
  have cK3_4 := cell_of_blk (i := 4) (blk_old (o := .cells #[.int .i64 a, .int .i64 x, .int .i64 y, .int .i64 s, .int .i64 P2, .int .i64 pc] 25) K3.out) rfl
  have cK6_1 := cell_of_blk (i := 1) (blk_old (o := .cells #[.int .i64 a, .int .i64 x, .int .i64 y, .int .i64 s, .int .i64 P2, .int .i64 pc] 25) K6.out) rfl
  have cK8_0 := cell_of_blk (i := 0) (blk_old (o := .cells #[.int .i64 a, .int .i64 x, .int .i64 y, .int .i64 s, .int .i64 P2, .int .i64 pc] 25) K8.out) rfl
  have cK8_1 := cell_of_blk (i := 1) (blk_old (o := .cells #[.int .i64 a, .int .i64 x, .int .i64 y, .int .i64 s, .int .i64 P2, .int .i64 pc] 25) K8.out) rfl
  have cK8_2 := cell_of_blk (i := 2) (blk_old (o := .cells #[.int .i64 a, .int .i64 x, .int .i64 y, .int .i64 s, .int .i64 P2, .int .i64 pc] 25) K8.out) rfl
  have cK8_3 := cell_of_blk (i := 3) (blk_old (o := .cells #[.int .i64 a, .int .i64 x, .int .i64 y, .int .i64 s, .int .i64 P2, .int .i64 pc] 25) K8.out) rfl
  have cK8_4 := cell_of_blk (i := 4) (blk_old (o := .cells #[.int .i64 a, .int .i64 x, .int .i64 y, .int .i64 s, .int .i64 P2, .int .i64 pc] 25) K8.out) rfl
  have cK8_5 := cell_of_blk (i := 5) (blk_old (o := .cells #[.int .i64 a, .int .i64 x, .int .i64 y, .int .i64 s, .int .i64 P2, .int .i64 pc] 25) K8.out) rfl
  have cK10_3 := cell_of_blk (i := 3) (blk_old (o := .cells #[.int .i64 a, .int .i64 x, .int .i64 y, .int .i64 s, .int .i64 P2, .int .i64 pc] 25) K10.out) rfl
  have cK10_4 := cell_of_blk (i := 4) (blk_old (o := .cells #[.int .i64 a, .int .i64 x, .int .i64 y, .int .i64 s, .int .i64 P2, .int .i64 pc] 25) K10.out) rfl
  have cK12_1 := cell_of_blk (i := 1) (blk_old (o := .cells #[.int .i64 a, .int .i64 x, .int .i64 y, .int .i64 s, .int .i64 P2, .int .i64 pc] 25) K12.out) rfl
  have cK14_4 := cell_of_blk (i := 4) (blk_old (o := .cells #[.int .i64 a, .int .i64 x, .int .i64 y, .int .i64 s, .int .i64 P2, .int .i64 pc] 25) K14.out) rfl
  have cK16_4 := cell_of_blk (i := 4) (blk_old (o := .cells #[.int .i64 a, .int .i64 x, .int .i64 y, .int .i64 s, .int .i64 P2, .int .i64 pc] 25) K16.out) rfl
  refine Lib.hid ?_
  go_wp2
  go_ret
  exact ⟨by simp [*, hX1.out], below_alloc B.out _⟩
end Go.Proofs.Ytfeifcffgachoaa
