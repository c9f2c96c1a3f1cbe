/-
  The walk of the law FnApply: it returns true, whatever is drawn.
  Conditions: as each says; each walk leaves old memory as it was.
-/
import Derived.Test.YtfeifcffgachoaaWrB
import Derived.Test.YtfeifcffgachoaaRgC
import Derived.Test.YtfeifcffgachoaaWoP
namespace Go.Proofs.Ytfeifcffgachoaa
open Go.RowKit
theorem mod2 (v : Int) : v % 256 % 256 = v % 256 := by omega
theorem xor_self64 (v : Int) : bits .xor .i64 v v = 0 := by
  unfold bits
  simp
  rw [IntKind.wrap_i64]
  decide
theorem z_of_0 (q : Int) : (bits .and .i64 (nzI q 0) 2 != 0) = true := by
  rw [tst_i64 _ 2 (by omega), nz_z]
  decide
theorem ap_lda (a p pc s v x y : Int) (w : World) : Calls Try.prog 11 #[.agg #[.int .i64 a, .int .i64 x, .int .i64 y, .int .i64 s, .int .i64 p, .int .i64 pc], .string ⟨#[76, 68, 65]⟩, .int .i64 v] w fun e w' => e = .returned (.tuple #[.agg #[.int .i64 (v % 256), .int .i64 x, .int .i64 y, .int .i64 s, .int .i64 (nzI p (v % 256)), .int .i64 pc], .int .i64 (v % 256)]) ∧ Below w.heap.size w w' := by
  have h := impl_apply ⟨a, x, y, s, p, pc⟩ ⟨#[76, 68, 65]⟩ (v) w
  rw [show applyI ⟨a, x, y, s, p, pc⟩ ⟨#[76, 68, 65]⟩ (v) = (⟨v % 256 % 256, x, y, s, nzI p (v % 256 % 256), pc⟩, v % 256) from rfl] at h
  simp only [regI_mk] at h
  rw [mod2] at h
  exact h
theorem ap_tax (a p pc s x y : Int) (w : World) : Calls Try.prog 11 #[.agg #[.int .i64 a, .int .i64 x, .int .i64 y, .int .i64 s, .int .i64 p, .int .i64 pc], .string ⟨#[84, 65, 88]⟩, .int .i64 0] w fun e w' => e = .returned (.tuple #[.agg #[.int .i64 a, .int .i64 (a % 256), .int .i64 y, .int .i64 s, .int .i64 (nzI p (a % 256)), .int .i64 pc], .int .i64 (0)]) ∧ Below w.heap.size w w' := by
  have h := impl_apply ⟨a, x, y, s, p, pc⟩ ⟨#[84, 65, 88]⟩ (0) w
  rw [show applyI ⟨a, x, y, s, p, pc⟩ ⟨#[84, 65, 88]⟩ (0) = (⟨a, a % 256, y, s, nzI p (a % 256), pc⟩, 0 % 256) from rfl] at h
  simp only [regI_mk] at h
  rw [show (0 : Int) % 256 = 0 by decide] at h
  exact h
theorem ap_eor (p pc s v x y : Int) (w : World) : Calls Try.prog 11 #[.agg #[.int .i64 (v % 256), .int .i64 x, .int .i64 y, .int .i64 s, .int .i64 p, .int .i64 pc], .string ⟨#[69, 79, 82]⟩, .int .i64 v] w fun e w' => e = .returned (.tuple #[.agg #[.int .i64 0, .int .i64 x, .int .i64 y, .int .i64 s, .int .i64 (nzI p 0), .int .i64 pc], .int .i64 (v % 256)]) ∧ Below w.heap.size w w' := by
  have h := impl_apply ⟨v % 256, x, y, s, p, pc⟩ ⟨#[69, 79, 82]⟩ (v) w
  rw [show applyI ⟨v % 256, x, y, s, p, pc⟩ ⟨#[69, 79, 82]⟩ (v) = (⟨bits .xor .i64 (v % 256) (v % 256) % 256, x, y, s, nzI p (bits .xor .i64 (v % 256) (v % 256) % 256), pc⟩, v % 256) from rfl] at h
  simp only [regI_mk] at h
  rw [xor_self64, show (0 : Int) % 256 = 0 by decide] at h
  exact h
theorem ap_inc (a p pc s v x y : Int) (w : World) : Calls Try.prog 11 #[.agg #[.int .i64 a, .int .i64 x, .int .i64 y, .int .i64 s, .int .i64 p, .int .i64 pc], .string ⟨#[73, 78, 67]⟩, .int .i64 v] w fun e w' => e = .returned (.tuple #[.agg #[.int .i64 a, .int .i64 x, .int .i64 y, .int .i64 s, .int .i64 (nzI p ((v % 256 + 1) % 256)), .int .i64 pc], .int .i64 ((v % 256 + 1) % 256)]) ∧ Below w.heap.size w w' := by
  have h := impl_apply ⟨a, x, y, s, p, pc⟩ ⟨#[73, 78, 67]⟩ (v) w
  rw [show applyI ⟨a, x, y, s, p, pc⟩ ⟨#[73, 78, 67]⟩ (v) = (⟨a, x, y, s, nzI p ((v % 256 + 1) % 256), pc⟩, (v % 256 + 1) % 256) from rfl] at h
  simp only [regI_mk] at h
  exact h
theorem ap_dec (a p pc s v x y : Int) (w : World) : Calls Try.prog 11 #[.agg #[.int .i64 a, .int .i64 x, .int .i64 y, .int .i64 s, .int .i64 p, .int .i64 pc], .string ⟨#[68, 69, 67]⟩, .int .i64 ((v % 256 + 1) % 256)] w fun e w' => e = .returned (.tuple #[.agg #[.int .i64 a, .int .i64 x, .int .i64 y, .int .i64 s, .int .i64 (nzI p (v % 256)), .int .i64 pc], .int .i64 (v % 256)]) ∧ Below w.heap.size w w' := by
  have h := impl_apply ⟨a, x, y, s, p, pc⟩ ⟨#[68, 69, 67]⟩ ((v % 256 + 1) % 256) w
  rw [show applyI ⟨a, x, y, s, p, pc⟩ ⟨#[68, 69, 67]⟩ ((v % 256 + 1) % 256) = (⟨a, x, y, s, nzI p (((v % 256 + 1) % 256 % 256 - 1) % 256), pc⟩, ((v % 256 + 1) % 256 % 256 - 1) % 256) from rfl] at h
  simp only [regI_mk] at h
  rw [show ((v % 256 + 1) % 256 % 256 - 1) % 256 = v % 256 by omega] at h
  exact h
set_option maxRecDepth 100000 in
set_option maxHeartbeats 4000000 in
theorem apply_law (A : Option Addr) (n c : Nat) (W : World) (hrow : RowB W A n) :
    Calls Try.prog 3 #[.slice A n c] W fun e w' => e = .returned (.bool true) ∧ Below W.heap.size W w' := by
  have hm := hrow.1
  unfold maxLen at hm
  by_cases hbig : 1048576 < n
  · clear hrow
    go_enter Try.func3, Try.ntmps3
    go_wp2_with (go_in)
    go_ret
    exact ⟨rfl, Below.refl _ _⟩
  have hcode := hrow.code (by omega)
  have hi := Lib.hid reg_size
  have hD := drawApply_any W.heap.size n c A W (Nat.le_refl _) hcode
  unfold DrawApplyPost at hD
  clear hrow hcode
  go_enter Try.func3, Try.ntmps3
  go_wp2_with (first
    | (go_at_call 9; go_in)
    | (go_at_call 10; refine hD.mono ?_; rintro e w1 ⟨k, nm, v, rfl, hok, hb⟩; refine Hid.out ?_))
  clear hD
  have HI := impl_apply k nm v
  have HS := spec_apply k nm v
  unfold ApplyPost at HS
  obtain ⟨hdok, hdpc⟩ := apply_ok hok nm v
  have HR := fun w => impl_regsOk (applyI k nm v).1.a (applyI k nm v).1.x (applyI k nm v).1.y (applyI k nm v).1.s (applyI k nm v).1.p (applyI k nm v).1.pc w
  rw [okR_of hdok] at HR
  unfold regsV at HR
  clear hdok hok
  generalize applyI k nm v = d at *
  obtain ⟨d, q⟩ := d
  obtain ⟨a', x', y', s', p', pc'⟩ := d
  obtain ⟨a, x, y, s, p, pc⟩ := k
  simp only [] at hdpc
  have hdpc := hdpc.symm
  subst hdpc
  simp only [regI_mk] at HI HS HR ⊢
  have hA := ap_lda a p pc s v x y
  have hz := z_of_0 (nzI (nzI p (v % 256)) (v % 256))
  have hB := ap_tax (v % 256) (nzI p (v % 256)) pc s x y
  rw [mod2] at hB
  have hC := ap_eor (nzI (nzI p (v % 256)) (v % 256)) pc s v (v % 256) y
  have hE := ap_inc a p pc s v x y
  have hF := ap_dec a (nzI p ((v % 256 + 1) % 256)) pc s v x y
  have e0 := and_255 v
  generalize nzI (nzI (nzI p (v % 256)) (v % 256)) 0 = P3 at *
  generalize nzI (nzI p (v % 256)) (v % 256) = P2 at *
  generalize nzI p (v % 256) = P1 at *
  generalize nzI (nzI p ((v % 256 + 1) % 256)) (v % 256) = P5 at *
  generalize nzI p ((v % 256 + 1) % 256) = P4 at *
  generalize (v % 256 + 1) % 256 = U at *
  generalize v % 256 = V at *
  replace HI := Lib.hid HI
  replace HS := Lib.hid HS
  replace HR := Lib.hid HR
  replace hA := Lib.hid hA
  replace hB := Lib.hid hB
  replace hC := Lib.hid hC
  replace hE := Lib.hid hE
  replace hF := Lib.hid hF
  have B := Lib.hid hb
  clear hb
  refine Lib.hid ?_
  go_wp2_with (first
    | (go_at_call 11; (with_reducible refine (HI.out _).mono ?_); rintro e w2 ⟨rfl, hb⟩; refine Hid.out ?_))
  have K3 := Lib.hid (blk_below (blk_new w1 (.cells #[.int .i64 a, .int .i64 x, .int .i64 y, .int .i64 s, .int .i64 p, .int .i64 pc] 25)) hb)
  have B := Lib.hid (below_then (below_alloc B.out _) hb)
  clear hb
  refine Lib.hid ?_
  go_wp2_with (first
    | (refine load_row rfl 25 (.tmp 3) rfl w1.heap.size rfl 6 _ Try.underlying25 rfl hi.out (blk_old K3.out) rfl ?_)
    | (go_at_call 12; (with_reducible refine (HS.out _).mono ?_); rintro e w3 ⟨rfl, hb⟩; refine Hid.out ?_))
  have K3 := Lib.hid (blk_below (blk_old K3.out) hb)
  have K6 := Lib.hid (blk_below (blk_new w2 (.cells #[.int .i64 a', .int .i64 x', .int .i64 y', .int .i64 s', .int .i64 p', .int .i64 pc] 25)) hb)
  have B := Lib.hid (below_then (below_alloc B.out _) hb)
  clear hb
  have g6_0 := cell_of_blk (i := 0) (blk_old (o := .cells #[.int .i64 a', .int .i64 x', .int .i64 y', .int .i64 s', .int .i64 p', .int .i64 pc] 25) K6.out) rfl
  have g6_1 := cell_of_blk (i := 1) (blk_old (o := .cells #[.int .i64 a', .int .i64 x', .int .i64 y', .int .i64 s', .int .i64 p', .int .i64 pc] 25) K6.out) rfl
  have g6_2 := cell_of_blk (i := 2) (blk_old (o := .cells #[.int .i64 a', .int .i64 x', .int .i64 y', .int .i64 s', .int .i64 p', .int .i64 pc] 25) K6.out) rfl
  have g6_3 := cell_of_blk (i := 3) (blk_old (o := .cells #[.int .i64 a', .int .i64 x', .int .i64 y', .int .i64 s', .int .i64 p', .int .i64 pc] 25) K6.out) rfl
  have g6_4 := cell_of_blk (i := 4) (blk_old (o := .cells #[.int .i64 a', .int .i64 x', .int .i64 y', .int .i64 s', .int .i64 p', .int .i64 pc] 25) K6.out) rfl
  have g6_5 := cell_of_blk (i := 5) (blk_old (o := .cells #[.int .i64 a', .int .i64 x', .int .i64 y', .int .i64 s', .int .i64 p', .int .i64 pc] 25) K6.out) rfl
  refine Lib.hid ?_
  go_wp2_with (first
    | (go_at_call 13; (with_reducible refine (HR.out _).mono ?_); rintro e w4 ⟨rfl, hb⟩; refine Hid.out ?_))
  have K3 := Lib.hid (blk_below (blk_old K3.out) hb)
  have K6 := Lib.hid (blk_below (blk_old K6.out) hb)
  have B := Lib.hid (below_then (below_alloc B.out _) hb)
  clear hb
  clear g6_0 g6_1 g6_2 g6_3 g6_4 g6_5
  have c3 := cell_of_blk (i := 5) K3.out rfl
  have c6 := cell_of_blk (i := 5) K6.out rfl
  refine Lib.hid ?_
  go_wp2_with (first
    | (refine load_row rfl 25 (.tmp 3) rfl w1.heap.size rfl 6 _ Try.underlying25 rfl hi.out K3.out rfl ?_)
    | (go_at_call 11; (with_reducible refine (hA.out _).mono ?_); rintro e w5 ⟨rfl, hb⟩; refine Hid.out ?_))
  have K3 := Lib.hid (blk_below K3.out hb)
  have B := Lib.hid (below_then B.out hb)
  clear hb c3 c6 K6
  refine Lib.hid ?_
  go_wp2_with (first
    | (go_at_call 11; (with_reducible refine (hB.out _).mono ?_); rintro e w6 ⟨rfl, hb⟩; refine Hid.out ?_))
  have K3 := Lib.hid (blk_below (blk_old K3.out) hb)
  have K10 := Lib.hid (blk_below (blk_new w5 (.cells #[.int .i64 V, .int .i64 x, .int .i64 y, .int .i64 s, .int .i64 P1, .int .i64 pc] 25)) hb)
  have B := Lib.hid (below_then (below_alloc B.out _) hb)
  clear hb
  refine Lib.hid ?_
  go_wp2_with (first
    | (go_at_call 11; (with_reducible refine (hC.out _).mono ?_); rintro e w7 ⟨rfl, hb⟩; refine Hid.out ?_))
  have K3 := Lib.hid (blk_below (blk_old K3.out) hb)
  have K10 := Lib.hid (blk_below (blk_old K10.out) hb)
  have K12 := Lib.hid (blk_below (blk_new w6 (.cells #[.int .i64 V, .int .i64 V, .int .i64 y, .int .i64 s, .int .i64 P2, .int .i64 pc] 25)) hb)
  have B := Lib.hid (below_then (below_alloc B.out _) hb)
  clear hb
  refine Lib.hid ?_
  go_wp2_with (first
    | (refine load_row rfl 25 (.tmp 3) rfl w1.heap.size rfl 6 _ Try.underlying25 rfl hi.out (blk_old K3.out) rfl ?_)
    | (go_at_call 11; (with_reducible refine (hE.out _).mono ?_); rintro e w8 ⟨rfl, hb⟩; refine Hid.out ?_))
  have K3 := Lib.hid (blk_below (blk_old K3.out) hb)
  have K10 := Lib.hid (blk_below (blk_old K10.out) hb)
  have K12 := Lib.hid (blk_below (blk_old K12.out) hb)
  have K14 := Lib.hid (blk_below (blk_new w7 (.cells #[.int .i64 0, .int .i64 V, .int .i64 y, .int .i64 s, .int .i64 P3, .int .i64 pc] 25)) hb)
  have B := Lib.hid (below_then (below_alloc B.out _) hb)
  clear hb K3
  refine Lib.hid ?_
  go_wp2_with (first
    | (go_at_call 11; (with_reducible refine (hF.out _).mono ?_); rintro e w9 ⟨rfl, hb⟩; refine Hid.out ?_))
  have K10 := Lib.hid (blk_below (blk_old K10.out) hb)
  have K12 := Lib.hid (blk_below (blk_old K12.out) hb)
  have K14 := Lib.hid (blk_below (blk_old K14.out) hb)
  have B := Lib.hid (below_then (below_alloc B.out _) hb)
  clear hb
  have cK10_0 := cell_of_blk (i := 0) (blk_old (o := .cells #[.int .i64 a, .int .i64 x, .int .i64 y, .int .i64 s, .int .i64 P5, .int .i64 pc] 25) K10.out) rfl
  have cK12_1 := cell_of_blk (i := 1) (blk_old (o := .cells #[.int .i64 a, .int .i64 x, .int .i64 y, .int .i64 s, .int .i64 P5, .int .i64 pc] 25) K12.out) rfl
  have cK14_0 := cell_of_blk (i := 0) (blk_old (o := .cells #[.int .i64 a, .int .i64 x, .int .i64 y, .int .i64 s, .int .i64 P5, .int .i64 pc] 25) K14.out) rfl
  have cK14_4 := cell_of_blk (i := 4) (blk_old (o := .cells #[.int .i64 a, .int .i64 x, .int .i64 y, .int .i64 s, .int .i64 P5, .int .i64 pc] 25) K14.out) rfl
  refine Lib.hid ?_
  go_wp2
  go_ret
  exact ⟨by simp [*], below_alloc B.out _⟩
end Go.Proofs.Ytfeifcffgachoaa
