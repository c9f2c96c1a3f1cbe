/-
  The walks of RegsText of both packages (chapter 3): both give the same text.
  Conditions: none; old memory stays as it was.
-/
import Derived.Test.YtpddbhnkopnibaaRgC
import Derived.Test.YtpddbhnkopnibaaRgF
import Derived.Deep.RegionHeld3
namespace Go.Proofs.Ytpddbhnkopnibaa
open Go.RowKit Go.Deep Go.WideShapes Go.ChangeShapes
def rtl (a x y s p pc : Int) : List UInt8 :=
  [80, 67, 61] ++ hexl pc 4 ++ [32, 65, 61] ++ hexl a 2 ++ [32, 88, 61] ++ hexl x 2 ++ [32, 89, 61] ++ hexl y 2 ++ [32, 83, 61] ++ hexl s 2 ++ [32, 80, 61] ++ ftl p
def rtx (a x y s p pc : Int) : List UInt8 := if okR a x y s p pc then rtl a x y s p pc else []
theorem str_sum (c out : List UInt8) (h : c.length + out.length ≤ 1000) (w : World) :
    (Op.stringOp .add ⟨c.toArray⟩ ⟨out.toArray⟩).run Try.prog w = .ok (.string ⟨(c ++ out).toArray⟩) w := by
  rw [run_string_add_sum w _ _ (by show c.toArray.size + out.toArray.size ≤ _; simp; omega)]
  rw [ByteArray.mk_append_mk]
theorem below_drew {B : Nat} {w w' : World} (h : Below B w w') : Below B w w'.drew := ⟨h.os, h.tape, h.output, h.size, h.block⟩
/-- The sums by which the text grows, each under a name of its own. -/
def Sums (a x y s p pc : Int) (t : List UInt8) : Prop := ∃ t1 t2 t3 t4 t5 t6 t7 t8 t9 t10 : List UInt8,
  (∀ w, (Op.stringOp .add ⟨#[80, 67, 61]⟩ ⟨(hexl pc 4).toArray⟩).run Try.prog w = .ok (.string ⟨t1.toArray⟩) w) ∧
  (∀ w, (Op.stringOp .add ⟨t1.toArray⟩ ⟨#[32, 65, 61]⟩).run Try.prog w = .ok (.string ⟨t2.toArray⟩) w) ∧
  (∀ w, (Op.stringOp .add ⟨t2.toArray⟩ ⟨(hexl a 2).toArray⟩).run Try.prog w = .ok (.string ⟨t3.toArray⟩) w) ∧
  (∀ w, (Op.stringOp .add ⟨t3.toArray⟩ ⟨#[32, 88, 61]⟩).run Try.prog w = .ok (.string ⟨t4.toArray⟩) w) ∧
  (∀ w, (Op.stringOp .add ⟨t4.toArray⟩ ⟨(hexl x 2).toArray⟩).run Try.prog w = .ok (.string ⟨t5.toArray⟩) w) ∧
  (∀ w, (Op.stringOp .add ⟨t5.toArray⟩ ⟨#[32, 89, 61]⟩).run Try.prog w = .ok (.string ⟨t6.toArray⟩) w) ∧
  (∀ w, (Op.stringOp .add ⟨t6.toArray⟩ ⟨(hexl y 2).toArray⟩).run Try.prog w = .ok (.string ⟨t7.toArray⟩) w) ∧
  (∀ w, (Op.stringOp .add ⟨t7.toArray⟩ ⟨#[32, 83, 61]⟩).run Try.prog w = .ok (.string ⟨t8.toArray⟩) w) ∧
  (∀ w, (Op.stringOp .add ⟨t8.toArray⟩ ⟨(hexl s 2).toArray⟩).run Try.prog w = .ok (.string ⟨t9.toArray⟩) w) ∧
  (∀ w, (Op.stringOp .add ⟨t9.toArray⟩ ⟨#[32, 80, 61]⟩).run Try.prog w = .ok (.string ⟨t10.toArray⟩) w) ∧
  (∀ w, (Op.stringOp .add ⟨t10.toArray⟩ ⟨(ftl p).toArray⟩).run Try.prog w = .ok (.string ⟨t.toArray⟩) w)
theorem sums (a x y s p pc : Int) : Sums a x y s p pc (rtl a x y s p pc) := by
  unfold rtl
  refine ⟨_, _, _, _, _, _, _, _, _, _, str_sum [80, 67, 61] _ ?_, str_sum _ [32, 65, 61] ?_, str_sum _ _ ?_, str_sum _ [32, 88, 61] ?_, str_sum _ _ ?_, str_sum _ [32, 89, 61] ?_, str_sum _ _ ?_, str_sum _ [32, 83, 61] ?_, str_sum _ _ ?_, str_sum _ [32, 80, 61] ?_, str_sum _ _ ?_⟩ <;> simp [hexl_length, ftl_length]
def Six (W : World) (B : Nat) (a x y s p pc : Int) : Prop :=
  W.cell? ⟨B, 0, none⟩ = some (.int .i64 a) ∧ W.cell? ⟨B, 1, none⟩ = some (.int .i64 x) ∧ W.cell? ⟨B, 2, none⟩ = some (.int .i64 y) ∧
  W.cell? ⟨B, 3, none⟩ = some (.int .i64 s) ∧ W.cell? ⟨B, 4, none⟩ = some (.int .i64 p) ∧ W.cell? ⟨B, 5, none⟩ = some (.int .i64 pc)
theorem Six.below {w w' : World} {B : Nat} {a x y s p pc : Int} (h : Six w B a x y s p pc) (hB : B < w.heap.size) (hb : Below w.heap.size w w') : Six w' B a x y s p pc := by
  obtain ⟨h0, h1, h2, h3, h4, h5⟩ := h
  have k : ∀ o, w'.cell? ⟨B, o, none⟩ = w.cell? ⟨B, o, none⟩ := fun o => hb.cell (p := ⟨B, o, none⟩) hB
  exact ⟨(k _).trans h0, (k _).trans h1, (k _).trans h2, (k _).trans h3, (k _).trans h4, (k _).trans h5⟩
theorem six_new (w : World) (a x y s p pc : Int) (t : TypeId) : Six (w.alloc (.cells #[.int .i64 a, .int .i64 x, .int .i64 y, .int .i64 s, .int .i64 p, .int .i64 pc] t)) w.heap.size a x y s p pc := by
  have hb : ∀ o, (w.alloc o).heap[w.heap.size]? = some o := fun o => by show (w.heap.push o)[w.heap.size]? = _; simp
  refine ⟨?_, ?_, ?_, ?_, ?_, ?_⟩ <;> (unfold World.cell?; rw [hb]; rfl)
theorem six_keep {W0 W w1 : World} {B : Nat} {a x y s p pc : Int}
    (h : W.cell? ⟨B, 0, none⟩ = some (.int .i64 a) ∧ W.cell? ⟨B, 1, none⟩ = some (.int .i64 x) ∧ W.cell? ⟨B, 2, none⟩ = some (.int .i64 y) ∧
      W.cell? ⟨B, 3, none⟩ = some (.int .i64 s) ∧ W.cell? ⟨B, 4, none⟩ = some (.int .i64 p) ∧ W.cell? ⟨B, 5, none⟩ = some (.int .i64 pc) ∧ B < W.heap.size ∧ Below B W0 W) (hb : Below W.heap.size W w1) :
    w1.cell? ⟨B, 0, none⟩ = some (.int .i64 a) ∧ w1.cell? ⟨B, 1, none⟩ = some (.int .i64 x) ∧ w1.cell? ⟨B, 2, none⟩ = some (.int .i64 y) ∧
      w1.cell? ⟨B, 3, none⟩ = some (.int .i64 s) ∧ w1.cell? ⟨B, 4, none⟩ = some (.int .i64 p) ∧ w1.cell? ⟨B, 5, none⟩ = some (.int .i64 pc) ∧ B < w1.heap.size ∧ Below B W0 w1 := by
  obtain ⟨h0, h1, h2, h3, h4, h5, h6, h7⟩ := h
  have k : ∀ o, w1.cell? ⟨B, o, none⟩ = W.cell? ⟨B, o, none⟩ := fun o => hb.cell (p := ⟨B, o, none⟩) h6
  exact ⟨(k _).trans h0, (k _).trans h1, (k _).trans h2, (k _).trans h3, (k _).trans h4, (k _).trans h5, Nat.lt_of_lt_of_le h6 hb.size, h7.trans (hb.mono (Nat.le_of_lt h6))⟩
theorem impl_hex4 (n : Int) (w : World) : Calls Try.prog 42 #[.int .i64 n, .int .i64 4] w fun e w' => e = .returned (.string ⟨(hexl n 4).toArray⟩) ∧ Below w.heap.size w w' := impl_hex n 4 (by omega) (by omega) w
theorem impl_hex2 (n : Int) (w : World) : Calls Try.prog 42 #[.int .i64 n, .int .i64 2] w fun e w' => e = .returned (.string ⟨(hexl n 2).toArray⟩) ∧ Below w.heap.size w w' := impl_hex n 2 (by omega) (by omega) w
theorem spec_hex4 (n : Int) (w : World) : Calls Try.prog 29 #[.int .i64 n, .int .i64 4] w fun e w' => e = .returned (.string ⟨(hexl n 4).toArray⟩) ∧ Below w.heap.size w w' := spec_hex n 4 (by omega) (by omega) w
theorem spec_hex2 (n : Int) (w : World) : Calls Try.prog 29 #[.int .i64 n, .int .i64 2] w fun e w' => e = .returned (.string ⟨(hexl n 2).toArray⟩) ∧ Below w.heap.size w w' := spec_hex n 2 (by omega) (by omega) w
set_option maxRecDepth 100000 in
set_option maxHeartbeats 1000000 in
theorem impl_regsText (a x y s p pc : Int) (w : World) : Calls Try.prog 24 #[regsV a x y s p pc] w fun e w' => e = .returned (.string ⟨(rtx a x y s p pc).toArray⟩) ∧ Below w.heap.size w w' := by
  cases hok : okR a x y s p pc
  · have HR : Hid (rtx a x y s p pc = []) := Lib.hid (by unfold rtx; rw [hok]; rfl)
    have ho := fun w => impl_regsOk a x y s p pc w
    rw [hok] at ho
    have HO := Lib.hid ho
    clear ho hok
    unfold regsV at *
    go_enter Try.func24, Try.ntmps24
    go_wp2_with (go_at_call 25; refine (HO.out _).mono ?_; rintro e w1 ⟨rfl, hb⟩)
    go_ret
    exact ⟨by rw [HR.out]; rfl, ((Below.refl _ _).alloc (Nat.le_refl _) _).trans (hb.mono (by simp))⟩
  · have HR : Hid (rtx a x y s p pc = rtl a x y s p pc) := Lib.hid (by unfold rtx; rw [hok]; rfl)
    have ho := fun w => impl_regsOk a x y s p pc w
    rw [hok] at ho
    have HO := Lib.hid ho
    clear ho hok
    unfold regsV at *
    go_enter Try.func24, Try.ntmps24
    go_wp2_with (go_at_call 25; refine (HO.out _).mono ?_; rintro e w1 ⟨rfl, hb⟩; refine Hid.out ?_)
    have hsix := (six_new w a x y s p pc 33).below (by simp) hb
    obtain ⟨g0, g1, g2, g3, g4, g5⟩ := hsix
    have hB : w.heap.size < w1.heap.size := by have := hb.size; simp at this; omega
    have hw1 : Below w.heap.size w w1 := ((Below.refl _ _).alloc (Nat.le_refl _) _).trans (hb.mono (by simp))
    have hs := sums a x y s p pc
    obtain ⟨t, ht⟩ : ∃ t, t = rtl a x y s p pc := ⟨_, rfl⟩
    rw [← ht] at hs HR
    obtain ⟨t1, t2, t3, t4, t5, t6, t7, t8, t9, t10, a1, a2, a3, a4, a5, a6, a7, a8, a9, a10, a11⟩ := hs
    have h4 := Lib.hid impl_hex4
    have h2 := Lib.hid impl_hex2
    have hf := Lib.hid impl_flagText
    clear hb ht HO
    refine Lib.hid ?_
    go_wp2
    go_region_held3 (fun w' => w'.cell? ⟨w.heap.size, 0, none⟩ = some (.int .i64 a) ∧ w'.cell? ⟨w.heap.size, 1, none⟩ = some (.int .i64 x) ∧ w'.cell? ⟨w.heap.size, 2, none⟩ = some (.int .i64 y) ∧
      w'.cell? ⟨w.heap.size, 3, none⟩ = some (.int .i64 s) ∧ w'.cell? ⟨w.heap.size, 4, none⟩ = some (.int .i64 p) ∧ w'.cell? ⟨w.heap.size, 5, none⟩ = some (.int .i64 pc) ∧ w.heap.size < w'.heap.size ∧ Below w.heap.size w w')
      (first | exact ⟨g0, g1, g2, g3, g4, g5, hB, below_drew hw1⟩ | exact six_keep (by assumption) hb1 | go_keep)
      (first
        | (go_at_call 42; (with_reducible refine (h4.out _ _).mono ?_); rintro e w1 ⟨rfl, hb1⟩)
        | (go_at_call 42; (with_reducible refine (h2.out _ _).mono ?_); rintro e w1 ⟨rfl, hb1⟩)
        | (go_at_call 13; (with_reducible refine (hf.out _ _).mono ?_); rintro e w1 ⟨rfl, hb1⟩))
    rename_i hH
    obtain ⟨_, _, _, _, _, _, _, hb2⟩ := hH
    clear g0 g1 g2 g3 g4 g5 hB hw1
    go_wp2
    go_ret
    exact ⟨by rw [HR.out]; rfl, hb2⟩
set_option maxRecDepth 100000 in
set_option maxHeartbeats 1000000 in
theorem spec_regsText (a x y s p pc : Int) (w : World) : Calls Try.prog 26 #[regsV a x y s p pc] w fun e w' => e = .returned (.string ⟨(rtx a x y s p pc).toArray⟩) ∧ Below w.heap.size w w' := by
  cases hok : okR a x y s p pc
  · have HR : Hid (rtx a x y s p pc = []) := Lib.hid (by unfold rtx; rw [hok]; rfl)
    have ho := fun w => spec_regsOk a x y s p pc w
    rw [hok] at ho
    have HO := Lib.hid ho
    clear ho hok
    unfold regsV at *
    go_enter Try.func26, Try.ntmps26
    go_wp2_with (go_at_call 27; refine (HO.out _).mono ?_; rintro e w1 ⟨rfl, hb⟩)
    go_ret
    exact ⟨by rw [HR.out]; rfl, ((Below.refl _ _).alloc (Nat.le_refl _) _).trans (hb.mono (by simp))⟩
  · have HR : Hid (rtx a x y s p pc = rtl a x y s p pc) := Lib.hid (by unfold rtx; rw [hok]; rfl)
    have ho := fun w => spec_regsOk a x y s p pc w
    rw [hok] at ho
    have HO := Lib.hid ho
    clear ho hok
    unfold regsV at *
    go_enter Try.func26, Try.ntmps26
    go_wp2_with (go_at_call 27; refine (HO.out _).mono ?_; rintro e w1 ⟨rfl, hb⟩; refine Hid.out ?_)
    have hsix := (six_new w a x y s p pc 33).below (by simp) hb
    obtain ⟨g0, g1, g2, g3, g4, g5⟩ := hsix
    have hB : w.heap.size < w1.heap.size := by have := hb.size; simp at this; omega
    have hw1 : Below w.heap.size w w1 := ((Below.refl _ _).alloc (Nat.le_refl _) _).trans (hb.mono (by simp))
    have hs := sums a x y s p pc
    obtain ⟨t, ht⟩ : ∃ t, t = rtl a x y s p pc := ⟨_, rfl⟩
    rw [← ht] at hs HR
    obtain ⟨t1, t2, t3, t4, t5, t6, t7, t8, t9, t10, a1, a2, a3, a4, a5, a6, a7, a8, a9, a10, a11⟩ := hs
    have h4 := Lib.hid spec_hex4
    have h2 := Lib.hid spec_hex2
    have hf := Lib.hid spec_flagText
    clear hb ht HO
    refine Lib.hid ?_
    go_wp2
    go_region_held3 (fun w' => w'.cell? ⟨w.heap.size, 0, none⟩ = some (.int .i64 a) ∧ w'.cell? ⟨w.heap.size, 1, none⟩ = some (.int .i64 x) ∧ w'.cell? ⟨w.heap.size, 2, none⟩ = some (.int .i64 y) ∧
      w'.cell? ⟨w.heap.size, 3, none⟩ = some (.int .i64 s) ∧ w'.cell? ⟨w.heap.size, 4, none⟩ = some (.int .i64 p) ∧ w'.cell? ⟨w.heap.size, 5, none⟩ = some (.int .i64 pc) ∧ w.heap.size < w'.heap.size ∧ Below w.heap.size w w')
      (first | exact ⟨g0, g1, g2, g3, g4, g5, hB, below_drew hw1⟩ | exact six_keep (by assumption) hb1 | go_keep)
      (first
        | (go_at_call 29; (with_reducible refine (h4.out _ _).mono ?_); rintro e w1 ⟨rfl, hb1⟩)
        | (go_at_call 29; (with_reducible refine (h2.out _ _).mono ?_); rintro e w1 ⟨rfl, hb1⟩)
        | (go_at_call 17; (with_reducible refine (hf.out _ _).mono ?_); rintro e w1 ⟨rfl, hb1⟩))
    rename_i hH
    obtain ⟨_, _, _, _, _, _, _, hb2⟩ := hH
    clear g0 g1 g2 g3 g4 g5 hB hw1
    go_wp2
    go_ret
    exact ⟨by rw [HR.out]; rfl, hb2⟩
end Go.Proofs.Ytpddbhnkopnibaa
