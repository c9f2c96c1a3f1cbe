/-
  Texts put together by program: CkJ.
  Conditions: as each theorem says.
-/
import Derived.Test.YthklebkpoccblaaGreatRqbt
namespace Go.Proofs.YthklebkpoccblaaGreat
open Go.RowKit
theorem m_steps {b : Nat} (k : ClkI) (w : World) (h : ClkAt b k w) (hk : k.kd = 0 ∨ k.kd = 1 ∨ k.kd = 2 ∨ k.kd = 3) : Calls Tryz.prog 92 #[.pointer (some ⟨b, 0, none⟩)] w fun e w' => e = .returned (.agg (allSteps (nameSteps k.on k.om b) k.kd b)) ∧ Below w.heap.size w w' := by
 rcases hk with hk | hk | hk | hk
 ·rw [hk]; exact m_steps_rd k w h hk
 ·rw [hk]; exact m_steps_wr k w h hk
 ·rw [hk]; exact m_steps_mod k w h hk
 ·rw [hk]; exact m_steps_own k w h hk
theorem index_step {cs : Array Value} {v : Value} (t : Nat) (h : okS cs) (hv : cs[t]? = some v) (W : World) : (Instr.index 108 (.agg cs) (.int .i64 (t : Int))).run Tryz.prog W = .ok v W := by
 obtain ⟨ht, _⟩ := Array.getElem?_eq_some_iff.1 hv
 have h23 := h.1
 have ht' : t < 23 := by omega
 simp [Instr.index, run_underlying Tryz.underlying108, asIntOf, go_sem, hv, ht']
set_option maxRecDepth 100000 in
set_option maxHeartbeats 2000000 in
theorem m_pass_fetch {B : Nat} {b : Nat} (k k2 : ClkI) (t : Nat) (oa ob : ByteArray) (w : World) (h : ClkAt b k w) (hB : B ≤ b) (hj : k.jm = false) (ht : k.t = t) (ho : opOf k.cd = (oa, ob))
  (hi : (allSteps (nameSteps oa ob b) (kindL oa ob) b)[t]? = some (stepV 118 b))
  (hs : ∀ w', ClkAt b { k with on := oa, om := ob, kd := kindL oa ob, t := (t : Int) + 1 } w' → Calls Tryz.prog 118 #[.pointer (some ⟨b, 0, none⟩)] w' (Did B b w' k2 (.tuple #[]))) : Calls Tryz.prog 62 #[.pointer (some ⟨b, 0, none⟩)] w (Did B b w k2 (.tuple #[])) := by
 unfold Did
 have HO := fun w => impl_opOf k.cd w
 rw [ho] at HO
 have HK := fun w => impl_kindListed oa ob w
 have hkd : kindL oa ob = 0 ∨ kindL oa ob = 1 ∨ kindL oa ob = 2 ∨ kindL oa ob = 3 := by unfold kindL; repeat' split <;> omega
 have hok := allSteps_ok (nameSteps_ok oa ob b) (kindL oa ob) b
 have HX := index_step t hok hi
 have ht23 : (t : Int) ≤ 22 := by have := (Array.getElem?_eq_some_iff.1 hi).1; have := hok.1; omega
 have ht0 : (0 : Int) ≤ (t : Int) := by omega
 have HST := fun (w : World) (h : ClkAt b { k with on := oa, om := ob, kd := kindL oa ob } w) => m_steps _ w h hkd
 simp only [] at HST
 unfold opV at HK
 generalize allSteps (nameSteps oa ob b) (kindL oa ob) b = AR at *
 generalize kindL oa ob = kd at *
 clear hi hok hkd ho
 have HNF : ∀ W : World, (binOp .eql 1 (.func (.func 118) #[.pointer (some ⟨b, 0, none⟩)] #[]) .nilFunc).run Tryz.prog W = .ok (.bool false) W := fun W => by first | kernel_rfl | simp [binOp, go_sem]
 replace HO := Lib.hid HO
 replace HK := Lib.hid HK
 replace HST := Lib.hid HST
 replace hs := Lib.hid hs
 unfold stepV at HX
 have Z := Lib.hid h
 clear h
 have fz := Z.out.free
 have Q := Lib.hid (Below.refl B w)
 have _ := hB
 have c_jm : w.cell? ⟨b, 14, none⟩ = some (.bool false) := by rw [Z.out.c_jm, hj]
 clear hj
 have c_cd : w.cell? ⟨b, 7, none⟩ = some (.int .i64 (k.cd)) := Z.out.c_cd
 have c_on : w.cell? ⟨b, 20, none⟩ = some (.string (k.on)) := Z.out.c_on
 have c_om : w.cell? ⟨b, 21, none⟩ = some (.string (k.om)) := Z.out.c_om
 go_enter Tryz.func62, Tryz.ntmps62
 go_wp2_with (go_at_call 90; refine (HO.out _).mono ?_; rintro e w1 ⟨rfl, hb⟩; refine Hid.out ?_)
 have Q := Lib.hid (below_mono Q.out hb (Nat.le_trans hB (Nat.le_of_lt Z.out.lt)))
 have Z : Hid (ClkAt b (k) w1) := Lib.hid (Z.out.below hb)
 clear hb
 clear fz c_jm c_cd c_on c_om
 have fz := Z.out.free
 have c_kd : w1.cell? ⟨b, 22, none⟩ = some (.int .i64 (k.kd)) := Z.out.c_kd
 have c_on : w1.cell? ⟨b, 20, none⟩ = some (.string (k.on)) := Z.out.c_on
 have c_om : w1.cell? ⟨b, 21, none⟩ = some (.string (k.om)) := Z.out.c_om
 refine Lib.hid ?_
 go_wp2_with (go_at_call 91; refine (HK.out _).mono ?_; rintro e w2 ⟨rfl, hb⟩; refine Hid.out ?_)
 have Q := Lib.hid (below_mono (below_put (i := 21) (v := .string (ob)) (below_put (i := 20) (v := .string (oa)) Q.out hB) hB) hb (Nat.le_trans hB (Nat.le_of_lt ((Z.out.s_on oa).s_om ob).lt)))
 have Z : Hid (ClkAt b ({ k with on := oa, om := ob }) w2) := Lib.hid (((Z.out.s_on oa).s_om ob).below hb)
 clear hb
 clear fz c_kd c_on c_om
 have fz := Z.out.free
 have c_kd : w2.cell? ⟨b, 22, none⟩ = some (.int .i64 (k.kd)) := Z.out.c_kd
 have c_t : w2.cell? ⟨b, 8, none⟩ = some (.int .i64 (k.t)) := Z.out.c_t
 refine Lib.hid ?_
 rw [ht] at c_t
 go_wp2_with (fail)
 go_region_held3 (fun w' => w'.cell? ⟨b, 8, none⟩ = some (.int .i64 (t : Int))) (first | with_reducible exact z9 | (with_reducible refine (cell_drew _ _).trans ?_; with_reducible refine far_step ?_ ?_; exact c_t) | exact (by have := ((Z.out.s_kd kd)).drew.c_t; rw [ht] at this; exact this) | go_keep) (first | (go_at_call 92; refine (HST.out _ ((Z.out.s_kd kd)).drew).mono ?_; rintro e w9 ⟨rfl, hb⟩; have Z9 := ((Z.out.s_kd kd)).drew.below hb; have z9 := Z9.c_t; rw [ht] at z9))
 have Q := Lib.hid (below_mono ((below_put (i := 22) (v := .int .i64 (kd)) Q.out hB).trans (below_drew1 B _)) hb (Nat.le_trans hB (Nat.le_of_lt ((Z.out.s_kd kd)).drew.lt)))
 have Z : Hid (ClkAt b ({ k with on := oa, om := ob, kd := kd }) w9) := Lib.hid Z9
 clear Z9 hb z9 fz c_t c_kd
 have fz := Z.out.free
 have c_t := Z.out.c_t
 rw [ht] at c_t
 go_wp2_with (first | (go_at_call 118; refine (hs.out _ (Z.out.s_t ((t : Int) + 1))).mono ?_; rintro e w9 ⟨rfl, Z1, Q1⟩))
 go_end0
 exact ⟨rfl, Z1, (below_put (i := 8) (v := .int .i64 (((t : Int) + 1))) Q.out hB).trans Q1⟩
set_option maxRecDepth 100000 in
set_option maxHeartbeats 2000000 in
theorem m_pass_pause {B : Nat} {b : Nat} (k k2 : ClkI) (t : Nat) (oa ob : ByteArray) (w : World) (h : ClkAt b k w) (hB : B ≤ b) (hj : k.jm = false) (ht : k.t = t) (ho : opOf k.cd = (oa, ob))
  (hi : (allSteps (nameSteps oa ob b) (kindL oa ob) b)[t]? = some (stepV 129 b))
  (hs : ∀ w', ClkAt b { k with on := oa, om := ob, kd := kindL oa ob, t := (t : Int) + 1 } w' → Calls Tryz.prog 129 #[.pointer (some ⟨b, 0, none⟩)] w' (Did B b w' k2 (.tuple #[]))) : Calls Tryz.prog 62 #[.pointer (some ⟨b, 0, none⟩)] w (Did B b w k2 (.tuple #[])) := by
 unfold Did
 have HO := fun w => impl_opOf k.cd w
 rw [ho] at HO
 have HK := fun w => impl_kindListed oa ob w
 have hkd : kindL oa ob = 0 ∨ kindL oa ob = 1 ∨ kindL oa ob = 2 ∨ kindL oa ob = 3 := by unfold kindL; repeat' split <;> omega
 have hok := allSteps_ok (nameSteps_ok oa ob b) (kindL oa ob) b
 have HX := index_step t hok hi
 have ht23 : (t : Int) ≤ 22 := by have := (Array.getElem?_eq_some_iff.1 hi).1; have := hok.1; omega
 have ht0 : (0 : Int) ≤ (t : Int) := by omega
 have HST := fun (w : World) (h : ClkAt b { k with on := oa, om := ob, kd := kindL oa ob } w) => m_steps _ w h hkd
 simp only [] at HST
 unfold opV at HK
 generalize allSteps (nameSteps oa ob b) (kindL oa ob) b = AR at *
 generalize kindL oa ob = kd at *
 clear hi hok hkd ho
 have HNF : ∀ W : World, (binOp .eql 1 (.func (.func 129) #[.pointer (some ⟨b, 0, none⟩)] #[]) .nilFunc).run Tryz.prog W = .ok (.bool false) W := fun W => by first | kernel_rfl | simp [binOp, go_sem]
 replace HO := Lib.hid HO
 replace HK := Lib.hid HK
 replace HST := Lib.hid HST
 replace hs := Lib.hid hs
 unfold stepV at HX
 have Z := Lib.hid h
 clear h
 have fz := Z.out.free
 have Q := Lib.hid (Below.refl B w)
 have _ := hB
 have c_jm : w.cell? ⟨b, 14, none⟩ = some (.bool false) := by rw [Z.out.c_jm, hj]
 clear hj
 have c_cd : w.cell? ⟨b, 7, none⟩ = some (.int .i64 (k.cd)) := Z.out.c_cd
 have c_on : w.cell? ⟨b, 20, none⟩ = some (.string (k.on)) := Z.out.c_on
 have c_om : w.cell? ⟨b, 21, none⟩ = some (.string (k.om)) := Z.out.c_om
 go_enter Tryz.func62, Tryz.ntmps62
 go_wp2_with (go_at_call 90; refine (HO.out _).mono ?_; rintro e w1 ⟨rfl, hb⟩; refine Hid.out ?_)
 have Q := Lib.hid (below_mono Q.out hb (Nat.le_trans hB (Nat.le_of_lt Z.out.lt)))
 have Z : Hid (ClkAt b (k) w1) := Lib.hid (Z.out.below hb)
 clear hb
 clear fz c_jm c_cd c_on c_om
 have fz := Z.out.free
 have c_kd : w1.cell? ⟨b, 22, none⟩ = some (.int .i64 (k.kd)) := Z.out.c_kd
 have c_on : w1.cell? ⟨b, 20, none⟩ = some (.string (k.on)) := Z.out.c_on
 have c_om : w1.cell? ⟨b, 21, none⟩ = some (.string (k.om)) := Z.out.c_om
 refine Lib.hid ?_
 go_wp2_with (go_at_call 91; refine (HK.out _).mono ?_; rintro e w2 ⟨rfl, hb⟩; refine Hid.out ?_)
 have Q := Lib.hid (below_mono (below_put (i := 21) (v := .string (ob)) (below_put (i := 20) (v := .string (oa)) Q.out hB) hB) hb (Nat.le_trans hB (Nat.le_of_lt ((Z.out.s_on oa).s_om ob).lt)))
 have Z : Hid (ClkAt b ({ k with on := oa, om := ob }) w2) := Lib.hid (((Z.out.s_on oa).s_om ob).below hb)
 clear hb
 clear fz c_kd c_on c_om
 have fz := Z.out.free
 have c_kd : w2.cell? ⟨b, 22, none⟩ = some (.int .i64 (k.kd)) := Z.out.c_kd
 have c_t : w2.cell? ⟨b, 8, none⟩ = some (.int .i64 (k.t)) := Z.out.c_t
 refine Lib.hid ?_
 rw [ht] at c_t
 go_wp2_with (fail)
 go_region_held3 (fun w' => w'.cell? ⟨b, 8, none⟩ = some (.int .i64 (t : Int))) (first | with_reducible exact z9 | (with_reducible refine (cell_drew _ _).trans ?_; with_reducible refine far_step ?_ ?_; exact c_t) | exact (by have := ((Z.out.s_kd kd)).drew.c_t; rw [ht] at this; exact this) | go_keep) (first | (go_at_call 92; refine (HST.out _ ((Z.out.s_kd kd)).drew).mono ?_; rintro e w9 ⟨rfl, hb⟩; have Z9 := ((Z.out.s_kd kd)).drew.below hb; have z9 := Z9.c_t; rw [ht] at z9))
 have Q := Lib.hid (below_mono ((below_put (i := 22) (v := .int .i64 (kd)) Q.out hB).trans (below_drew1 B _)) hb (Nat.le_trans hB (Nat.le_of_lt ((Z.out.s_kd kd)).drew.lt)))
 have Z : Hid (ClkAt b ({ k with on := oa, om := ob, kd := kd }) w9) := Lib.hid Z9
 clear Z9 hb z9 fz c_t c_kd
 have fz := Z.out.free
 have c_t := Z.out.c_t
 rw [ht] at c_t
 go_wp2_with (first | (go_at_call 129; refine (hs.out _ (Z.out.s_t ((t : Int) + 1))).mono ?_; rintro e w9 ⟨rfl, Z1, Q1⟩))
 go_end0
 exact ⟨rfl, Z1, (below_put (i := 8) (v := .int .i64 (((t : Int) + 1))) Q.out hB).trans Q1⟩
set_option maxRecDepth 100000 in
set_option maxHeartbeats 2000000 in
theorem m_pass_pushHigh {B : Nat} {b : Nat} (k k2 : ClkI) (t : Nat) (oa ob : ByteArray) (w : World) (h : ClkAt b k w) (hB : B ≤ b) (hj : k.jm = false) (ht : k.t = t) (ho : opOf k.cd = (oa, ob))
  (hi : (allSteps (nameSteps oa ob b) (kindL oa ob) b)[t]? = some (stepV 130 b))
  (hs : ∀ w', ClkAt b { k with on := oa, om := ob, kd := kindL oa ob, t := (t : Int) + 1 } w' → Calls Tryz.prog 130 #[.pointer (some ⟨b, 0, none⟩)] w' (Did B b w' k2 (.tuple #[]))) : Calls Tryz.prog 62 #[.pointer (some ⟨b, 0, none⟩)] w (Did B b w k2 (.tuple #[])) := by
 unfold Did
 have HO := fun w => impl_opOf k.cd w
 rw [ho] at HO
 have HK := fun w => impl_kindListed oa ob w
 have hkd : kindL oa ob = 0 ∨ kindL oa ob = 1 ∨ kindL oa ob = 2 ∨ kindL oa ob = 3 := by unfold kindL; repeat' split <;> omega
 have hok := allSteps_ok (nameSteps_ok oa ob b) (kindL oa ob) b
 have HX := index_step t hok hi
 have ht23 : (t : Int) ≤ 22 := by have := (Array.getElem?_eq_some_iff.1 hi).1; have := hok.1; omega
 have ht0 : (0 : Int) ≤ (t : Int) := by omega
 have HST := fun (w : World) (h : ClkAt b { k with on := oa, om := ob, kd := kindL oa ob } w) => m_steps _ w h hkd
 simp only [] at HST
 unfold opV at HK
 generalize allSteps (nameSteps oa ob b) (kindL oa ob) b = AR at *
 generalize kindL oa ob = kd at *
 clear hi hok hkd ho
 have HNF : ∀ W : World, (binOp .eql 1 (.func (.func 130) #[.pointer (some ⟨b, 0, none⟩)] #[]) .nilFunc).run Tryz.prog W = .ok (.bool false) W := fun W => by first | kernel_rfl | simp [binOp, go_sem]
 replace HO := Lib.hid HO
 replace HK := Lib.hid HK
 replace HST := Lib.hid HST
 replace hs := Lib.hid hs
 unfold stepV at HX
 have Z := Lib.hid h
 clear h
 have fz := Z.out.free
 have Q := Lib.hid (Below.refl B w)
 have _ := hB
 have c_jm : w.cell? ⟨b, 14, none⟩ = some (.bool false) := by rw [Z.out.c_jm, hj]
 clear hj
 have c_cd : w.cell? ⟨b, 7, none⟩ = some (.int .i64 (k.cd)) := Z.out.c_cd
 have c_on : w.cell? ⟨b, 20, none⟩ = some (.string (k.on)) := Z.out.c_on
 have c_om : w.cell? ⟨b, 21, none⟩ = some (.string (k.om)) := Z.out.c_om
 go_enter Tryz.func62, Tryz.ntmps62
 go_wp2_with (go_at_call 90; refine (HO.out _).mono ?_; rintro e w1 ⟨rfl, hb⟩; refine Hid.out ?_)
 have Q := Lib.hid (below_mono Q.out hb (Nat.le_trans hB (Nat.le_of_lt Z.out.lt)))
 have Z : Hid (ClkAt b (k) w1) := Lib.hid (Z.out.below hb)
 clear hb
 clear fz c_jm c_cd c_on c_om
 have fz := Z.out.free
 have c_kd : w1.cell? ⟨b, 22, none⟩ = some (.int .i64 (k.kd)) := Z.out.c_kd
 have c_on : w1.cell? ⟨b, 20, none⟩ = some (.string (k.on)) := Z.out.c_on
 have c_om : w1.cell? ⟨b, 21, none⟩ = some (.string (k.om)) := Z.out.c_om
 refine Lib.hid ?_
 go_wp2_with (go_at_call 91; refine (HK.out _).mono ?_; rintro e w2 ⟨rfl, hb⟩; refine Hid.out ?_)
 have Q := Lib.hid (below_mono (below_put (i := 21) (v := .string (ob)) (below_put (i := 20) (v := .string (oa)) Q.out hB) hB) hb (Nat.le_trans hB (Nat.le_of_lt ((Z.out.s_on oa).s_om ob).lt)))
 have Z : Hid (ClkAt b ({ k with on := oa, om := ob }) w2) := Lib.hid (((Z.out.s_on oa).s_om ob).below hb)
 clear hb
 clear fz c_kd c_on c_om
 have fz := Z.out.free
 have c_kd : w2.cell? ⟨b, 22, none⟩ = some (.int .i64 (k.kd)) := Z.out.c_kd
 have c_t : w2.cell? ⟨b, 8, none⟩ = some (.int .i64 (k.t)) := Z.out.c_t
 refine Lib.hid ?_
 rw [ht] at c_t
 go_wp2_with (fail)
 go_region_held3 (fun w' => w'.cell? ⟨b, 8, none⟩ = some (.int .i64 (t : Int))) (first | with_reducible exact z9 | (with_reducible refine (cell_drew _ _).trans ?_; with_reducible refine far_step ?_ ?_; exact c_t) | exact (by have := ((Z.out.s_kd kd)).drew.c_t; rw [ht] at this; exact this) | go_keep) (first | (go_at_call 92; refine (HST.out _ ((Z.out.s_kd kd)).drew).mono ?_; rintro e w9 ⟨rfl, hb⟩; have Z9 := ((Z.out.s_kd kd)).drew.below hb; have z9 := Z9.c_t; rw [ht] at z9))
 have Q := Lib.hid (below_mono ((below_put (i := 22) (v := .int .i64 (kd)) Q.out hB).trans (below_drew1 B _)) hb (Nat.le_trans hB (Nat.le_of_lt ((Z.out.s_kd kd)).drew.lt)))
 have Z : Hid (ClkAt b ({ k with on := oa, om := ob, kd := kd }) w9) := Lib.hid Z9
 clear Z9 hb z9 fz c_t c_kd
 have fz := Z.out.free
 have c_t := Z.out.c_t
 rw [ht] at c_t
 go_wp2_with (first | (go_at_call 130; refine (hs.out _ (Z.out.s_t ((t : Int) + 1))).mono ?_; rintro e w9 ⟨rfl, Z1, Q1⟩))
 go_end0
 exact ⟨rfl, Z1, (below_put (i := 8) (v := .int .i64 (((t : Int) + 1))) Q.out hB).trans Q1⟩
set_option maxRecDepth 100000 in
set_option maxHeartbeats 2000000 in
theorem m_pass_pushLow {B : Nat} {b : Nat} (k k2 : ClkI) (t : Nat) (oa ob : ByteArray) (w : World) (h : ClkAt b k w) (hB : B ≤ b) (hj : k.jm = false) (ht : k.t = t) (ho : opOf k.cd = (oa, ob))
  (hi : (allSteps (nameSteps oa ob b) (kindL oa ob) b)[t]? = some (stepV 131 b))
  (hs : ∀ w', ClkAt b { k with on := oa, om := ob, kd := kindL oa ob, t := (t : Int) + 1 } w' → Calls Tryz.prog 131 #[.pointer (some ⟨b, 0, none⟩)] w' (Did B b w' k2 (.tuple #[]))) : Calls Tryz.prog 62 #[.pointer (some ⟨b, 0, none⟩)] w (Did B b w k2 (.tuple #[])) := by
 unfold Did
 have HO := fun w => impl_opOf k.cd w
 rw [ho] at HO
 have HK := fun w => impl_kindListed oa ob w
 have hkd : kindL oa ob = 0 ∨ kindL oa ob = 1 ∨ kindL oa ob = 2 ∨ kindL oa ob = 3 := by unfold kindL; repeat' split <;> omega
 have hok := allSteps_ok (nameSteps_ok oa ob b) (kindL oa ob) b
 have HX := index_step t hok hi
 have ht23 : (t : Int) ≤ 22 := by have := (Array.getElem?_eq_some_iff.1 hi).1; have := hok.1; omega
 have ht0 : (0 : Int) ≤ (t : Int) := by omega
 have HST := fun (w : World) (h : ClkAt b { k with on := oa, om := ob, kd := kindL oa ob } w) => m_steps _ w h hkd
 simp only [] at HST
 unfold opV at HK
 generalize allSteps (nameSteps oa ob b) (kindL oa ob) b = AR at *
 generalize kindL oa ob = kd at *
 clear hi hok hkd ho
 have HNF : ∀ W : World, (binOp .eql 1 (.func (.func 131) #[.pointer (some ⟨b, 0, none⟩)] #[]) .nilFunc).run Tryz.prog W = .ok (.bool false) W := fun W => by first | kernel_rfl | simp [binOp, go_sem]
 replace HO := Lib.hid HO
 replace HK := Lib.hid HK
 replace HST := Lib.hid HST
 replace hs := Lib.hid hs
 unfold stepV at HX
 have Z := Lib.hid h
 clear h
 have fz := Z.out.free
 have Q := Lib.hid (Below.refl B w)
 have _ := hB
 have c_jm : w.cell? ⟨b, 14, none⟩ = some (.bool false) := by rw [Z.out.c_jm, hj]
 clear hj
 have c_cd : w.cell? ⟨b, 7, none⟩ = some (.int .i64 (k.cd)) := Z.out.c_cd
 have c_on : w.cell? ⟨b, 20, none⟩ = some (.string (k.on)) := Z.out.c_on
 have c_om : w.cell? ⟨b, 21, none⟩ = some (.string (k.om)) := Z.out.c_om
 go_enter Tryz.func62, Tryz.ntmps62
 go_wp2_with (go_at_call 90; refine (HO.out _).mono ?_; rintro e w1 ⟨rfl, hb⟩; refine Hid.out ?_)
 have Q := Lib.hid (below_mono Q.out hb (Nat.le_trans hB (Nat.le_of_lt Z.out.lt)))
 have Z : Hid (ClkAt b (k) w1) := Lib.hid (Z.out.below hb)
 clear hb
 clear fz c_jm c_cd c_on c_om
 have fz := Z.out.free
 have c_kd : w1.cell? ⟨b, 22, none⟩ = some (.int .i64 (k.kd)) := Z.out.c_kd
 have c_on : w1.cell? ⟨b, 20, none⟩ = some (.string (k.on)) := Z.out.c_on
 have c_om : w1.cell? ⟨b, 21, none⟩ = some (.string (k.om)) := Z.out.c_om
 refine Lib.hid ?_
 go_wp2_with (go_at_call 91; refine (HK.out _).mono ?_; rintro e w2 ⟨rfl, hb⟩; refine Hid.out ?_)
 have Q := Lib.hid (below_mono (below_put (i := 21) (v := .string (ob)) (below_put (i := 20) (v := .string (oa)) Q.out hB) hB) hb (Nat.le_trans hB (Nat.le_of_lt ((Z.out.s_on oa).s_om ob).lt)))
 have Z : Hid (ClkAt b ({ k with on := oa, om := ob }) w2) := Lib.hid (((Z.out.s_on oa).s_om ob).below hb)
 clear hb
 clear fz c_kd c_on c_om
 have fz := Z.out.free
 have c_kd : w2.cell? ⟨b, 22, none⟩ = some (.int .i64 (k.kd)) := Z.out.c_kd
 have c_t : w2.cell? ⟨b, 8, none⟩ = some (.int .i64 (k.t)) := Z.out.c_t
 refine Lib.hid ?_
 rw [ht] at c_t
 go_wp2_with (fail)
 go_region_held3 (fun w' => w'.cell? ⟨b, 8, none⟩ = some (.int .i64 (t : Int))) (first | with_reducible exact z9 | (with_reducible refine (cell_drew _ _).trans ?_; with_reducible refine far_step ?_ ?_; exact c_t) | exact (by have := ((Z.out.s_kd kd)).drew.c_t; rw [ht] at this; exact this) | go_keep) (first | (go_at_call 92; refine (HST.out _ ((Z.out.s_kd kd)).drew).mono ?_; rintro e w9 ⟨rfl, hb⟩; have Z9 := ((Z.out.s_kd kd)).drew.below hb; have z9 := Z9.c_t; rw [ht] at z9))
 have Q := Lib.hid (below_mono ((below_put (i := 22) (v := .int .i64 (kd)) Q.out hB).trans (below_drew1 B _)) hb (Nat.le_trans hB (Nat.le_of_lt ((Z.out.s_kd kd)).drew.lt)))
 have Z : Hid (ClkAt b ({ k with on := oa, om := ob, kd := kd }) w9) := Lib.hid Z9
 clear Z9 hb z9 fz c_t c_kd
 have fz := Z.out.free
 have c_t := Z.out.c_t
 rw [ht] at c_t
 go_wp2_with (first | (go_at_call 131; refine (hs.out _ (Z.out.s_t ((t : Int) + 1))).mono ?_; rintro e w9 ⟨rfl, Z1, Q1⟩))
 go_end0
 exact ⟨rfl, Z1, (below_put (i := 8) (v := .int .i64 (((t : Int) + 1))) Q.out hB).trans Q1⟩
set_option maxRecDepth 100000 in
set_option maxHeartbeats 2000000 in
theorem m_pass_pushNotes {B : Nat} {b : Nat} (k k2 : ClkI) (t : Nat) (oa ob : ByteArray) (w : World) (h : ClkAt b k w) (hB : B ≤ b) (hj : k.jm = false) (ht : k.t = t) (ho : opOf k.cd = (oa, ob))
  (hi : (allSteps (nameSteps oa ob b) (kindL oa ob) b)[t]? = some (stepV 132 b))
  (hs : ∀ w', ClkAt b { k with on := oa, om := ob, kd := kindL oa ob, t := (t : Int) + 1 } w' → Calls Tryz.prog 132 #[.pointer (some ⟨b, 0, none⟩)] w' (Did B b w' k2 (.tuple #[]))) : Calls Tryz.prog 62 #[.pointer (some ⟨b, 0, none⟩)] w (Did B b w k2 (.tuple #[])) := by
 unfold Did
 have HO := fun w => impl_opOf k.cd w
 rw [ho] at HO
 have HK := fun w => impl_kindListed oa ob w
 have hkd : kindL oa ob = 0 ∨ kindL oa ob = 1 ∨ kindL oa ob = 2 ∨ kindL oa ob = 3 := by unfold kindL; repeat' split <;> omega
 have hok := allSteps_ok (nameSteps_ok oa ob b) (kindL oa ob) b
 have HX := index_step t hok hi
 have ht23 : (t : Int) ≤ 22 := by have := (Array.getElem?_eq_some_iff.1 hi).1; have := hok.1; omega
 have ht0 : (0 : Int) ≤ (t : Int) := by omega
 have HST := fun (w : World) (h : ClkAt b { k with on := oa, om := ob, kd := kindL oa ob } w) => m_steps _ w h hkd
 simp only [] at HST
 unfold opV at HK
 generalize allSteps (nameSteps oa ob b) (kindL oa ob) b = AR at *
 generalize kindL oa ob = kd at *
 clear hi hok hkd ho
 have HNF : ∀ W : World, (binOp .eql 1 (.func (.func 132) #[.pointer (some ⟨b, 0, none⟩)] #[]) .nilFunc).run Tryz.prog W = .ok (.bool false) W := fun W => by first | kernel_rfl | simp [binOp, go_sem]
 replace HO := Lib.hid HO
 replace HK := Lib.hid HK
 replace HST := Lib.hid HST
 replace hs := Lib.hid hs
 unfold stepV at HX
 have Z := Lib.hid h
 clear h
 have fz := Z.out.free
 have Q := Lib.hid (Below.refl B w)
 have _ := hB
 have c_jm : w.cell? ⟨b, 14, none⟩ = some (.bool false) := by rw [Z.out.c_jm, hj]
 clear hj
 have c_cd : w.cell? ⟨b, 7, none⟩ = some (.int .i64 (k.cd)) := Z.out.c_cd
 have c_on : w.cell? ⟨b, 20, none⟩ = some (.string (k.on)) := Z.out.c_on
 have c_om : w.cell? ⟨b, 21, none⟩ = some (.string (k.om)) := Z.out.c_om
 go_enter Tryz.func62, Tryz.ntmps62
 go_wp2_with (go_at_call 90; refine (HO.out _).mono ?_; rintro e w1 ⟨rfl, hb⟩; refine Hid.out ?_)
 have Q := Lib.hid (below_mono Q.out hb (Nat.le_trans hB (Nat.le_of_lt Z.out.lt)))
 have Z : Hid (ClkAt b (k) w1) := Lib.hid (Z.out.below hb)
 clear hb
 clear fz c_jm c_cd c_on c_om
 have fz := Z.out.free
 have c_kd : w1.cell? ⟨b, 22, none⟩ = some (.int .i64 (k.kd)) := Z.out.c_kd
 have c_on : w1.cell? ⟨b, 20, none⟩ = some (.string (k.on)) := Z.out.c_on
 have c_om : w1.cell? ⟨b, 21, none⟩ = some (.string (k.om)) := Z.out.c_om
 refine Lib.hid ?_
 go_wp2_with (go_at_call 91; refine (HK.out _).mono ?_; rintro e w2 ⟨rfl, hb⟩; refine Hid.out ?_)
 have Q := Lib.hid (below_mono (below_put (i := 21) (v := .string (ob)) (below_put (i := 20) (v := .string (oa)) Q.out hB) hB) hb (Nat.le_trans hB (Nat.le_of_lt ((Z.out.s_on oa).s_om ob).lt)))
 have Z : Hid (ClkAt b ({ k with on := oa, om := ob }) w2) := Lib.hid (((Z.out.s_on oa).s_om ob).below hb)
 clear hb
 clear fz c_kd c_on c_om
 have fz := Z.out.free
 have c_kd : w2.cell? ⟨b, 22, none⟩ = some (.int .i64 (k.kd)) := Z.out.c_kd
 have c_t : w2.cell? ⟨b, 8, none⟩ = some (.int .i64 (k.t)) := Z.out.c_t
 refine Lib.hid ?_
 rw [ht] at c_t
 go_wp2_with (fail)
 go_region_held3 (fun w' => w'.cell? ⟨b, 8, none⟩ = some (.int .i64 (t : Int))) (first | with_reducible exact z9 | (with_reducible refine (cell_drew _ _).trans ?_; with_reducible refine far_step ?_ ?_; exact c_t) | exact (by have := ((Z.out.s_kd kd)).drew.c_t; rw [ht] at this; exact this) | go_keep) (first | (go_at_call 92; refine (HST.out _ ((Z.out.s_kd kd)).drew).mono ?_; rintro e w9 ⟨rfl, hb⟩; have Z9 := ((Z.out.s_kd kd)).drew.below hb; have z9 := Z9.c_t; rw [ht] at z9))
 have Q := Lib.hid (below_mono ((below_put (i := 22) (v := .int .i64 (kd)) Q.out hB).trans (below_drew1 B _)) hb (Nat.le_trans hB (Nat.le_of_lt ((Z.out.s_kd kd)).drew.lt)))
 have Z : Hid (ClkAt b ({ k with on := oa, om := ob, kd := kd }) w9) := Lib.hid Z9
 clear Z9 hb z9 fz c_t c_kd
 have fz := Z.out.free
 have c_t := Z.out.c_t
 rw [ht] at c_t
 go_wp2_with (first | (go_at_call 132; refine (hs.out _ (Z.out.s_t ((t : Int) + 1))).mono ?_; rintro e w9 ⟨rfl, Z1, Q1⟩))
 go_end0
 exact ⟨rfl, Z1, (below_put (i := 8) (v := .int .i64 (((t : Int) + 1))) Q.out hB).trans Q1⟩
set_option maxRecDepth 100000 in
set_option maxHeartbeats 2000000 in
theorem m_pass_lead {B : Nat} {b : Nat} (k k2 : ClkI) (t : Nat) (oa ob : ByteArray) (w : World) (h : ClkAt b k w) (hB : B ≤ b) (hj : k.jm = false) (ht : k.t = t) (ho : opOf k.cd = (oa, ob))
  (hi : (allSteps (nameSteps oa ob b) (kindL oa ob) b)[t]? = some (stepV 133 b))
  (hs : ∀ w', ClkAt b { k with on := oa, om := ob, kd := kindL oa ob, t := (t : Int) + 1 } w' → Calls Tryz.prog 133 #[.pointer (some ⟨b, 0, none⟩)] w' (Did B b w' k2 (.tuple #[]))) : Calls Tryz.prog 62 #[.pointer (some ⟨b, 0, none⟩)] w (Did B b w k2 (.tuple #[])) := by
 unfold Did
 have HO := fun w => impl_opOf k.cd w
 rw [ho] at HO
 have HK := fun w => impl_kindListed oa ob w
 have hkd : kindL oa ob = 0 ∨ kindL oa ob = 1 ∨ kindL oa ob = 2 ∨ kindL oa ob = 3 := by unfold kindL; repeat' split <;> omega
 have hok := allSteps_ok (nameSteps_ok oa ob b) (kindL oa ob) b
 have HX := index_step t hok hi
 have ht23 : (t : Int) ≤ 22 := by have := (Array.getElem?_eq_some_iff.1 hi).1; have := hok.1; omega
 have ht0 : (0 : Int) ≤ (t : Int) := by omega
 have HST := fun (w : World) (h : ClkAt b { k with on := oa, om := ob, kd := kindL oa ob } w) => m_steps _ w h hkd
 simp only [] at HST
 unfold opV at HK
 generalize allSteps (nameSteps oa ob b) (kindL oa ob) b = AR at *
 generalize kindL oa ob = kd at *
 clear hi hok hkd ho
 have HNF : ∀ W : World, (binOp .eql 1 (.func (.func 133) #[.pointer (some ⟨b, 0, none⟩)] #[]) .nilFunc).run Tryz.prog W = .ok (.bool false) W := fun W => by first | kernel_rfl | simp [binOp, go_sem]
 replace HO := Lib.hid HO
 replace HK := Lib.hid HK
 replace HST := Lib.hid HST
 replace hs := Lib.hid hs
 unfold stepV at HX
 have Z := Lib.hid h
 clear h
 have fz := Z.out.free
 have Q := Lib.hid (Below.refl B w)
 have _ := hB
 have c_jm : w.cell? ⟨b, 14, none⟩ = some (.bool false) := by rw [Z.out.c_jm, hj]
 clear hj
 have c_cd : w.cell? ⟨b, 7, none⟩ = some (.int .i64 (k.cd)) := Z.out.c_cd
 have c_on : w.cell? ⟨b, 20, none⟩ = some (.string (k.on)) := Z.out.c_on
 have c_om : w.cell? ⟨b, 21, none⟩ = some (.string (k.om)) := Z.out.c_om
 go_enter Tryz.func62, Tryz.ntmps62
 go_wp2_with (go_at_call 90; refine (HO.out _).mono ?_; rintro e w1 ⟨rfl, hb⟩; refine Hid.out ?_)
 have Q := Lib.hid (below_mono Q.out hb (Nat.le_trans hB (Nat.le_of_lt Z.out.lt)))
 have Z : Hid (ClkAt b (k) w1) := Lib.hid (Z.out.below hb)
 clear hb
 clear fz c_jm c_cd c_on c_om
 have fz := Z.out.free
 have c_kd : w1.cell? ⟨b, 22, none⟩ = some (.int .i64 (k.kd)) := Z.out.c_kd
 have c_on : w1.cell? ⟨b, 20, none⟩ = some (.string (k.on)) := Z.out.c_on
 have c_om : w1.cell? ⟨b, 21, none⟩ = some (.string (k.om)) := Z.out.c_om
 refine Lib.hid ?_
 go_wp2_with (go_at_call 91; refine (HK.out _).mono ?_; rintro e w2 ⟨rfl, hb⟩; refine Hid.out ?_)
 have Q := Lib.hid (below_mono (below_put (i := 21) (v := .string (ob)) (below_put (i := 20) (v := .string (oa)) Q.out hB) hB) hb (Nat.le_trans hB (Nat.le_of_lt ((Z.out.s_on oa).s_om ob).lt)))
 have Z : Hid (ClkAt b ({ k with on := oa, om := ob }) w2) := Lib.hid (((Z.out.s_on oa).s_om ob).below hb)
 clear hb
 clear fz c_kd c_on c_om
 have fz := Z.out.free
 have c_kd : w2.cell? ⟨b, 22, none⟩ = some (.int .i64 (k.kd)) := Z.out.c_kd
 have c_t : w2.cell? ⟨b, 8, none⟩ = some (.int .i64 (k.t)) := Z.out.c_t
 refine Lib.hid ?_
 rw [ht] at c_t
 go_wp2_with (fail)
 go_region_held3 (fun w' => w'.cell? ⟨b, 8, none⟩ = some (.int .i64 (t : Int))) (first | with_reducible exact z9 | (with_reducible refine (cell_drew _ _).trans ?_; with_reducible refine far_step ?_ ?_; exact c_t) | exact (by have := ((Z.out.s_kd kd)).drew.c_t; rw [ht] at this; exact this) | go_keep) (first | (go_at_call 92; refine (HST.out _ ((Z.out.s_kd kd)).drew).mono ?_; rintro e w9 ⟨rfl, hb⟩; have Z9 := ((Z.out.s_kd kd)).drew.below hb; have z9 := Z9.c_t; rw [ht] at z9))
 have Q := Lib.hid (below_mono ((below_put (i := 22) (v := .int .i64 (kd)) Q.out hB).trans (below_drew1 B _)) hb (Nat.le_trans hB (Nat.le_of_lt ((Z.out.s_kd kd)).drew.lt)))
 have Z : Hid (ClkAt b ({ k with on := oa, om := ob, kd := kd }) w9) := Lib.hid Z9
 clear Z9 hb z9 fz c_t c_kd
 have fz := Z.out.free
 have c_t := Z.out.c_t
 rw [ht] at c_t
 go_wp2_with (first | (go_at_call 133; refine (hs.out _ (Z.out.s_t ((t : Int) + 1))).mono ?_; rintro e w9 ⟨rfl, Z1, Q1⟩))
 go_end0
 exact ⟨rfl, Z1, (below_put (i := 8) (v := .int .i64 (((t : Int) + 1))) Q.out hB).trans Q1⟩
set_option maxRecDepth 100000 in
set_option maxHeartbeats 2000000 in
theorem m_pass_enter {B : Nat} {b : Nat} (k k2 : ClkI) (t : Nat) (oa ob : ByteArray) (w : World) (h : ClkAt b k w) (hB : B ≤ b) (hj : k.jm = false) (ht : k.t = t) (ho : opOf k.cd = (oa, ob))
  (hi : (allSteps (nameSteps oa ob b) (kindL oa ob) b)[t]? = some (stepV 134 b))
  (hs : ∀ w', ClkAt b { k with on := oa, om := ob, kd := kindL oa ob, t := (t : Int) + 1 } w' → Calls Tryz.prog 134 #[.pointer (some ⟨b, 0, none⟩)] w' (Did B b w' k2 (.tuple #[]))) : Calls Tryz.prog 62 #[.pointer (some ⟨b, 0, none⟩)] w (Did B b w k2 (.tuple #[])) := by
 unfold Did
 have HO := fun w => impl_opOf k.cd w
 rw [ho] at HO
 have HK := fun w => impl_kindListed oa ob w
 have hkd : kindL oa ob = 0 ∨ kindL oa ob = 1 ∨ kindL oa ob = 2 ∨ kindL oa ob = 3 := by unfold kindL; repeat' split <;> omega
 have hok := allSteps_ok (nameSteps_ok oa ob b) (kindL oa ob) b
 have HX := index_step t hok hi
 have ht23 : (t : Int) ≤ 22 := by have := (Array.getElem?_eq_some_iff.1 hi).1; have := hok.1; omega
 have ht0 : (0 : Int) ≤ (t : Int) := by omega
 have HST := fun (w : World) (h : ClkAt b { k with on := oa, om := ob, kd := kindL oa ob } w) => m_steps _ w h hkd
 simp only [] at HST
 unfold opV at HK
 generalize allSteps (nameSteps oa ob b) (kindL oa ob) b = AR at *
 generalize kindL oa ob = kd at *
 clear hi hok hkd ho
 have HNF : ∀ W : World, (binOp .eql 1 (.func (.func 134) #[.pointer (some ⟨b, 0, none⟩)] #[]) .nilFunc).run Tryz.prog W = .ok (.bool false) W := fun W => by first | kernel_rfl | simp [binOp, go_sem]
 replace HO := Lib.hid HO
 replace HK := Lib.hid HK
 replace HST := Lib.hid HST
 replace hs := Lib.hid hs
 unfold stepV at HX
 have Z := Lib.hid h
 clear h
 have fz := Z.out.free
 have Q := Lib.hid (Below.refl B w)
 have _ := hB
 have c_jm : w.cell? ⟨b, 14, none⟩ = some (.bool false) := by rw [Z.out.c_jm, hj]
 clear hj
 have c_cd : w.cell? ⟨b, 7, none⟩ = some (.int .i64 (k.cd)) := Z.out.c_cd
 have c_on : w.cell? ⟨b, 20, none⟩ = some (.string (k.on)) := Z.out.c_on
 have c_om : w.cell? ⟨b, 21, none⟩ = some (.string (k.om)) := Z.out.c_om
 go_enter Tryz.func62, Tryz.ntmps62
 go_wp2_with (go_at_call 90; refine (HO.out _).mono ?_; rintro e w1 ⟨rfl, hb⟩; refine Hid.out ?_)
 have Q := Lib.hid (below_mono Q.out hb (Nat.le_trans hB (Nat.le_of_lt Z.out.lt)))
 have Z : Hid (ClkAt b (k) w1) := Lib.hid (Z.out.below hb)
 clear hb
 clear fz c_jm c_cd c_on c_om
 have fz := Z.out.free
 have c_kd : w1.cell? ⟨b, 22, none⟩ = some (.int .i64 (k.kd)) := Z.out.c_kd
 have c_on : w1.cell? ⟨b, 20, none⟩ = some (.string (k.on)) := Z.out.c_on
 have c_om : w1.cell? ⟨b, 21, none⟩ = some (.string (k.om)) := Z.out.c_om
 refine Lib.hid ?_
 go_wp2_with (go_at_call 91; refine (HK.out _).mono ?_; rintro e w2 ⟨rfl, hb⟩; refine Hid.out ?_)
 have Q := Lib.hid (below_mono (below_put (i := 21) (v := .string (ob)) (below_put (i := 20) (v := .string (oa)) Q.out hB) hB) hb (Nat.le_trans hB (Nat.le_of_lt ((Z.out.s_on oa).s_om ob).lt)))
 have Z : Hid (ClkAt b ({ k with on := oa, om := ob }) w2) := Lib.hid (((Z.out.s_on oa).s_om ob).below hb)
 clear hb
 clear fz c_kd c_on c_om
 have fz := Z.out.free
 have c_kd : w2.cell? ⟨b, 22, none⟩ = some (.int .i64 (k.kd)) := Z.out.c_kd
 have c_t : w2.cell? ⟨b, 8, none⟩ = some (.int .i64 (k.t)) := Z.out.c_t
 refine Lib.hid ?_
 rw [ht] at c_t
 go_wp2_with (fail)
 go_region_held3 (fun w' => w'.cell? ⟨b, 8, none⟩ = some (.int .i64 (t : Int))) (first | with_reducible exact z9 | (with_reducible refine (cell_drew _ _).trans ?_; with_reducible refine far_step ?_ ?_; exact c_t) | exact (by have := ((Z.out.s_kd kd)).drew.c_t; rw [ht] at this; exact this) | go_keep) (first | (go_at_call 92; refine (HST.out _ ((Z.out.s_kd kd)).drew).mono ?_; rintro e w9 ⟨rfl, hb⟩; have Z9 := ((Z.out.s_kd kd)).drew.below hb; have z9 := Z9.c_t; rw [ht] at z9))
 have Q := Lib.hid (below_mono ((below_put (i := 22) (v := .int .i64 (kd)) Q.out hB).trans (below_drew1 B _)) hb (Nat.le_trans hB (Nat.le_of_lt ((Z.out.s_kd kd)).drew.lt)))
 have Z : Hid (ClkAt b ({ k with on := oa, om := ob, kd := kd }) w9) := Lib.hid Z9
 clear Z9 hb z9 fz c_t c_kd
 have fz := Z.out.free
 have c_t := Z.out.c_t
 rw [ht] at c_t
 go_wp2_with (first | (go_at_call 134; refine (hs.out _ (Z.out.s_t ((t : Int) + 1))).mono ?_; rintro e w9 ⟨rfl, Z1, Q1⟩))
 go_end0
 exact ⟨rfl, Z1, (below_put (i := 8) (v := .int .i64 (((t : Int) + 1))) Q.out hB).trans Q1⟩
end Go.Proofs.YthklebkpoccblaaGreat
