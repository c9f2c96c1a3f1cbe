/-
  Texts put together by program: LrB.
  Conditions: as each theorem says.
-/
import Derived.Test.YthklebkpoccblaaGreatRqbw
namespace Go.Proofs.YthklebkpoccblaaGreat
open Go.RowKit
set_option maxRecDepth 100000 in
set_option maxHeartbeats 20000000 in
theorem reset_law (A : Option Addr) (n c : Nat) (W : World) (hrow : RowB W A n) :
  Calls Tryz.prog 5 #[.slice A n c] W fun e w' => e = .returned (.bool true) ∧ Below W.heap.size W w' := by
 have hm := hrow.1
 unfold maxLen at hm
 by_cases hbig : 1048576 < n
 ·clear hrow
  go_enter Tryz.func5, Tryz.ntmps5
  go_wp2_with (go_in)
  go_ret
  exact ⟨rfl, Below.refl _ _⟩
 ·have hcode := hrow.code (by omega)
  have hat : ∀ i : Nat, ∃ v : Int, i ≤ 1000 → (0 ≤ v ∧ v ≤ 255 ∧ ∀ w : World, Below W.heap.size W w → Calls Tryz.prog 24 #[.slice A n c, .int .i64 (i : Int)] w fun e w' => e = .returned (.int .i64 v) ∧ w = w') := fun i => by
   by_cases h : i ≤ 1000
   ·obtain ⟨v, hv⟩ := at_fix hcode i i rfl h
    exact ⟨v, fun _ => hv⟩
   ·exact ⟨0, fun h2 => absurd h2 h⟩
  obtain ⟨f, hf⟩ := Classical.axiomOfChoice hat
  replace hf := Lib.hid hf
  clear hat
  have hD := Lib.hid (drawReset_any W.heap.size n c A W (Nat.le_refl _) hcode)
  clear hrow hcode
  go_enter Tryz.func5, Tryz.ntmps5
  go_wp2_with (first
   | (go_at_call 8; go_in)
   | (go_at_call 21; refine (hD.out).mono ?_; rintro e w1 ⟨k, rfl, hb⟩; refine Hid.out ?_))
  have e1 := hb.size
  clear hD
  refine Lib.hid ?_
  go_wp2_with (first | (refine store_row (by rfl) 27 _ _ (by rfl) w1.heap.size (corC k) (by rfl) (by rfl) 15 cor_size (blk_new w1 _) rfl rfl (by rfl) ?_; refine Hid.out ?_))
  have hbV : Below w1.heap.size w1 (World.setRow (World.alloc w1 (.cells #[.int .i64 0, .int .i64 0, .int .i64 0, .int .i64 0, .int .i64 0, .int .i64 0, .int .i64 0, .int .i64 0, .int .i64 0, .int .i64 0, .int .i64 0, .int .i64 0, .bool false, .int .i64 0, .bool false] 27)) w1.heap.size (corC k)) := below_row (below_alloc (Below.refl _ _) _) (Nat.le_refl _)
  have KC := Lib.hid (setRow_heap _ _ _ (corC k) _ _ (blk_new w1 (.cells #[.int .i64 0, .int .i64 0, .int .i64 0, .int .i64 0, .int .i64 0, .int .i64 0, .int .i64 0, .int .i64 0, .int .i64 0, .int .i64 0, .int .i64 0, .int .i64 0, .bool false, .int .i64 0, .bool false] 27)))
  have B := Lib.hid (below_then hb hbV)
  have e2 : w1.heap.size < (World.setRow (World.alloc w1 (.cells #[.int .i64 0, .int .i64 0, .int .i64 0, .int .i64 0, .int .i64 0, .int .i64 0, .int .i64 0, .int .i64 0, .int .i64 0, .int .i64 0, .int .i64 0, .int .i64 0, .bool false, .int .i64 0, .bool false] 27)) w1.heap.size (corC k)).heap.size := by rw [setRow_size, alloc_size]; omega
  clear hbV
  generalize World.setRow (World.alloc w1 (.cells #[.int .i64 0, .int .i64 0, .int .i64 0, .int .i64 0, .int .i64 0, .int .i64 0, .int .i64 0, .int .i64 0, .int .i64 0, .int .i64 0, .int .i64 0, .int .i64 0, .bool false, .int .i64 0, .bool false] 27)) w1.heap.size (corC k) = w2 at KC B e2 ⊢
  clear hb
  have hCW : W.heap.size ≤ w1.heap.size := e1
  generalize w1.heap.size = C at KC e2 hCW ⊢
  clear e1
  obtain ⟨kd, hkd⟩ : ∃ kd, rsC k (f 5) (f 6) 0 = kd := ⟨_, rfl⟩
  have HR := Lib.hid (fun w => show Calls Tryz.prog 22 #[.agg (corC k)] w (fun e w' => e = .returned (.agg (corC kd)) ∧ Below w.heap.size w w') from hkd ▸ impl_resetC k.a k.x k.y k.s k.p k.pc k.sq k.cd k.t k.lo k.hi k.vl k.cr k.nx k.jm w)
  have HS := Lib.hid (fun w => show Calls Tryz.prog 23 #[.agg (corC k)] w (fun e w' => e = .returned (.agg (corC kd)) ∧ Below w.heap.size w w') from hkd ▸ spec_resetC k.a k.x k.y k.s k.p k.pc k.sq k.cd k.t k.lo k.hi k.vl k.cr k.nx k.jm w)
  replace KC : Hid (CorAt C k w2) := KC
  refine Lib.hid ?_
  go_wp2_with (first | (refine load_core (by rfl) _ (by rfl) _ (by rfl) KC.out ?_) | (go_at_call 22; refine (HR.out _).mono ?_; rintro e w3 ⟨rfl, hb⟩; refine Hid.out ?_))
  have KC := Lib.hid (CorAt.below KC.out hb)
  have B := Lib.hid (below_then B.out hb)
  have e3 := hb.size
  clear hb HR
  refine Lib.hid ?_
  go_wp2_with (first | (refine store_row (by rfl) 27 _ _ (by rfl) w3.heap.size (corC kd) (by rfl) (by rfl) 15 cor_size (blk_new w3 _) rfl rfl (by rfl) ?_; refine Hid.out ?_))
  have hbV : Below w3.heap.size w3 (World.setRow (World.alloc w3 (.cells #[.int .i64 0, .int .i64 0, .int .i64 0, .int .i64 0, .int .i64 0, .int .i64 0, .int .i64 0, .int .i64 0, .int .i64 0, .int .i64 0, .int .i64 0, .int .i64 0, .bool false, .int .i64 0, .bool false] 27)) w3.heap.size (corC kd)) := below_row (below_alloc (Below.refl _ _) _) (Nat.le_refl _)
  have KD := Lib.hid (setRow_heap _ _ _ (corC kd) _ _ (blk_new w3 (.cells #[.int .i64 0, .int .i64 0, .int .i64 0, .int .i64 0, .int .i64 0, .int .i64 0, .int .i64 0, .int .i64 0, .int .i64 0, .int .i64 0, .int .i64 0, .int .i64 0, .bool false, .int .i64 0, .bool false] 27)))
  have B := Lib.hid (below_then B.out hbV)
  have KC := Lib.hid (CorAt.below KC.out hbV)
  have e4 : w3.heap.size < (World.setRow (World.alloc w3 (.cells #[.int .i64 0, .int .i64 0, .int .i64 0, .int .i64 0, .int .i64 0, .int .i64 0, .int .i64 0, .int .i64 0, .int .i64 0, .int .i64 0, .int .i64 0, .int .i64 0, .bool false, .int .i64 0, .bool false] 27)) w3.heap.size (corC kd)).heap.size := by rw [setRow_size, alloc_size]; omega
  clear hbV
  generalize World.setRow (World.alloc w3 (.cells #[.int .i64 0, .int .i64 0, .int .i64 0, .int .i64 0, .int .i64 0, .int .i64 0, .int .i64 0, .int .i64 0, .int .i64 0, .int .i64 0, .int .i64 0, .int .i64 0, .bool false, .int .i64 0, .bool false] 27)) w3.heap.size (corC kd) = w4 at KD B KC e4 ⊢
  have hDW : W.heap.size ≤ w3.heap.size := by omega
  have hne : C ≠ w3.heap.size := by omega
  generalize w3.heap.size = D at KD hDW hne e4 ⊢
  clear e2 e3
  replace KD : Hid (CorAt D kd w4) := KD
  have d_t : kd.t = 0 := hkd ▸ rfl
  have d_j : kd.jm = false := hkd ▸ rfl
  have d_n : kd.nx = 3 := hkd ▸ rfl
  have d_r : (⟨kd.a, kd.x, kd.y, kd.s, kd.p, kd.pc⟩ : RegI) = ⟨k.a, k.x, k.y, k.s, k.p, k.pc⟩ := hkd ▸ rfl
  refine Lib.hid ?_
  go_upto_region 5 with fail
  refine wp_region_held_drew (S := fun w' => Hid (CorAt D kd w' ∧ CorAt C k w')) (by kernel_rfl) (Lib.hid ⟨CorAt.drew KD.out, CorAt.drew KC.out⟩) (fun hHeld => ?_)
  have B := Lib.hid (B.out.drew)
  refine wpAnyH_take (i := 0) (oi := _) rfl (by kernel_rfl) (by kernel_rfl) (by kernel_rfl) (fun _ _ _ h => h) (yields_load_part (by rfl) 27 (.tmp 4) rfl D 0 rfl (corC kd) _ Tryz.underlying27 rfl (by kernel_rfl) rfl (fun u hS => (Hid.out hS).1)) hHeld ?_
  (try simp only [Act.put, List.getElem_toArray, List.getElem_cons_zero, List.setIfInBounds_toArray, List.set_cons_zero, List.set_cons_succ])
  refine wpAnyH_take (i := 1) (oi := _) rfl (by kernel_rfl) (by kernel_rfl) (by kernel_rfl) (fun _ _ _ h => h) (yields_load_part (by rfl) 27 (.tmp 3) rfl C 0 rfl (corC k) _ Tryz.underlying27 rfl (by kernel_rfl) rfl (fun u hS => (Hid.out hS).2)) hHeld ?_
  (try simp only [Act.put, List.getElem_toArray, List.getElem_cons_zero, List.getElem_cons_succ, List.setIfInBounds_toArray, List.set_cons_zero, List.set_cons_succ])
  refine wpAnyH_ready (rs := [2]) (by kernel_rfl) (by simp) ?_
  refine AllReadyH.cons (o := _) rfl (fun K' hK' => ?_) AllReadyH.nil
  go_simp
  (go_at_call 23; refine (HS.out _).mono ?_; rintro e w5 ⟨rfl, hb⟩)
  refine hK'.out _ _ (Lib.hid ⟨CorAt.below (Hid.out hHeld).1 hb, CorAt.below (Hid.out hHeld).2 hb⟩) (fun hHeld => ?_)
  clear hK' K'
  (try simp only [Act.put, List.getElem_toArray, List.getElem_cons_zero, List.getElem_cons_succ, List.setIfInBounds_toArray, List.set_cons_zero, List.set_cons_succ])
  have B := Lib.hid (below_then B.out hb)
  clear hb HS
  refine wpAnyH_take (i := 3) (oi := _) rfl (by kernel_rfl) (by kernel_rfl) (by kernel_rfl) (fun _ _ _ h => h) (yields_neq_same (by rfl) 27 27 (.tmp 13) (.tmp 15) rfl (corC kd) rfl rfl (by kernel_rfl) (fun w => same_core kd w)) hHeld ?_
  (try simp only [Act.put, List.getElem_toArray, List.getElem_cons_zero, List.getElem_cons_succ, List.setIfInBounds_toArray, List.set_cons_zero, List.set_cons_succ])
  refine wpAnyH_take (i := 4) (oi := _) (v := ?_) rfl (by kernel_rfl) (by kernel_rfl) (by kernel_rfl) (fun _ _ _ h => h) (Or.inl ⟨by rfl, ?_⟩) hHeld ?_
  rotate_left 1
  ·intro wz hz
   (try dsimp only at hz)
   go_simp
   (try with_reducible rfl)
  (try simp only [Act.put, List.getElem_toArray, List.getElem_cons_zero, List.getElem_cons_succ, List.setIfInBounds_toArray, List.set_cons_zero, List.set_cons_succ])
  refine wpAnyH_take (i := 5) (oi := _) (v := ?_) rfl (by kernel_rfl) (by kernel_rfl) (by kernel_rfl) (fun _ _ _ h => h) (Or.inl ⟨by rfl, ?_⟩) hHeld ?_
  rotate_left 1
  ·intro wz hz
   (try dsimp only at hz)
   go_simp
   (try with_reducible rfl)
  (try simp only [Act.put, List.getElem_toArray, List.getElem_cons_zero, List.getElem_cons_succ, List.setIfInBounds_toArray, List.set_cons_zero, List.set_cons_succ])
  refine wpAnyH_take (i := 6) (oi := _) (v := ?_) rfl (by kernel_rfl) (by kernel_rfl) (by kernel_rfl) (fun _ _ _ h => h) (Or.inl ⟨by rfl, ?_⟩) hHeld ?_
  rotate_left 1
  ·intro wz hz
   (try dsimp only at hz)
   have cc := CorAt.c_t (Hid.out hz).1; rw [d_t] at cc
   go_simp
   (try with_reducible rfl)
  (try simp only [Act.put, List.getElem_toArray, List.getElem_cons_zero, List.getElem_cons_succ, List.setIfInBounds_toArray, List.set_cons_zero, List.set_cons_succ])
  refine wpAnyH_take (i := 7) (oi := _) (v := ?_) rfl (by kernel_rfl) (by kernel_rfl) (by kernel_rfl) (fun _ _ _ h => h) (Or.inl ⟨by rfl, ?_⟩) hHeld ?_
  rotate_left 1
  ·intro wz hz
   (try dsimp only at hz)
   go_simp
   (try with_reducible rfl)
  (try simp only [Act.put, List.getElem_toArray, List.getElem_cons_zero, List.getElem_cons_succ, List.setIfInBounds_toArray, List.set_cons_zero, List.set_cons_succ])
  refine wpAnyH_take (i := 8) (oi := _) (v := ?_) rfl (by kernel_rfl) (by kernel_rfl) (by kernel_rfl) (fun _ _ _ h => h) (Or.inl ⟨by rfl, ?_⟩) hHeld ?_
  rotate_left 1
  ·intro wz hz
   (try dsimp only at hz)
   go_simp
   (try with_reducible rfl)
  (try simp only [Act.put, List.getElem_toArray, List.getElem_cons_zero, List.getElem_cons_succ, List.setIfInBounds_toArray, List.set_cons_zero, List.set_cons_succ])
  refine wpAnyH_take (i := 9) (oi := _) (v := ?_) rfl (by kernel_rfl) (by kernel_rfl) (by kernel_rfl) (fun _ _ _ h => h) (Or.inl ⟨by rfl, ?_⟩) hHeld ?_
  rotate_left 1
  ·intro wz hz
   (try dsimp only at hz)
   go_simp
   (try with_reducible rfl)
  (try simp only [Act.put, List.getElem_toArray, List.getElem_cons_zero, List.getElem_cons_succ, List.setIfInBounds_toArray, List.set_cons_zero, List.set_cons_succ])
  refine wpAnyH_take (i := 10) (oi := _) (v := ?_) rfl (by kernel_rfl) (by kernel_rfl) (by kernel_rfl) (fun _ _ _ h => h) (Or.inl ⟨by rfl, ?_⟩) hHeld ?_
  rotate_left 1
  ·intro wz hz
   (try dsimp only at hz)
   go_simp
   (try with_reducible rfl)
  (try simp only [Act.put, List.getElem_toArray, List.getElem_cons_zero, List.getElem_cons_succ, List.setIfInBounds_toArray, List.set_cons_zero, List.set_cons_succ])
  refine wpAnyH_take (i := 11) (oi := _) (v := ?_) rfl (by kernel_rfl) (by kernel_rfl) (by kernel_rfl) (fun _ _ _ h => h) (Or.inl ⟨by rfl, ?_⟩) hHeld ?_
  rotate_left 1
  ·intro wz hz
   (try dsimp only at hz)
   have cc := CorAt.c_jm (Hid.out hz).1; rw [d_j] at cc
   go_simp
   (try with_reducible rfl)
  (try simp only [Act.put, List.getElem_toArray, List.getElem_cons_zero, List.getElem_cons_succ, List.setIfInBounds_toArray, List.set_cons_zero, List.set_cons_succ])
  refine wpAnyH_take (i := 12) (oi := _) (v := ?_) rfl (by kernel_rfl) (by kernel_rfl) (by kernel_rfl) (fun _ _ _ h => h) (Or.inl ⟨by rfl, ?_⟩) hHeld ?_
  rotate_left 1
  ·intro wz hz
   (try dsimp only at hz)
   go_simp
   (try with_reducible rfl)
  (try simp only [Act.put, List.getElem_toArray, List.getElem_cons_zero, List.getElem_cons_succ, List.setIfInBounds_toArray, List.set_cons_zero, List.set_cons_succ])
  refine wpAnyH_take (i := 13) (oi := _) (v := ?_) rfl (by kernel_rfl) (by kernel_rfl) (by kernel_rfl) (fun _ _ _ h => h) (Or.inl ⟨by rfl, ?_⟩) hHeld ?_
  rotate_left 1
  ·intro wz hz
   (try dsimp only at hz)
   go_simp
   (try with_reducible rfl)
  (try simp only [Act.put, List.getElem_toArray, List.getElem_cons_zero, List.getElem_cons_succ, List.setIfInBounds_toArray, List.set_cons_zero, List.set_cons_succ])
  refine wpAnyH_take (i := 14) (oi := _) (v := ?_) rfl (by kernel_rfl) (by kernel_rfl) (by kernel_rfl) (fun _ _ _ h => h) (Or.inl ⟨by rfl, ?_⟩) hHeld ?_
  rotate_left 1
  ·intro wz hz
   (try dsimp only at hz)
   go_simp
   (try with_reducible rfl)
  (try simp only [Act.put, List.getElem_toArray, List.getElem_cons_zero, List.getElem_cons_succ, List.setIfInBounds_toArray, List.set_cons_zero, List.set_cons_succ])
  refine wpAnyH_take (i := 15) (oi := _) (v := ?_) rfl (by kernel_rfl) (by kernel_rfl) (by kernel_rfl) (fun _ _ _ h => h) (Or.inl ⟨by rfl, ?_⟩) hHeld ?_
  rotate_left 1
  ·intro wz hz
   (try dsimp only at hz)
   have cc := CorAt.c_nx (Hid.out hz).1; rw [d_n] at cc
   go_simp
   (try with_reducible rfl)
  (try simp only [Act.put, List.getElem_toArray, List.getElem_cons_zero, List.getElem_cons_succ, List.setIfInBounds_toArray, List.set_cons_zero, List.set_cons_succ])
  refine wpAnyH_take (i := 16) (oi := _) (v := ?_) rfl (by kernel_rfl) (by kernel_rfl) (by kernel_rfl) (fun _ _ _ h => h) (Or.inl ⟨by rfl, ?_⟩) hHeld ?_
  rotate_left 1
  ·intro wz hz
   (try dsimp only at hz)
   go_simp
   (try with_reducible rfl)
  (try simp only [Act.put, List.getElem_toArray, List.getElem_cons_zero, List.getElem_cons_succ, List.setIfInBounds_toArray, List.set_cons_zero, List.set_cons_succ])
  refine wpAnyH_take (i := 17) (oi := _) (v := ?_) rfl (by kernel_rfl) (by kernel_rfl) (by kernel_rfl) (fun _ _ _ h => h) (Or.inl ⟨by rfl, ?_⟩) hHeld ?_
  rotate_left 1
  ·intro wz hz
   (try dsimp only at hz)
   go_simp
   (try with_reducible rfl)
  (try simp only [Act.put, List.getElem_toArray, List.getElem_cons_zero, List.getElem_cons_succ, List.setIfInBounds_toArray, List.set_cons_zero, List.set_cons_succ])
  refine wpAnyH_take (i := 18) (oi := _) (v := ?_) rfl (by kernel_rfl) (by kernel_rfl) (by kernel_rfl) (fun _ _ _ h => h) (Or.inl ⟨by rfl, ?_⟩) hHeld ?_
  rotate_left 1
  ·intro wz hz
   (try dsimp only at hz)
   go_simp
   (try with_reducible rfl)
  (try simp only [Act.put, List.getElem_toArray, List.getElem_cons_zero, List.getElem_cons_succ, List.setIfInBounds_toArray, List.set_cons_zero, List.set_cons_succ])
  refine wpAnyH_take (i := 19) (oi := _) (v := ?_) rfl (by kernel_rfl) (by kernel_rfl) (by kernel_rfl) (fun _ _ _ h => h) (Or.inl ⟨by rfl, ?_⟩) hHeld ?_
  rotate_left 1
  ·intro wz hz
   (try dsimp only at hz)
   go_simp
   (try with_reducible rfl)
  (try simp only [Act.put, List.getElem_toArray, List.getElem_cons_zero, List.getElem_cons_succ, List.setIfInBounds_toArray, List.set_cons_zero, List.set_cons_succ])
  refine wpAnyH_take (i := 20) (oi := _) rfl (by kernel_rfl) (by kernel_rfl) (by kernel_rfl) (fun _ _ _ h => h) (yields_load_part (by rfl) 25 (.tmp 32) rfl D 0 rfl #[.int .i64 k.a, .int .i64 k.x, .int .i64 k.y, .int .i64 k.s, .int .i64 k.p, .int .i64 k.pc] _ Tryz.underlying25 rfl (by kernel_rfl) (hkd ▸ rfl) (fun u hS => (Hid.out hS).1)) hHeld ?_
  (try simp only [Act.put, List.getElem_toArray, List.getElem_cons_zero, List.getElem_cons_succ, List.setIfInBounds_toArray, List.set_cons_zero, List.set_cons_succ])
  refine wpAnyH_take (i := 21) (oi := _) (v := ?_) rfl (by kernel_rfl) (by kernel_rfl) (by kernel_rfl) (fun _ _ _ h => h) (Or.inl ⟨by rfl, ?_⟩) hHeld ?_
  rotate_left 1
  ·intro wz hz
   (try dsimp only at hz)
   go_simp
   (try with_reducible rfl)
  (try simp only [Act.put, List.getElem_toArray, List.getElem_cons_zero, List.getElem_cons_succ, List.setIfInBounds_toArray, List.set_cons_zero, List.set_cons_succ])
  refine wpAnyH_take (i := 22) (oi := _) rfl (by kernel_rfl) (by kernel_rfl) (by kernel_rfl) (fun _ _ _ h => h) (yields_load_part (by rfl) 25 (.tmp 34) rfl C 0 rfl #[.int .i64 k.a, .int .i64 k.x, .int .i64 k.y, .int .i64 k.s, .int .i64 k.p, .int .i64 k.pc] _ Tryz.underlying25 rfl (by kernel_rfl) (rfl) (fun u hS => (Hid.out hS).2)) hHeld ?_
  (try simp only [Act.put, List.getElem_toArray, List.getElem_cons_zero, List.getElem_cons_succ, List.setIfInBounds_toArray, List.set_cons_zero, List.set_cons_succ])
  refine wpAnyH_take (i := 23) (oi := _) rfl (by kernel_rfl) (by kernel_rfl) (by kernel_rfl) (fun _ _ _ h => h) (yields_neq_same (by rfl) 25 25 (.tmp 33) (.tmp 35) rfl #[.int .i64 k.a, .int .i64 k.x, .int .i64 k.y, .int .i64 k.s, .int .i64 k.p, .int .i64 k.pc] rfl rfl (by kernel_rfl) (fun w => same_regs _ _ _ _ _ _ w)) hHeld ?_
  (try simp only [Act.put, List.getElem_toArray, List.getElem_cons_zero, List.getElem_cons_succ, List.setIfInBounds_toArray, List.set_cons_zero, List.set_cons_succ])
  refine wpAnyH_take (i := 24) (oi := _) (v := ?_) rfl (by kernel_rfl) (by kernel_rfl) (by kernel_rfl) (fun _ _ _ h => h) (Or.inl ⟨by rfl, ?_⟩) hHeld ?_
  rotate_left 1
  ·intro wz hz
   (try dsimp only at hz)
   go_simp
   (try with_reducible rfl)
  (try simp only [Act.put, List.getElem_toArray, List.getElem_cons_zero, List.getElem_cons_succ, List.setIfInBounds_toArray, List.set_cons_zero, List.set_cons_succ])
  refine wpAnyH_done (by kernel_rfl) ?_ _
  have KD := Lib.hid (Hid.out hHeld).1
  clear hHeld KC d_t d_j d_n d_r hne hCW
  have hE : Hid (rsC k (f 5) (f 6) 0 = kd) := Lib.hid hkd
  have HOK := fun w => s_ok kd w
  have HIK := fun w => show Calls Tryz.prog 12 #[.agg (corC kd)] w (fun e w' => e = .returned (.bool (okCo kd.a kd.x kd.y kd.s kd.p kd.pc kd.sq kd.cd kd.t kd.lo kd.hi kd.vl kd.nx)) ∧ Below w.heap.size w w') from impl_coreOk kd.a kd.x kd.y kd.s kd.p kd.pc kd.sq kd.cd kd.t kd.lo kd.hi kd.vl kd.cr kd.nx kd.jm w
  cases hok : okCo kd.a kd.x kd.y kd.s kd.p kd.pc kd.sq kd.cd kd.t kd.lo kd.hi kd.vl kd.nx
  ·rw [hok] at HOK HIK
   replace HOK := Lib.hid HOK
   replace HIK := Lib.hid HIK
   go_wp2_with (first | (refine load_core (by rfl) _ (by rfl) _ (by rfl) KD.out ?_) | (go_at_call 13; refine (HOK.out _).mono ?_; rintro e w6 ⟨rfl, hb⟩; refine Hid.out ?_))
   have KD := Lib.hid (CorAt.below KD.out hb)
   have B := Lib.hid (below_then B.out hb)
   clear hb
   refine Lib.hid ?_
   go_wp2_with (first | (refine load_core (by rfl) _ (by rfl) _ (by rfl) KD.out ?_) | (go_at_call 12; refine (HIK.out _).mono ?_; rintro e w7 ⟨rfl, hb⟩))
   go_ret
   exact ⟨rfl, below_then B.out hb⟩
  ·rw [hok] at HOK
   replace HOK := Lib.hid HOK
   have hOk : Hid (CorI.Ok (rsC k (f 5) (f 6) 0)) := Lib.hid (hE.out ▸ bds_of hok)
   clear HIK hok
   go_wp2_with (first | (refine load_core (by rfl) _ (by rfl) _ (by rfl) KD.out ?_) | (go_at_call 13; refine (HOK.out _).mono ?_; rintro e w6 ⟨rfl, hb⟩; refine Hid.out ?_))
   have KD := Lib.hid (CorAt.below KD.out hb)
   have B := Lib.hid (below_then B.out hb)
   clear hb HOK
   refine Lib.hid ?_
   go_wp2_with (fail)
   go_loopw [5] (fun v5 wr => ∃ i : Nat, i ≤ 7 ∧ v5 = .int .i64 i ∧ CorAt D (rsC k (f 5) (f 6) i) wr ∧ Below W.heap.size W wr) (fun v5 _ => 7 - (intOf v5).toNat)
   case atStart => exact ⟨0, by omega, rfl, hE.out ▸ KD.out, B.out⟩
   case round =>
    obtain ⟨i, hi, rfl, KD, B⟩ := hrel
    by_cases hlt : i < 7
    ·replace KD := Lib.hid KD
     replace B := Lib.hid B
     have hlz : (i : Int) < 7 := by omega
     have HW := Lib.hid (fun w => rs_want (f 5) (f 6) hOk.out i hlt w)
     have HF := Lib.hid (fun w => rs_fed (f 5) (f 6) hOk.out i hlt (f i) (fun h => h ▸ rfl) (fun h => h ▸ rfl) w)
     have HA := Lib.hid ((hf.out i (by omega)).2.2)
     obtain ⟨ki, hki⟩ : ∃ x, rsC k (f 5) (f 6) i = x := ⟨_, rfl⟩
     obtain ⟨kj, hkj⟩ : ∃ x, rsC k (f 5) (f 6) (i + 1) = x := ⟨_, rfl⟩
     rw [hki] at KD HW HF
     rw [hkj] at HF
     replace hkj := Lib.hid hkj
     clear hki
     go_wp2_with (first | (refine load_core (by rfl) _ (by rfl) _ (by rfl) KD.out ?_) | (go_at_call 16; refine (HW.out _).mono ?_; rintro e u1 ⟨rfl, hb⟩; refine Hid.out ?_))
     have KD := Lib.hid (CorAt.below KD.out hb)
     have B := Lib.hid (below_then B.out hb)
     clear hb HW
     refine Lib.hid ?_
     go_wp2_with (first | (refine store_row (by rfl) 38 _ _ (by rfl) u1.heap.size #[.int .i64 (rsA k i), .int .i64 0, .bool false] (by rfl) (by rfl) 3 (by kernel_rfl) (blk_new u1 _) rfl rfl (by rfl) ?_; refine Hid.out ?_))
     have hbV : Below u1.heap.size u1 (World.setRow (World.alloc u1 (.cells #[.int .i64 0, .int .i64 0, .bool false] 38)) u1.heap.size #[.int .i64 (rsA k i), .int .i64 0, .bool false]) := below_row (below_alloc (Below.refl _ _) _) (Nat.le_refl _)
     have BU := Lib.hid (setRow_heap _ _ _ #[.int .i64 (rsA k i), .int .i64 0, .bool false] _ _ (blk_new u1 (.cells #[.int .i64 0, .int .i64 0, .bool false] 38)))
     have B := Lib.hid (below_then B.out hbV)
     have KD := Lib.hid (CorAt.below KD.out hbV)
     have e2 : u1.heap.size < (World.setRow (World.alloc u1 (.cells #[.int .i64 0, .int .i64 0, .bool false] 38)) u1.heap.size #[.int .i64 (rsA k i), .int .i64 0, .bool false]).heap.size := by rw [setRow_size, alloc_size]; omega
     clear hbV
     generalize World.setRow (World.alloc u1 (.cells #[.int .i64 0, .int .i64 0, .bool false] 38)) u1.heap.size #[.int .i64 (rsA k i), .int .i64 0, .bool false] = u2 at BU B KD e2 ⊢
     by_cases h5 : i = 5
     ·subst h5
      have q0 := cell_of_blk (i := 0) (v := .int .i64 65532) BU.out rfl
      have q2 := cell_of_blk (i := 2) (v := .bool false) BU.out rfl
      refine Lib.hid ?_
      go_upto_region 15 with fail
      clear q2
      refine wp_region_held_drew (S := fun w' => Hid True) (by kernel_rfl) (Lib.hid trivial) (fun hHeld => ?_)
      have KD := Lib.hid (CorAt.drew KD.out)
      have B := Lib.hid (B.out.drew)
      generalize World.drew _ = u3 at KD B hHeld ⊢
      refine wpAnyH_take (i := 1) (oi := _) (v := ?_) rfl (by kernel_rfl) (by kernel_rfl) (by kernel_rfl) (fun _ _ _ h => h) (Or.inl ⟨by rfl, ?_⟩) hHeld ?_
      rotate_left 1
      ·intro wz hz
       (try dsimp only at hz)
       go_simp
       (try with_reducible rfl)
      (try simp only [Act.put, List.getElem_toArray, List.getElem_cons_zero, List.getElem_cons_succ, List.setIfInBounds_toArray, List.set_cons_zero, List.set_cons_succ])
      refine wpAnyH_take (i := 2) (oi := _) (v := ?_) rfl (by kernel_rfl) (by kernel_rfl) (by kernel_rfl) (fun _ _ _ h => h) (Or.inl ⟨by rfl, ?_⟩) hHeld ?_
      rotate_left 1
      ·intro wz hz
       (try dsimp only at hz)
       go_simp
       (try with_reducible rfl)
      (try simp only [Act.put, List.getElem_toArray, List.getElem_cons_zero, List.getElem_cons_succ, List.setIfInBounds_toArray, List.set_cons_zero, List.set_cons_succ])
      refine wpAnyH_take (i := 4) (oi := _) rfl (by kernel_rfl) (by kernel_rfl) (by kernel_rfl) (fun _ _ _ h => h) (yields_build (by rfl) 29 _ rfl #[.bool false, .bool false, .bool false] (by kernel_rfl)) hHeld ?_
      (try simp only [Act.put, List.getElem_toArray, List.getElem_cons_zero, List.getElem_cons_succ, List.setIfInBounds_toArray, List.set_cons_zero, List.set_cons_succ])
      refine wpAnyH_ready (rs := [0, 3]) (by kernel_rfl) (by simp) ?_
      refine AllReadyH.cons (o := _) rfl (fun K' hK' => ?_) ?_
      ·rw [if_pos (by rfl)]
       refine wp_load_part 27 (.tmp 4) rfl D 0 rfl (corC ki) _ Tryz.underlying27 rfl (by kernel_rfl) KD.out rfl ?_
       refine hK'.out _ _ hHeld (fun hHeld => ?_)
       clear hK' K'
       (try simp only [Act.put, List.getElem_toArray, List.getElem_cons_zero, List.setIfInBounds_toArray, List.set_cons_zero, List.set_cons_succ])
       refine wpAnyH_ready (rs := [3]) (by kernel_rfl) (by simp) ?_
       refine AllReadyH.cons (o := _) rfl (fun K' hK' => ?_) AllReadyH.nil
       go_simp
       (go_at_call 24; refine (HA.out _ B.out).mono ?_; rintro e w5 ⟨rfl, rfl⟩)
       refine hK'.out _ _ hHeld (fun hHeld => ?_)
       clear hK' K'
       (try simp only [Act.put, List.getElem_toArray, List.getElem_cons_zero, List.getElem_cons_succ, List.setIfInBounds_toArray, List.set_cons_zero, List.set_cons_succ])
       refine wpAnyH_ready (rs := [5]) (by kernel_rfl) (by simp) ?_
       refine AllReadyH.cons (o := _) rfl (fun K' hK' => ?_) AllReadyH.nil
       go_simp
       (go_at_call 10; refine (HF.out _).mono ?_; rintro e w6 ⟨rfl, hb⟩)
       have KD := Lib.hid (CorAt.below KD.out hb)
       have B := Lib.hid (below_then B.out hb)
       clear hb
       refine hK'.out _ _ hHeld (fun hHeld => ?_)
       clear hK' K'
       (try simp only [Act.put, List.getElem_toArray, List.getElem_cons_zero, List.getElem_cons_succ, List.setIfInBounds_toArray, List.set_cons_zero, List.set_cons_succ])
       refine wpAnyH_take (i := 6) (oi := _) (v := ?_) rfl (by kernel_rfl) (by kernel_rfl) (by kernel_rfl) (fun _ _ _ h => h) (Or.inl ⟨by rfl, ?_⟩) hHeld ?_
       rotate_left 1
       ·intro wz hz
        (try dsimp only at hz)
        go_simp
        (try with_reducible rfl)
       (try simp only [Act.put, List.getElem_toArray, List.getElem_cons_zero, List.getElem_cons_succ, List.setIfInBounds_toArray, List.set_cons_zero, List.set_cons_succ])
       refine wpAnyH_take (i := 7) (oi := _) (v := ?_) rfl (by kernel_rfl) (by kernel_rfl) (by kernel_rfl) (fun _ _ _ h => h) (Or.inl ⟨by rfl, ?_⟩) hHeld ?_
       rotate_left 1
       ·intro wz hz
        (try dsimp only at hz)
        go_simp
        (try with_reducible rfl)
       (try simp only [Act.put, List.getElem_toArray, List.getElem_cons_zero, List.getElem_cons_succ, List.setIfInBounds_toArray, List.set_cons_zero, List.set_cons_succ])
       refine wpAnyH_take (i := 8) (oi := _) (v := ?_) rfl (by kernel_rfl) (by kernel_rfl) (by kernel_rfl) (fun _ _ _ h => h) (Or.inl ⟨by rfl, ?_⟩) hHeld ?_
       rotate_left 1
       ·intro wz hz
        (try dsimp only at hz)
        go_simp
        (try with_reducible rfl)
       (try simp only [Act.put, List.getElem_toArray, List.getElem_cons_zero, List.getElem_cons_succ, List.setIfInBounds_toArray, List.set_cons_zero, List.set_cons_succ])
       refine wpAnyH_ready (rs := [9]) (by kernel_rfl) (by simp) ?_
       refine AllReadyH.cons (o := _) rfl (fun K' hK' => ?_) AllReadyH.nil
       rw [if_pos (by rfl)]
       refine wp_store_row 27 (.tmp 4) (.tmp 78) rfl D (corC kj) rfl rfl _ _ KD.out (by kernel_rfl) rfl (by rw [← Array.all_toList]; rfl) ?_
       refine hK'.out _ _ hHeld (fun hHeld => ?_)
       clear hK' K'
       refine wpAnyH_done (by kernel_rfl) ?_ _
       go_wp2
       go_roundw
       case rel => exact ⟨5 + 1, by omega, by go_num, hkj.out ▸ setRow_heap _ _ _ (corC kj) _ _ KD.out, below_row B.out hDW⟩
       case measure => first | (simp [intOf]; done) | (simp [intOf]; omega)
      refine AllReadyH.cons (o := _) rfl (fun K' hK' => ?_) AllReadyH.nil
      go_simp
      (go_at_call 24; refine (HA.out _ B.out).mono ?_; rintro e w5 ⟨rfl, rfl⟩)
      refine hK'.out _ _ hHeld (fun hHeld => ?_)
      clear hK' K'
      (try simp only [Act.put, List.getElem_toArray, List.getElem_cons_zero, List.getElem_cons_succ, List.setIfInBounds_toArray, List.set_cons_zero, List.set_cons_succ])
      refine wpAnyH_ready (rs := [0]) (by kernel_rfl) (by simp) ?_
      refine AllReadyH.cons (o := _) rfl (fun K' hK' => ?_) AllReadyH.nil
      rw [if_pos (by rfl)]
      refine wp_load_part 27 (.tmp 4) rfl D 0 rfl (corC ki) _ Tryz.underlying27 rfl (by kernel_rfl) KD.out rfl ?_
      refine hK'.out _ _ hHeld (fun hHeld => ?_)
      clear hK' K'
      (try simp only [Act.put, List.getElem_toArray, List.getElem_cons_zero, List.setIfInBounds_toArray, List.set_cons_zero, List.set_cons_succ])
      refine wpAnyH_ready (rs := [5]) (by kernel_rfl) (by simp) ?_
      refine AllReadyH.cons (o := _) rfl (fun K' hK' => ?_) AllReadyH.nil
      go_simp
      (go_at_call 10; refine (HF.out _).mono ?_; rintro e w6 ⟨rfl, hb⟩)
      have KD := Lib.hid (CorAt.below KD.out hb)
      have B := Lib.hid (below_then B.out hb)
      clear hb
      refine hK'.out _ _ hHeld (fun hHeld => ?_)
      clear hK' K'
      (try simp only [Act.put, List.getElem_toArray, List.getElem_cons_zero, List.getElem_cons_succ, List.setIfInBounds_toArray, List.set_cons_zero, List.set_cons_succ])
      refine wpAnyH_take (i := 6) (oi := _) (v := ?_) rfl (by kernel_rfl) (by kernel_rfl) (by kernel_rfl) (fun _ _ _ h => h) (Or.inl ⟨by rfl, ?_⟩) hHeld ?_
      rotate_left 1
      ·intro wz hz
       (try dsimp only at hz)
       go_simp
       (try with_reducible rfl)
      (try simp only [Act.put, List.getElem_toArray, List.getElem_cons_zero, List.getElem_cons_succ, List.setIfInBounds_toArray, List.set_cons_zero, List.set_cons_succ])
      refine wpAnyH_take (i := 7) (oi := _) (v := ?_) rfl (by kernel_rfl) (by kernel_rfl) (by kernel_rfl) (fun _ _ _ h => h) (Or.inl ⟨by rfl, ?_⟩) hHeld ?_
      rotate_left 1
      ·intro wz hz
       (try dsimp only at hz)
       go_simp
       (try with_reducible rfl)
      (try simp only [Act.put, List.getElem_toArray, List.getElem_cons_zero, List.getElem_cons_succ, List.setIfInBounds_toArray, List.set_cons_zero, List.set_cons_succ])
      refine wpAnyH_take (i := 8) (oi := _) (v := ?_) rfl (by kernel_rfl) (by kernel_rfl) (by kernel_rfl) (fun _ _ _ h => h) (Or.inl ⟨by rfl, ?_⟩) hHeld ?_
      rotate_left 1
      ·intro wz hz
       (try dsimp only at hz)
       go_simp
       (try with_reducible rfl)
      (try simp only [Act.put, List.getElem_toArray, List.getElem_cons_zero, List.getElem_cons_succ, List.setIfInBounds_toArray, List.set_cons_zero, List.set_cons_succ])
      refine wpAnyH_ready (rs := [9]) (by kernel_rfl) (by simp) ?_
      refine AllReadyH.cons (o := _) rfl (fun K' hK' => ?_) AllReadyH.nil
      rw [if_pos (by rfl)]
      refine wp_store_row 27 (.tmp 4) (.tmp 78) rfl D (corC kj) rfl rfl _ _ KD.out (by kernel_rfl) rfl (by rw [← Array.all_toList]; rfl) ?_
      refine hK'.out _ _ hHeld (fun hHeld => ?_)
      clear hK' K'
      refine wpAnyH_done (by kernel_rfl) ?_ _
      go_wp2
      go_roundw
      case rel => exact ⟨5 + 1, by omega, by go_num, hkj.out ▸ setRow_heap _ _ _ (corC kj) _ _ KD.out, below_row B.out hDW⟩
      case measure => first | (simp [intOf]; done) | (simp [intOf]; omega)
     by_cases h6 : i = 6
     ·subst h6
      have q0 := cell_of_blk (i := 0) (v := .int .i64 65533) BU.out rfl
      have q2 := cell_of_blk (i := 2) (v := .bool false) BU.out rfl
      refine Lib.hid ?_
      go_upto_region 15 with fail
      clear q2
      refine wp_region_held_drew (S := fun w' => Hid True) (by kernel_rfl) (Lib.hid trivial) (fun hHeld => ?_)
      have KD := Lib.hid (CorAt.drew KD.out)
      have B := Lib.hid (B.out.drew)
      generalize World.drew _ = u3 at KD B hHeld ⊢
      refine wpAnyH_take (i := 1) (oi := _) (v := ?_) rfl (by kernel_rfl) (by kernel_rfl) (by kernel_rfl) (fun _ _ _ h => h) (Or.inl ⟨by rfl, ?_⟩) hHeld ?_
      rotate_left 1
      ·intro wz hz
       (try dsimp only at hz)
       go_simp
       (try with_reducible rfl)
      (try simp only [Act.put, List.getElem_toArray, List.getElem_cons_zero, List.getElem_cons_succ, List.setIfInBounds_toArray, List.set_cons_zero, List.set_cons_succ])
      refine wpAnyH_take (i := 2) (oi := _) (v := ?_) rfl (by kernel_rfl) (by kernel_rfl) (by kernel_rfl) (fun _ _ _ h => h) (Or.inl ⟨by rfl, ?_⟩) hHeld ?_
      rotate_left 1
      ·intro wz hz
       (try dsimp only at hz)
       go_simp
       (try with_reducible rfl)
      (try simp only [Act.put, List.getElem_toArray, List.getElem_cons_zero, List.getElem_cons_succ, List.setIfInBounds_toArray, List.set_cons_zero, List.set_cons_succ])
      refine wpAnyH_take (i := 4) (oi := _) rfl (by kernel_rfl) (by kernel_rfl) (by kernel_rfl) (fun _ _ _ h => h) (yields_build (by rfl) 29 _ rfl #[.bool false, .bool false, .bool false] (by kernel_rfl)) hHeld ?_
      (try simp only [Act.put, List.getElem_toArray, List.getElem_cons_zero, List.getElem_cons_succ, List.setIfInBounds_toArray, List.set_cons_zero, List.set_cons_succ])
      refine wpAnyH_ready (rs := [0, 3]) (by kernel_rfl) (by simp) ?_
      refine AllReadyH.cons (o := _) rfl (fun K' hK' => ?_) ?_
      ·rw [if_pos (by rfl)]
       refine wp_load_part 27 (.tmp 4) rfl D 0 rfl (corC ki) _ Tryz.underlying27 rfl (by kernel_rfl) KD.out rfl ?_
       refine hK'.out _ _ hHeld (fun hHeld => ?_)
       clear hK' K'
       (try simp only [Act.put, List.getElem_toArray, List.getElem_cons_zero, List.setIfInBounds_toArray, List.set_cons_zero, List.set_cons_succ])
       refine wpAnyH_ready (rs := [3]) (by kernel_rfl) (by simp) ?_
       refine AllReadyH.cons (o := _) rfl (fun K' hK' => ?_) AllReadyH.nil
       go_simp
       (go_at_call 24; refine (HA.out _ B.out).mono ?_; rintro e w5 ⟨rfl, rfl⟩)
       refine hK'.out _ _ hHeld (fun hHeld => ?_)
       clear hK' K'
       (try simp only [Act.put, List.getElem_toArray, List.getElem_cons_zero, List.getElem_cons_succ, List.setIfInBounds_toArray, List.set_cons_zero, List.set_cons_succ])
       refine wpAnyH_ready (rs := [5]) (by kernel_rfl) (by simp) ?_
       refine AllReadyH.cons (o := _) rfl (fun K' hK' => ?_) AllReadyH.nil
       go_simp
       (go_at_call 10; refine (HF.out _).mono ?_; rintro e w6 ⟨rfl, hb⟩)
       have KD := Lib.hid (CorAt.below KD.out hb)
       have B := Lib.hid (below_then B.out hb)
       clear hb
       refine hK'.out _ _ hHeld (fun hHeld => ?_)
       clear hK' K'
       (try simp only [Act.put, List.getElem_toArray, List.getElem_cons_zero, List.getElem_cons_succ, List.setIfInBounds_toArray, List.set_cons_zero, List.set_cons_succ])
       refine wpAnyH_take (i := 6) (oi := _) (v := ?_) rfl (by kernel_rfl) (by kernel_rfl) (by kernel_rfl) (fun _ _ _ h => h) (Or.inl ⟨by rfl, ?_⟩) hHeld ?_
       rotate_left 1
       ·intro wz hz
        (try dsimp only at hz)
        go_simp
        (try with_reducible rfl)
       (try simp only [Act.put, List.getElem_toArray, List.getElem_cons_zero, List.getElem_cons_succ, List.setIfInBounds_toArray, List.set_cons_zero, List.set_cons_succ])
       refine wpAnyH_take (i := 7) (oi := _) (v := ?_) rfl (by kernel_rfl) (by kernel_rfl) (by kernel_rfl) (fun _ _ _ h => h) (Or.inl ⟨by rfl, ?_⟩) hHeld ?_
       rotate_left 1
       ·intro wz hz
        (try dsimp only at hz)
        go_simp
        (try with_reducible rfl)
       (try simp only [Act.put, List.getElem_toArray, List.getElem_cons_zero, List.getElem_cons_succ, List.setIfInBounds_toArray, List.set_cons_zero, List.set_cons_succ])
       refine wpAnyH_take (i := 8) (oi := _) (v := ?_) rfl (by kernel_rfl) (by kernel_rfl) (by kernel_rfl) (fun _ _ _ h => h) (Or.inl ⟨by rfl, ?_⟩) hHeld ?_
       rotate_left 1
       ·intro wz hz
        (try dsimp only at hz)
        go_simp
        (try with_reducible rfl)
       (try simp only [Act.put, List.getElem_toArray, List.getElem_cons_zero, List.getElem_cons_succ, List.setIfInBounds_toArray, List.set_cons_zero, List.set_cons_succ])
       refine wpAnyH_ready (rs := [9]) (by kernel_rfl) (by simp) ?_
       refine AllReadyH.cons (o := _) rfl (fun K' hK' => ?_) AllReadyH.nil
       rw [if_pos (by rfl)]
       refine wp_store_row 27 (.tmp 4) (.tmp 78) rfl D (corC kj) rfl rfl _ _ KD.out (by kernel_rfl) rfl (by rw [← Array.all_toList]; rfl) ?_
       refine hK'.out _ _ hHeld (fun hHeld => ?_)
       clear hK' K'
       refine wpAnyH_done (by kernel_rfl) ?_ _
       go_wp2
       go_roundw
       case rel => exact ⟨6 + 1, by omega, by go_num, hkj.out ▸ setRow_heap _ _ _ (corC kj) _ _ KD.out, below_row B.out hDW⟩
       case measure => first | (simp [intOf]; done) | (simp [intOf]; omega)
      refine AllReadyH.cons (o := _) rfl (fun K' hK' => ?_) AllReadyH.nil
      go_simp
      (go_at_call 24; refine (HA.out _ B.out).mono ?_; rintro e w5 ⟨rfl, rfl⟩)
      refine hK'.out _ _ hHeld (fun hHeld => ?_)
      clear hK' K'
      (try simp only [Act.put, List.getElem_toArray, List.getElem_cons_zero, List.getElem_cons_succ, List.setIfInBounds_toArray, List.set_cons_zero, List.set_cons_succ])
      refine wpAnyH_ready (rs := [0]) (by kernel_rfl) (by simp) ?_
      refine AllReadyH.cons (o := _) rfl (fun K' hK' => ?_) AllReadyH.nil
      rw [if_pos (by rfl)]
      refine wp_load_part 27 (.tmp 4) rfl D 0 rfl (corC ki) _ Tryz.underlying27 rfl (by kernel_rfl) KD.out rfl ?_
      refine hK'.out _ _ hHeld (fun hHeld => ?_)
      clear hK' K'
      (try simp only [Act.put, List.getElem_toArray, List.getElem_cons_zero, List.setIfInBounds_toArray, List.set_cons_zero, List.set_cons_succ])
      refine wpAnyH_ready (rs := [5]) (by kernel_rfl) (by simp) ?_
      refine AllReadyH.cons (o := _) rfl (fun K' hK' => ?_) AllReadyH.nil
      go_simp
      (go_at_call 10; refine (HF.out _).mono ?_; rintro e w6 ⟨rfl, hb⟩)
      have KD := Lib.hid (CorAt.below KD.out hb)
      have B := Lib.hid (below_then B.out hb)
      clear hb
      refine hK'.out _ _ hHeld (fun hHeld => ?_)
      clear hK' K'
      (try simp only [Act.put, List.getElem_toArray, List.getElem_cons_zero, List.getElem_cons_succ, List.setIfInBounds_toArray, List.set_cons_zero, List.set_cons_succ])
      refine wpAnyH_take (i := 6) (oi := _) (v := ?_) rfl (by kernel_rfl) (by kernel_rfl) (by kernel_rfl) (fun _ _ _ h => h) (Or.inl ⟨by rfl, ?_⟩) hHeld ?_
      rotate_left 1
      ·intro wz hz
       (try dsimp only at hz)
       go_simp
       (try with_reducible rfl)
      (try simp only [Act.put, List.getElem_toArray, List.getElem_cons_zero, List.getElem_cons_succ, List.setIfInBounds_toArray, List.set_cons_zero, List.set_cons_succ])
      refine wpAnyH_take (i := 7) (oi := _) (v := ?_) rfl (by kernel_rfl) (by kernel_rfl) (by kernel_rfl) (fun _ _ _ h => h) (Or.inl ⟨by rfl, ?_⟩) hHeld ?_
      rotate_left 1
      ·intro wz hz
       (try dsimp only at hz)
       go_simp
       (try with_reducible rfl)
      (try simp only [Act.put, List.getElem_toArray, List.getElem_cons_zero, List.getElem_cons_succ, List.setIfInBounds_toArray, List.set_cons_zero, List.set_cons_succ])
      refine wpAnyH_take (i := 8) (oi := _) (v := ?_) rfl (by kernel_rfl) (by kernel_rfl) (by kernel_rfl) (fun _ _ _ h => h) (Or.inl ⟨by rfl, ?_⟩) hHeld ?_
      rotate_left 1
      ·intro wz hz
       (try dsimp only at hz)
       go_simp
       (try with_reducible rfl)
      (try simp only [Act.put, List.getElem_toArray, List.getElem_cons_zero, List.getElem_cons_succ, List.setIfInBounds_toArray, List.set_cons_zero, List.set_cons_succ])
      refine wpAnyH_ready (rs := [9]) (by kernel_rfl) (by simp) ?_
      refine AllReadyH.cons (o := _) rfl (fun K' hK' => ?_) AllReadyH.nil
      rw [if_pos (by rfl)]
      refine wp_store_row 27 (.tmp 4) (.tmp 78) rfl D (corC kj) rfl rfl _ _ KD.out (by kernel_rfl) rfl (by rw [← Array.all_toList]; rfl) ?_
      refine hK'.out _ _ hHeld (fun hHeld => ?_)
      clear hK' K'
      refine wpAnyH_done (by kernel_rfl) ?_ _
      go_wp2
      go_roundw
      case rel => exact ⟨6 + 1, by omega, by go_num, hkj.out ▸ setRow_heap _ _ _ (corC kj) _ _ KD.out, below_row B.out hDW⟩
      case measure => first | (simp [intOf]; done) | (simp [intOf]; omega)
     have h5' : ¬ (i : Int) = 5 := by omega
     have h6' : ¬ (i : Int) = 6 := by omega
     have q2 := cell_of_blk (i := 2) (v := .bool false) BU.out rfl
     refine Lib.hid ?_
     go_upto_region 15 with fail
     clear q2
     refine wp_region_held_drew (S := fun w' => Hid True) (by kernel_rfl) (Lib.hid trivial) (fun hHeld => ?_)
     have KD := Lib.hid (CorAt.drew KD.out)
     have B := Lib.hid (B.out.drew)
     generalize World.drew _ = u3 at KD B hHeld ⊢
     refine wpAnyH_take (i := 1) (oi := _) (v := ?_) rfl (by kernel_rfl) (by kernel_rfl) (by kernel_rfl) (fun _ _ _ h => h) (Or.inl ⟨by rfl, ?_⟩) hHeld ?_
     rotate_left 1
     ·intro wz hz
      (try dsimp only at hz)
      go_simp
      (try with_reducible rfl)
     (try simp only [Act.put, List.getElem_toArray, List.getElem_cons_zero, List.getElem_cons_succ, List.setIfInBounds_toArray, List.set_cons_zero, List.set_cons_succ])
     refine wpAnyH_take (i := 2) (oi := _) (v := ?_) rfl (by kernel_rfl) (by kernel_rfl) (by kernel_rfl) (fun _ _ _ h => h) (Or.inl ⟨by rfl, ?_⟩) hHeld ?_
     rotate_left 1
     ·intro wz hz
      (try dsimp only at hz)
      go_simp
      (try with_reducible rfl)
     (try simp only [Act.put, List.getElem_toArray, List.getElem_cons_zero, List.getElem_cons_succ, List.setIfInBounds_toArray, List.set_cons_zero, List.set_cons_succ])
     refine wpAnyH_take (i := 4) (oi := _) rfl (by kernel_rfl) (by kernel_rfl) (by kernel_rfl) (fun _ _ _ h => h) (yields_build (by rfl) 29 _ rfl #[.bool false, .bool false, .bool false] (by kernel_rfl)) hHeld ?_
     (try simp only [Act.put, List.getElem_toArray, List.getElem_cons_zero, List.getElem_cons_succ, List.setIfInBounds_toArray, List.set_cons_zero, List.set_cons_succ])
     refine wpAnyH_ready (rs := [0, 3]) (by kernel_rfl) (by simp) ?_
     refine AllReadyH.cons (o := _) rfl (fun K' hK' => ?_) ?_
     ·rw [if_pos (by rfl)]
      refine wp_load_part 27 (.tmp 4) rfl D 0 rfl (corC ki) _ Tryz.underlying27 rfl (by kernel_rfl) KD.out rfl ?_
      refine hK'.out _ _ hHeld (fun hHeld => ?_)
      clear hK' K'
      (try simp only [Act.put, List.getElem_toArray, List.getElem_cons_zero, List.setIfInBounds_toArray, List.set_cons_zero, List.set_cons_succ])
      refine wpAnyH_ready (rs := [3]) (by kernel_rfl) (by simp) ?_
      refine AllReadyH.cons (o := _) rfl (fun K' hK' => ?_) AllReadyH.nil
      go_simp
      (go_at_call 24; refine (HA.out _ B.out).mono ?_; rintro e w5 ⟨rfl, rfl⟩)
      refine hK'.out _ _ hHeld (fun hHeld => ?_)
      clear hK' K'
      (try simp only [Act.put, List.getElem_toArray, List.getElem_cons_zero, List.getElem_cons_succ, List.setIfInBounds_toArray, List.set_cons_zero, List.set_cons_succ])
      refine wpAnyH_ready (rs := [5]) (by kernel_rfl) (by simp) ?_
      refine AllReadyH.cons (o := _) rfl (fun K' hK' => ?_) AllReadyH.nil
      go_simp
      (go_at_call 10; refine (HF.out _).mono ?_; rintro e w6 ⟨rfl, hb⟩)
      have KD := Lib.hid (CorAt.below KD.out hb)
      have B := Lib.hid (below_then B.out hb)
      clear hb
      refine hK'.out _ _ hHeld (fun hHeld => ?_)
      clear hK' K'
      (try simp only [Act.put, List.getElem_toArray, List.getElem_cons_zero, List.getElem_cons_succ, List.setIfInBounds_toArray, List.set_cons_zero, List.set_cons_succ])
      refine wpAnyH_take (i := 6) (oi := _) (v := ?_) rfl (by kernel_rfl) (by kernel_rfl) (by kernel_rfl) (fun _ _ _ h => h) (Or.inl ⟨by rfl, ?_⟩) hHeld ?_
      rotate_left 1
      ·intro wz hz
       (try dsimp only at hz)
       go_simp
       (try with_reducible rfl)
      (try simp only [Act.put, List.getElem_toArray, List.getElem_cons_zero, List.getElem_cons_succ, List.setIfInBounds_toArray, List.set_cons_zero, List.set_cons_succ])
      refine wpAnyH_take (i := 7) (oi := _) (v := ?_) rfl (by kernel_rfl) (by kernel_rfl) (by kernel_rfl) (fun _ _ _ h => h) (Or.inl ⟨by rfl, ?_⟩) hHeld ?_
      rotate_left 1
      ·intro wz hz
       (try dsimp only at hz)
       go_simp
       (try with_reducible rfl)
      (try simp only [Act.put, List.getElem_toArray, List.getElem_cons_zero, List.getElem_cons_succ, List.setIfInBounds_toArray, List.set_cons_zero, List.set_cons_succ])
      refine wpAnyH_take (i := 8) (oi := _) (v := ?_) rfl (by kernel_rfl) (by kernel_rfl) (by kernel_rfl) (fun _ _ _ h => h) (Or.inl ⟨by rfl, ?_⟩) hHeld ?_
      rotate_left 1
      ·intro wz hz
       (try dsimp only at hz)
       go_simp
       (try with_reducible rfl)
      (try simp only [Act.put, List.getElem_toArray, List.getElem_cons_zero, List.getElem_cons_succ, List.setIfInBounds_toArray, List.set_cons_zero, List.set_cons_succ])
      refine wpAnyH_ready (rs := [9]) (by kernel_rfl) (by simp) ?_
      refine AllReadyH.cons (o := _) rfl (fun K' hK' => ?_) AllReadyH.nil
      rw [if_pos (by rfl)]
      refine wp_store_row 27 (.tmp 4) (.tmp 78) rfl D (corC kj) rfl rfl _ _ KD.out (by kernel_rfl) rfl (by rw [← Array.all_toList]; rfl) ?_
      refine hK'.out _ _ hHeld (fun hHeld => ?_)
      clear hK' K'
      refine wpAnyH_done (by kernel_rfl) ?_ _
      go_wp2
      go_roundw
      case rel => exact ⟨i + 1, by omega, by go_num, hkj.out ▸ setRow_heap _ _ _ (corC kj) _ _ KD.out, below_row B.out hDW⟩
      case measure => first | (simp [intOf]; done) | (simp [intOf]; omega)
     refine AllReadyH.cons (o := _) rfl (fun K' hK' => ?_) AllReadyH.nil
     go_simp
     (go_at_call 24; refine (HA.out _ B.out).mono ?_; rintro e w5 ⟨rfl, rfl⟩)
     refine hK'.out _ _ hHeld (fun hHeld => ?_)
     clear hK' K'
     (try simp only [Act.put, List.getElem_toArray, List.getElem_cons_zero, List.getElem_cons_succ, List.setIfInBounds_toArray, List.set_cons_zero, List.set_cons_succ])
     refine wpAnyH_ready (rs := [0]) (by kernel_rfl) (by simp) ?_
     refine AllReadyH.cons (o := _) rfl (fun K' hK' => ?_) AllReadyH.nil
     rw [if_pos (by rfl)]
     refine wp_load_part 27 (.tmp 4) rfl D 0 rfl (corC ki) _ Tryz.underlying27 rfl (by kernel_rfl) KD.out rfl ?_
     refine hK'.out _ _ hHeld (fun hHeld => ?_)
     clear hK' K'
     (try simp only [Act.put, List.getElem_toArray, List.getElem_cons_zero, List.setIfInBounds_toArray, List.set_cons_zero, List.set_cons_succ])
     refine wpAnyH_ready (rs := [5]) (by kernel_rfl) (by simp) ?_
     refine AllReadyH.cons (o := _) rfl (fun K' hK' => ?_) AllReadyH.nil
     go_simp
     (go_at_call 10; refine (HF.out _).mono ?_; rintro e w6 ⟨rfl, hb⟩)
     have KD := Lib.hid (CorAt.below KD.out hb)
     have B := Lib.hid (below_then B.out hb)
     clear hb
     refine hK'.out _ _ hHeld (fun hHeld => ?_)
     clear hK' K'
     (try simp only [Act.put, List.getElem_toArray, List.getElem_cons_zero, List.getElem_cons_succ, List.setIfInBounds_toArray, List.set_cons_zero, List.set_cons_succ])
     refine wpAnyH_take (i := 6) (oi := _) (v := ?_) rfl (by kernel_rfl) (by kernel_rfl) (by kernel_rfl) (fun _ _ _ h => h) (Or.inl ⟨by rfl, ?_⟩) hHeld ?_
     rotate_left 1
     ·intro wz hz
      (try dsimp only at hz)
      go_simp
      (try with_reducible rfl)
     (try simp only [Act.put, List.getElem_toArray, List.getElem_cons_zero, List.getElem_cons_succ, List.setIfInBounds_toArray, List.set_cons_zero, List.set_cons_succ])
     refine wpAnyH_take (i := 7) (oi := _) (v := ?_) rfl (by kernel_rfl) (by kernel_rfl) (by kernel_rfl) (fun _ _ _ h => h) (Or.inl ⟨by rfl, ?_⟩) hHeld ?_
     rotate_left 1
     ·intro wz hz
      (try dsimp only at hz)
      go_simp
      (try with_reducible rfl)
     (try simp only [Act.put, List.getElem_toArray, List.getElem_cons_zero, List.getElem_cons_succ, List.setIfInBounds_toArray, List.set_cons_zero, List.set_cons_succ])
     refine wpAnyH_take (i := 8) (oi := _) (v := ?_) rfl (by kernel_rfl) (by kernel_rfl) (by kernel_rfl) (fun _ _ _ h => h) (Or.inl ⟨by rfl, ?_⟩) hHeld ?_
     rotate_left 1
     ·intro wz hz
      (try dsimp only at hz)
      go_simp
      (try with_reducible rfl)
     (try simp only [Act.put, List.getElem_toArray, List.getElem_cons_zero, List.getElem_cons_succ, List.setIfInBounds_toArray, List.set_cons_zero, List.set_cons_succ])
     refine wpAnyH_ready (rs := [9]) (by kernel_rfl) (by simp) ?_
     refine AllReadyH.cons (o := _) rfl (fun K' hK' => ?_) AllReadyH.nil
     rw [if_pos (by rfl)]
     refine wp_store_row 27 (.tmp 4) (.tmp 78) rfl D (corC kj) rfl rfl _ _ KD.out (by kernel_rfl) rfl (by rw [← Array.all_toList]; rfl) ?_
     refine hK'.out _ _ hHeld (fun hHeld => ?_)
     clear hK' K'
     refine wpAnyH_done (by kernel_rfl) ?_ _
     go_wp2
     go_roundw
     case rel => exact ⟨i + 1, by omega, by go_num, hkj.out ▸ setRow_heap _ _ _ (corC kj) _ _ KD.out, below_row B.out hDW⟩
     case measure => first | (simp [intOf]; done) | (simp [intOf]; omega)
    ·obtain rfl : i = 7 := by omega
     have a5 := hf.out 5 (by omega)
     have a6 := hf.out 6 (by omega)
     have HA5 : Hid (∀ w : World, Below W.heap.size W w → Calls Tryz.prog 24 #[.slice A n c, .int .i64 5] w fun e w' => e = .returned (.int .i64 (f 5)) ∧ w = w') := Lib.hid a5.2.2
     have HA6 : Hid (∀ w : World, Below W.heap.size W w → Calls Tryz.prog 24 #[.slice A n c, .int .i64 6] w fun e w' => e = .returned (.int .i64 (f 6)) ∧ w = w') := Lib.hid a6.2.2
     have b5 := a5.1
     have b5' := a5.2.1
     have b6 := a6.1
     have b6' := a6.2.1
     clear a5 a6
     have c_t : wr.cell? ⟨D, 8, none⟩ = some (.int .i64 0) := CorAt.c_t KD
     have epc : (f 6) % 256 * 256 + (f 5) % 256 = f 6 * 256 + f 5 := by omega
     have c_pc : wr.cell? ⟨D, 5, none⟩ = some (.int .i64 (f 6 * 256 + f 5)) := epc ▸ CorAt.c_pc KD
     have c_p : wr.cell? ⟨D, 4, none⟩ = some (.int .i64 (wI k.p 4 true)) := CorAt.c_p KD
     have e4 := tst_i64 (wI k.p 4 true) 4 (by decide)
     rw [tst_i] at e4
     have e4' : ¬ bits .and .i64 (wI k.p 4 true) 4 = 0 := by simpa using e4
     clear e4 epc
     generalize wI k.p 4 true = pp at c_p e4' ⊢
     have b1 : IntKind.i64.wrap (f 6 * 256) = f 6 * 256 := IntWalk.i64_in _ ⟨by omega, by omega⟩
     have b2 : IntKind.i64.wrap (f 6 * 256 + f 5) = f 6 * 256 + f 5 := IntWalk.i64_in _ ⟨by omega, by omega⟩
     replace KD := Lib.hid KD
     clear hf hE hOk hkd KD
     generalize f 5 = g5 at *
     generalize f 6 = g6 at *
     go_upto_region 16 with fail
     refine wp_region_held_drew (S := fun w' => Hid (w'.cell? ⟨D, 8, none⟩ = some (.int .i64 0) ∧ w'.cell? ⟨D, 5, none⟩ = some (.int .i64 (g6 * 256 + g5)) ∧ w'.cell? ⟨D, 4, none⟩ = some (.int .i64 pp))) (by kernel_rfl) (Lib.hid ⟨c_t, c_pc, c_p⟩) (fun hHeld => ?_)
     have B := Lib.hid (B.drew)
     clear c_t c_pc c_p
     generalize World.drew _ = u3 at B hHeld ⊢
     refine wpAnyH_take (i := 0) (oi := _) (v := ?_) rfl (by kernel_rfl) (by kernel_rfl) (by kernel_rfl) (fun _ _ _ h => h) (Or.inl ⟨by rfl, ?_⟩) hHeld ?_
     rotate_left 1
     ·intro wz hz
      (try dsimp only at hz)
      go_simp
      (try with_reducible rfl)
     (try simp only [Act.put, List.getElem_toArray, List.getElem_cons_zero, List.setIfInBounds_toArray, List.set_cons_zero, List.set_cons_succ])
     refine wpAnyH_take (i := 1) (oi := _) (v := ?_) rfl (by kernel_rfl) (by kernel_rfl) (by kernel_rfl) (fun _ _ _ h => h) (Or.inl ⟨by rfl, ?_⟩) hHeld ?_
     rotate_left 1
     ·intro wz hz
      (try dsimp only at hz)
      have cc := (Hid.out hz).1
      go_simp
      (try with_reducible rfl)
     (try simp only [Act.put, List.getElem_toArray, List.getElem_cons_zero, List.getElem_cons_succ, List.setIfInBounds_toArray, List.set_cons_zero, List.set_cons_succ])
     refine wpAnyH_take (i := 2) (oi := _) (v := ?_) rfl (by kernel_rfl) (by kernel_rfl) (by kernel_rfl) (fun _ _ _ h => h) (Or.inl ⟨by rfl, ?_⟩) hHeld ?_
     rotate_left 1
     ·intro wz hz
      (try dsimp only at hz)
      go_simp
      (try with_reducible rfl)
     (try simp only [Act.put, List.getElem_toArray, List.getElem_cons_zero, List.getElem_cons_succ, List.setIfInBounds_toArray, List.set_cons_zero, List.set_cons_succ])
     refine wpAnyH_take (i := 3) (oi := _) (v := ?_) rfl (by kernel_rfl) (by kernel_rfl) (by kernel_rfl) (fun _ _ _ h => h) (Or.inl ⟨by rfl, ?_⟩) hHeld ?_
     rotate_left 1
     ·intro wz hz
      (try dsimp only at hz)
      go_simp
      (try with_reducible rfl)
     (try simp only [Act.put, List.getElem_toArray, List.getElem_cons_zero, List.getElem_cons_succ, List.setIfInBounds_toArray, List.set_cons_zero, List.set_cons_succ])
     refine wpAnyH_take (i := 4) (oi := _) (v := ?_) rfl (by kernel_rfl) (by kernel_rfl) (by kernel_rfl) (fun _ _ _ h => h) (Or.inl ⟨by rfl, ?_⟩) hHeld ?_
     rotate_left 1
     ·intro wz hz
      (try dsimp only at hz)
      go_simp
      (try with_reducible rfl)
     (try simp only [Act.put, List.getElem_toArray, List.getElem_cons_zero, List.getElem_cons_succ, List.setIfInBounds_toArray, List.set_cons_zero, List.set_cons_succ])
     refine wpAnyH_take (i := 5) (oi := _) (v := ?_) rfl (by kernel_rfl) (by kernel_rfl) (by kernel_rfl) (fun _ _ _ h => h) (Or.inl ⟨by rfl, ?_⟩) hHeld ?_
     rotate_left 1
     ·intro wz hz
      (try dsimp only at hz)
      go_simp
      (try with_reducible rfl)
     (try simp only [Act.put, List.getElem_toArray, List.getElem_cons_zero, List.getElem_cons_succ, List.setIfInBounds_toArray, List.set_cons_zero, List.set_cons_succ])
     refine wpAnyH_take (i := 6) (oi := _) (v := ?_) rfl (by kernel_rfl) (by kernel_rfl) (by kernel_rfl) (fun _ _ _ h => h) (Or.inl ⟨by rfl, ?_⟩) hHeld ?_
     rotate_left 1
     ·intro wz hz
      (try dsimp only at hz)
      have cc := (Hid.out hz).2.1
      go_simp
      (try with_reducible rfl)
     (try simp only [Act.put, List.getElem_toArray, List.getElem_cons_zero, List.getElem_cons_succ, List.setIfInBounds_toArray, List.set_cons_zero, List.set_cons_succ])
     refine wpAnyH_take (i := 7) (oi := _) (v := ?_) rfl (by kernel_rfl) (by kernel_rfl) (by kernel_rfl) (fun _ _ _ h => h) (Or.inl ⟨by rfl, ?_⟩) hHeld ?_
     rotate_left 1
     ·intro wz hz
      (try dsimp only at hz)
      go_simp
      (try with_reducible rfl)
     (try simp only [Act.put, List.getElem_toArray, List.getElem_cons_zero, List.getElem_cons_succ, List.setIfInBounds_toArray, List.set_cons_zero, List.set_cons_succ])
     refine wpAnyH_take (i := 10) (oi := _) (v := ?_) rfl (by kernel_rfl) (by kernel_rfl) (by kernel_rfl) (fun _ _ _ h => h) (Or.inl ⟨by rfl, ?_⟩) hHeld ?_
     rotate_left 1
     ·intro wz hz
      (try dsimp only at hz)
      go_simp
      (try with_reducible rfl)
     (try simp only [Act.put, List.getElem_toArray, List.getElem_cons_zero, List.getElem_cons_succ, List.setIfInBounds_toArray, List.set_cons_zero, List.set_cons_succ])
     refine wpAnyH_ready (rs := [8]) (by kernel_rfl) (by simp) ?_
     refine AllReadyH.cons (o := _) rfl (fun K' hK' => ?_) AllReadyH.nil
     go_simp
     (go_at_call 24; refine (HA6.out _ B.out).mono ?_; rintro e w5 ⟨rfl, rfl⟩)
     refine hK'.out _ _ hHeld (fun hHeld => ?_)
     clear hK' K'
     (try simp only [Act.put, List.getElem_toArray, List.getElem_cons_zero, List.getElem_cons_succ, List.setIfInBounds_toArray, List.set_cons_zero, List.set_cons_succ])
     refine wpAnyH_take (i := 9) (oi := _) (v := ?_) rfl (by kernel_rfl) (by kernel_rfl) (by kernel_rfl) (fun _ _ _ h => h) (Or.inl ⟨by rfl, ?_⟩) hHeld ?_
     rotate_left 1
     ·intro wz hz
      (try dsimp only at hz)
      go_simp
      (try with_reducible rfl)
     (try simp only [Act.put, List.getElem_toArray, List.getElem_cons_zero, List.getElem_cons_succ, List.setIfInBounds_toArray, List.set_cons_zero, List.set_cons_succ])
     refine wpAnyH_ready (rs := [11]) (by kernel_rfl) (by simp) ?_
     refine AllReadyH.cons (o := _) rfl (fun K' hK' => ?_) AllReadyH.nil
     go_simp
     (go_at_call 24; refine (HA5.out _ B.out).mono ?_; rintro e w5 ⟨rfl, rfl⟩)
     refine hK'.out _ _ hHeld (fun hHeld => ?_)
     clear hK' K'
     (try simp only [Act.put, List.getElem_toArray, List.getElem_cons_zero, List.getElem_cons_succ, List.setIfInBounds_toArray, List.set_cons_zero, List.set_cons_succ])
     refine wpAnyH_take (i := 12) (oi := _) (v := ?_) rfl (by kernel_rfl) (by kernel_rfl) (by kernel_rfl) (fun _ _ _ h => h) (Or.inl ⟨by rfl, ?_⟩) hHeld ?_
     rotate_left 1
     ·intro wz hz
      (try dsimp only at hz)
      go_simp
      (try with_reducible rfl)
     (try simp only [Act.put, List.getElem_toArray, List.getElem_cons_zero, List.getElem_cons_succ, List.setIfInBounds_toArray, List.set_cons_zero, List.set_cons_succ])
     refine wpAnyH_take (i := 13) (oi := _) (v := ?_) rfl (by kernel_rfl) (by kernel_rfl) (by kernel_rfl) (fun _ _ _ h => h) (Or.inl ⟨by rfl, ?_⟩) hHeld ?_
     rotate_left 1
     ·intro wz hz
      (try dsimp only at hz)
      go_simp
      (try with_reducible rfl)
     (try simp only [Act.put, List.getElem_toArray, List.getElem_cons_zero, List.getElem_cons_succ, List.setIfInBounds_toArray, List.set_cons_zero, List.set_cons_succ])
     refine wpAnyH_take (i := 14) (oi := _) (v := ?_) rfl (by kernel_rfl) (by kernel_rfl) (by kernel_rfl) (fun _ _ _ h => h) (Or.inl ⟨by rfl, ?_⟩) hHeld ?_
     rotate_left 1
     ·intro wz hz
      (try dsimp only at hz)
      go_simp
      (try with_reducible rfl)
     (try simp only [Act.put, List.getElem_toArray, List.getElem_cons_zero, List.getElem_cons_succ, List.setIfInBounds_toArray, List.set_cons_zero, List.set_cons_succ])
     refine wpAnyH_take (i := 15) (oi := _) (v := ?_) rfl (by kernel_rfl) (by kernel_rfl) (by kernel_rfl) (fun _ _ _ h => h) (Or.inl ⟨by rfl, ?_⟩) hHeld ?_
     rotate_left 1
     ·intro wz hz
      (try dsimp only at hz)
      go_simp
      (try with_reducible rfl)
     (try simp only [Act.put, List.getElem_toArray, List.getElem_cons_zero, List.getElem_cons_succ, List.setIfInBounds_toArray, List.set_cons_zero, List.set_cons_succ])
     refine wpAnyH_take (i := 16) (oi := _) (v := ?_) rfl (by kernel_rfl) (by kernel_rfl) (by kernel_rfl) (fun _ _ _ h => h) (Or.inl ⟨by rfl, ?_⟩) hHeld ?_
     rotate_left 1
     ·intro wz hz
      (try dsimp only at hz)
      go_simp
      (try with_reducible rfl)
     (try simp only [Act.put, List.getElem_toArray, List.getElem_cons_zero, List.getElem_cons_succ, List.setIfInBounds_toArray, List.set_cons_zero, List.set_cons_succ])
     refine wpAnyH_take (i := 17) (oi := _) (v := ?_) rfl (by kernel_rfl) (by kernel_rfl) (by kernel_rfl) (fun _ _ _ h => h) (Or.inl ⟨by rfl, ?_⟩) hHeld ?_
     rotate_left 1
     ·intro wz hz
      (try dsimp only at hz)
      go_simp
      (try with_reducible rfl)
     (try simp only [Act.put, List.getElem_toArray, List.getElem_cons_zero, List.getElem_cons_succ, List.setIfInBounds_toArray, List.set_cons_zero, List.set_cons_succ])
     refine wpAnyH_take (i := 18) (oi := _) (v := ?_) rfl (by kernel_rfl) (by kernel_rfl) (by kernel_rfl) (fun _ _ _ h => h) (Or.inl ⟨by rfl, ?_⟩) hHeld ?_
     rotate_left 1
     ·intro wz hz
      (try dsimp only at hz)
      have cc := (Hid.out hz).2.2
      go_simp
      (try with_reducible rfl)
     (try simp only [Act.put, List.getElem_toArray, List.getElem_cons_zero, List.getElem_cons_succ, List.setIfInBounds_toArray, List.set_cons_zero, List.set_cons_succ])
     refine wpAnyH_take (i := 19) (oi := _) (v := ?_) rfl (by kernel_rfl) (by kernel_rfl) (by kernel_rfl) (fun _ _ _ h => h) (Or.inl ⟨by rfl, ?_⟩) hHeld ?_
     rotate_left 1
     ·intro wz hz
      (try dsimp only at hz)
      go_simp
      (try with_reducible rfl)
     (try simp only [Act.put, List.getElem_toArray, List.getElem_cons_zero, List.getElem_cons_succ, List.setIfInBounds_toArray, List.set_cons_zero, List.set_cons_succ])
     refine wpAnyH_take (i := 20) (oi := _) (v := ?_) rfl (by kernel_rfl) (by kernel_rfl) (by kernel_rfl) (fun _ _ _ h => h) (Or.inl ⟨by rfl, ?_⟩) hHeld ?_
     rotate_left 1
     ·intro wz hz
      (try dsimp only at hz)
      go_simp
      (try with_reducible rfl)
     (try simp only [Act.put, List.getElem_toArray, List.getElem_cons_zero, List.getElem_cons_succ, List.setIfInBounds_toArray, List.set_cons_zero, List.set_cons_succ])
     refine wpAnyH_take (i := 21) (oi := _) (v := ?_) rfl (by kernel_rfl) (by kernel_rfl) (by kernel_rfl) (fun _ _ _ h => h) (Or.inl ⟨by rfl, ?_⟩) hHeld ?_
     rotate_left 1
     ·intro wz hz
      (try dsimp only at hz)
      go_simp
      (try with_reducible rfl)
     (try simp only [Act.put, List.getElem_toArray, List.getElem_cons_zero, List.getElem_cons_succ, List.setIfInBounds_toArray, List.set_cons_zero, List.set_cons_succ])
     refine wpAnyH_take (i := 22) (oi := _) (v := ?_) rfl (by kernel_rfl) (by kernel_rfl) (by kernel_rfl) (fun _ _ _ h => h) (Or.inl ⟨by rfl, ?_⟩) hHeld ?_
     rotate_left 1
     ·intro wz hz
      (try dsimp only at hz)
      go_simp
      (try with_reducible rfl)
     (try simp only [Act.put, List.getElem_toArray, List.getElem_cons_zero, List.getElem_cons_succ, List.setIfInBounds_toArray, List.set_cons_zero, List.set_cons_succ])
     refine wpAnyH_done (by kernel_rfl) ?_ _
     go_wp2
     go_ret
     have e5 : (bits .and .i64 pp 4 != 0) = true := by simpa using e4'
     exact ⟨by show Ending.returned (Value.bool (bits .and .i64 pp 4 != 0)) = _; rw [e5], B.out⟩
end Go.Proofs.YthklebkpoccblaaGreat
