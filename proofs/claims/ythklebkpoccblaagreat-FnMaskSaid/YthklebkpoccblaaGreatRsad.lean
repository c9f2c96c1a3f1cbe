/-
  Texts put together by program: LrF.
  Conditions: as each theorem says.
-/
import Derived.Test.YthklebkpoccblaaGreatRsac
namespace Go.Proofs.YthklebkpoccblaaGreat
open Go.RowKit
set_option maxRecDepth 100000 in
set_option maxHeartbeats 20000000 in
theorem mask_law (A : Option Addr) (n c : Nat) (W : World) (hrow : RowB W A n) :
  Calls Tryz.prog 7 #[.slice A n c] W fun e w' => e = .returned (.bool true) ∧ Below W.heap.size W w' := by
 have hm := hrow.1
 unfold maxLen at hm
 by_cases hbig : 1048576 < n
 ·clear hrow
  go_enter Tryz.func7, Tryz.ntmps7
  go_wp2_with (go_in)
  go_ret
  exact ⟨rfl, Below.refl _ _⟩
 ·have hcode := hrow.code (by omega)
  have hat : ∀ i : Nat, ∃ v : Int, i ≤ 1000 → (0 ≤ v ∧ v ≤ 255 ∧ ∀ w : World, Below W.heap.size W w → Calls Tryz.prog 24 #[.slice A n c, .int .i64 (i : Int)] w fun e w' => e = .returned (.int .i64 v) ∧ w = w') := fun i => by
   by_cases h : i ≤ 1000
   ·obtain ⟨v, hv⟩ := at_fix hcode i i rfl h
    exact ⟨v, fun _ => hv⟩
   ·exact ⟨0, fun h2 => absurd h2 h⟩
  obtain ⟨f, hf⟩ := Classical.axiomOfChoice hat
  replace hf := Lib.hid hf
  clear hat
  have hD := Lib.hid (drawReset_any W.heap.size n c A W (Nat.le_refl _) hcode)
  clear hrow hcode
  go_enter Tryz.func7, Tryz.ntmps7
  go_wp2_with (first
   | (go_at_call 8; go_in)
   | (go_at_call 21; refine (hD.out).mono ?_; rintro e w1 ⟨k, rfl, hb⟩; refine Hid.out ?_))
  have e1 := hb.size
  clear hD
  refine Lib.hid ?_
  go_wp2_with (first | (refine store_row (by rfl) 27 _ _ (by rfl) w1.heap.size (corC k) (by rfl) (by rfl) 15 cor_size (blk_new w1 _) rfl rfl (by rfl) ?_; refine Hid.out ?_))
  have hbV : Below w1.heap.size w1 (World.setRow (World.alloc w1 (.cells #[.int .i64 0, .int .i64 0, .int .i64 0, .int .i64 0, .int .i64 0, .int .i64 0, .int .i64 0, .int .i64 0, .int .i64 0, .int .i64 0, .int .i64 0, .int .i64 0, .bool false, .int .i64 0, .bool false] 27)) w1.heap.size (corC k)) := below_row (below_alloc (Below.refl _ _) _) (Nat.le_refl _)
  have KC := Lib.hid (setRow_heap _ _ _ (corC k) _ _ (blk_new w1 (.cells #[.int .i64 0, .int .i64 0, .int .i64 0, .int .i64 0, .int .i64 0, .int .i64 0, .int .i64 0, .int .i64 0, .int .i64 0, .int .i64 0, .int .i64 0, .int .i64 0, .bool false, .int .i64 0, .bool false] 27)))
  have B := Lib.hid (below_then hb hbV)
  have e2 : w1.heap.size < (World.setRow (World.alloc w1 (.cells #[.int .i64 0, .int .i64 0, .int .i64 0, .int .i64 0, .int .i64 0, .int .i64 0, .int .i64 0, .int .i64 0, .int .i64 0, .int .i64 0, .int .i64 0, .int .i64 0, .bool false, .int .i64 0, .bool false] 27)) w1.heap.size (corC k)).heap.size := by rw [setRow_size, alloc_size]; omega
  clear hbV
  generalize World.setRow (World.alloc w1 (.cells #[.int .i64 0, .int .i64 0, .int .i64 0, .int .i64 0, .int .i64 0, .int .i64 0, .int .i64 0, .int .i64 0, .int .i64 0, .int .i64 0, .int .i64 0, .int .i64 0, .bool false, .int .i64 0, .bool false] 27)) w1.heap.size (corC k) = w2 at KC B e2 ⊢
  clear hb
  have hCW : W.heap.size ≤ w1.heap.size := e1
  generalize w1.heap.size = C at KC e2 hCW ⊢
  clear e1
  replace KC : Hid (CorAt C k w2) := KC
  have HOK := fun w => s_ok k w
  have HIK := fun w => show Calls Tryz.prog 12 #[.agg (corC k)] w (fun e w' => e = .returned (.bool (okCo k.a k.x k.y k.s k.p k.pc k.sq k.cd k.t k.lo k.hi k.vl k.nx)) ∧ Below w.heap.size w w') from impl_coreOk k.a k.x k.y k.s k.p k.pc k.sq k.cd k.t k.lo k.hi k.vl k.cr k.nx k.jm w
  cases hok : okCo k.a k.x k.y k.s k.p k.pc k.sq k.cd k.t k.lo k.hi k.vl k.nx
  ·rw [hok] at HOK HIK
   replace HOK := Lib.hid HOK
   replace HIK := Lib.hid HIK
   refine Lib.hid ?_
   go_wp2_with (first | (refine load_core (by rfl) _ (by rfl) _ (by rfl) KC.out ?_) | (go_at_call 13; refine (HOK.out _).mono ?_; rintro e w6 ⟨rfl, hb⟩; refine Hid.out ?_))
   have KC := Lib.hid (CorAt.below KC.out hb)
   have B := Lib.hid (below_then B.out hb)
   clear hb
   refine Lib.hid ?_
   go_wp2_with (first | (refine load_core (by rfl) _ (by rfl) _ (by rfl) KC.out ?_) | (go_at_call 12; refine (HIK.out _).mono ?_; rintro e w7 ⟨rfl, hb⟩))
   go_ret
   exact ⟨rfl, below_then B.out hb⟩
  ·rw [hok] at HOK
   replace HOK := Lib.hid HOK
   have hK := bds_of hok
   clear HIK hok
   refine Lib.hid ?_
   go_wp2_with (first | (refine load_core (by rfl) _ (by rfl) _ (by rfl) KC.out ?_) | (go_at_call 13; refine (HOK.out _).mono ?_; rintro e w6 ⟨rfl, hb⟩; refine Hid.out ?_))
   have KC := Lib.hid (CorAt.below KC.out hb)
   have B := Lib.hid (below_then B.out hb)
   have e6 := hb.size
   clear hb HOK
   have fz := CorAt.free KC.out
   refine Lib.hid ?_
   have hA := hf.out 1 (by omega)
   have HA : Hid (∀ w : World, Below W.heap.size W w → Calls Tryz.prog 24 #[.slice A n c, .int .i64 1] w fun e w' => e = .returned (.int .i64 (f 1)) ∧ w = w') := Lib.hid hA.2.2
   clear hA
   go_upto_region 9 with (first | (refine stx_t (by rfl) (by rfl) _ _ (by rfl) _ (by rfl) _ (by rfl) (KC.out) ?_) | (refine stx_jm (by rfl) (by rfl) _ _ (by rfl) _ (by rfl) _ (by rfl) (show CorAt C ({ k with t := 0 } : CorI) _ from setRow_heap _ _ _ _ _ _ KC.out) ?_) | (refine stx_nx (by rfl) (by rfl) _ _ (by rfl) _ (by rfl) _ (by rfl) (show CorAt C ({ k with t := 0, jm := false } : CorI) _ from setRow_heap _ _ _ _ _ _ (setRow_heap _ _ _ _ _ _ KC.out)) ?_))
   have KC : Hid (CorAt C ({ k with t := 0, jm := false, nx := 0 } : CorI) (((w6.setRow C (corC ({ k with t := 0 } : CorI))).setRow C (corC ({ k with t := 0, jm := false } : CorI))).setRow C (corC ({ k with t := 0, jm := false, nx := 0 } : CorI)))) := Lib.hid (setRow_heap _ _ _ _ _ _ (setRow_heap _ _ _ _ _ _ (setRow_heap _ _ _ _ _ _ KC.out)))
   have B : Hid (Below W.heap.size W (((w6.setRow C (corC ({ k with t := 0 } : CorI))).setRow C (corC ({ k with t := 0, jm := false } : CorI))).setRow C (corC ({ k with t := 0, jm := false, nx := 0 } : CorI)))) := Lib.hid (below_row (below_row (below_row B.out hCW) hCW) hCW)
   have e7 : Hid ((((w6.setRow C (corC ({ k with t := 0 } : CorI))).setRow C (corC ({ k with t := 0, jm := false } : CorI))).setRow C (corC ({ k with t := 0, jm := false, nx := 0 } : CorI))).heap.size = w6.heap.size) := Lib.hid (by simp only [setRow_size])
   clear fz
   generalize (((w6.setRow C (corC ({ k with t := 0 } : CorI))).setRow C (corC ({ k with t := 0, jm := false } : CorI))).setRow C (corC ({ k with t := 0, jm := false, nx := 0 } : CorI))) = w7a at KC B e7 ⊢
   go_upto_region 10 with (first | (go_at_call 24; refine (HA.out _ B.out).mono ?_; rintro e w8 ⟨rfl, rfl⟩) | (go_at_call 26; refine (spec_pulled _ _).mono ?_; rintro e w8 ⟨rfl, rfl⟩) | (refine stx_p (by rfl) (by rfl) _ _ (by rfl) _ (by rfl) _ (by rfl) (KC.out) ?_))
   have KC : Hid (CorAt C (mk0 ({ k with p := keptI (f 1) } : CorI)) (w7a.setRow C (corC ({ k with t := 0, jm := false, nx := 0, p := keptI (f 1) } : CorI)))) := Lib.hid (setRow_heap _ _ _ _ _ _ KC.out)
   have B : Hid (Below W.heap.size W (w7a.setRow C (corC ({ k with t := 0, jm := false, nx := 0, p := keptI (f 1) } : CorI)))) := Lib.hid (below_row B.out hCW)
   have e7 : Hid ((w7a.setRow C (corC ({ k with t := 0, jm := false, nx := 0, p := keptI (f 1) } : CorI))).heap.size = w6.heap.size) := Lib.hid (by rw [setRow_size]; exact e7.out)
   have hkb := keptB_kept (f 1)
   have hkd := keptI_bd (f 1)
   generalize keptI (f 1) = pp at KC B e7 hkb hkd ⊢
   obtain ⟨kp, hkp⟩ : ∃ kp : CorI, ({ k with p := pp } : CorI) = kp := ⟨_, rfl⟩
   generalize (w7a.setRow C (corC ({ k with t := 0, jm := false, nx := 0, p := pp } : CorI))) = w7 at KC B e7 ⊢
   have hOk : Hid (CorI.Ok (mk0 ({ k with p := pp } : CorI))) := Lib.hid { hK with hp := hkd, kp := hkb, ht := rfl, hnx := (by decide : (0:Int) ≤ 0 ∧ (0:Int) ≤ 3) }
   have hpc : 0 ≤ kp.pc ∧ kp.pc ≤ 65535 := hkp ▸ hK.hpc
   rw [hkp] at KC hOk
   clear hkp hK HA hf hkb hkd
   go_wp2_with (first | (refine store_row (by rfl) 29 _ _ (by rfl) w7.heap.size #[.bool false, .bool false, .bool true] (by rfl) (by rfl) 3 (by kernel_rfl) (blk_new w7 _) rfl rfl (by rfl) ?_; refine Hid.out ?_))
   have hbV : Below w7.heap.size w7 (World.setRow (World.alloc w7 (.cells #[.bool false, .bool false, .bool false] 29)) w7.heap.size #[.bool false, .bool false, .bool true]) := below_row (below_alloc (Below.refl _ _) _) (Nat.le_refl _)
   have KX := Lib.hid (setRow_heap _ _ _ #[.bool false, .bool false, .bool true] _ _ (blk_new w7 (.cells #[.bool false, .bool false, .bool false] 29)))
   have B := Lib.hid (below_then B.out hbV)
   have KC := Lib.hid (CorAt.below KC.out hbV)
   have e8 : w7.heap.size < (World.setRow (World.alloc w7 (.cells #[.bool false, .bool false, .bool false] 29)) w7.heap.size #[.bool false, .bool false, .bool true]).heap.size := by rw [setRow_size, alloc_size]; omega
   clear hbV
   generalize World.setRow (World.alloc w7 (.cells #[.bool false, .bool false, .bool false] 29)) w7.heap.size #[.bool false, .bool false, .bool true] = w8 at KX B KC e8 ⊢
   have e7 := e7.out
   have hne : C ≠ w7.heap.size := by omega
   have hXW : W.heap.size ≤ w7.heap.size := by omega
   generalize w7.heap.size = X at KX hne hXW e8 ⊢
   clear e2 e6 e7
   have c_pc : w8.cell? ⟨C, 5, none⟩ = some (.int .i64 kp.pc) := CorAt.c_pc (k := mk0 kp) KC.out
   have hba := and16 (kp.pc + 1)
   obtain ⟨pb0, pb1⟩ := hpc
   refine Lib.hid ?_
   go_upto_region 12 with fail
   clear c_pc hba
   go_wp2_with (first | (refine load_core (by rfl) _ (by rfl) _ (by rfl) KC.out ?_) | (refine load_row (by rfl) 29 _ (by rfl) _ (by rfl) 3 _ Tryz.underlying29 rfl (by kernel_rfl) KX.out rfl ?_) | (go_at_call 10; refine (mk_fed0 hOk.out _).mono ?_; rintro e u9 ⟨rfl, hb⟩; refine Hid.out ?_))
   have KC := Lib.hid (CorAt.below KC.out hb)
   have KX := Lib.hid (blk_below KX.out hb)
   have B := Lib.hid (below_then B.out hb)
   have eu := hb.size
   clear hb
   refine Lib.hid ?_
   go_wp2_with (first | (refine store_some (by rfl) (by rfl) _ _ (by rfl) _ (by rfl) _ (by rfl) (CorSome.of KC.out) ?_) | (refine store_row (by rfl) 29 _ _ (by rfl) X #[.bool false, .bool false, .bool true] (by rfl) (by rfl) 3 (by kernel_rfl) (row_row KX.out (Ne.symm hne)) rfl rfl (by rfl) ?_; refine Hid.out ?_))
   have KC := Lib.hid (show CorAt C (mk1 kp) ((u9.setRow C (corC (mk1 kp))).setRow X #[.bool false, .bool false, .bool true]) from row_row (setRow_heap _ _ _ _ _ _ KC.out) hne)
   have KX := Lib.hid (setRow_heap _ _ _ #[.bool false, .bool false, .bool true] _ _ (row_row (cs := corC (mk1 kp)) KX.out (Ne.symm hne)))
   have B := Lib.hid (below_row (cs := #[.bool false, .bool false, .bool true]) (below_row (cs := corC (mk1 kp)) B.out hCW) hXW)
   have es : ((u9.setRow C (corC (mk1 kp))).setRow X #[.bool false, .bool false, .bool true]).heap.size = u9.heap.size := by simp only [setRow_size]
   generalize (u9.setRow C (corC (mk1 kp))).setRow X #[.bool false, .bool false, .bool true] = w9 at KC KX B es ⊢
   have hXw9 : X < w9.heap.size := by omega
   clear es eu
   refine Lib.hid ?_
   go_wp2_with (first | (refine load_core (by rfl) _ (by rfl) _ (by rfl) KC.out ?_) | (refine load_row (by rfl) 29 _ (by rfl) _ (by rfl) 3 _ Tryz.underlying29 rfl (by kernel_rfl) KX.out rfl ?_) | (go_at_call 10; refine (mk_fed1 hOk.out _).mono ?_; rintro e u9 ⟨rfl, hb⟩; refine Hid.out ?_))
   have KC := Lib.hid (CorAt.below KC.out hb)
   have KX := Lib.hid (blk_below KX.out hb)
   have B := Lib.hid (below_then B.out hb)
   have eu := hb.size
   clear hb
   refine Lib.hid ?_
   go_wp2_with (first | (refine store_some (by rfl) (by rfl) _ _ (by rfl) _ (by rfl) _ (by rfl) (CorSome.of KC.out) ?_) | (refine store_row (by rfl) 29 _ _ (by rfl) X #[.bool false, .bool false, .bool true] (by rfl) (by rfl) 3 (by kernel_rfl) (row_row KX.out (Ne.symm hne)) rfl rfl (by rfl) ?_; refine Hid.out ?_))
   have KC := Lib.hid (show CorAt C (mk2 kp (takeN false true kp.p)) ((u9.setRow C (corC (mk2 kp (takeN false true kp.p)))).setRow X #[.bool false, .bool false, .bool true]) from row_row (setRow_heap _ _ _ _ _ _ KC.out) hne)
   have KX := Lib.hid (setRow_heap _ _ _ #[.bool false, .bool false, .bool true] _ _ (row_row (cs := corC (mk2 kp (takeN false true kp.p))) KX.out (Ne.symm hne)))
   have B := Lib.hid (below_row (cs := #[.bool false, .bool false, .bool true]) (below_row (cs := corC (mk2 kp (takeN false true kp.p))) B.out hCW) hXW)
   have es : ((u9.setRow C (corC (mk2 kp (takeN false true kp.p)))).setRow X #[.bool false, .bool false, .bool true]).heap.size = u9.heap.size := by simp only [setRow_size]
   generalize (u9.setRow C (corC (mk2 kp (takeN false true kp.p)))).setRow X #[.bool false, .bool false, .bool true] = w10 at KC KX B es ⊢
   have hXw10 : X < w10.heap.size := by omega
   clear es eu
   refine Lib.hid ?_
   have e4 := tst_i64 kp.p 4 (by decide)
   have c_p : w10.cell? ⟨C, 4, none⟩ = some (.int .i64 kp.p) := CorAt.c_p (k := mk2 kp (takeN false true kp.p)) KC.out
   have c_t : w10.cell? ⟨C, 8, none⟩ = some (.int .i64 0) := CorAt.c_t (k := mk2 kp (takeN false true kp.p)) KC.out
   cases ht : tst kp.p 4
   ·rw [ht] at e4
    have e4' : bits .and .i64 kp.p 4 = 0 := by simpa using e4
    have tk : takeN false true kp.p = 1 := by unfold takeN; rw [ht]; rfl
    rw [tk] at KC
    replace KC : Hid (CorAt C (mkC kp 0) w10) := KC
    clear e4 tk ht c_t
    go_upto_region 16 with fail
    clear c_p e4'
    obtain ⟨i0, hif, hz0, hz1, hz2⟩ := info_parts infoInt
    have hN : X < w10.heap.size := hXw10
    have hCN : C < w10.heap.size := (Array.getElem?_eq_some_iff.1 KC.out).1
    skip
    go_wp2_with (fail)
    go_loopw [6, 7] (fun v6 v7 wr => ∃ i : Nat, i ≤ 7 ∧ v7 = .int .i64 i ∧ CorAt C (mkC kp i) wr ∧ wr.heap[X]? = some (.cells #[.bool false, .bool false, .bool true] 29 (0, 0)) ∧ wr.ownsRow w10.heap.size 3 1 v6 (mkN i) (mkP kp i) ∧ Below W.heap.size W wr ∧ w10.heap.size ≤ wr.heap.size) (fun _ v7 _ => 7 - (intOf v7).toNat)
    case atStart => exact ⟨0, by omega, rfl, CorAt.below KC.out (below_alloc (Below.refl _ _) _), blk_old KX.out, World.ownsRow_lit _ #[] 0 (Nat.le_refl _) (by decide) rfl, below_alloc B.out _, by simp⟩
    case round =>
     obtain ⟨i, hi, rfl, KC, KX, hown, B, hsz⟩ := hrel
     by_cases hlt : i < 7
     ·replace KC := Lib.hid KC
      replace KX := Lib.hid KX
      replace hown := Lib.hid hown
      replace B := Lib.hid B
      have hlz : (i : Int) < 7 := by omega
      have HW := Lib.hid (mk_want hOk.out i hlt)
      have HF := Lib.hid (mk_fed hOk.out i hlt)
      go_wp2_with (first | (refine load_core (by rfl) _ (by rfl) _ (by rfl) KC.out ?_) | (refine load_row (by rfl) 29 _ (by rfl) _ (by rfl) 3 _ Tryz.underlying29 rfl (by kernel_rfl) KX.out rfl ?_) | (go_at_call 16; refine (HW.out _).mono ?_; rintro e u1 ⟨rfl, hb⟩; refine Hid.out ?_))
      have KC := Lib.hid (CorAt.below KC.out hb)
      have KX := Lib.hid (blk_below KX.out hb)
      have hown := Lib.hid (own_blocks hown.out (fun b _ hl => hb.block b hl))
      have B := Lib.hid (below_then B.out hb)
      have hsz1 : w10.heap.size ≤ u1.heap.size := Nat.le_trans hsz hb.size
      clear hb HW hsz
      refine Lib.hid ?_
      go_wp2_with (first | (refine store_row (by rfl) 38 _ _ (by rfl) u1.heap.size #[.int .i64 (mkA kp i), .int .i64 (mkD kp i), .bool (hkW i)] (by rfl) (by rfl) 3 (by kernel_rfl) (blk_new u1 _) rfl rfl (by rfl) ?_; refine Hid.out ?_))
      have hbV : Below u1.heap.size u1 (World.setRow (World.alloc u1 (.cells #[.int .i64 0, .int .i64 0, .bool false] 38)) u1.heap.size #[.int .i64 (mkA kp i), .int .i64 (mkD kp i), .bool (hkW i)]) := below_row (below_alloc (Below.refl _ _) _) (Nat.le_refl _)
      have BU := Lib.hid (setRow_heap _ _ _ #[.int .i64 (mkA kp i), .int .i64 (mkD kp i), .bool (hkW i)] _ _ (blk_new u1 (.cells #[.int .i64 0, .int .i64 0, .bool false] 38)))
      have B := Lib.hid (below_then B.out hbV)
      have KC := Lib.hid (CorAt.below KC.out hbV)
      have KX := Lib.hid (blk_below KX.out hbV)
      have hown := Lib.hid (own_blocks hown.out (fun b _ hl => hbV.block b hl))
      have e2 : u1.heap.size < (World.setRow (World.alloc u1 (.cells #[.int .i64 0, .int .i64 0, .bool false] 38)) u1.heap.size #[.int .i64 (mkA kp i), .int .i64 (mkD kp i), .bool (hkW i)]).heap.size := by rw [setRow_size, alloc_size]; omega
      clear hbV
      generalize World.setRow (World.alloc u1 (.cells #[.int .i64 0, .int .i64 0, .bool false] 38)) u1.heap.size #[.int .i64 (mkA kp i), .int .i64 (mkD kp i), .bool (hkW i)] = u2 at BU B KC KX hown e2 ⊢
      have hsz2 : w10.heap.size ≤ u2.heap.size := by omega
      have q1 := cell_of_blk (i := 1) (v := .int .i64 (mkD kp i)) BU.out rfl
      have q2 := cell_of_blk (i := 2) (v := .bool (hkW i)) BU.out rfl
      clear e2 hsz1
      refine Lib.hid ?_
      cases hw : hkW i
      ·rw [hw] at q2
       obtain ⟨m1, m2⟩ := mkP_same kp i hw
       have hown := Lib.hid (show u2.ownsRow w10.heap.size 3 1 u6 (mkN (i + 1)) (mkP kp (i + 1)) by rw [m1, m2]; exact hown.out)
       clear m1 m2 q1
       go_upto_region 23 with fail
       clear q2 BU hw
       go_wp2_with (first | (refine load_core (by rfl) _ (by rfl) _ (by rfl) KC.out ?_) | (refine load_row (by rfl) 29 _ (by rfl) _ (by rfl) 3 _ Tryz.underlying29 rfl (by kernel_rfl) KX.out rfl ?_) | (go_at_call 10; refine (HF.out _).mono ?_; rintro e u4 ⟨rfl, hb⟩; refine Hid.out ?_))
       have KC := Lib.hid (CorAt.below KC.out hb)
       have KX := Lib.hid (blk_below KX.out hb)
       have hown := Lib.hid (own_blocks hown.out (fun b _ hl => hb.block b hl))
       have B := Lib.hid (below_then B.out hb)
       have hs4 := hb.size
       clear hb HF
       refine Lib.hid ?_
       go_wp2_with (first | (refine store_some (by rfl) (by rfl) _ _ (by rfl) _ (by rfl) _ (by rfl) (CorSome.of KC.out) ?_) | (refine store_row (by rfl) 29 _ _ (by rfl) X #[.bool false, .bool false, .bool true] (by rfl) (by rfl) 3 (by kernel_rfl) (row_row KX.out (Ne.symm hne)) rfl rfl (by rfl) ?_))
       go_roundw
       case rel => exact ⟨i + 1, by omega, by go_num, row_row (setRow_heap _ _ _ _ _ _ KC.out) hne, setRow_heap _ _ _ _ _ _ (row_row KX.out (Ne.symm hne)), own_blocks hown.out (fun b hb1 _ => (setRow_other _ _ _ _ (by omega)).trans (setRow_other _ _ _ _ (by omega))), below_row (below_row B.out hCW) hXW, by simp only [setRow_size]; omega⟩
       case measure => simp [intOf]; omega
      ·rw [hw] at q2
       obtain ⟨m1, m2⟩ := mkP_more kp i hw
       have m3 := mkN_le i
       have hw0 := hown.out
       replace m1 := Lib.hid m1
       replace m2 := Lib.hid m2
       go_upto_region 23 with (at_builtin; refine wpList_append_own _ rfl _ _ 45 rfl w10.heap.size 3 i0 (.int .i64 0) 1 8 Tryz.underlying45 hif hz0 hz1 hz2 rfl (by decide) _ _ _ rfl (hw0.alloc _) ⟨u2.heap.size, 0, none⟩ 1 1 [.int .i64 (mkD kp i)] rfl rfl ?c1 ?c2 ?c3 ?c4 ?c5 ?_)
       case c1 =>
        intro j u hj
        match j, hj with
        | 0, hj => simp at hj; subst hj; exact cell_of_blk (i := 0) (blk_new u2 (.cells #[.int .i64 (mkD kp i)] 3)) rfl
       case c2 => intro u hu; simp at hu; subst hu; rfl
       case c3 => unfold maxLen; omega
       case c4 => omega
       case c5 => simp; omega
       intro v9 w9 hown9 hgrow _
       have hown := Lib.hid (show w9.ownsRow w10.heap.size 3 1 v9 (mkN (i + 1)) (mkP kp (i + 1)) by rw [m2.out, ← m1.out]; exact hown9)
       have hlt9 := hw0.lt
       have hB9 : Below w10.heap.size u2 w9 := ((Below.refl _ _).alloc hsz2 _).grown hgrow (by simp; omega) (fun g hg => (hw0.lt g hg).1)
       have KC := Lib.hid (show CorAt C _ w9 from (hB9.block C hCN).trans KC.out)
       have KX := Lib.hid ((hB9.block X hN).trans KX.out)
       have B := Lib.hid (((B.out.alloc B.out.size _).grown hgrow (by have := B.out.size; simp; omega) (fun g hg => Nat.le_trans (Nat.le_trans hCW (Nat.le_of_lt hCN)) (hw0.lt g hg).1) : Below W.heap.size W w9))
       have hsz9 : w10.heap.size ≤ w9.heap.size := Nat.le_trans hsz2 hB9.size
       clear hlt9 hB9 hgrow hown9 hw0 q1 q2 BU hw m1 m2 hsz2
       go_wp2_with (first | (refine load_core (by rfl) _ (by rfl) _ (by rfl) KC.out ?_) | (refine load_row (by rfl) 29 _ (by rfl) _ (by rfl) 3 _ Tryz.underlying29 rfl (by kernel_rfl) KX.out rfl ?_) | (go_at_call 10; refine (HF.out _).mono ?_; rintro e u4 ⟨rfl, hb⟩; refine Hid.out ?_))
       have KC := Lib.hid (CorAt.below KC.out hb)
       have KX := Lib.hid (blk_below KX.out hb)
       have hown := Lib.hid (own_blocks hown.out (fun b _ hl => hb.block b hl))
       have B := Lib.hid (below_then B.out hb)
       have hs4 := hb.size
       clear hb HF
       refine Lib.hid ?_
       go_wp2_with (first | (refine store_some (by rfl) (by rfl) _ _ (by rfl) _ (by rfl) _ (by rfl) (CorSome.of KC.out) ?_) | (refine store_row (by rfl) 29 _ _ (by rfl) X #[.bool false, .bool false, .bool true] (by rfl) (by rfl) 3 (by kernel_rfl) (row_row KX.out (Ne.symm hne)) rfl rfl (by rfl) ?_))
       go_roundw
       case rel => exact ⟨i + 1, by omega, by go_num, row_row (setRow_heap _ _ _ _ _ _ KC.out) hne, setRow_heap _ _ _ _ _ _ (row_row KX.out (Ne.symm hne)), own_blocks hown.out (fun b hb1 _ => (setRow_other _ _ _ _ (by omega)).trans (setRow_other _ _ _ _ (by omega))), below_row (below_row B.out hCW) hXW, by simp only [setRow_size]; omega⟩
       case measure => simp [intOf]; omega
     ·obtain rfl : i = 7 := by omega
      replace hown : wr.ownsRow w10.heap.size 3 1 u6 3 [.int .i64 ((kp.pc + 1) % 65536 / 256), .int .i64 ((kp.pc + 1) % 65536 % 256), .int .i64 (pushI kp.p false)] := hown
      obtain ⟨g, cap, rfl⟩ : ∃ g cap, u6 = Value.slice (some ⟨g, 0, none⟩) 3 cap := by
       rcases hown.2 with ⟨_, h0⟩ | ⟨g, cap, cur, h0, _⟩
       ·omega
       ·exact ⟨g, cap, h0⟩
      have c0 : wr.cell? ⟨g, 0, none⟩ = some (.int .i64 ((kp.pc + 1) % 65536 / 256)) := hown.cells (g := g) rfl 0 _ rfl
      have c1 : wr.cell? ⟨g, 1, none⟩ = some (.int .i64 ((kp.pc + 1) % 65536 % 256)) := by simpa [Addr.add] using hown.cells (g := g) rfl 1 _ rfl
      have c2 : wr.cell? ⟨g, 2, none⟩ = some (.int .i64 (pushI kp.p false)) := by simpa [Addr.add] using hown.cells (g := g) rfl 2 _ rfl
      have c_p : wr.cell? ⟨C, 4, none⟩ = some (.int .i64 (wI kp.p 4 true)) := CorAt.c_p (k := mkC kp 7) KC
      have e4 := tst_i64 (wI kp.p 4 true) 4 (by decide)
      rw [tst_i] at e4
      have e4' : ¬ bits .and .i64 (wI kp.p 4 true) 4 = 0 := by simpa using e4
      have pn := push_no kp.p
      have ba := and_255 ((kp.pc + 1) % 65536)
      have pc0 : 0 ≤ (kp.pc + 1) % 65536 := by omega
      have pc9 : (kp.pc + 1) % 65536 ≤ 65535 := by omega
      replace B := Lib.hid B
      clear e4 hown KC KX hsz hi
      generalize wI kp.p 4 true = px at c_p e4' ⊢
      generalize pushI kp.p false = py at c2 pn ⊢
      generalize (kp.pc + 1) % 65536 = pz at c0 c1 ba pc0 pc9 ⊢
      go_wp2
      go_ret
      have e5 : (bits .and .i64 px 4 != 0) = true := by simpa using e4'
      exact ⟨by show Ending.returned (Value.bool (bits .and .i64 px 4 != 0)) = _; rw [e5], B.out⟩
   ·rw [ht] at e4
    have e4' : ¬ bits .and .i64 kp.p 4 = 0 := by simpa using e4
    have tk : takeN false true kp.p = 0 := by unfold takeN; rw [ht]; rfl
    rw [tk] at KC
    clear e4 tk ht
    have c_nx : w10.cell? ⟨C, 13, none⟩ = some (.int .i64 0) := CorAt.c_nx (k := mk2 kp 0) KC.out
    have HW := Lib.hid (mk_want2 hOk.out)
    go_wp2_with (first | (refine load_part_if (by rfl) 27 _ (by rfl) C 0 (by rfl) (corC (mk2 kp 0)) _ Tryz.underlying27 rfl (by kernel_rfl) KC.out rfl ?_) | (refine load_part_if (by rfl) 29 _ (by rfl) X 0 (by rfl) #[.bool false, .bool false, .bool true] _ Tryz.underlying29 rfl (by kernel_rfl) KX.out rfl ?_) | (go_at_call 16; refine (HW.out _).mono ?_; rintro e u9 ⟨rfl, hb⟩))
    go_ret
    exact ⟨rfl, below_then B.out hb⟩
end Go.Proofs.YthklebkpoccblaaGreat
