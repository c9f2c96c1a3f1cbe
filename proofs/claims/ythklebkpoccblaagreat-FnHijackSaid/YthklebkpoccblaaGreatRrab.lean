/-
  Texts put together by program: LrD.
  Conditions: as each theorem says.
-/
import Derived.Below
import Derived.BigQuiet
import Derived.Conc.LoneCalls
import Derived.Conc.LoneSelect
import Derived.Deep.AppendLies
import Derived.Deep.Cut
import Derived.Deep.CutRange
import Derived.Deep.OwnRows
import Derived.Deep.QuietTactic
import Derived.Deep.RegionHeld3
import Derived.Deep.RegionWith
import Derived.FnLit
import Derived.Great.BuildSlice
import Derived.Handy
import Derived.IntWalk
import Derived.KernelRfl
import Derived.Laws.AppendOwn
import Derived.Laws.BitsLemmas
import Derived.Laws.Closers25b
import Derived.Laws.CopyOwn
import Derived.Laws.CopyRow
import Derived.Laws.EntriesVeiled
import Derived.Laws.ResultCell
import Derived.Laws.Rows
import Derived.Laws.StructEq
import Derived.Laws.Tables
import Derived.Lib.BufferWrite
import Derived.Lib.Hide
import Derived.Lib.SlBytesConst
import Derived.Lib.Strings
import Derived.Lib.UnsafeStr
import Derived.Maps.OwnRows
import Derived.Maps.Views
import Derived.OpenShut
import Derived.Outline
import Derived.ProofKit
import Derived.Test.YthklebkpoccblaaGreatProg
import Derived.WalkKit
import Derived.WalkSpells
import Derived.Test.YthklebkpoccblaaGreatRraa
namespace Go.Proofs.YthklebkpoccblaaGreat
open Go.RowKit
set_option maxRecDepth 100000 in
set_option maxHeartbeats 20000000 in
theorem hijack_law (A : Option Addr) (n c : Nat) (W : World) (hrow : RowB W A n) :
  Calls Tryz.prog 6 #[.slice A n c] W fun e w' => e = .returned (.bool true) ∧ Below W.heap.size W w' := by
 have hm := hrow.1
 unfold maxLen at hm
 by_cases hbig : 1048576 < n
 ·clear hrow
  go_enter Tryz.func6, Tryz.ntmps6
  go_wp2_with (go_in)
  go_ret
  exact ⟨rfl, Below.refl _ _⟩
 ·have hcode := hrow.code (by omega)
  have hat : ∀ i : Nat, ∃ v : Int, i ≤ 1000 → (0 ≤ v ∧ v ≤ 255 ∧ ∀ w : World, Below W.heap.size W w → Calls Tryz.prog 24 #[.slice A n c, .int .i64 (i : Int)] w fun e w' => e = .returned (.int .i64 v) ∧ w = w') := fun i => by
   by_cases h : i ≤ 1000
   ·obtain ⟨v, hv⟩ := at_fix hcode i i rfl h
    exact ⟨v, fun _ => hv⟩
   ·exact ⟨0, fun h2 => absurd h2 h⟩
  obtain ⟨f, hf⟩ := Classical.axiomOfChoice hat
  replace hf := Lib.hid hf
  clear hat
  have hD := Lib.hid (drawReset_any W.heap.size n c A W (Nat.le_refl _) hcode)
  clear hrow hcode
  go_enter Tryz.func6, Tryz.ntmps6
  go_wp2_with (first
   | (go_at_call 8; go_in)
   | (go_at_call 21; refine (hD.out).mono ?_; rintro e w1 ⟨k, rfl, hb⟩; refine Hid.out ?_))
  have e1 := hb.size
  clear hD
  refine Lib.hid ?_
  go_wp2_with (first | (refine store_row (by rfl) 27 _ _ (by rfl) w1.heap.size (corC k) (by rfl) (by rfl) 15 cor_size (blk_new w1 _) rfl rfl (by rfl) ?_; refine Hid.out ?_))
  have hbV : Below w1.heap.size w1 (World.setRow (World.alloc w1 (.cells #[.int .i64 0, .int .i64 0, .int .i64 0, .int .i64 0, .int .i64 0, .int .i64 0, .int .i64 0, .int .i64 0, .int .i64 0, .int .i64 0, .int .i64 0, .int .i64 0, .bool false, .int .i64 0, .bool false] 27)) w1.heap.size (corC k)) := below_row (below_alloc (Below.refl _ _) _) (Nat.le_refl _)
  have KC := Lib.hid (setRow_heap _ _ _ (corC k) _ _ (blk_new w1 (.cells #[.int .i64 0, .int .i64 0, .int .i64 0, .int .i64 0, .int .i64 0, .int .i64 0, .int .i64 0, .int .i64 0, .int .i64 0, .int .i64 0, .int .i64 0, .int .i64 0, .bool false, .int .i64 0, .bool false] 27)))
  have B := Lib.hid (below_then hb hbV)
  have e2 : w1.heap.size < (World.setRow (World.alloc w1 (.cells #[.int .i64 0, .int .i64 0, .int .i64 0, .int .i64 0, .int .i64 0, .int .i64 0, .int .i64 0, .int .i64 0, .int .i64 0, .int .i64 0, .int .i64 0, .int .i64 0, .bool false, .int .i64 0, .bool false] 27)) w1.heap.size (corC k)).heap.size := by rw [setRow_size, alloc_size]; omega
  clear hbV
  generalize World.setRow (World.alloc w1 (.cells #[.int .i64 0, .int .i64 0, .int .i64 0, .int .i64 0, .int .i64 0, .int .i64 0, .int .i64 0, .int .i64 0, .int .i64 0, .int .i64 0, .int .i64 0, .int .i64 0, .bool false, .int .i64 0, .bool false] 27)) w1.heap.size (corC k) = w2 at KC B e2 ⊢
  clear hb
  have hCW : W.heap.size ≤ w1.heap.size := e1
  generalize w1.heap.size = C at KC e2 hCW ⊢
  clear e1
  replace KC : Hid (CorAt C k w2) := KC
  have HOK := fun w => s_ok k w
  have HIK := fun w => show Calls Tryz.prog 12 #[.agg (corC k)] w (fun e w' => e = .returned (.bool (okCo k.a k.x k.y k.s k.p k.pc k.sq k.cd k.t k.lo k.hi k.vl k.nx)) ∧ Below w.heap.size w w') from impl_coreOk k.a k.x k.y k.s k.p k.pc k.sq k.cd k.t k.lo k.hi k.vl k.cr k.nx k.jm w
  cases hok : okCo k.a k.x k.y k.s k.p k.pc k.sq k.cd k.t k.lo k.hi k.vl k.nx
  ·rw [hok] at HOK HIK
   replace HOK := Lib.hid HOK
   replace HIK := Lib.hid HIK
   refine Lib.hid ?_
   go_wp2_with (first | (refine load_core (by rfl) _ (by rfl) _ (by rfl) KC.out ?_) | (go_at_call 13; refine (HOK.out _).mono ?_; rintro e w6 ⟨rfl, hb⟩; refine Hid.out ?_))
   have KC := Lib.hid (CorAt.below KC.out hb)
   have B := Lib.hid (below_then B.out hb)
   clear hb
   refine Lib.hid ?_
   go_wp2_with (first | (refine load_core (by rfl) _ (by rfl) _ (by rfl) KC.out ?_) | (go_at_call 12; refine (HIK.out _).mono ?_; rintro e w7 ⟨rfl, hb⟩))
   go_ret
   exact ⟨rfl, below_then B.out hb⟩
  ·rw [hok] at HOK
   replace HOK := Lib.hid HOK
   have hK := bds_of hok
   clear HIK hok
   refine Lib.hid ?_
   go_wp2_with (first | (refine load_core (by rfl) _ (by rfl) _ (by rfl) KC.out ?_) | (go_at_call 13; refine (HOK.out _).mono ?_; rintro e w6 ⟨rfl, hb⟩; refine Hid.out ?_))
   have KC := Lib.hid (CorAt.below KC.out hb)
   have B := Lib.hid (below_then B.out hb)
   have e6 := hb.size
   clear hb HOK
   have fz := CorAt.free KC.out
   refine Lib.hid ?_
   go_upto_region 9 with (first | (refine stx_t (by rfl) (by rfl) _ _ (by rfl) _ (by rfl) _ (by rfl) (KC.out) ?_) | (refine stx_jm (by rfl) (by rfl) _ _ (by rfl) _ (by rfl) _ (by rfl) (show CorAt C ({ k with t := 0 } : CorI) _ from setRow_heap _ _ _ _ _ _ KC.out) ?_) | (refine stx_nx (by rfl) (by rfl) _ _ (by rfl) _ (by rfl) _ (by rfl) (show CorAt C ({ k with t := 0, jm := false } : CorI) _ from setRow_heap _ _ _ _ _ _ (setRow_heap _ _ _ _ _ _ KC.out)) ?_))
   have KC : Hid (CorAt C (hkC k 0 0) (((w6.setRow C (corC ({ k with t := 0 } : CorI))).setRow C (corC ({ k with t := 0, jm := false } : CorI))).setRow C (corC ({ k with t := 0, jm := false, nx := 0 } : CorI)))) := Lib.hid (setRow_heap _ _ _ _ _ _ (setRow_heap _ _ _ _ _ _ (setRow_heap _ _ _ _ _ _ KC.out)))
   have B : Hid (Below W.heap.size W (((w6.setRow C (corC ({ k with t := 0 } : CorI))).setRow C (corC ({ k with t := 0, jm := false } : CorI))).setRow C (corC ({ k with t := 0, jm := false, nx := 0 } : CorI)))) := Lib.hid (below_row (below_row (below_row B.out hCW) hCW) hCW)
   have e7 : (((w6.setRow C (corC ({ k with t := 0 } : CorI))).setRow C (corC ({ k with t := 0, jm := false } : CorI))).setRow C (corC ({ k with t := 0, jm := false, nx := 0 } : CorI))).heap.size = w6.heap.size := by simp only [setRow_size]
   replace e7 := Lib.hid e7
   clear fz
   generalize (((w6.setRow C (corC ({ k with t := 0 } : CorI))).setRow C (corC ({ k with t := 0, jm := false } : CorI))).setRow C (corC ({ k with t := 0, jm := false, nx := 0 } : CorI))) = w7 at KC B e7 ⊢
   have hA := hf.out 0 (by omega)
   have HA : Hid (∀ w : World, Below W.heap.size W w → Calls Tryz.prog 24 #[.slice A n c, .int .i64 0] w fun e w' => e = .returned (.int .i64 (f 0)) ∧ w = w') := Lib.hid hA.2.2
   have e8 : (f 0).tmod 8 = f 0 % 8 := Int.tmod_eq_emod_of_nonneg hA.1
   have f0 := hA.1
   clear hA
   have hOk : Hid (CorI.Ok (hkC k 0 0)) := Lib.hid { hK with ht := rfl, hnx := (by decide : (0:Int) ≤ 0 ∧ (0:Int) ≤ 3) }
   clear hK
   go_upto_region 10 with (go_at_call 24; refine (HA.out _ B.out).mono ?_; rintro e w8 ⟨rfl, rfl⟩)
   obtain ⟨F, hF⟩ : ∃ F, f 0 % 8 = F := ⟨_, rfl⟩
   have F0 : 0 ≤ F := by omega
   have F7 : F ≤ 7 := by omega
   rw [hF] at e8
   have KC : Hid (CorAt C (hkC k F 0) w7) := KC
   have hOk : Hid (CorI.Ok (hkC k F 0)) := hOk
   try rw [hF]
   clear e8 HA hf hF f0
   go_wp2_with (first | (refine store_row (by rfl) 29 _ _ (by rfl) w7.heap.size #[.bool false, .bool false, .bool false] (by rfl) (by rfl) 3 (by kernel_rfl) (blk_new w7 _) rfl rfl (by rfl) ?_; refine Hid.out ?_))
   have hbV : Below w7.heap.size w7 (World.setRow (World.alloc w7 (.cells #[.bool false, .bool false, .bool false] 29)) w7.heap.size #[.bool false, .bool false, .bool false]) := below_row (below_alloc (Below.refl _ _) _) (Nat.le_refl _)
   have KX := Lib.hid (setRow_heap _ _ _ #[.bool false, .bool false, .bool false] _ _ (blk_new w7 (.cells #[.bool false, .bool false, .bool false] 29)))
   have B := Lib.hid (below_then B.out hbV)
   have KC := Lib.hid (CorAt.below KC.out hbV)
   have e8 : w7.heap.size < (World.setRow (World.alloc w7 (.cells #[.bool false, .bool false, .bool false] 29)) w7.heap.size #[.bool false, .bool false, .bool false]).heap.size := by rw [setRow_size, alloc_size]; omega
   clear hbV
   generalize World.setRow (World.alloc w7 (.cells #[.bool false, .bool false, .bool false] 29)) w7.heap.size #[.bool false, .bool false, .bool false] = w8 at KX B KC e8 ⊢
   have e7 := e7.out
   have hne : C ≠ w7.heap.size := by omega
   have hXW : W.heap.size ≤ w7.heap.size := by omega
   generalize w7.heap.size = X at KX hne hXW ⊢
   clear e2 e6 e7 e8
   refine Lib.hid ?_
   go_wp2_with (fail)
   go_loopw [6, 7] (fun v6 v7 wr => ∃ i : Nat, i ≤ 7 ∧ v7 = .int .i64 i ∧ v6 = .int .i64 (ledI F i) ∧ CorAt C (hkC k F i) wr ∧ wr.heap[X]? = some (.cells #[.bool (wnB F i), .bool (weB F i), .bool false] 29 (0, 0)) ∧ Below W.heap.size W wr) (fun _ v7 _ => 7 - (intOf v7).toNat)
   case atStart => exact ⟨0, by omega, rfl, rfl, KC.out, by rw [wnB_0 F F0, weB_0 F F0]; exact KX.out, B.out⟩
   case round =>
    obtain ⟨i, hi, rfl, rfl, KC, KX, B⟩ := hrel
    replace KC := Lib.hid KC
    replace KX := Lib.hid KX
    replace B := Lib.hid B
    by_cases hlt : i < 7
    ·have hlz : (i : Int) < 7 := by omega
     have HW := Lib.hid (fun w => hk_want F hOk.out i hlt w)
     have HF := Lib.hid (fun w => hk_fed F hOk.out i hlt w)
     have HL := Lib.hid (led_next F i hlt)
     by_cases hf0 : (i : Int) = F
     ·have hb0 : ((i : Int) == F) = true := by simpa using hf0
      have HSn := Lib.hid (fun w => show Calls Tryz.prog 25 #[.agg #[.bool (wnB F i), .bool (weB F i), .bool false], .bool true, .bool false] w (fun e w' => e = .returned (.agg #[.bool (wnS F i), .bool (weS F i), .bool false]) ∧ Below w.heap.size w w') from by rw [we_at F i hlt hf0, wn_at F i hf0]; exact impl_sense (wnB F i) (weB F i) false true false w)
      replace hf0 := Lib.hid hf0
      go_wp2_with (first | (refine load_row (by rfl) 29 _ (by rfl) _ (by rfl) 3 _ Tryz.underlying29 rfl (by kernel_rfl) KX.out rfl ?_) | (go_at_call 25; refine (HSn.out _).mono ?_; rintro e u0 ⟨rfl, hb⟩; refine Hid.out ?_))
      have KC := Lib.hid (CorAt.below KC.out hb)
      have KX := Lib.hid (blk_below KX.out hb)
      have B := Lib.hid (below_then B.out hb)
      clear hb HSn
      refine Lib.hid ?_
      go_wp2_with (first | (refine store_row (by rfl) 29 _ _ (by rfl) X #[.bool (wnS F i), .bool (weS F i), .bool false] (by rfl) (by rfl) 3 (by kernel_rfl) KX.out rfl rfl (by rfl) ?_; refine Hid.out ?_))
      have KC := Lib.hid (show CorAt C _ _ from row_row (cs := #[.bool (wnS F i), .bool (weS F i), .bool false]) KC.out hne)
      have KX := Lib.hid (setRow_heap _ _ _ #[.bool (wnS F i), .bool (weS F i), .bool false] _ _ KX.out)
      have B := Lib.hid (below_row (cs := #[.bool (wnS F i), .bool (weS F i), .bool false]) B.out hXW)
      generalize World.setRow u0 X #[.bool (wnS F i), .bool (weS F i), .bool false] = u1 at KC KX B ⊢
      refine Lib.hid ?_
      go_wp2_with (first | (refine load_core (by rfl) _ (by rfl) _ (by rfl) KC.out ?_) | (refine load_row (by rfl) 29 _ (by rfl) _ (by rfl) 3 _ Tryz.underlying29 rfl (by kernel_rfl) KX.out rfl ?_) | (go_at_call 16; refine (HW.out _).mono ?_; rintro e u2 ⟨rfl, hb⟩; refine Hid.out ?_))
      have KC := Lib.hid (CorAt.below KC.out hb)
      have KX := Lib.hid (blk_below KX.out hb)
      have B := Lib.hid (below_then B.out hb)
      clear hb HW
      refine Lib.hid ?_
      go_wp2_with (first | (refine store_row (by rfl) 38 _ _ (by rfl) u2.heap.size #[.int .i64 (hkA k F i), .int .i64 (hkD k i), .bool (hkW i)] (by rfl) (by rfl) 3 (by kernel_rfl) (blk_new u2 _) rfl rfl (by rfl) ?_; refine Hid.out ?_))
      have hbV : Below u2.heap.size u2 (World.setRow (World.alloc u2 (.cells #[.int .i64 0, .int .i64 0, .bool false] 38)) u2.heap.size #[.int .i64 (hkA k F i), .int .i64 (hkD k i), .bool (hkW i)]) := below_row (below_alloc (Below.refl _ _) _) (Nat.le_refl _)
      have BU := Lib.hid (setRow_heap _ _ _ #[.int .i64 (hkA k F i), .int .i64 (hkD k i), .bool (hkW i)] _ _ (blk_new u2 (.cells #[.int .i64 0, .int .i64 0, .bool false] 38)))
      have B := Lib.hid (below_then B.out hbV)
      have KC := Lib.hid (CorAt.below KC.out hbV)
      have KX := Lib.hid (blk_below KX.out hbV)
      have e3 : u2.heap.size < (World.setRow (World.alloc u2 (.cells #[.int .i64 0, .int .i64 0, .bool false] 38)) u2.heap.size #[.int .i64 (hkA k F i), .int .i64 (hkD k i), .bool (hkW i)]).heap.size := by rw [setRow_size, alloc_size]; omega
      clear hbV
      generalize World.setRow (World.alloc u2 (.cells #[.int .i64 0, .int .i64 0, .bool false] 38)) u2.heap.size #[.int .i64 (hkA k F i), .int .i64 (hkD k i), .bool (hkW i)] = u3 at BU B KC KX e3 ⊢
      by_cases h4 : i = 4
      ·subst h4
       have q1 := cell_of_blk (i := 1) (v := .int .i64 (pushI k.p true)) BU.out rfl
       have pb := push_b k.p
       refine Lib.hid ?_
       go_wp2_with (first | (refine load_core (by rfl) _ (by rfl) _ (by rfl) KC.out ?_) | (refine load_row (by rfl) 29 _ (by rfl) _ (by rfl) 3 _ Tryz.underlying29 rfl (by kernel_rfl) KX.out rfl ?_) | (go_at_call 10; refine (HF.out _).mono ?_; rintro e u4 ⟨rfl, hb⟩; refine Hid.out ?_))
       have KC := Lib.hid (CorAt.below KC.out hb)
       have KX := Lib.hid (blk_below KX.out hb)
       have B := Lib.hid (below_then B.out hb)
       clear hb HF BU
       refine Lib.hid ?_
       go_wp2_with (first | (refine store_some (by rfl) (by rfl) _ _ (by rfl) _ (by rfl) _ (by rfl) (CorSome.of KC.out) ?_) | (refine store_row (by rfl) 29 _ _ (by rfl) X #[.bool (wnB F (4 + 1)), .bool (weB F (4 + 1)), .bool false] (by rfl) (by rfl) 3 (by kernel_rfl) (row_row KX.out (Ne.symm hne)) rfl rfl (by rfl) ?_))
       go_roundw
       case rel => exact ⟨4 + 1, by omega, by go_num, congrArg (Value.int IntKind.i64) (HL.out (by omega)), row_row (setRow_heap _ _ _ _ _ _ KC.out) hne, setRow_heap _ _ _ _ _ _ (row_row KX.out (Ne.symm hne)), below_row (below_row B.out hCW) hXW⟩
       case measure => first | (simp [intOf]; done) | (simp [intOf]; omega)
      by_cases h5 : i = 5
      ·subst h5
       have q0 := cell_of_blk (i := 0) (v := .int .i64 (ledI F 6)) BU.out (led_5 k F)
       refine Lib.hid ?_
       go_wp2_with (first | (refine load_core (by rfl) _ (by rfl) _ (by rfl) KC.out ?_) | (refine load_row (by rfl) 29 _ (by rfl) _ (by rfl) 3 _ Tryz.underlying29 rfl (by kernel_rfl) KX.out rfl ?_) | (go_at_call 10; refine (HF.out _).mono ?_; rintro e u4 ⟨rfl, hb⟩; refine Hid.out ?_))
       have KC := Lib.hid (CorAt.below KC.out hb)
       have KX := Lib.hid (blk_below KX.out hb)
       have B := Lib.hid (below_then B.out hb)
       clear hb HF BU
       refine Lib.hid ?_
       go_wp2_with (first | (refine store_some (by rfl) (by rfl) _ _ (by rfl) _ (by rfl) _ (by rfl) (CorSome.of KC.out) ?_) | (refine store_row (by rfl) 29 _ _ (by rfl) X #[.bool (wnB F (5 + 1)), .bool (weB F (5 + 1)), .bool false] (by rfl) (by rfl) 3 (by kernel_rfl) (row_row KX.out (Ne.symm hne)) rfl rfl (by rfl) ?_))
       go_roundw
       case rel => exact ⟨5 + 1, by omega, by go_num, rfl, row_row (setRow_heap _ _ _ _ _ _ KC.out) hne, setRow_heap _ _ _ _ _ _ (row_row KX.out (Ne.symm hne)), below_row (below_row B.out hCW) hXW⟩
       case measure => first | (simp [intOf]; done) | (simp [intOf]; omega)
      have h4' : ¬ (i : Int) = 4 := by omega
      have h5' : ¬ (i : Int) = 5 := by omega
      refine Lib.hid ?_
      go_wp2_with (first | (refine load_core (by rfl) _ (by rfl) _ (by rfl) KC.out ?_) | (refine load_row (by rfl) 29 _ (by rfl) _ (by rfl) 3 _ Tryz.underlying29 rfl (by kernel_rfl) KX.out rfl ?_) | (go_at_call 10; refine (HF.out _).mono ?_; rintro e u4 ⟨rfl, hb⟩; refine Hid.out ?_))
      have KC := Lib.hid (CorAt.below KC.out hb)
      have KX := Lib.hid (blk_below KX.out hb)
      have B := Lib.hid (below_then B.out hb)
      clear hb HF BU
      refine Lib.hid ?_
      go_wp2_with (first | (refine store_some (by rfl) (by rfl) _ _ (by rfl) _ (by rfl) _ (by rfl) (CorSome.of KC.out) ?_) | (refine store_row (by rfl) 29 _ _ (by rfl) X #[.bool (wnB F (i + 1)), .bool (weB F (i + 1)), .bool false] (by rfl) (by rfl) 3 (by kernel_rfl) (row_row KX.out (Ne.symm hne)) rfl rfl (by rfl) ?_))
      go_roundw
      case rel => exact ⟨i + 1, by omega, by go_num, congrArg (Value.int IntKind.i64) (HL.out (by omega)), row_row (setRow_heap _ _ _ _ _ _ KC.out) hne, setRow_heap _ _ _ _ _ _ (row_row KX.out (Ne.symm hne)), below_row (below_row B.out hCW) hXW⟩
      case measure => first | (simp [intOf]; done) | (simp [intOf]; omega)
     ·have hb0 : ((i : Int) == F) = false := by simpa using hf0
      rw [← wn_no F i hf0, ← we_no F i hlt hf0] at KX
      generalize hwr : wr = u1 at KC KX B ⊢
      clear hwr
      replace hf0 := Lib.hid hf0
      go_wp2_with (first | (refine load_core (by rfl) _ (by rfl) _ (by rfl) KC.out ?_) | (refine load_row (by rfl) 29 _ (by rfl) _ (by rfl) 3 _ Tryz.underlying29 rfl (by kernel_rfl) KX.out rfl ?_) | (go_at_call 16; refine (HW.out _).mono ?_; rintro e u2 ⟨rfl, hb⟩; refine Hid.out ?_))
      have KC := Lib.hid (CorAt.below KC.out hb)
      have KX := Lib.hid (blk_below KX.out hb)
      have B := Lib.hid (below_then B.out hb)
      clear hb HW
      refine Lib.hid ?_
      go_wp2_with (first | (refine store_row (by rfl) 38 _ _ (by rfl) u2.heap.size #[.int .i64 (hkA k F i), .int .i64 (hkD k i), .bool (hkW i)] (by rfl) (by rfl) 3 (by kernel_rfl) (blk_new u2 _) rfl rfl (by rfl) ?_; refine Hid.out ?_))
      have hbV : Below u2.heap.size u2 (World.setRow (World.alloc u2 (.cells #[.int .i64 0, .int .i64 0, .bool false] 38)) u2.heap.size #[.int .i64 (hkA k F i), .int .i64 (hkD k i), .bool (hkW i)]) := below_row (below_alloc (Below.refl _ _) _) (Nat.le_refl _)
      have BU := Lib.hid (setRow_heap _ _ _ #[.int .i64 (hkA k F i), .int .i64 (hkD k i), .bool (hkW i)] _ _ (blk_new u2 (.cells #[.int .i64 0, .int .i64 0, .bool false] 38)))
      have B := Lib.hid (below_then B.out hbV)
      have KC := Lib.hid (CorAt.below KC.out hbV)
      have KX := Lib.hid (blk_below KX.out hbV)
      have e3 : u2.heap.size < (World.setRow (World.alloc u2 (.cells #[.int .i64 0, .int .i64 0, .bool false] 38)) u2.heap.size #[.int .i64 (hkA k F i), .int .i64 (hkD k i), .bool (hkW i)]).heap.size := by rw [setRow_size, alloc_size]; omega
      clear hbV
      generalize World.setRow (World.alloc u2 (.cells #[.int .i64 0, .int .i64 0, .bool false] 38)) u2.heap.size #[.int .i64 (hkA k F i), .int .i64 (hkD k i), .bool (hkW i)] = u3 at BU B KC KX e3 ⊢
      by_cases h4 : i = 4
      ·subst h4
       have q1 := cell_of_blk (i := 1) (v := .int .i64 (pushI k.p true)) BU.out rfl
       have pb := push_b k.p
       refine Lib.hid ?_
       go_wp2_with (first | (refine load_core (by rfl) _ (by rfl) _ (by rfl) KC.out ?_) | (refine load_row (by rfl) 29 _ (by rfl) _ (by rfl) 3 _ Tryz.underlying29 rfl (by kernel_rfl) KX.out rfl ?_) | (go_at_call 10; refine (HF.out _).mono ?_; rintro e u4 ⟨rfl, hb⟩; refine Hid.out ?_))
       have KC := Lib.hid (CorAt.below KC.out hb)
       have KX := Lib.hid (blk_below KX.out hb)
       have B := Lib.hid (below_then B.out hb)
       clear hb HF BU
       refine Lib.hid ?_
       go_wp2_with (first | (refine store_some (by rfl) (by rfl) _ _ (by rfl) _ (by rfl) _ (by rfl) (CorSome.of KC.out) ?_) | (refine store_row (by rfl) 29 _ _ (by rfl) X #[.bool (wnB F (4 + 1)), .bool (weB F (4 + 1)), .bool false] (by rfl) (by rfl) 3 (by kernel_rfl) (row_row KX.out (Ne.symm hne)) rfl rfl (by rfl) ?_))
       go_roundw
       case rel => exact ⟨4 + 1, by omega, by go_num, congrArg (Value.int IntKind.i64) (HL.out (by omega)), row_row (setRow_heap _ _ _ _ _ _ KC.out) hne, setRow_heap _ _ _ _ _ _ (row_row KX.out (Ne.symm hne)), below_row (below_row B.out hCW) hXW⟩
       case measure => first | (simp [intOf]; done) | (simp [intOf]; omega)
      by_cases h5 : i = 5
      ·subst h5
       have q0 := cell_of_blk (i := 0) (v := .int .i64 (ledI F 6)) BU.out (led_5 k F)
       refine Lib.hid ?_
       go_wp2_with (first | (refine load_core (by rfl) _ (by rfl) _ (by rfl) KC.out ?_) | (refine load_row (by rfl) 29 _ (by rfl) _ (by rfl) 3 _ Tryz.underlying29 rfl (by kernel_rfl) KX.out rfl ?_) | (go_at_call 10; refine (HF.out _).mono ?_; rintro e u4 ⟨rfl, hb⟩; refine Hid.out ?_))
       have KC := Lib.hid (CorAt.below KC.out hb)
       have KX := Lib.hid (blk_below KX.out hb)
       have B := Lib.hid (below_then B.out hb)
       clear hb HF BU
       refine Lib.hid ?_
       go_wp2_with (first | (refine store_some (by rfl) (by rfl) _ _ (by rfl) _ (by rfl) _ (by rfl) (CorSome.of KC.out) ?_) | (refine store_row (by rfl) 29 _ _ (by rfl) X #[.bool (wnB F (5 + 1)), .bool (weB F (5 + 1)), .bool false] (by rfl) (by rfl) 3 (by kernel_rfl) (row_row KX.out (Ne.symm hne)) rfl rfl (by rfl) ?_))
       go_roundw
       case rel => exact ⟨5 + 1, by omega, by go_num, rfl, row_row (setRow_heap _ _ _ _ _ _ KC.out) hne, setRow_heap _ _ _ _ _ _ (row_row KX.out (Ne.symm hne)), below_row (below_row B.out hCW) hXW⟩
       case measure => first | (simp [intOf]; done) | (simp [intOf]; omega)
      have h4' : ¬ (i : Int) = 4 := by omega
      have h5' : ¬ (i : Int) = 5 := by omega
      refine Lib.hid ?_
      go_wp2_with (first | (refine load_core (by rfl) _ (by rfl) _ (by rfl) KC.out ?_) | (refine load_row (by rfl) 29 _ (by rfl) _ (by rfl) 3 _ Tryz.underlying29 rfl (by kernel_rfl) KX.out rfl ?_) | (go_at_call 10; refine (HF.out _).mono ?_; rintro e u4 ⟨rfl, hb⟩; refine Hid.out ?_))
      have KC := Lib.hid (CorAt.below KC.out hb)
      have KX := Lib.hid (blk_below KX.out hb)
      have B := Lib.hid (below_then B.out hb)
      clear hb HF BU
      refine Lib.hid ?_
      go_wp2_with (first | (refine store_some (by rfl) (by rfl) _ _ (by rfl) _ (by rfl) _ (by rfl) (CorSome.of KC.out) ?_) | (refine store_row (by rfl) 29 _ _ (by rfl) X #[.bool (wnB F (i + 1)), .bool (weB F (i + 1)), .bool false] (by rfl) (by rfl) 3 (by kernel_rfl) (row_row KX.out (Ne.symm hne)) rfl rfl (by rfl) ?_))
      go_roundw
      case rel => exact ⟨i + 1, by omega, by go_num, congrArg (Value.int IntKind.i64) (HL.out (by omega)), row_row (setRow_heap _ _ _ _ _ _ KC.out) hne, setRow_heap _ _ _ _ _ _ (row_row KX.out (Ne.symm hne)), below_row (below_row B.out hCW) hXW⟩
      case measure => first | (simp [intOf]; done) | (simp [intOf]; omega)
    ·obtain rfl : i = 7 := by omega
     have c_t : wr.cell? ⟨C, 8, none⟩ = some (.int .i64 0) := CorAt.c_t KC.out
     by_cases h5 : F ≤ 5
     ·have hl : ledI F 7 = 65530 := by unfold ledI; first | rfl | (rw [if_neg (by decide)]; first | (rw [if_pos h5]; done) | (rw [if_neg (by decide)]; done) | (rw [if_pos (by decide)]; done))
      rw [hl]
      have hd : decide (F = 6) = false := by first | decide | exact decide_eq_false (by omega)
      have c_nx : wr.cell? ⟨C, 13, none⟩ = some (.int .i64 (takeN (decide (F = 6)) false (wI k.p 4 true))) := CorAt.c_nx KC.out
      have c_x : wr.cell? ⟨X, 1, none⟩ = some (.bool (decide (F = 6))) := cell_of_blk (i := 1) KX.out rfl
      rw [hd] at c_nx c_x
      rw [show takeN false false (wI k.p 4 true) = 0 from rfl] at c_nx
      clear hl hd
      skip
      clear hi
      go_wp2
      go_ret
      exact ⟨rfl, B.out⟩
     by_cases h6 : F = 6
     ·subst h6
      have hl : ledI 6 7 = 65534 := by unfold ledI; first | rfl | (rw [if_neg (by decide)]; first | (rw [if_pos h5]; done) | (rw [if_neg (by decide)]; done) | (rw [if_pos (by decide)]; done))
      rw [hl]
      have hd : decide (6 = 6) = true := by first | decide | exact decide_eq_false (by omega)
      have c_nx : wr.cell? ⟨C, 13, none⟩ = some (.int .i64 (takeN (decide (6 = 6)) false (wI k.p 4 true))) := CorAt.c_nx KC.out
      have c_x : wr.cell? ⟨X, 1, none⟩ = some (.bool (decide (6 = 6))) := cell_of_blk (i := 1) KX.out rfl
      rw [hd] at c_nx c_x
      rw [show takeN true false (wI k.p 4 true) = 2 from rfl] at c_nx
      clear hl hd
      skip
      clear hi
      go_wp2
      go_ret
      exact ⟨rfl, B.out⟩
     obtain rfl : F = 7 := by omega
     have hl : ledI 7 7 = 65534 := by unfold ledI; first | rfl | (rw [if_neg (by decide)]; first | (rw [if_pos h5]; done) | (rw [if_neg (by decide)]; done) | (rw [if_pos (by decide)]; done))
     rw [hl]
     have hd : decide (7 = 6) = false := by first | decide | exact decide_eq_false (by omega)
     have c_nx : wr.cell? ⟨C, 13, none⟩ = some (.int .i64 (takeN (decide (7 = 6)) false (wI k.p 4 true))) := CorAt.c_nx KC.out
     have c_x : wr.cell? ⟨X, 1, none⟩ = some (.bool (decide (7 = 6))) := cell_of_blk (i := 1) KX.out rfl
     rw [hd] at c_nx c_x
     rw [show takeN false false (wI k.p 4 true) = 0 from rfl] at c_nx
     clear hl hd
     skip
     clear hi
     go_wp2
     go_ret
     exact ⟨rfl, B.out⟩
end Go.Proofs.YthklebkpoccblaaGreat
