/-
  Texts put together by program: LcC.
  Conditions: as each theorem says.
-/
import Derived.Test.YthklebkpoccblaaGreatRqah
namespace Go.Proofs.YthklebkpoccblaaGreat
open Go.RowKit Go.Deep Go.WideShapes Go.ChangeShapes
def CodePost (m g : Nat) (A : Option Addr) (n c : Nat) (w : World) (e : Ending) (w' : World) : Prop :=
 ∃ s : ByteArray, e = .returned (.string s) ∧ s.size ≤ m ∧ Cur w' g A n c ∧ w.grownBy w' (some g)
theorem op_mode (a b : ByteArray) (W : World) : (Instr.field 55 (.agg #[.string a, .string b]) 1).run Tryz.prog W = .ok (.string b) W := by kernel_rfl
theorem TxSt.any {B g n c i : Nat} {A : Option Addr} {bs : Nat → Int} {W wr : World} {L : List UInt8} {h : Int} {v : Value} (s : TxSt B g n c A bs W L i h v wr) : Drawn B g n c A wr :=
 ⟨s.dr.hB, s.dr.hBg, ⟨s.dr.code.1, s.dr.code.2.2.imp_right fun ⟨b, off, e1, e2, e3⟩ => ⟨b, off, e1, e2, fun i hi => ⟨bs i, (s.dr.code.2.1 i hi).1, (s.dr.code.2.1 i hi).2, e3 i hi⟩⟩⟩, ⟨i, h, s.dr.hi, s.dr.cur⟩⟩
theorem TxSt.back {B g n c i : Nat} {A : Option Addr} {bs : Nat → Int} {W wr w1 : World} {L : List UInt8} {h : Int} {v : Value} (s : TxSt B g n c A bs W L i h v wr) (hc : Cur w1 g A n c) (hg : wr.grownBy w1 (some g)) : ∃ j x, TxSt B g n c A bs W L j x v w1 := by
 obtain ⟨j, x, hj, hcu⟩ := hc
 exact ⟨j, x, s.draw hj hcu hg⟩
theorem TxSt.below {B g n c i : Nat} {A : Option Addr} {bs : Nat → Int} {W wr w1 : World} {L : List UInt8} {h : Int} {v : Value} (s : TxSt B g n c A bs W L i h v wr) (hb : Below wr.heap.size wr w1) : TxSt B g n c A bs W L i h v w1 :=
 s.draw s.dr.hi (s.dr.below hb).cur (grown_of_below hb)
set_option maxRecDepth 100000 in
set_option maxHeartbeats 8000000 in
theorem l09Code_is {B g n c i : Nat} {A : Option Addr} {bs : Nat → Int} {h : Int} {w : World} (hd : DrawnIs B g n c A bs i h w) (hBw : B ≤ w.heap.size) (m : Nat) (hm : m ≤ 20) :
  Calls Tryz.prog 111 #[.pointer (some ⟨g, 0, none⟩), .int .i64 (m : Int)] w (CodePost (3 * m) g A n c w) := by
 obtain ⟨i0, hi, hz0, hz1, hz2⟩ := info_parts infoT8
 have hgw := hd.cur.lt
 have hS0 : TxSt B g n c A bs w [] i h (.slice (some ⟨w.heap.size, 0, none⟩) 0 0) (w.alloc (.cells #[] 5)) :=
  ⟨World.ownsRow_lit _ #[] 0 (Nat.le_refl _) (by decide) rfl, hd.below ((Below.refl _ _).alloc (Nat.le_refl _) _), World.grownBy_alloc w _ _, hgw, hBw⟩
 have HS0 := Lib.hid hS0
 clear hS0 hd
 unfold CodePost
 go_enter Tryz.func111, Tryz.ntmps111
 go_wp2_with (fail)
 go_loopw [5, 6] (fun v5 v6 wr => ∃ (L : List UInt8) (i : Nat) (h : Int) (r cap j : Nat), j ≤ m ∧ L.length ≤ 3 * j ∧ v6 = .int .i64 (j : Int) ∧ v5 = .slice (some ⟨r, 0, none⟩) L.length cap ∧ Hid (TxSt B g n c A bs w L i h v5 wr)) (fun _ v6 _ => m - (intOf v6).toNat)
 case atStart => exact ⟨[], i, h, w.heap.size, 0, 0, by omega, by simp, rfl, rfl, HS0⟩
 case round =>
  obtain ⟨L, i, h, r, cap, j, hj, hL, rfl, rfl, HS⟩ := hrel
  clear HS0
  by_cases hjm : j < m
  ·have hy := l01Below_is HS.out.dr 256 (by omega) (by omega)
   unfold IsPost at hy
   obtain ⟨x, hx⟩ : ∃ x, x = byteAt bs n i h % 256 := ⟨_, rfl⟩
   have hxb : 0 ≤ x ∧ x ≤ 255 := by omega
   rw [← hx] at hy
   clear hx
   obtain ⟨x0, x1⟩ := hxb
   go_wp2_with (go_at_call 55; refine hy.mono ?_; rintro e w1 ⟨rfl, hc, hg⟩; refine Hid.out ?_)
   have HS1 := Lib.hid (HS.out.draw (nextI_le HS.out.dr.hi) hc hg)
   clear hy hc hg
   refine Lib.hid ?_
   go_wp2_with (fail)
   go_loopw [7] (fun v7 wq => ∃ (x : Int) (i : Nat) (h : Int), 0 ≤ x ∧ x ≤ 255 ∧ v7 = .int .i64 x ∧ Hid (TxSt B g n c A bs w L i h (.slice (some ⟨r, 0, none⟩) L.length cap) wq)) (fun _ wq => meas2 n g wq)
   case atStart => exact ⟨x, _, _, x0, x1, rfl, HS1⟩
   case round =>
    clear x0 x1
    obtain ⟨x, i, h, x0, x1, rfl, HQ⟩ := hrel
    clear HS1 HS
    have hme := Lib.hid (meas2_is HQ.out)
    have HO := Lib.hid (fun w => spec_opOf x w)
    have hfn := op_name (opOf x).1 (opOf x).2
    by_cases hjam : (opOf x).1 = ⟨#[74, 65, 77]⟩
    ·rw [hjam] at hfn
     have HO2 := fun w => spec_opOf x w
     rw [hjam] at HO2
     replace HO2 := Lib.hid HO2
     go_wp2_with (go_at_call 34; refine (HO2.out _).mono ?_; rintro e w1 ⟨rfl, hb⟩; refine Hid.out ?_)
     have HQ := Lib.hid (HQ.out.below hb)
     clear hb HO2 hjam
     have hy := l01Below_is HQ.out.dr 12 (by omega) (by omega)
     unfold IsPost at hy
     have hin := HQ.out.dr.hi
     obtain ⟨y, hyv⟩ : ∃ y, y = byteAt bs n i h % 12 := ⟨_, rfl⟩
     have y0 : 0 ≤ y := by omega
     rw [← hyv] at hy
     have HY := Lib.hid hyv
     clear hyv
     refine Lib.hid ?_
     go_wp2_with (go_at_call 55; refine hy.mono ?_; rintro e w2 ⟨rfl, hc, hg⟩; refine Hid.out ?_)
     have HQ := Lib.hid (HQ.out.draw (nextI_le hin) hc hg)
     have hin1 := nextI_le hin
     clear hy hc hg
     by_cases hy0 : y = 0
     ·subst hy0
      clear hfn
      refine Lib.hid ?_
      have S2 := HQ.out
      have hw9 : IntKind.u8.wrap x = x := IntWalk.u8_in _ ⟨by omega, by omega⟩
      have HW := Lib.hid hL
      go_wp2_with (at_builtin; refine wpList_append_own _ rfl _ _ 22 rfl w.heap.size 5 i0 (.int .u8 0) 1 1 Tryz.underlying22 hi hz0 hz1 hz2 rfl (by decide) _ _ _ rfl (S2.own.alloc _) ⟨_, 0, none⟩ 1 1 [.int .u8 x] rfl rfl ?sa1 ?sa2 ?sa3 ?sa4 ?sa5 ?_)
      case sa1 =>
       intro j u hj
       match j, hj with
       | 0, hj => simp at hj; subst hj; simp [Addr.add]
      case sa2 => intro u hu; simp at hu; subst hu; rfl
      case sa3 => unfold maxLen; omega
      case sa4 => omega
      case sa5 => have := S2.gr.size; simp; omega
      intro v' w9 hown hgrow _
      obtain ⟨r', cap', rfl, S3⟩ := S2.more x0 x1 hown hgrow
      have HS3 := Lib.hid S3
      have hl3 : (L ++ [b8 x]).length = L.length + 1 := by simp
      generalize L ++ [b8 x] = L3 at *
      clear hown hgrow S2 S3 hw9
      have HO := Lib.hid (fun w => spec_opOf x w)
      generalize (opOf x).1 = oa at *
      generalize (opOf x).2 = ob at *
      have HM := fun w => spec_modeSize ob w
      have hms : modeSz ob ≤ 3 := by unfold modeSz; repeat' split <;> omega
      generalize modeSz ob = ms at *
      replace HM := Lib.hid HM
      have hfm := op_mode oa ob
      go_wp2_with (fail)
      go_loopw [5, 8] (fun v5 v8 wq => ∃ (L' : List UInt8) (i : Nat) (h : Int) (k r cap : Nat), 1 ≤ k ∧ k ≤ 3 ∧ L'.length = L.length + k ∧ v8 = .int .i64 (k : Int) ∧ v5 = .slice (some ⟨r, 0, none⟩) L'.length cap ∧ Hid (TxSt B g n c A bs w L' i h v5 wq)) (fun _ v8 _ => 4 - (intOf v8).toNat)
      case atStart => exact ⟨L3, _, _, 1, _, _, by omega, by omega, hl3, rfl, rfl, HS3⟩
      case round =>
       obtain ⟨L', i, h, k, r2, cap2, hk1, hk3, hLk, rfl, rfl, HQ⟩ := hrel
       clear HS3 hl3
       have HLK := Lib.hid hLk
       have hLb : L'.length ≤ 3 * j + 3 := by omega
       clear hLk
       by_cases hk : (k : Int) < ms
       ·go_wp2_with (go_at_call 34; refine (HO.out _).mono ?_; rintro e w1 ⟨rfl, hb⟩; refine Hid.out ?_)
        have HQ := Lib.hid (HQ.out.below hb)
        clear hb
        refine Lib.hid ?_
        go_wp2_with (go_at_call 128; refine (HM.out _).mono ?_; rintro e w2 ⟨rfl, hb⟩; refine Hid.out ?_)
        have HQ := Lib.hid (HQ.out.below hb)
        clear hb
        have hy := l01Below_any HQ.out.any 256 (by omega) (by omega)
        refine Lib.hid ?_
        go_wp2_with (go_at_call 55; refine hy.mono ?_; rintro e w3 ⟨z, rfl, z0, z1, hc, hg⟩; refine Hid.out ?_)
        obtain ⟨i4, h4, S4⟩ := HQ.out.back hc hg
        have HQ := Lib.hid S4
        clear hy hc hg S4
        have hP := pickInt_in (lo := 0) (hi := 255) HQ.out.any [.int .i64 0, .int .i64 1, .int .i64 2, .int .i64 3, .int .i64 127, .int .i64 128, .int .i64 250, .int .i64 255, .int .i64 z] (k := 9) rfl (by omega) (by omega)
         (by repeat (first | exact allIn_nil | refine allIn_cons ⟨by omega, by omega⟩ ?_))
        refine Lib.hid ?_
        go_wp2_with (go_at_call 57; refine hP.mono ?_; rintro e w4 ⟨y, rfl, y0, y1, hc, hg⟩; refine Hid.out ?_)
        obtain ⟨i5, h5, S2⟩ := HQ.out.back hc hg
        clear hP hc hg z0 z1
        have hw8 : IntKind.u8.wrap y = y := IntWalk.u8_in _ ⟨by omega, by omega⟩
        refine Lib.hid ?_
        go_wp2_with (at_builtin; refine wpList_append_own _ rfl _ _ 22 rfl w.heap.size 5 i0 (.int .u8 0) 1 1 Tryz.underlying22 hi hz0 hz1 hz2 rfl (by decide) _ _ _ rfl (S2.own.alloc _) ⟨_, 0, none⟩ 1 1 [.int .u8 y] rfl rfl ?sb1 ?sb2 ?sb3 ?sb4 ?sb5 ?_)
        case sb1 =>
         intro j u hj
         match j, hj with
         | 0, hj => simp at hj; subst hj; simp [Addr.add]
        case sb2 => intro u hu; simp at hu; subst hu; rfl
        case sb3 => unfold maxLen; omega
        case sb4 => omega
        case sb5 => have := S2.gr.size; simp; omega
        intro v' w9 hown hgrow _
        obtain ⟨r', cap', rfl, S3⟩ := S2.more y0 y1 hown hgrow
        have HS3 := Lib.hid S3
        clear hown hgrow S2 S3
        go_wp2
        go_roundw
        case rel => exact ⟨_, _, _, k + 1, _, _, by omega, by omega, by have := HLK.out; simp; omega, by go_num, rfl, HS3⟩
        case measure => simp [intOf]; omega
       ·go_wp2_with (first | (go_at_call 34; refine (HO.out _).mono ?_; rintro e w1 ⟨rfl, hb1⟩) | (go_at_call 128; refine (HM.out _).mono ?_; rintro e w2 ⟨rfl, hb2⟩))
        have HQ := Lib.hid ((HQ.out.below hb1).below hb2)
        clear hb1 hb2
        go_roundw
        case rel => exact ⟨_, _, _, _, _, j + 1, by omega, by have := HLK.out; omega, by go_num, rfl, HQ⟩
        case measure => simp [intOf]; omega
     ·have hyp : 0 < y := by omega
      have hy := l01Below_is HQ.out.dr 256 (by omega) (by omega)
      unfold IsPost at hy
      obtain ⟨z, hz⟩ : ∃ z, z = byteAt bs n (nextI n i) (nextH h) % 256 := ⟨_, rfl⟩
      have hzb : 0 ≤ z ∧ z ≤ 255 := by omega
      rw [← hz] at hy
      clear hz
      obtain ⟨zz0, zz1⟩ := hzb
      refine Lib.hid ?_
      go_wp2_with (go_at_call 55; refine hy.mono ?_; rintro e w3 ⟨rfl, hc, hg⟩; refine Hid.out ?_)
      have HQ := Lib.hid (HQ.out.draw (nextI_le hin1) hc hg)
      clear hy hc hg
      refine Lib.hid ?_
      go_wp2
      go_roundw
      case rel => exact ⟨z, _, _, zz0, zz1, rfl, HQ⟩
      case measure => rw [hme.out, meas2_is HQ.out]; exact less_two bs n i h hin (by have := HY.out; omega)
    ·have nj := ne_list [74, 65, 77] hjam
     go_wp2_with (go_at_call 34; refine (HO.out _).mono ?_; rintro e w1 ⟨rfl, hb⟩; refine Hid.out ?_)
     have HQ := Lib.hid (HQ.out.below hb)
     clear hb hjam
     refine Lib.hid ?_
     have S2 := HQ.out
     have hw9 : IntKind.u8.wrap x = x := IntWalk.u8_in _ ⟨by omega, by omega⟩
     have HW := Lib.hid hL
     go_wp2_with (at_builtin; refine wpList_append_own _ rfl _ _ 22 rfl w.heap.size 5 i0 (.int .u8 0) 1 1 Tryz.underlying22 hi hz0 hz1 hz2 rfl (by decide) _ _ _ rfl (S2.own.alloc _) ⟨_, 0, none⟩ 1 1 [.int .u8 x] rfl rfl ?ta1 ?ta2 ?ta3 ?ta4 ?ta5 ?_)
     case ta1 =>
      intro j u hj
      match j, hj with
      | 0, hj => simp at hj; subst hj; simp [Addr.add]
     case ta2 => intro u hu; simp at hu; subst hu; rfl
     case ta3 => unfold maxLen; omega
     case ta4 => omega
     case ta5 => have := S2.gr.size; simp; omega
     intro v' w9 hown hgrow _
     obtain ⟨r', cap', rfl, S3⟩ := S2.more x0 x1 hown hgrow
     have HS3 := Lib.hid S3
     have hl3 : (L ++ [b8 x]).length = L.length + 1 := by simp
     generalize L ++ [b8 x] = L3 at *
     clear hown hgrow S2 S3 hw9
     have HO := Lib.hid (fun w => spec_opOf x w)
     generalize (opOf x).1 = oa at *
     generalize (opOf x).2 = ob at *
     have HM := fun w => spec_modeSize ob w
     have hms : modeSz ob ≤ 3 := by unfold modeSz; repeat' split <;> omega
     generalize modeSz ob = ms at *
     replace HM := Lib.hid HM
     have hfm := op_mode oa ob
     go_wp2_with (fail)
     go_loopw [5, 8] (fun v5 v8 wq => ∃ (L' : List UInt8) (i : Nat) (h : Int) (k r cap : Nat), 1 ≤ k ∧ k ≤ 3 ∧ L'.length = L.length + k ∧ v8 = .int .i64 (k : Int) ∧ v5 = .slice (some ⟨r, 0, none⟩) L'.length cap ∧ Hid (TxSt B g n c A bs w L' i h v5 wq)) (fun _ v8 _ => 4 - (intOf v8).toNat)
     case atStart => exact ⟨L3, _, _, 1, _, _, by omega, by omega, hl3, rfl, rfl, HS3⟩
     case round =>
      obtain ⟨L', i, h, k, r2, cap2, hk1, hk3, hLk, rfl, rfl, HQ⟩ := hrel
      clear HS3 hl3
      have HLK := Lib.hid hLk
      have hLb : L'.length ≤ 3 * j + 3 := by omega
      clear hLk
      by_cases hk : (k : Int) < ms
      ·go_wp2_with (go_at_call 34; refine (HO.out _).mono ?_; rintro e w1 ⟨rfl, hb⟩; refine Hid.out ?_)
       have HQ := Lib.hid (HQ.out.below hb)
       clear hb
       refine Lib.hid ?_
       go_wp2_with (go_at_call 128; refine (HM.out _).mono ?_; rintro e w2 ⟨rfl, hb⟩; refine Hid.out ?_)
       have HQ := Lib.hid (HQ.out.below hb)
       clear hb
       have hy := l01Below_any HQ.out.any 256 (by omega) (by omega)
       refine Lib.hid ?_
       go_wp2_with (go_at_call 55; refine hy.mono ?_; rintro e w3 ⟨z, rfl, z0, z1, hc, hg⟩; refine Hid.out ?_)
       obtain ⟨i4, h4, S4⟩ := HQ.out.back hc hg
       have HQ := Lib.hid S4
       clear hy hc hg S4
       have hP := pickInt_in (lo := 0) (hi := 255) HQ.out.any [.int .i64 0, .int .i64 1, .int .i64 2, .int .i64 3, .int .i64 127, .int .i64 128, .int .i64 250, .int .i64 255, .int .i64 z] (k := 9) rfl (by omega) (by omega)
        (by repeat (first | exact allIn_nil | refine allIn_cons ⟨by omega, by omega⟩ ?_))
       refine Lib.hid ?_
       go_wp2_with (go_at_call 57; refine hP.mono ?_; rintro e w4 ⟨y, rfl, y0, y1, hc, hg⟩; refine Hid.out ?_)
       obtain ⟨i5, h5, S2⟩ := HQ.out.back hc hg
       clear hP hc hg z0 z1
       have hw8 : IntKind.u8.wrap y = y := IntWalk.u8_in _ ⟨by omega, by omega⟩
       refine Lib.hid ?_
       go_wp2_with (at_builtin; refine wpList_append_own _ rfl _ _ 22 rfl w.heap.size 5 i0 (.int .u8 0) 1 1 Tryz.underlying22 hi hz0 hz1 hz2 rfl (by decide) _ _ _ rfl (S2.own.alloc _) ⟨_, 0, none⟩ 1 1 [.int .u8 y] rfl rfl ?tb1 ?tb2 ?tb3 ?tb4 ?tb5 ?_)
       case tb1 =>
        intro j u hj
        match j, hj with
        | 0, hj => simp at hj; subst hj; simp [Addr.add]
       case tb2 => intro u hu; simp at hu; subst hu; rfl
       case tb3 => unfold maxLen; omega
       case tb4 => omega
       case tb5 => have := S2.gr.size; simp; omega
       intro v' w9 hown hgrow _
       obtain ⟨r', cap', rfl, S3⟩ := S2.more y0 y1 hown hgrow
       have HS3 := Lib.hid S3
       clear hown hgrow S2 S3
       go_wp2
       go_roundw
       case rel => exact ⟨_, _, _, k + 1, _, _, by omega, by omega, by have := HLK.out; simp; omega, by go_num, rfl, HS3⟩
       case measure => simp [intOf]; omega
      ·go_wp2_with (first | (go_at_call 34; refine (HO.out _).mono ?_; rintro e w1 ⟨rfl, hb1⟩) | (go_at_call 128; refine (HM.out _).mono ?_; rintro e w2 ⟨rfl, hb2⟩))
       have HQ := Lib.hid ((HQ.out.below hb1).below hb2)
       clear hb1 hb2
       go_roundw
       case rel => exact ⟨_, _, _, _, _, j + 1, by omega, by have := HLK.out; omega, by go_num, rfl, HQ⟩
       case measure => simp [intOf]; omega
  ·obtain rfl : j = m := by omega
   have hS := HS.out
   have hcv := run_convert_bytes_back (P := Tryz.prog) wr 22 9 5 ⟨r, 0, none⟩ cap L Tryz.underlying22 Tryz.underlying5 Tryz.underlying9 (fun j hj => hS.own.cells (g := r) rfl j _ (by
    simp only [Lib.byteCells, List.getElem?_map]
    rw [List.getElem?_eq_getElem (by omega)]
    rfl))
   have HF := Lib.hid hS
   have HN := Lib.hid hL
   clear hS
   go_wp2
   go_ret
   exact ⟨_, rfl, by show L.toArray.size ≤ _; simpa using HN.out, ⟨i, h, HF.out.dr.hi, HF.out.dr.cur⟩, HF.out.gr⟩
theorem l09Code_any {B g n c : Nat} {A : Option Addr} {w : World} (h : Drawn B g n c A w) (m : Nat) (hm : m ≤ 20) :
  Calls Tryz.prog 111 #[.pointer (some ⟨g, 0, none⟩), .int .i64 (m : Int)] w (CodePost (3 * m) g A n c w) := by
 obtain ⟨bs, hbs⟩ := h.code.is
 obtain ⟨i, x, hi, hc⟩ := h.cur
 exact l09Code_is ⟨h.hB, h.hBg, hbs, hi, hc⟩ h.hB m hm
end Go.Proofs.YthklebkpoccblaaGreat
