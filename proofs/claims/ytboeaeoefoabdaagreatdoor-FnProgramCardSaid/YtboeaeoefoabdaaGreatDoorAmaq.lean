/-
  Texts put together by program: AsF.
  Conditions: as each theorem says.
-/
import Derived.Test.YtboeaeoefoabdaaGreatDoorAmap
namespace Go.Proofs.YtboeaeoefoabdaaGreatDoor
open Go.RowKit
theorem ext_take (l : List UInt8) (n : Nat) : (⟨l.toArray⟩ : ByteArray).extract 0 n = ⟨(l.take n).toArray⟩ :=
 ByteArray.ext (Array.toList_inj.mp (by rw [ext_list]; simp))
theorem three_back (x y z : Int) (hx : 0 ≤ x ∧ x < 256) (hy : 0 ≤ y ∧ y < 256) (hz : 0 ≤ z ∧ z < 256) (W : World) :
  (convert 22 9 (.slice (some ⟨W.heap.size, 0, none⟩) 3 3)).run Tryz.prog (W.alloc (.cells #[.int .u8 x, .int .u8 y, .int .u8 z] 5)) = .ok (.string ⟨[UInt8.ofNat x.toNat, UInt8.ofNat y.toNat, UInt8.ofNat z.toNat].toArray⟩) (W.alloc (.cells #[.int .u8 x, .int .u8 y, .int .u8 z] 5)) := by
 refine run_convert_bytes_back (P := Tryz.prog) _ 22 9 5 ⟨W.heap.size, 0, none⟩ 3 [UInt8.ofNat x.toNat, UInt8.ofNat y.toNat, UInt8.ofNat z.toNat] Tryz.underlying22 Tryz.underlying5 Tryz.underlying9 (fun j hj => ?_)
 rw [addr_add]
 refine cell_of_blk (blk_new _ _) ?_
 simp only [List.length_cons, List.length_nil] at hj
 match j, hj with
 | 0, _ => simp; omega
 | 1, _ => simp; omega
 | 2, _ => simp; omega
theorem cat_big (c out : List UInt8) (h : c.length + out.length ≤ 9000000000) (w : World) :
  (Op.stringOp .add ⟨c.toArray⟩ ⟨out.toArray⟩).run Tryz.prog w = .ok (.string ⟨(c ++ out).toArray⟩) w := by
 rw [run_string_add_sum w _ _ (by show c.toArray.size + out.toArray.size ≤ _; simp; omega)]
 rw [ByteArray.mk_append_mk]
def AsmPost (l : List UInt8) (w : World) (e : Ending) (w' : World) : Prop := ∃ (k : Nat) (out : List UInt8) (ok : Bool), Good (told l k) ∧ (wordB l k).size = 0 ∧ e = .returned (.tuple #[.string ⟨out.toArray⟩, .bool ok]) ∧ AsmOk (upL (lineS l k)) out ok ∧ Below w.heap.size w w'
theorem mode_sz {m : ByteArray} (h : m ∈ modesB) : modeSz m = 1 ∨ modeSz m = 2 ∨ modeSz m = 3 := by
 simp only [modesB, List.mem_cons, List.not_mem_nil, or_false] at h
 rcases h with rfl | rfl | rfl | rfl | rfl | rfl | rfl | rfl | rfl | rfl | rfl | rfl | rfl <;> decide
theorem row_jam : ∀ m : Fin 256, (rowAt m.val).1 ≠ jamN := by decide +kernel
theorem jam_listA : jamN.toList = [74, 65, 77] := by rw [ByteArray.toList_eq]; rfl
theorem op_row {c : Nat} (hc : c < 256) : opOf (c : Int) = if (rowAt c).1 = noB then (jamN, impM) else rowAt c := rowAt_mod (c : Int) c (by omega)
set_option maxRecDepth 100000 in
set_option maxHeartbeats 4000000 in
theorem spec_asm (s : ByteArray) (hs : s.size ≤ 1048576) (w : World) : Calls Tryz.prog 22 #[.string s] w (AsmPost s.data.toList w) := by
 have hu := Lib.hid (fun w => spec_upper s hs w)
 have hl : s.data.toList.length ≤ 1048576 := by simpa using hs
 generalize s.data.toList = l at *
 have hL : (upL l).length ≤ 1048576 := by rw [upL_length]; exact hl
 have hw0 := fun w => spec_wordsG ⟨(upL l).toArray⟩ (by rw [bsize]; exact hL) w
 rw [show (⟨(upL l).toArray⟩ : ByteArray).data.toList = upL l by simp] at hw0
 have hw := Lib.hid hw0
 clear hw0
 go_enter Tryz.func22, Tryz.ntmps22
 go_wp2_with (first
  | (go_at_call 64; (with_reducible refine (hu.out _).mono ?_); rintro e w1 ⟨rfl, hb1⟩)
  | (go_at_call 41; (with_reducible refine (hw.out _).mono ?_); rintro e w2 ⟨A, k, cap, rfl, hg, hz, hc, hb2⟩; refine Hid.out ?_))
 have B2 := Lib.hid (below_then hb1 hb2)
 have hgl := good_up hg
 have hzl : (wordB l k).size = 0 := by rw [← up_size]; exact hz
 have fin := Lib.hid (fun (out : List UInt8) (ok : Bool) (w' : World) (h : AsmOk (lineS (upL l) k) out ok) (hb : Below w.heap.size w w') => (⟨k, out, ok, hgl, hzl, rfl, by rw [← lineS_up]; exact h, hb⟩ : AsmPost l w (.returned (.tuple #[.string ⟨out.toArray⟩, .bool ok])) w'))
 have hc := Lib.hid hc
 have hgi := Lib.hid (fun i (hi : i ≤ k) => (good_iff (upL l) i).2 fun j hj => (good_iff (upL l) k).1 hg j (by omega))
 clear hb1 hb2 hg hz hgl hzl hu hw
 generalize upL l = L at *
 have hk1 : k ≤ 1048576 := by
  have := lineS_bound (hgi.out k (Nat.le_refl _))
  have h2 := told_bound L k (hgi.out k (Nat.le_refl _))
  omega
 have HL := Lib.hid hL
 clear hL hl hs
 refine Lib.hid ?_
 go_wp2
 go_loopw [5, 6] (fun v5 v6 wr => ∃ i : Nat, i ≤ k ∧ v6 = .int .i64 i ∧ v5 = .string ⟨(lineS L i).toArray⟩ ∧ w2 = wr) (fun _ v6 _ => k - (intOf v6).toNat)
 case atStart => exact ⟨0, by omega, rfl, rfl, rfl⟩
 case round =>
  obtain ⟨i, hi, rfl, rfl, rfl⟩ := hrel
  by_cases hlt : i < k
  ·obtain ⟨g, rfl, hcc⟩ := hc.out (by omega)
   have ci := hcc i hlt
   have hb := lineS_bound (hgi.out (i + 1) (by omega))
   rw [if_neg (by omega)] at hb
   have hLo := HL.out
   rcases Nat.eq_zero_or_pos i with rfl | hip
   ·have a1 : ∀ w, (Op.stringOp .add ⟨#[]⟩ ⟨(wordL (behind L 0)).toArray⟩).run Tryz.prog w = .ok (.string ⟨(lineS L 1).toArray⟩) w := fun w => cat_big [] (wordL (behind L 0)) (by rw [Nat.zero_add, lineS_one] at hb; simp; show (wordL L).length ≤ _; omega) w
    rw [lineS_zero]
    have hki : (0 : Int) < (k : Int) := by omega
    have hkn : 0 < k := by omega
    clear hb hcc
    go_wp2
    go_roundw
    case rel => exact ⟨1, by omega, by go_num, rfl, trivial⟩
    case measure => simp [intOf]; omega
   ·have e1 := lineS_succ L i hip
    have a1 : ∀ w, (Op.stringOp .add ⟨(lineS L i).toArray⟩ ⟨#[32]⟩).run Tryz.prog w = .ok (.string ⟨(lineS L i ++ [32]).toArray⟩) w := fun w => cat_big (lineS L i) [32] (by rw [e1] at hb; simp at hb ⊢; omega) w
    have a2 : ∀ w, (Op.stringOp .add ⟨(lineS L i ++ [32]).toArray⟩ ⟨(wordL (behind L i)).toArray⟩).run Tryz.prog w = .ok (.string ⟨(lineS L (i + 1)).toArray⟩) w := fun w => by
     have h := cat_big (lineS L i ++ [32]) (wordL (behind L i)) (by rw [e1] at hb; simp at hb ⊢; omega) w
     rw [show lineS L i ++ [32] ++ wordL (behind L i) = lineS L (i + 1) by rw [e1]; simp] at h
     exact h
    generalize lineS L i ++ [32] = T at a1 a2
    obtain ⟨T2, hEQ⟩ : ∃ T2, lineS L (i + 1) = T2 := ⟨_, rfl⟩
    rw [hEQ] at a2
    replace hEQ := Lib.hid hEQ
    obtain ⟨T1, hE1⟩ : ∃ T1, lineS L i = T1 := ⟨_, rfl⟩
    rw [hE1] at a1 ⊢
    have hki : (0 : Int) < (i : Int) := by omega
    have hlt2 : (i : Int) < (k : Int) := by omega
    clear hb hcc e1 hE1
    go_wp2
    go_roundw
    case rel => exact ⟨i + 1, by omega, by go_num, by rw [hEQ.out], trivial⟩
    case measure => simp [intOf]; omega
  ·obtain rfl : i = k := by omega
   have hLo := HL.out
   have hb := lineS_bound (hgi.out i (Nat.le_refl _))
   have hS : (lineS L i).length ≤ 1048576 := by omega
   have hn := fun w => spec_number ⟨(lineS L i).toArray⟩ (by rw [bsize]; exact hS) w
   rw [show (⟨(lineS L i).toArray⟩ : ByteArray).data.toList = lineS L i by simp] at hn
   clear hb hLo hc hgi
   generalize lineS L i = S at *
   have H1 := Lib.hid (fun c (hc : c < 256) h0 => @is_spec S c hc h0)
   generalize numN S = N at hn H1
   generalize numD S = D at hn H1
   replace hn := Lib.hid hn
   go_wp2_with (go_at_call 65; (with_reducible refine (hn.out _).mono ?_); rintro e w3 ⟨rfl, rfl⟩)
   go_loopw [9] (fun v9 wr => ∃ c : Nat, c ≤ 256 ∧ v9 = .int .i64 c ∧ Hid (∀ j, j < c → ¬ IsOp S j) ∧ Hid (Below w.heap.size w wr)) (fun v9 _ => 256 - (intOf v9).toNat)
   case atStart => exact ⟨0, by omega, rfl, Lib.hid (fun j hj => absurd hj (Nat.not_lt_zero _)), B2⟩
   case round =>
    obtain ⟨c, hc, rfl, hno, hb⟩ := hrel
    by_cases hlt : c < 256
    ·have HO := fun w => spec_opOf (c : Int) w
     have hz := op_size3 (c : Int)
     have HT := fun w => spec_OpText (c : Int) N (N / 256) w
     have ho := op_row hlt
     have hno1 : ¬ IsOp S c → Hid (∀ j, j < c + 1 → ¬ IsOp S j) := fun h => Lib.hid (fun j hj => by
      by_cases e : j = c
      ·subst e; exact h
      ·exact hno.out j (by omega))
     by_cases hr : (rowAt c).1 = noB
     ·rw [if_pos hr] at ho
      rw [ho] at HO
      have HO := Lib.hid HO
      have hn2 := hno1 (fun h => h.1 hr)
      have hj := jam_listA
      have HM := Lib.hid (fun w => spec_modeSize impM w)
      clear HT hno1 ho hr hz
      go_wp2_with (first
       | (go_at_call 24; (with_reducible refine (HO.out _).mono ?_); rintro e w5 ⟨rfl, hb5⟩)
       | (go_at_call 25; (with_reducible refine (HM.out _).mono ?_); rintro e w6 ⟨rfl, hb6⟩; refine Hid.out ?_))
      have q0 := cell_of_blk (i := 0) (v := .string jamN) (blk_below (blk_new w5 (.cells #[.string jamN, .string impM] 41)) hb6) rfl
      have hb7 := Lib.hid (below_then (below_alloc (below_then hb.out hb5) (.cells #[.string jamN, .string impM] 41)) hb6)
      clear hb5 hb6 HO HM
      refine Lib.hid ?_
      go_wp2
      go_roundw
      case rel => exact ⟨c + 1, by omega, by go_num, hn2, hb7⟩
      case measure => simp [intOf]; omega
     ·rw [if_neg hr] at ho
      rw [ho] at HO HT hz
      obtain ⟨gc, gm⟩ := row_good hlt hr
      have hi := H1.out c hlt hr
      have hja : ¬ (rowAt c).1 = jamN := row_jam ⟨c, hlt⟩
      have hAS : ∀ lo hi : Int, opT (rowAt c).1 (rowAt c).2 lo hi = S → AsmOk S ([UInt8.ofNat c, UInt8.ofNat (lo % 256).toNat, UInt8.ofNat (hi % 256).toNat].take (modeSz (rowAt c).2).toNat) true := fun lo hi h => .inl ⟨rfl, c, lo, hi, hlt, hr, h, hno.out, rfl⟩
      generalize (rowAt c).1 = a at *
      generalize (rowAt c).2 = m at *
      have hnj := ne_list [74, 65, 77] hja
      have HM := fun w => spec_modeSize m w
      have hz3 := mode_sz gm
      generalize modeSz m = z at *
      have HO := Lib.hid HO
      have HM := Lib.hid HM
      have HA := Lib.hid hAS
      clear hAS gc gm hz ho hr hja
      go_wp2_with (first
       | (go_at_call 24; (with_reducible refine (HO.out _).mono ?_); rintro e w5 ⟨rfl, hb5⟩)
       | (go_at_call 25; (with_reducible refine (HM.out _).mono ?_); rintro e w6 ⟨rfl, hb6⟩; refine Hid.out ?_))
      have q0 := cell_of_blk (i := 0) (v := .string a) (blk_below (blk_new w5 (.cells #[.string a, .string m] 41)) hb6) rfl
      have hb7 := Lib.hid (below_then (below_alloc (below_then hb.out hb5) (.cells #[.string a, .string m] 41)) hb6)
      clear hb5 hb6 HO HM
      have z1 : 1 ≤ z := by omega
      have z2 : z ≤ 3 := by omega
      clear hz3
      by_cases hd : D = 2 * z - 2
      ·by_cases hS : opT a m N (N / 256) = S
       ·rw [hS] at HT
        have HT := Lib.hid HT
        have HA2 := Lib.hid (HA.out N (N / 256) hS)
        clear hi hno1 HA hS hno H1
        subst hd
        have hcv := fun W => three_back (c : Int) (N % 256) (N / 256 % 256) (by omega) (by omega) (by omega) W
        obtain ⟨X, hX⟩ : ∃ X : ByteArray, X = ⟨[UInt8.ofNat (c : Int).toNat, UInt8.ofNat (N % 256).toNat, UInt8.ofNat (N / 256 % 256).toNat].toArray⟩ := ⟨_, rfl⟩
        rw [← hX] at hcv
        have hXs : (X.size : Int) = 3 := by rw [hX]; rfl
        have hzX : z ≤ (X.size : Int) := by omega
        have hz0 : 0 ≤ z := by omega
        have hOut := Lib.hid (show X.extract 0 z.toNat = ⟨([UInt8.ofNat c, UInt8.ofNat (N % 256).toNat, UInt8.ofNat (N / 256 % 256).toNat].take z.toNat).toArray⟩ by rw [hX, ext_take]; rfl)
        have hXs := Lib.hid hXs
        clear hX
        refine Lib.hid ?_
        go_wp2_with (go_at_call 23; (with_reducible refine (HT.out _).mono ?_); rintro e w7 ⟨rfl, hb8⟩)
        go_ret2
        have HF := fin.out _ true _ HA2.out (below_alloc (below_then hb7.out hb8) (.cells #[.int .u8 (c : Int), .int .u8 (N % 256), .int .u8 (N / 256 % 256)] 5))
        rw [← hOut.out] at HF
        exact HF
       ·have hn2 := hno1 (fun h => hS (hi.1 h).2)
        have hne := ne_list (x := ⟨(opT a m N (N / 256)).toArray⟩) S (fun h => hS (by simpa using congrArg (fun b : ByteArray => b.data.toList) h))
        generalize (⟨(opT a m N (N / 256)).toArray⟩ : ByteArray) = T at *
        have HT := Lib.hid HT
        clear hi hno1 HA hS hno H1
        subst hd
        refine Lib.hid ?_
        go_wp2_with (go_at_call 23; (with_reducible refine (HT.out _).mono ?_); rintro e w7 ⟨rfl, hb8⟩)
        go_roundw
        case rel => exact ⟨c + 1, by omega, by go_num, hn2, Lib.hid (below_then hb7.out hb8)⟩
        case measure => simp [intOf]; omega
      ·have hn2 := hno1 (fun h => hd (hi.1 h).1)
       clear hi hno1 HA HT hno H1
       refine Lib.hid ?_
       go_wp2
       go_roundw
       case rel => exact ⟨c + 1, by omega, by go_num, hn2, hb7⟩
       case measure => simp [intOf]; omega
    ·obtain rfl : c = 256 := by omega
     have h2 : ¬ (256 : Int) < (256 : Int) := by omega
     go_wp2
     go_ret2
     exact fin.out [] false wr (.inr ⟨rfl, rfl, hno.out⟩) hb.out
end Go.Proofs.YtboeaeoefoabdaaGreatDoor
