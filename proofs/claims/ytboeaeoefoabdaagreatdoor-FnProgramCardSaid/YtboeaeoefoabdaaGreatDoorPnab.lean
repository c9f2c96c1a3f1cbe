/-
  Texts put together by program: PrA, PrB, PrC, PrL.
  Conditions: as each theorem says.
-/
import Derived.Below
import Derived.BigQuiet
import Derived.Deep.AppendLies
import Derived.Deep.OwnRows
import Derived.Deep.QuietTactic
import Derived.Deep.RegionHeld3
import Derived.Deep.RegionWith
import Derived.HandedShaped
import Derived.Handy
import Derived.IntWalk
import Derived.KernelRfl
import Derived.Laws.AppendOwn
import Derived.Laws.BitsLemmas
import Derived.Laws.Closers25b
import Derived.Laws.CopyOwn
import Derived.Laws.OwnMore
import Derived.Laws.RangeAny
import Derived.Laws.RangeString
import Derived.Laws.Rows
import Derived.Laws.Runes
import Derived.Laws.Tables
import Derived.Lib.AtoiErrMem
import Derived.Lib.BufferWrite
import Derived.Lib.ConvBytes
import Derived.Lib.CountLaws
import Derived.Lib.Hide
import Derived.Lib.IndexAny
import Derived.Lib.IndexBytes
import Derived.Lib.IndexMore
import Derived.Lib.OthersKept
import Derived.Lib.SlTrimSet
import Derived.Lib.SmallJoins
import Derived.Lib.Split
import Derived.Lib.SplitLaws
import Derived.Lib.Strings
import Derived.LoopIn
import Derived.LoopNIn
import Derived.Maps.AppendAt
import Derived.Maps.OwnRows
import Derived.Maps.Views
import Derived.OpenShut
import Derived.Outline
import Derived.OwnWalkIn
import Derived.ProofKit
import Derived.RangeFuncBound
import Derived.RangeFuncBox
import Derived.RangeFuncCalls
import Derived.RangeFuncFrom
import Derived.RangeFuncLeaves
import Derived.RangeFuncNested
import Derived.Shelf.Abstract
import Derived.Shelf.LaysC
import Derived.Shelf.LaysM
import Derived.Shelf.RegionOpen
import Derived.Shelf.Small.Strs
import Derived.Shelf.Small.Utf8
import Derived.Shelf.Strconv.Atoi
import Derived.Shelf.Strconv.AtoiAll
import Derived.Shelf.Strconv.AtoiErrFast
import Derived.Shelf.Strconv.AtoiFail
import Derived.Shelf.Strconv.AtoiInnerAll
import Derived.Shelf.Strconv.AtoiLong
import Derived.Shelf.Strconv.Clone
import Derived.Shelf.Strconv.Itoa0
import Derived.Shelf.Strconv.Itoa1
import Derived.Shelf.Strconv.Itoa2
import Derived.Shelf.Strconv.Itoa3
import Derived.Shelf.Strconv.Lower
import Derived.Shelf.Strconv.ParseInt10
import Derived.Shelf.Strconv.ParseIntEmpty
import Derived.Shelf.Strconv.ParseUint10
import Derived.Shelf.Strconv.ParseUint10Any
import Derived.Shelf.Strconv.ParseUint10Empty
import Derived.Shelf.Strconv.RangeError
import Derived.Shelf.Strconv.SyntaxError
import Derived.Shelf.Strconv.ToError
import Derived.Shelf.Strconv.ToErrorRange
import Derived.Shelf.Strings.AsciiSet
import Derived.Shelf.Strings.Builder1
import Derived.Shelf.Strings.Builder2
import Derived.Shelf.Strings.Count
import Derived.Shelf.Strings.Cut
import Derived.Shelf.Strings.Explode
import Derived.Shelf.Strings.IndexAny
import Derived.Shelf.Strings.IndexAnyAll
import Derived.Shelf.Strings.OnBuilder
import Derived.Shelf.Strings.Prefix
import Derived.Shelf.Strings.RuneCount
import Derived.Shelf.Strings.Runes
import Derived.Shelf.Strings.Search1
import Derived.Shelf.Strings.Search2
import Derived.Shelf.Strings.Search3
import Derived.Shelf.Strings.Shaped
import Derived.Shelf.Strings.SlTrimAscii
import Derived.Shelf.Strings.Split
import Derived.Shelf.Strings.SplitShaped
import Derived.Shelf.Strings.Trim
import Derived.Shelf.Unicode.Decode
import Derived.Shelf.Unicode.DecodeAny
import Derived.Shelf.Unicode.DecodeLast
import Derived.Shelf.Unicode.DecodeSlow
import Derived.Shelf.Utf8.RuneCount
import Derived.Shelf.Vars
import Derived.Stop.LaidErr
import Derived.TacticsInMore
import Derived.Test.YtboeaeoefoabdaaGreatDoorProg
import Derived.Test.YtboeaeoefoabdaaGreatDoorRows
import Derived.WalkKit
import Derived.WalkMore
import Derived.WalkSpells
import Derived.Test.YtboeaeoefoabdaaGreatDoorPnaa
namespace Go.Proofs.YtboeaeoefoabdaaGreatDoor
open Go.RowKit
def LinesAt (w : World) (e : Ending) (w' : World) (Ls : List ByteArray) : Prop := ∃ (A : Option Addr) (cap : Nat), e = .returned (.slice A Ls.length cap) ∧ (Ls = [] ∨ ∃ g, A = some ⟨g, 0, none⟩ ∧ ∀ i (h : i < Ls.length), w'.cell? ⟨g, i, none⟩ = some (.string Ls[i])) ∧ Below w.heap.size w w'
theorem at_of_new {w w' : World} {v : Value} {Ls : List ByteArray} (h : NewStrs w.heap.size w' v Ls) (hb : Below w.heap.size w w') : LinesAt w (.returned v) w' Ls := by
 obtain ⟨g, cap, cs, rfl, _, hg, _, hc⟩ := h
 exact ⟨_, cap, rfl, .inr ⟨g, rfl, fun i hi => cell_of_blk hg (hc i hi)⟩, hb⟩
theorem spec_linesA (s : ByteArray) (hs : s.size ≤ 1048576) (w : World) : Calls Tryz.prog 40 #[.string s] w fun e w' => LinesAt w e w' (lineBs s) := by
 by_cases h0 : s.size = 0
 ·obtain rfl : s = ⟨#[]⟩ := by
   obtain ⟨⟨l⟩⟩ := s
   cases l with
   | nil => rfl
   | cons _ _ => simp [ByteArray.size] at h0
  refine (spec_lines_empty w).mono ?_
  rintro e w' ⟨v, rfl, hn, hb⟩
  exact at_of_new hn hb
 ·refine (spec_lines s h0 hs w).mono ?_
  rintro e w' ⟨v, rfl, hn, hb⟩
  exact at_of_new hn hb
theorem impl_linesA (s : ByteArray) (hs : s.size ≤ 1048576) (w : World) (m : Int) (hm : w.cell? ⟨1, 0, none⟩ = some (.int .i64 m)) : Calls Tryz.prog 29 #[.string s] w fun e w' => LinesAt w e w' (lineBs s) := by
 by_cases h0 : s.size = 0
 ·have hl : lineBs s = [] := by unfold lineBs; rw [if_pos h0]
  obtain rfl : s = ⟨#[]⟩ := by
   obtain ⟨⟨l⟩⟩ := s
   cases l with
   | nil => rfl
   | cons _ _ => simp [ByteArray.size] at h0
  rw [hl]
  clear hm
  go_enter Tryz.func29, Tryz.ntmps29
  go_wp2
  go_ret
  exact ⟨none, 0, rfl, .inl rfl, Below.refl _ _⟩
 ·have hl : lineBs s = linesB s := by unfold lineBs; rw [if_neg h0]
  rw [hl]
  have hemp : s.toList.isEmpty = false := by
   rw [← decide_eq_emptyBytes]
   exact decide_eq_false (fun h => h0 (by rw [h]; rfl))
  have hS := Tryz.strings_Split s nl m w (by omega) hm (by decide)
  have hc : (linesB s).length = Lib.countB s nl + 1 := Lib.splitB_all nl (by decide) 0 _ s rfl
  have hN : LinesAt w (.returned (.slice (some ⟨w.heap.size, 0, none⟩) (Lib.countB s nl + 1) (Lib.countB s nl + 1))) (w.alloc (.cells ((linesB s).map Value.string).toArray 9)) (linesB s) :=
   ⟨some ⟨w.heap.size, 0, none⟩, Lib.countB s nl + 1, by rw [hc], .inr ⟨w.heap.size, rfl, fun i h => cell_of_blk (blk_new _ _) (by simp [h])⟩, below_alloc (Below.refl _ _) _⟩
  have HN := Lib.hid hN
  clear hN hm h0 hs hl hc
  go_enter Tryz.func29, Tryz.ntmps29
  go_wp2_with (go_at_call 71; refine hS.mono ?_; rintro e w' ⟨rfl, rfl⟩)
  go_ret
  exact HN.out
set_option maxRecDepth 100000 in
set_option maxHeartbeats 4000000 in
theorem impl_hasI (s : ByteArray) (hs : s.size ≤ 1048576) (w : World) : Calls Tryz.prog 69 #[.string s] w fun e w' => ∃ b : Bool, e = .returned (.bool b) ∧ (b = true ↔ hasI s.data.toList) ∧ Below w.heap.size w w' := by
 have HF := fun w => first_word s (by omega) w
 unfold WordPost at HF
 obtain ⟨wd, hw⟩ : ∃ wd, wordL s.data.toList = wd := ⟨_, rfl⟩
 have hI : hasI s.data.toList ↔ ∃ c r, wd = c :: r ∧ c ≠ 59 := by unfold hasI; rw [hw]
 rw [hw] at HF
 generalize restL s.data.toList = rs at *
 cases wd with
 | nil =>
  have hn : ¬ hasI s.data.toList := fun h => by obtain ⟨c, r, e, _⟩ := hI.1 h; cases e
  have HN := Lib.hid hn
  replace HF := Lib.hid HF
  clear hI hn hw
  go_enter Tryz.func69, Tryz.ntmps69
  go_wp2_with (go_at_call 102; (with_reducible refine (HF.out _).mono ?_); rintro e w1 ⟨rfl, hb1⟩)
  go_ret
  exact ⟨false, rfl, ⟨fun h => (by cases h), fun h => absurd h HN.out⟩, hb1⟩
 | cons c r =>
  have HP := fun w => Tryz.strings_HasPrefix ⟨(c :: r).toArray⟩ ⟨#[59]⟩ w
  have hp : Lib.hasPrefix (⟨(c :: r).toArray⟩ : ByteArray).data.toList (⟨#[59]⟩ : ByteArray).data.toList = (59 == c) := by
   simp [Lib.hasPrefix, List.isPrefixOf]
  rw [hp] at HP
  replace HP := Lib.hid HP
  have HI := Lib.hid (show hasI s.data.toList ↔ c ≠ 59 from hI.trans ⟨fun ⟨_, _, e, h⟩ => by cases e; exact h, fun h => ⟨c, r, rfl, h⟩⟩)
  replace HF := Lib.hid HF
  clear hI hp hw
  obtain ⟨X, hX⟩ : ∃ X : ByteArray, (⟨(c :: r).toArray⟩ : ByteArray) = X := ⟨_, rfl⟩
  have hne : X.toList.isEmpty = false := by rw [← hX, ByteArray.toList_eq]; simp
  rw [hX] at HF HP
  clear hX
  by_cases hc : c = 59
  ·have hn := Lib.hid (show ¬ hasI s.data.toList from fun h => HI.out.1 h hc)
   have he : ((59 : UInt8) == c) = true := by simp [hc]
   rw [he] at HP
   clear HI he hc
   go_enter Tryz.func69, Tryz.ntmps69
   go_wp2_with (first
    | (go_at_call 102; (with_reducible refine (HF.out _).mono ?_); rintro e w1 ⟨rfl, hb1⟩)
    | (go_at_call 103; (with_reducible refine (HP.out _).mono ?_); rintro e w2 ⟨rfl, rfl⟩))
   go_ret
   exact ⟨false, rfl, ⟨fun h => (by cases h), fun h => absurd h hn.out⟩, hb1⟩
  ·have hn := Lib.hid (show hasI s.data.toList from HI.out.2 hc)
   have he : ((59 : UInt8) == c) = false := by simp [Ne.symm hc]
   rw [he] at HP
   clear HI he hc
   go_enter Tryz.func69, Tryz.ntmps69
   go_wp2_with (first
    | (go_at_call 102; (with_reducible refine (HF.out _).mono ?_); rintro e w1 ⟨rfl, hb1⟩)
    | (go_at_call 103; (with_reducible refine (HP.out _).mono ?_); rintro e w2 ⟨rfl, rfl⟩))
   go_ret
   exact ⟨true, rfl, ⟨fun _ => hn.out, fun _ => rfl⟩, hb1⟩
end Go.Proofs.YtboeaeoefoabdaaGreatDoor
namespace Go.Proofs.YtboeaeoefoabdaaGreatDoor
open Go.RowKit
def ProgPost (s : ByteArray) (w : World) (e : Ending) (w' : World) : Prop := ∃ (out : List UInt8) (bad : Int), e = .returned (.tuple #[.string ⟨out.toArray⟩, .int .i64 bad]) ∧ ProgOk ((lineBs s).map fun x => x.data.toList) out bad ∧ Below w.heap.size w w'
theorem prog_post {s : ByteArray} {w : World} (out : List UInt8) (bad : Int) (w' : World) (h : ProgOk ((lineBs s).map fun x => x.data.toList) out bad) (hb : Below w.heap.size w w') : ProgPost s w (.returned (.tuple #[.string ⟨out.toArray⟩, .int .i64 bad])) w' := ⟨out, bad, rfl, h, hb⟩
theorem no_word {l : List UInt8} (hz : (wordB l 0).size = 0) : ¬ hasI l := by
 rintro ⟨c, r, e, _⟩
 rw [word_size] at hz
 have e0 : behind l 0 = l := rfl
 rw [e0, e] at hz
 simp at hz
theorem some_word {l : List UInt8} {k : Nat} (hg : Good (told l k)) (hk : 0 < k) : ∃ c r, wordL l = c :: r := by
 have h := (good_iff l k).1 hg 0 hk
 rw [word_size] at h
 have e0 : behind l 0 = l := rfl
 rw [e0] at h
 cases hw : wordL l with
 | nil => rw [hw] at h; simp at h
 | cons c r => exact ⟨c, r, rfl⟩
set_option maxRecDepth 100000 in
set_option maxHeartbeats 4000000 in
theorem spec_program (s : ByteArray) (hs : s.size ≤ 1048576) (w : World) : Calls Tryz.prog 28 #[.string s] w (ProgPost s w) := by
 have HL := Lib.hid (fun w => spec_linesA s hs w)
 obtain ⟨hn, hsm⟩ := lineBs_small s
 have hsm : ∀ x ∈ lineBs s, x.size ≤ 1048576 := fun x hx => Nat.le_trans (hsm x hx) hs
 have hn : (lineBs s).length ≤ 1048577 := by omega
 have fin := Lib.hid (fun out bad w' => @prog_post s w out bad w')
 generalize lineBs s = Ls at *
 obtain ⟨Lm, hLm⟩ : ∃ Lm, Ls.map (fun x : ByteArray => x.data.toList) = Lm := ⟨_, rfl⟩
 rw [hLm] at fin
 have hll : Lm.length = Ls.length := by rw [← hLm]; simp
 have hat : ∀ i (h : i < Ls.length) (h2 : i < Lm.length), Lm[i] = Ls[i].data.toList := fun i h h2 => by subst hLm; simp
 have HAT := Lib.hid hat
 have HSM := Lib.hid hsm
 have HLL := Lib.hid hll
 clear hs hsm hLm hat hll
 go_enter Tryz.func28, Tryz.ntmps28
 go_wp2_with (go_at_call 40; (with_reducible refine (HL.out _).mono ?_); rintro e w1 ⟨A, cap, rfl, hA, hb1⟩; refine Hid.out ?_)
 have HA := Lib.hid hA
 have B1 := Lib.hid hb1
 clear HL hA hb1
 refine Lib.hid ?_
 go_wp2
 go_loopw [4, 6] (fun v4 v6 wr => ∃ (i : Nat) (o : List UInt8), i ≤ Ls.length ∧ v6 = .int .i64 i ∧ v4 = .string ⟨o.toArray⟩ ∧ Hid (ProgPre Lm i o) ∧ Hid (Below w1.heap.size w1 wr)) (fun _ v6 _ => Ls.length - (intOf v6).toNat)
 case atStart => exact ⟨0, [], by omega, rfl, rfl, Lib.hid (pre_zero _), Lib.hid (Below.refl _ _)⟩
 case round =>
  obtain ⟨i, o, hi, rfl, rfl, hp, hb⟩ := hrel
  by_cases hlt : i < Ls.length
  ·rcases HA.out with rfl | ⟨g, rfl, hcell⟩
   ·exact absurd hlt (Nat.not_lt_zero _)
   have ci := (hb.out.cell (p := ⟨g, i, none⟩) (World.block_lt_of_cell? _ _ (hcell i hlt))).trans (hcell i hlt)
   have hsz := HSM.out Ls[i] (List.getElem_mem hlt)
   have hli : i < Lm.length := by rw [HLL.out]; exact hlt
   have ha := HAT.out i hlt hli
   have nxt := Lib.hid (fun p (h : LineR (Lm[i]'hli) (some p)) => pre_succ hp.out hli h)
   have bad := Lib.hid (fun (h : LineR (Lm[i]'hli) none) => prog_bad hli hp.out h)
   have hol := pre_len (by omega) hp.out
   rw [ha] at nxt bad
   generalize hT : Ls[i] = t at *
   have HWd := Lib.hid (fun w => spec_wordsG t hsz w)
   have HAs := Lib.hid (fun w => spec_asm t hsz w)
   clear hcell hT ha hli
   go_wp2_with (go_at_call 41; (with_reducible refine (HWd.out _).mono ?_); rintro e w2 ⟨A2, k, cap2, rfl, hg, hz, hc, hb2⟩; refine Hid.out ?_)
   have hB2 := Lib.hid (below_then hb.out hb2)
   have ci2 := (hb2.cell (p := ⟨g, i, none⟩) (World.block_lt_of_cell? _ _ ci)).trans ci
   clear ci HWd hb2
   generalize t.data.toList = l at *
   by_cases hk : k = 0
   ·subst hk
    have hx := Lib.hid (nxt.out [] (.inl ⟨no_word hz, rfl⟩))
    rw [List.append_nil] at hx
    clear nxt bad hg hz hc hol
    refine Lib.hid ?_
    go_wp2
    go_roundw
    case rel => exact ⟨i + 1, o, by omega, by go_num, rfl, hx, hB2⟩
    case measure => simp [intOf]; omega
   ·obtain ⟨c, r, hw⟩ := some_word hg (by omega)
    obtain ⟨g2, rfl, hcc⟩ := hc (by omega)
    have c0 := hcc 0 (by omega)
    rw [show behind l 0 = l from rfl, hw] at c0
    have hkn : 0 < k := by omega
    have hk0 : (0 : Int) < (k : Int) := by omega
    have hk2 : ¬ (k : Int) = 0 := by omega
    have hI : hasI l ↔ c ≠ 59 := ⟨fun ⟨_, _, e, h⟩ => by rw [hw] at e; cases e; exact h, fun h => ⟨c, r, hw, h⟩⟩
    obtain ⟨X, hX⟩ : ∃ X : ByteArray, (⟨(c :: r).toArray⟩ : ByteArray) = X := ⟨_, rfl⟩
    have hXs : 0 < X.size := by rw [← hX, bsize]; simp
    have hX0 : X[0]'hXs = c := by subst hX; rfl
    have hXi : (0 : Int) < (X.size : Int) := by omega
    rw [hX] at c0
    have hX0i : ((X[0]'hXs).toNat : Int) = (c.toNat : Int) := by rw [hX0]
    clear hX hcc hg hz hc hw hX0
    by_cases h59 : c = 59
    ·have hx := Lib.hid (nxt.out [] (.inl ⟨fun h => hI.1 h h59, rfl⟩))
     rw [List.append_nil] at hx
     have hci : (c.toNat : Int) = 59 := by rw [h59]; rfl
     rw [hci] at hX0i
     clear nxt bad hol hI h59
     refine Lib.hid ?_
     go_wp2
     go_roundw
     case rel => exact ⟨i + 1, o, by omega, by go_num, rfl, hx, hB2⟩
     case measure => simp [intOf]; omega
    ·have hci : ¬ (c.toNat : Int) = 59 := fun h => h59 (UInt8.toNat_inj.mp (by show c.toNat = 59; omega))
     have hcb : ((c.toNat : Int) == 59) = false := by simpa using hci
     have hcn : ¬ c.toNat = 59 := fun h => hci (by omega)
     have hIy := Lib.hid (hI.2 h59)
     clear hI h59
     refine Lib.hid ?_
     go_wp2_with (go_at_call 22; (with_reducible refine (HAs.out _).mono ?_); rintro e w3 ⟨k2, out, ok, hg2, hz2, rfl, hok, hb3⟩; refine Hid.out ?_)
     have hB3 := Lib.hid (below_then hB2.out hb3)
     have hR := Lib.hid (.inr ⟨hIy.out, k2, out, ok, hg2, hz2, hok, rfl⟩ : LineR l (if ok = true then some out else none))
     have hol2 := asm_len hok
     clear hb3 hg2 hz2 hok HAs hB2 hIy c0 hX0i hci hcb hcn ci2
     cases ok
     ·have hx := Lib.hid (fin.out [] (i : Int) w3 (bad.out hR.out) (below_then B1.out hB3.out))
      clear nxt bad hR fin
      refine Lib.hid ?_
      go_wp2
      go_ret2
      exact hx.out
     ·have hx := Lib.hid (nxt.out out hR.out)
      have a1 : ∀ w, (Op.stringOp .add ⟨o.toArray⟩ ⟨out.toArray⟩).run Tryz.prog w = .ok (.string ⟨(o ++ out).toArray⟩) w := fun w => cat_big o out (by omega) w
      obtain ⟨o2, ho2⟩ : ∃ o2, o ++ out = o2 := ⟨_, rfl⟩
      rw [ho2] at a1
      rw [ho2] at hx
      clear nxt bad hR ho2 hol hol2
      refine Lib.hid ?_
      go_wp2
      go_roundw
      case rel => exact ⟨i + 1, o2, by omega, by go_num, rfl, hx, hB3⟩
      case measure => simp [intOf]; omega
  ·obtain rfl : i = Ls.length := by omega
   have hx := Lib.hid (fin.out o (-1) wr (prog_all (by rw [HLL.out]; exact hp.out)) (below_then B1.out hb.out))
   clear hp
   go_wp2
   go_ret2
   exact hx.out
end Go.Proofs.YtboeaeoefoabdaaGreatDoor
namespace Go.Proofs.YtboeaeoefoabdaaGreatDoor
open Go.RowKit
theorem texts_of_own {w : World} {B : Nat} {v : Value} {xs : List ByteArray} (h : w.ownsRow B 9 1 v xs.length (xs.map Value.string)) : ∃ (A : Option Addr) (cap : Nat), v = .slice A xs.length cap ∧ TextsAt w A xs := by
 rcases h.2 with ⟨rfl, h0⟩ | ⟨g, cap, cur, rfl, _, hg, _⟩
 ·obtain rfl : xs = [] := List.eq_nil_of_length_eq_zero h0
  exact ⟨none, 0, rfl, .inl rfl⟩
 ·refine ⟨some ⟨g, 0, none⟩, cap, rfl, .inr ⟨g, rfl, (Array.getElem?_eq_some_iff.1 hg).1, fun i hi => ?_⟩⟩
  have := h.cells (g := g) rfl i (.string xs[i]) (by simp [hi])
  cases i with
  | zero => simpa [Addr.add] using this
  | succ j => simpa [Addr.add] using this
theorem flatB_snoc (xs : List ByteArray) (x : ByteArray) : flatB (xs ++ [x]) = flatB xs ++ x.data.toList := by simp [flatB]
set_option maxRecDepth 100000 in
set_option maxHeartbeats 4000000 in
theorem impl_program (s : ByteArray) (hs : s.size ≤ 1048576) (w : World) (m : Int) (hm : w.cell? ⟨1, 0, none⟩ = some (.int .i64 m)) (x : Value) (hx : w.cell? ⟨2, 0, none⟩ = some (.iface 188 x)) : Calls Tryz.prog 27 #[.string s] w (ProgPost s w) := by
 obtain ⟨i0, hi, hz0, hz1, hz2⟩ := info_parts info9l
 have HL := Lib.hid (impl_linesA s hs w m hm)
 obtain ⟨hn, hsm⟩ := lineBs_small s
 have hsm : ∀ x ∈ lineBs s, x.size ≤ 1048576 := fun x hx => Nat.le_trans (hsm x hx) hs
 have hn : (lineBs s).length ≤ 1048577 := by omega
 have fin := Lib.hid (fun out bad w' => @prog_post s w out bad w')
 generalize lineBs s = Ls at *
 obtain ⟨Lm, hLm⟩ : ∃ Lm, Ls.map (fun x : ByteArray => x.data.toList) = Lm := ⟨_, rfl⟩
 rw [hLm] at fin
 have hll : Lm.length = Ls.length := by rw [← hLm]; simp
 have hat : ∀ i (h : i < Ls.length) (h2 : i < Lm.length), Lm[i] = Ls[i].data.toList := fun i h h2 => by subst hLm; simp
 have HAT := Lib.hid hat
 have HSM := Lib.hid hsm
 have HLL := Lib.hid hll
 have hm := Lib.hid hm
 have hx := Lib.hid hx
 clear hs hsm hLm hat hll
 go_enter Tryz.func27, Tryz.ntmps27
 go_wp2_with (go_at_call 29; (with_reducible refine HL.out.mono ?_); rintro e w1 ⟨A, cap, rfl, hA, hb1⟩; refine Hid.out ?_)
 have HA := Lib.hid hA
 have B1 := Lib.hid hb1
 have hm1 := Lib.hid ((hb1.cell (p := ⟨_, 0, none⟩) (World.block_lt_of_cell? _ _ hm.out)).trans hm.out)
 have hx1 := Lib.hid ((hb1.cell (p := ⟨_, 0, none⟩) (World.block_lt_of_cell? _ _ hx.out)).trans hx.out)
 clear HL hA hb1 hm hx
 refine Lib.hid ?_
 go_wp2
 go_loopw [4, 12] (fun v4 v12 wr => ∃ (i : Nat) (xs : List ByteArray), i ≤ Ls.length ∧ v12 = .int .i64 i ∧ wr.ownsRow w1.heap.size 9 1 v4 xs.length (xs.map Value.string) ∧ xs.length ≤ i ∧ Hid (ProgPre Lm i (flatB xs)) ∧ Below w1.heap.size w1 wr) (fun _ v12 _ => Ls.length - (intOf v12).toNat)
 case atStart => exact ⟨0, [], by omega, rfl, ⟨rfl, .inl ⟨rfl, rfl⟩⟩, Nat.le_refl _, Lib.hid (pre_zero _), Below.refl _ _⟩
 case round =>
  obtain ⟨i, xs, hil, rfl, hown, hxl, hp, hb⟩ := hrel
  by_cases hlt : i < Ls.length
  ·rcases HA.out with rfl | ⟨g, rfl, hcell⟩
   ·exact absurd hlt (Nat.not_lt_zero _)
   have ci := (hb.cell (p := ⟨g, i, none⟩) (World.block_lt_of_cell? _ _ (hcell i hlt))).trans (hcell i hlt)
   have hsz := HSM.out Ls[i] (List.getElem_mem hlt)
   have hli : i < Lm.length := by rw [HLL.out]; exact hlt
   have ha := HAT.out i hlt hli
   have nxt := Lib.hid (fun p (h : LineR (Lm[i]'hli) (some p)) => pre_succ hp.out hli h)
   have bad := Lib.hid (fun (h : LineR (Lm[i]'hli) none) => prog_bad hli hp.out h)
   rw [ha] at nxt bad
   generalize hT : Ls[i] = t at *
   have HHs := Lib.hid (fun w => impl_hasI t hsz w)
   have HAs := Lib.hid (fun w hm hx => impl_asm t hsz w m hm x hx)
   have hown := Lib.hid hown
   have hb := Lib.hid hb
   clear hcell hT ha hli
   go_wp2_with (go_at_call 69; (with_reducible refine (HHs.out _).mono ?_); rintro e w2 ⟨b, rfl, hbi, hb2⟩; refine Hid.out ?_)
   have hB2 := Lib.hid (below_then hb.out hb2)
   have hown2 := Lib.hid (row_keep hown.out hb2)
   clear ci HHs hb2 hown hb
   generalize t.data.toList = l at *
   cases b
   ·have hx2 := Lib.hid (nxt.out [] (.inl ⟨fun h => (by have q := hbi.2 h; cases q), rfl⟩))
    rw [List.append_nil] at hx2
    clear nxt bad hbi
    refine Lib.hid ?_
    go_wp2
    go_roundw
    case rel => exact ⟨i + 1, xs, by omega, by go_num, hown2.out, by omega, hx2, hB2.out⟩
    case measure => simp [intOf]; omega
   ·have hI := Lib.hid (hbi.1 rfl)
    have hm2 := Lib.hid ((hB2.out.cell (p := ⟨_, 0, none⟩) (World.block_lt_of_cell? _ _ hm1.out)).trans hm1.out)
    have hx2 := Lib.hid ((hB2.out.cell (p := ⟨_, 0, none⟩) (World.block_lt_of_cell? _ _ hx1.out)).trans hx1.out)
    clear hbi
    refine Lib.hid ?_
    go_wp2_with (go_at_call 21; refine (HAs.out _ hm2.out hx2.out).mono ?_; rintro e w3 ⟨k2, out, ok, hg2, hz2, rfl, hok, hb3⟩; refine Hid.out ?_)
    have hB3 := Lib.hid (below_then hB2.out hb3)
    have hown3 := Lib.hid (row_keep hown2.out hb3)
    have hR := Lib.hid (.inr ⟨hI.out, k2, out, ok, hg2, hz2, hok, rfl⟩ : LineR l (if ok = true then some out else none))
    clear hb3 hg2 hz2 hok HAs hB2 hI hm2 hx2 hown2
    cases ok
    ·have hx := Lib.hid (fin.out [] (i : Int) w3 (bad.out hR.out) (below_then B1.out hB3.out))
     clear nxt bad hR fin
     refine Lib.hid ?_
     go_wp2
     go_ret2
     exact hx.out
    ·have hx3 := nxt.out out hR.out
     obtain ⟨X, hX⟩ : ∃ X : ByteArray, (⟨out.toArray⟩ : ByteArray) = X := ⟨_, rfl⟩
     have hXd : X.data.toList = out := by rw [← hX]
     rw [← hXd, ← flatB_snoc] at hx3
     replace hx3 := Lib.hid hx3
     rw [hX]
     have hown := hown3.out
     have hb := hB3.out
     clear nxt bad hR hX hXd hown3 hB3
     refine Lib.hid ?_
     go_wp2_with (at_builtin; refine wpList_append_own _ rfl _ _ 46 rfl w1.heap.size 9 i0 (.string ⟨#[]⟩) 1 16 Tryz.underlying46 hi hz0 hz1 hz2 rfl (by decide) _ _ _ rfl (hown.alloc _) ⟨w3.heap.size, 0, none⟩ 1 1 [.string X] rfl rfl ?c1 ?c2 ?c3 ?c4 ?c5 ?_)
     case c1 =>
      intro j u hj
      match j, hj with
      | 0, hj => simp at hj; subst hj; simp [Addr.add]
     case c2 => intro u hu; simp at hu; subst hu; rfl
     case c3 => unfold maxLen; omega
     case c4 => omega
     case c5 => have := hb.size; simp; omega
     intro v' w4 hown' hgrow hnil'
     have hown4 : w4.ownsRow w1.heap.size 9 1 v' (xs ++ [X]).length ((xs ++ [X]).map Value.string) := by simpa using hown'
     have hb4 : Below w1.heap.size w1 w4 := (hb.alloc hb.size _).grown hgrow (by have := hb.size; simp; omega) (fun g hg => (hown.lt g hg).1)
     have hown4 := Lib.hid hown4
     have hb4 := Lib.hid hb4
     clear hgrow hb hown hown' hnil'
     go_wp2
     go_roundw
     case rel => exact ⟨i + 1, xs ++ [X], by omega, by go_num, hown4.out, by simp; omega, hx3, hb4.out⟩
     case measure => simp [intOf]; omega
  ·obtain rfl : i = Ls.length := by omega
   obtain ⟨A2, cap2, rfl, hTA⟩ := texts_of_own hown
   have hol := pre_len (by rw [HLL.out]; exact Nat.le_refl _) hp.out
   have HJ := Lib.hid (impl_joined xs A2 cap2 (by omega) (by omega) wr hTA)
   have hx3 := Lib.hid (fun w2 (h : Below wr.heap.size wr w2) => fin.out (flatB xs) (-1) w2 (prog_all (by rw [HLL.out]; exact hp.out)) (below_then (below_then B1.out hb) h))
   clear hp hol hTA hown hb
   go_wp2_with (go_at_call 70; (with_reducible refine HJ.out.mono ?_); rintro e w5 ⟨rfl, hb5⟩)
   go_ret2
   exact hx3.out w5 hb5
end Go.Proofs.YtboeaeoefoabdaaGreatDoor
namespace Go.Proofs.YtboeaeoefoabdaaGreatDoor
open Go.RowKit Go.Lib Go.Deep Go.WideShapes Go.ChangeShapes
theorem lin_same (l : List UInt8) (h : l ≠ []) : ((lineBs ⟨l.toArray⟩).map fun x => x.data.toList) = linL l := by
 unfold lineBs linL
 rw [if_neg]
 rw [bsize]
 intro e
 exact h (List.eq_nil_of_length_eq_zero e)
theorem pre_lin {l out : List UInt8} (h : ProgPre ((lineBs ⟨l.toArray⟩).map fun x => x.data.toList) ((lineBs ⟨l.toArray⟩).map fun x => x.data.toList).length out) : ProgPre (linL l) (linL l).length out := by
 by_cases e : l = []
 ·subst e
  have e2 : ((lineBs ⟨([] : List UInt8).toArray⟩).map fun x => x.data.toList) = [] := rfl
  rw [e2] at h
  obtain ⟨p, hp, _, rfl⟩ := h
  obtain rfl : p = [] := List.eq_nil_of_length_eq_zero hp
  rw [linL_none [] (by simp)]
  exact pre_line line_nil
 ·rwa [lin_same l e] at h
theorem more_ok {l out o2 : List UInt8} {bad : Int} (h : ProgPre ((lineBs ⟨l.toArray⟩).map fun x => x.data.toList) ((lineBs ⟨l.toArray⟩).map fun x => x.data.toList).length out) (g : ProgOk ((lineBs ⟨([59, 32, 110, 111, 116, 101, 10] ++ l ++ [10, 78, 79, 80]).toArray⟩).map fun x => x.data.toList) o2 bad) : o2 = out ++ [234] ∧ bad = -1 := by
 rw [lin_same _ (by simp)] at g
 exact prog_one g (prog_more (pre_lin h))
theorem junk_ok {l out o2 : List UInt8} {bad : Int} (h : ProgPre ((lineBs ⟨l.toArray⟩).map fun x => x.data.toList) ((lineBs ⟨l.toArray⟩).map fun x => x.data.toList).length out) (g : ProgOk ((lineBs ⟨(l ++ [10, 106, 117, 110, 107]).toArray⟩).map fun x => x.data.toList) o2 bad) : bad = (((lineBs ⟨(l ++ [10, 106, 117, 110, 107]).toArray⟩).length : Nat) : Int) - 1 := by
 obtain ⟨h1, h2⟩ := prog_junk (pre_lin h)
 have hl := congrArg List.length (lin_same (l ++ [10, 106, 117, 110, 107]) (by simp))
 rw [List.length_map, h2] at hl
 rw [lin_same _ (by simp)] at g
 rw [(prog_one g h1).2, hl]
 omega
theorem bad_ok {l out : List UInt8} {bad : Int} (h : ProgOk ((lineBs ⟨l.toArray⟩).map fun x => x.data.toList) out bad) : (bad = -1 ∧ ProgPre ((lineBs ⟨l.toArray⟩).map fun x => x.data.toList) ((lineBs ⟨l.toArray⟩).map fun x => x.data.toList).length out) ∨ (0 ≤ bad ∧ bad < ((lineBs ⟨l.toArray⟩).length : Int) ∧ out = []) := by
 rcases h with h | ⟨i, hi, rfl, rfl, _⟩
 ·exact .inl h
 ·rw [List.length_map] at hi
  exact .inr ⟨by omega, by omega, rfl⟩
theorem big_noP (n c : Nat) (A : Option Addr) (h : n ≤ 1048576) (w : World) : Calls Tryz.prog 9 #[.slice A n c] w fun e w' => e = .returned (.bool false) ∧ w = w' := by
 have h2 : ¬ (1048576 : Int) < (n : Int) := by omega
 go_enter Tryz.func9, Tryz.ntmps9
 go_wp2
 go_ret
 exact ⟨rfl, rfl⟩
theorem lines_len (s : ByteArray) (hs : s.size ≤ 1048576) (w : World) (m : Int) (hm : w.cell? ⟨1, 0, none⟩ = some (.int .i64 m)) : Calls Tryz.prog 29 #[.string s] w fun e w' => ∃ (A : Option Addr) (cap : Nat), e = .returned (.slice A (lineBs s).length cap) ∧ Below w.heap.size w w' := by
 refine (impl_linesA s hs w m hm).mono ?_
 rintro e w' ⟨A, cap, he, _, hb⟩
 exact ⟨A, cap, he, hb⟩
set_option maxRecDepth 100000 in
set_option maxHeartbeats 4000000 in
theorem program_law (A : Option Addr) (n c : Nat) (W : World) (hrow : RowB W A n) (m : Int) (hm : W.cell? ⟨1, 0, none⟩ = some (.int .i64 m)) (x : Value) (hx : W.cell? ⟨2, 0, none⟩ = some (.iface 188 x)) :
  Calls Tryz.prog 5 #[.slice A n c] W fun e w' => e = .returned (.bool true) ∧ Below W.heap.size W w' := by
 have hml := hrow.1
 unfold maxLen at hml
 by_cases hbig : 1048576 < n
 ·clear hrow
  go_enter Tryz.func5, Tryz.ntmps5
  go_wp2_with (go_in)
  go_ret
  exact ⟨rfl, Below.refl _ _⟩
 have hcode := hrow.code (by omega)
 have HBig := Lib.hid (big_noP n c A (by omega) W)
 have hD := drawProgram_any W.heap.size n c A W (Nat.le_refl _) hcode
 unfold ProgDrawn at hD
 have hm := Lib.hid hm
 have hx := Lib.hid hx
 clear hrow hcode hml hbig
 go_enter Tryz.func5, Tryz.ntmps5
 go_wp2_with (first
  | (go_at_call 9; refine HBig.out.mono ?_; rintro e w1 ⟨rfl, rfl⟩)
  | (go_at_call 26; refine hD.mono ?_; rintro e w1 ⟨s, rfl, hs, hb1⟩; refine Hid.out ?_))
 have hI := impl_program s (by omega) w1 m ((hb1.cell (p := ⟨_, 0, none⟩) (World.block_lt_of_cell? _ _ hm.out)).trans hm.out) x ((hb1.cell (p := ⟨_, 0, none⟩) (World.block_lt_of_cell? _ _ hx.out)).trans hx.out)
 have HS := Lib.hid (fun w => spec_program s (by omega) w)
 have HL := Lib.hid (fun w hm => lines_len s (by omega) w m hm)
 unfold ProgPost at hI
 have B1 := Lib.hid hb1
 clear hD HBig hb1
 refine Lib.hid ?_
 go_wp2_with (go_at_call 27; refine hI.mono ?_; rintro e w2 ⟨out, bad, rfl, hok, hb2⟩; refine Hid.out ?_)
 have hok := Lib.hid hok
 have B2 := Lib.hid (below_then B1.out hb2)
 clear hI hb2 B1
 refine Lib.hid ?_
 go_wp2_with (go_at_call 28; (with_reducible refine (HS.out _).mono ?_); rintro e w3 ⟨out2, bad2, rfl, hok2, hb3⟩; refine Hid.out ?_)
 obtain ⟨rfl, rfl⟩ := prog_one hok.out hok2
 have B3 := Lib.hid (below_then B2.out hb3)
 have hm3 := Lib.hid ((B3.out.cell (p := ⟨_, 0, none⟩) (World.block_lt_of_cell? _ _ hm.out)).trans hm.out)
 have hx3 := Lib.hid ((B3.out.cell (p := ⟨_, 0, none⟩) (World.block_lt_of_cell? _ _ hx.out)).trans hx.out)
 obtain ⟨l, rfl⟩ : ∃ l : List UInt8, s = ⟨l.toArray⟩ := ⟨s.data.toList, rfl⟩
 have hl : l.length ≤ 2000 := by rw [bsize] at hs; exact hs
 have hcases := bad_ok hok.out
 clear hok2 hb3 HS B2 hs hok
 rcases hcases with ⟨rfl, hpre⟩ | ⟨b0, b1, rfl⟩
 ·have HM := Lib.hid (fun o2 bad => @more_ok l out o2 bad hpre)
  have HJ := Lib.hid (fun o2 bad => @junk_ok l out o2 bad hpre)
  have ho := pre_len (Nat.le_refl _) hpre
  rw [List.length_map] at ho
  have hLn := (lineBs_small ⟨l.toArray⟩).1
  rw [bsize] at hLn
  have hq : out.length ≤ 100000 := by omega
  clear ho hLn hpre HL
  have a1 : ∀ w, (Op.stringOp .add ⟨#[59, 32, 110, 111, 116, 101, 10]⟩ ⟨l.toArray⟩).run Tryz.prog w = .ok (.string ⟨([59, 32, 110, 111, 116, 101, 10] ++ l).toArray⟩) w := fun w => cat_big [59, 32, 110, 111, 116, 101, 10] l (by simp; omega) w
  have a2 : ∀ w, (Op.stringOp .add ⟨([59, 32, 110, 111, 116, 101, 10] ++ l).toArray⟩ ⟨#[10, 78, 79, 80]⟩).run Tryz.prog w = .ok (.string ⟨([59, 32, 110, 111, 116, 101, 10] ++ l ++ [10, 78, 79, 80]).toArray⟩) w := fun w => cat_big _ [10, 78, 79, 80] (by simp; omega) w
  have a3 : ∀ w, (Op.stringOp .add ⟨l.toArray⟩ ⟨#[10, 106, 117, 110, 107]⟩).run Tryz.prog w = .ok (.string ⟨(l ++ [10, 106, 117, 110, 107]).toArray⟩) w := fun w => cat_big l [10, 106, 117, 110, 107] (by simp; omega) w
  have a4 : ∀ w, (Op.stringOp .add ⟨out.toArray⟩ ⟨#[234]⟩).run Tryz.prog w = .ok (.string ⟨(out ++ [234]).toArray⟩) w := fun w => cat_big out [234] (by simp; omega) w
  have q1 : (⟨([59, 32, 110, 111, 116, 101, 10] ++ l ++ [10, 78, 79, 80]).toArray⟩ : ByteArray).size ≤ 1048576 := by rw [bsize]; simp; omega
  have q2 : (⟨(l ++ [10, 106, 117, 110, 107]).toArray⟩ : ByteArray).size ≤ 1048576 := by rw [bsize]; simp; omega
  have q3 := (lineBs_small ⟨(l ++ [10, 106, 117, 110, 107]).toArray⟩).1
  generalize (⟨([59, 32, 110, 111, 116, 101, 10] ++ l ++ [10, 78, 79, 80]).toArray⟩ : ByteArray) = Q1 at *
  generalize (⟨([59, 32, 110, 111, 116, 101, 10] ++ l).toArray⟩ : ByteArray) = P1 at *
  generalize (⟨(l ++ [10, 106, 117, 110, 107]).toArray⟩ : ByteArray) = Q2 at *
  generalize (⟨l.toArray⟩ : ByteArray) = LB at *
  have hI := impl_program Q1 q1 w3 m hm3.out x hx3.out
  unfold ProgPost at hI
  refine Lib.hid ?_
  go_wp2_with (go_at_call 27; refine hI.mono ?_; rintro e w4 ⟨o4, bad4, rfl, hok4, hb4⟩; refine Hid.out ?_)
  obtain ⟨rfl, rfl⟩ := HM.out _ _ hok4
  have B4 := Lib.hid (below_then B3.out hb4)
  have hI := impl_program Q2 q2 w4 m ((B4.out.cell (p := ⟨_, 0, none⟩) (World.block_lt_of_cell? _ _ hm.out)).trans hm.out) x ((B4.out.cell (p := ⟨_, 0, none⟩) (World.block_lt_of_cell? _ _ hx.out)).trans hx.out)
  unfold ProgPost at hI
  clear hok4 hb4 HM B3 a1 a2 hm3 hx3
  refine Lib.hid ?_
  go_wp2_with (go_at_call 27; refine hI.mono ?_; rintro e w5 ⟨o5, bad5, rfl, hok5, hb5⟩; refine Hid.out ?_)
  have hb5' := HJ.out _ _ hok5
  clear HJ hok5
  have B5 := Lib.hid (below_then B4.out hb5)
  have hL := lines_len Q2 q2 w5 m ((B5.out.cell (p := ⟨_, 0, none⟩) (World.block_lt_of_cell? _ _ hm.out)).trans hm.out)
  generalize (lineBs Q2).length = N at *
  subst hb5'
  clear hI hb5 B4
  refine Lib.hid ?_
  go_wp2_with (go_at_call 29; refine hL.mono ?_; rintro e w6 ⟨A6, cap6, rfl, hb6⟩)
  go_ret
  exact ⟨rfl, below_then B5.out hb6⟩
 ·have hL := HL.out w3 hm3.out
  have q3 := (lineBs_small ⟨l.toArray⟩).1
  rw [bsize] at q3
  generalize (lineBs ⟨l.toArray⟩).length = N at *
  clear HL hx3
  refine Lib.hid ?_
  go_wp2_with (go_at_call 29; refine hL.mono ?_; rintro e w6 ⟨A6, cap6, rfl, hb6⟩)
  go_ret
  exact ⟨rfl, below_then B3.out hb6⟩
theorem program_lawC {a b c d e f : String × DataW Unit} (A : Option Addr) (n cp : Nat) (W : World) (hrow : RowB W A n) (hL : laidMet Tryz.prog [a, b, c, d, e, ("strconv.ErrSyntax", Rows.laid_strconv_ErrSyntax), f] W) (hsh : W.ShapedOpen Tryz.prog) :
  Calls Tryz.prog 5 #[.slice A n cp] W fun e w' => e = .returned (.bool true) ∧ Below W.heap.size W w' := by
 obtain ⟨m, hm⟩ := maxlen_shaped hsh
 obtain ⟨x, hx⟩ := syntax_laid hL.tail.tail.tail.tail.tail
 exact program_law A n cp W hrow m hm x hx
end Go.Proofs.YtboeaeoefoabdaaGreatDoor
