/-
  Texts put together by program: PrA, WsB, WsD, HxS.
  Conditions: as each theorem says.
-/
import Derived.Deep.OwnRows
import Derived.Laws.AppendOwn
import Derived.Test.YtboeaeoefoabdaaGreatDoorPmae
import Derived.Test.YtboeaeoefoabdaaGreatDoorPmag
namespace Go.Proofs.YtboeaeoefoabdaaGreatDoor
open Go.RowKit
def LinesAt (w : World) (e : Ending) (w' : World) (Ls : List ByteArray) : Prop := ∃ (A : Option Addr) (cap : Nat), e = .returned (.slice A Ls.length cap) ∧ (Ls = [] ∨ ∃ g, A = some ⟨g, 0, none⟩ ∧ ∀ i (h : i < Ls.length), w'.cell? ⟨g, i, none⟩ = some (.string Ls[i])) ∧ Below w.heap.size w w'
theorem at_of_new {w w' : World} {v : Value} {Ls : List ByteArray} (h : NewStrs w.heap.size w' v Ls) (hb : Below w.heap.size w w') : LinesAt w (.returned v) w' Ls := by
 obtain ⟨g, cap, cs, rfl, _, hg, _, hc⟩ := h
 exact ⟨_, cap, rfl, .inr ⟨g, rfl, fun i hi => cell_of_blk hg (hc i hi)⟩, hb⟩
theorem spec_linesA (s : ByteArray) (hs : s.size ≤ 1048576) (w : World) : Calls Tryz.prog 40 #[.string s] w fun e w' => LinesAt w e w' (lineBs s) := by
 by_cases h0 : s.size = 0
 ·obtain rfl : s = ⟨#[]⟩ := by
   obtain ⟨⟨l⟩⟩ := s
   cases l with
   | nil => rfl
   | cons _ _ => simp [ByteArray.size] at h0
  refine (spec_lines_empty w).mono ?_
  rintro e w' ⟨v, rfl, hn, hb⟩
  exact at_of_new hn hb
 ·refine (spec_lines s h0 hs w).mono ?_
  rintro e w' ⟨v, rfl, hn, hb⟩
  exact at_of_new hn hb
theorem impl_linesA (s : ByteArray) (hs : s.size ≤ 1048576) (w : World) (m : Int) (hm : w.cell? ⟨1, 0, none⟩ = some (.int .i64 m)) : Calls Tryz.prog 29 #[.string s] w fun e w' => LinesAt w e w' (lineBs s) := by
 by_cases h0 : s.size = 0
 ·have hl : lineBs s = [] := by unfold lineBs; rw [if_pos h0]
  obtain rfl : s = ⟨#[]⟩ := by
   obtain ⟨⟨l⟩⟩ := s
   cases l with
   | nil => rfl
   | cons _ _ => simp [ByteArray.size] at h0
  rw [hl]
  clear hm
  go_enter Tryz.func29, Tryz.ntmps29
  go_wp2
  go_ret
  exact ⟨none, 0, rfl, .inl rfl, Below.refl _ _⟩
 ·have hl : lineBs s = linesB s := by unfold lineBs; rw [if_neg h0]
  rw [hl]
  have hemp : s.toList.isEmpty = false := by
   rw [← decide_eq_emptyBytes]
   exact decide_eq_false (fun h => h0 (by rw [h]; rfl))
  have hS := Tryz.strings_Split s nl m w (by omega) hm (by decide)
  have hc : (linesB s).length = Lib.countB s nl + 1 := Lib.splitB_all nl (by decide) 0 _ s rfl
  have hN : LinesAt w (.returned (.slice (some ⟨w.heap.size, 0, none⟩) (Lib.countB s nl + 1) (Lib.countB s nl + 1))) (w.alloc (.cells ((linesB s).map Value.string).toArray 9)) (linesB s) :=
   ⟨some ⟨w.heap.size, 0, none⟩, Lib.countB s nl + 1, by rw [hc], .inr ⟨w.heap.size, rfl, fun i h => cell_of_blk (blk_new _ _) (by simp [h])⟩, below_alloc (Below.refl _ _) _⟩
  have HN := Lib.hid hN
  clear hN hm h0 hs hl hc
  go_enter Tryz.func29, Tryz.ntmps29
  go_wp2_with (go_at_call 71; refine hS.mono ?_; rintro e w' ⟨rfl, rfl⟩)
  go_ret
  exact HN.out
set_option maxRecDepth 100000 in
set_option maxHeartbeats 4000000 in
theorem impl_hasI (s : ByteArray) (hs : s.size ≤ 1048576) (w : World) : Calls Tryz.prog 69 #[.string s] w fun e w' => ∃ b : Bool, e = .returned (.bool b) ∧ (b = true ↔ hasI s.data.toList) ∧ Below w.heap.size w w' := by
 have HF := fun w => first_word s (by omega) w
 unfold WordPost at HF
 obtain ⟨wd, hw⟩ : ∃ wd, wordL s.data.toList = wd := ⟨_, rfl⟩
 have hI : hasI s.data.toList ↔ ∃ c r, wd = c :: r ∧ c ≠ 59 := by unfold hasI; rw [hw]
 rw [hw] at HF
 generalize restL s.data.toList = rs at *
 cases wd with
 | nil =>
  have hn : ¬ hasI s.data.toList := fun h => by obtain ⟨c, r, e, _⟩ := hI.1 h; cases e
  have HN := Lib.hid hn
  replace HF := Lib.hid HF
  clear hI hn hw
  go_enter Tryz.func69, Tryz.ntmps69
  go_wp2_with (go_at_call 102; (with_reducible refine (HF.out _).mono ?_); rintro e w1 ⟨rfl, hb1⟩)
  go_ret
  exact ⟨false, rfl, ⟨fun h => (by cases h), fun h => absurd h HN.out⟩, hb1⟩
 | cons c r =>
  have HP := fun w => Tryz.strings_HasPrefix ⟨(c :: r).toArray⟩ ⟨#[59]⟩ w
  have hp : Lib.hasPrefix (⟨(c :: r).toArray⟩ : ByteArray).data.toList (⟨#[59]⟩ : ByteArray).data.toList = (59 == c) := by
   simp [Lib.hasPrefix, List.isPrefixOf]
  rw [hp] at HP
  replace HP := Lib.hid HP
  have HI := Lib.hid (show hasI s.data.toList ↔ c ≠ 59 from hI.trans ⟨fun ⟨_, _, e, h⟩ => by cases e; exact h, fun h => ⟨c, r, rfl, h⟩⟩)
  replace HF := Lib.hid HF
  clear hI hp hw
  obtain ⟨X, hX⟩ : ∃ X : ByteArray, (⟨(c :: r).toArray⟩ : ByteArray) = X := ⟨_, rfl⟩
  have hne : X.toList.isEmpty = false := by rw [← hX, ByteArray.toList_eq]; simp
  rw [hX] at HF HP
  clear hX
  by_cases hc : c = 59
  ·have hn := Lib.hid (show ¬ hasI s.data.toList from fun h => HI.out.1 h hc)
   have he : ((59 : UInt8) == c) = true := by simp [hc]
   rw [he] at HP
   clear HI he hc
   go_enter Tryz.func69, Tryz.ntmps69
   go_wp2_with (first
    | (go_at_call 102; (with_reducible refine (HF.out _).mono ?_); rintro e w1 ⟨rfl, hb1⟩)
    | (go_at_call 103; (with_reducible refine (HP.out _).mono ?_); rintro e w2 ⟨rfl, rfl⟩))
   go_ret
   exact ⟨false, rfl, ⟨fun h => (by cases h), fun h => absurd h hn.out⟩, hb1⟩
  ·have hn := Lib.hid (show hasI s.data.toList from HI.out.2 hc)
   have he : ((59 : UInt8) == c) = false := by simp [Ne.symm hc]
   rw [he] at HP
   clear HI he hc
   go_enter Tryz.func69, Tryz.ntmps69
   go_wp2_with (first
    | (go_at_call 102; (with_reducible refine (HF.out _).mono ?_); rintro e w1 ⟨rfl, hb1⟩)
    | (go_at_call 103; (with_reducible refine (HP.out _).mono ?_); rintro e w2 ⟨rfl, rfl⟩))
   go_ret
   exact ⟨true, rfl, ⟨fun _ => hn.out, fun _ => rfl⟩, hb1⟩
end Go.Proofs.YtboeaeoefoabdaaGreatDoor
namespace Go.Proofs.YtboeaeoefoabdaaGreatDoor
open Go.RowKit
theorem info9 : (Tryz.prog.info? 9).map (fun i => (i.zero, i.size, i.bytes)) = some (some (.string ⟨#[]⟩), 1, 16) := by kernel_rfl
theorem blank_fn (b : UInt8) (w : World) : Calls Tryz.prog 79 #[.int .u8 b.toNat] w fun e w' => e = .returned (.bool (bl b)) ∧ w = w' := by
 have hb : bl b = (((b.toNat : Int) == 32) || ((b.toNat : Int) == 9)) := by
  unfold bl
  rw [Bool.eq_iff_iff]
  simp [← UInt8.toNat_inj]
  omega
 rw [hb]
 clear hb
 go_enter Tryz.func79, Tryz.ntmps79
 cases h1 : ((b.toNat : Int) == 32) <;> cases h2 : ((b.toNat : Int) == 9)
 all_goals go_wp2
 all_goals go_ret
 all_goals exact ⟨rfl, rfl⟩
def SpecPost (s : ByteArray) (w : World) (e : Ending) (W' : World) : Prop := ∃ v k, e = .returned v ∧ Good (told s.data.toList k) ∧ (wordB s.data.toList k).size = 0 ∧ W'.ownsRow w.heap.size 9 1 v k ((told s.data.toList k).map Value.string) ∧ v ≠ .slice none 0 0 ∧ Below w.heap.size w W'
theorem drop_cons (s : ByteArray) (i : Nat) (h : i < s.size) : s.data.toList.drop i = s[i] :: s.data.toList.drop (i + 1) := by
 rw [List.drop_eq_getElem_cons (by simpa using h)]
 rfl
theorem trim_blank (s : ByteArray) (i : Nat) (h : i < s.size) (hb : bl s[i] = true) : trimL (s.data.toList.drop i) = trimL (s.data.toList.drop (i + 1)) := by
 rw [drop_cons s i h]; simp [trimL, hb]
theorem trim_word (s : ByteArray) (i : Nat) (h : i < s.size) (hb : bl s[i] = false) : trimL (s.data.toList.drop i) = s.data.toList.drop i := by
 rw [drop_cons s i h]; simp [trimL, hb]
def NoBl (s : ByteArray) (i e : Nat) : Prop := ∀ j, i ≤ j → j < e → ∀ h : j < s.size, bl s[j] = false
theorem NoBl.more {s : ByteArray} {i e : Nat} (h : NoBl s i e) (he : e < s.size) (hb : bl s[e] = false) : NoBl s i (e + 1) := by
 intro j h1 h2 h3
 by_cases h4 : j = e
 ·subst h4; exact hb
 ·exact h j h1 (by omega) h3
theorem take_word (s : ByteArray) (i e : Nat) (hie : i ≤ e) (he : e ≤ s.size) (hn : NoBl s i e) (hend : e = s.size ∨ ∃ h : e < s.size, bl s[e] = true) :
  (s.data.toList.drop i).takeWhile (fun b => !bl b) = (s.extract i e).data.toList ∧ (s.data.toList.drop i).dropWhile (fun b => !bl b) = s.data.toList.drop e := by
 have hx : (s.extract i e).data.toList = (s.data.toList.drop i).take (e - i) := by
  rw [Lib.extract_data]
 rw [hx]
 clear hx
 obtain ⟨d, rfl⟩ : ∃ d, e = i + d := ⟨e - i, by omega⟩
 rw [Nat.add_sub_cancel_left]
 induction d generalizing i with
 | zero =>
  rcases hend with h | ⟨h, hb⟩
  ·rw [List.drop_eq_nil_of_le (by simp; omega)]; simp; omega
  ·have h' : i < s.size := h
   have hb' : bl s[i] = true := hb
   rw [Nat.add_zero, drop_cons s i h']; simp [hb']
 | succ d ih =>
  have hi : i < s.size := by omega
  have hb := hn i (Nat.le_refl _) (by omega) hi
  obtain ⟨h1, h2⟩ := ih (i + 1) (by omega) (by omega) (fun j a b c => hn j (by omega) (by omega) c) (by rw [show i + 1 + d = i + (d + 1) by omega]; exact hend)
  rw [drop_cons s i hi]
  simp [hb, h1, h2, show i + 1 + d = i + (d + 1) by omega]
set_option maxRecDepth 100000 in
set_option maxHeartbeats 2000000 in
theorem spec_words (s : ByteArray) (hs : s.size ≤ 1048576) (w : World) : Calls Tryz.prog 41 #[.string s] w (SpecPost s w) := by
 obtain ⟨i0, hi, hz0, hz1, hz2⟩ := info_parts info9
 go_enter Tryz.func41, Tryz.ntmps41
 go_wp2
 go_loopw [3, 4] (fun v3 v4 wr => ∃ (i k : Nat), i ≤ s.size ∧ v4 = .int .i64 i ∧ k ≤ i ∧ wr.ownsRow w.heap.size 9 1 v3 k ((told s.data.toList k).map Value.string) ∧ v3 ≠ .slice none 0 0 ∧ Hid (Good (told s.data.toList k) ∧ trimL (s.data.toList.drop i) = trimL (behind s.data.toList k)) ∧ Below w.heap.size w wr)
  (fun _ v4 _ => s.size - (intOf v4).toNat)
 case atStart =>
  exact ⟨0, 0, by omega, rfl, by simp, World.ownsRow_lit _ #[] 0 (Nat.le_refl _) (by decide) rfl, by simp, ⟨by simp [Good, told], rfl⟩, (Below.refl _ _).alloc (Nat.le_refl _) _⟩
 case round =>
  obtain ⟨i, k, hik, rfl, hk, hown, hnn, hH, hb⟩ := hrel
  by_cases hlt : i < s.size
  ·cases hbl : bl s[i]
   ·go_wp2_with (go_at_call 79; refine (blank_fn _ _).mono ?_; rintro e w1 ⟨rfl, rfl⟩)
    have hW := Lib.hid (⟨trim_word s i hlt hbl, hH.out.1, hH.out.2⟩ : trimL (s.data.toList.drop i) = s.data.toList.drop i ∧ _ ∧ _)
    clear hH
    go_loopw [5] (fun v5 wr' => ∃ e : Nat, i ≤ e ∧ e ≤ s.size ∧ v5 = .int .i64 e ∧ Hid (NoBl s i e) ∧ wr' = wr) (fun v5 _ => s.size - (intOf v5).toNat)
    case atStart => exact ⟨i, Nat.le_refl _, hik, rfl, Lib.hid (fun j a b c => by omega), rfl⟩
    case round =>
     obtain ⟨e, hie, he, rfl, hN, rfl⟩ := hrel
     by_cases hle : e < s.size
     ·cases hbe : bl s[e]
      ·have hM := Lib.hid (hN.out.more hle hbe)
       go_wp2_with (go_at_call 79; refine (blank_fn _ _).mono ?_; rintro e w1 ⟨rfl, rfl⟩)
       go_roundw
       case rel => exact ⟨e + 1, by omega, by omega, by go_num, hM, trivial⟩
       case measure => simp [intOf]; omega
      ·have hT := Lib.hid (take_word s i e hie he hN.out (.inr ⟨hle, hbe⟩))
       have hie2 : i < e := by
        rcases Nat.lt_or_ge i e with h | h
        ·exact h
        ·obtain rfl : i = e := by omega
         rw [hbl] at hbe; cases hbe
       go_wp2_with (first
         | (go_at_call 79; refine (blank_fn _ _).mono ?_; rintro e w1 ⟨rfl, rfl⟩)
         | (at_builtin; refine wpList_append_own _ rfl _ _ 46 rfl w.heap.size 9 i0 (.string ⟨#[]⟩) 1 16 Tryz.underlying46 hi hz0 hz1 hz2 rfl (by decide) _ _ _ rfl (hown.alloc _) ⟨wr.heap.size, 0, none⟩ 1 1 [.string (s.extract i e)] rfl rfl ?c1 ?c2 ?c3 ?c4 ?c5 ?_))
       case c1 =>
        intro j u hj
        match j, hj with
        | 0, hj => simp at hj; subst hj; simp [Addr.add]
       case c2 => intro u hu; simp at hu; subst hu; rfl
       case c3 => unfold maxLen; omega
       case c4 => omega
       case c5 => have := hb.size; simp; omega
       intro v' w1 hown' hgrow hnil'
       have hwd : wordB s.data.toList k = s.extract i e := by
        unfold wordB wordL
        rw [← hW.out.2.2, hW.out.1, hT.out.1]
       have hrs : behind s.data.toList (k + 1) = s.data.toList.drop e := by
        show restL _ = _
        unfold restL
        rw [← hW.out.2.2, hW.out.1, hT.out.2]
       have hown2 : w1.ownsRow w.heap.size 9 1 v' (k + 1) ((told s.data.toList (k + 1)).map Value.string) := by
        rw [told_succ, hwd]
        simpa using hown'
       have hnn2 : v' ≠ .slice none 0 0 := hnil'
       have hG : Good (told s.data.toList (k + 1)) := by
        rw [told_succ]
        intro y hy
        rcases List.mem_append.1 hy with hy | hy
        ·exact hW.out.2.1 y hy
        ·rw [List.mem_singleton] at hy
         subst hy
         rw [hwd]
         simp
         omega
       have hb' : Below w.heap.size w w1 := (hb.alloc hb.size _).grown hgrow (by have := hb.size; simp; omega) (fun g hg => (hown.lt g hg).1)
       have hH2 := Lib.hid (⟨hG, by rw [hrs]⟩ : Good (told s.data.toList (k + 1)) ∧ trimL (s.data.toList.drop e) = trimL (behind s.data.toList (k + 1)))
       clear hgrow hb hown hown' hnn hnil' hG hT hW hN
       go_wp2
       go_roundw
       case rel => exact ⟨e, k + 1, by omega, rfl, by omega, hown2, hnn2, hH2, hb'⟩
       case measure => simp [intOf]; omega
     ·obtain rfl : e = s.size := by omega
      have hT := Lib.hid (take_word s i s.size hie he hN.out (.inl rfl))
      go_wp2_with (at_builtin; refine wpList_append_own _ rfl _ _ 46 rfl w.heap.size 9 i0 (.string ⟨#[]⟩) 1 16 Tryz.underlying46 hi hz0 hz1 hz2 rfl (by decide) _ _ _ rfl (hown.alloc _) ⟨wr.heap.size, 0, none⟩ 1 1 [.string (s.extract i s.size)] rfl rfl ?c1 ?c2 ?c3 ?c4 ?c5 ?_)
      case c1 =>
       intro j u hj
       match j, hj with
       | 0, hj => simp at hj; subst hj; simp [Addr.add]
      case c2 => intro u hu; simp at hu; subst hu; rfl
      case c3 => unfold maxLen; omega
      case c4 => omega
      case c5 => have := hb.size; simp; omega
      intro v' w1 hown' hgrow hnil'
      have hwd : wordB s.data.toList k = s.extract i s.size := by
       unfold wordB wordL
       rw [← hW.out.2.2, hW.out.1, hT.out.1]
      have hrs : behind s.data.toList (k + 1) = s.data.toList.drop s.size := by
       show restL _ = _
       unfold restL
       rw [← hW.out.2.2, hW.out.1, hT.out.2]
      have hown2 : w1.ownsRow w.heap.size 9 1 v' (k + 1) ((told s.data.toList (k + 1)).map Value.string) := by
       rw [told_succ, hwd]
       simpa using hown'
      have hnn2 : v' ≠ .slice none 0 0 := hnil'
      have hG : Good (told s.data.toList (k + 1)) := by
       rw [told_succ]
       intro y hy
       rcases List.mem_append.1 hy with hy | hy
       ·exact hW.out.2.1 y hy
       ·rw [List.mem_singleton] at hy
        subst hy
        rw [hwd]
        simp
        omega
      have hb' : Below w.heap.size w w1 := (hb.alloc hb.size _).grown hgrow (by have := hb.size; simp; omega) (fun g hg => (hown.lt g hg).1)
      have hH2 := Lib.hid (⟨hG, by rw [hrs]⟩ : Good (told s.data.toList (k + 1)) ∧ trimL (s.data.toList.drop s.size) = trimL (behind s.data.toList (k + 1)))
      clear hgrow hb hown hown' hnn hnil' hG hT hW hN
      go_wp2
      go_roundw
      case rel => exact ⟨s.size, k + 1, by omega, rfl, by omega, hown2, hnn2, hH2, hb'⟩
      case measure => simp [intOf]; omega
   ·have hT := Lib.hid (trim_blank s i hlt hbl)
    go_wp2_with (go_at_call 79; refine (blank_fn _ _).mono ?_; rintro e w1 ⟨rfl, rfl⟩)
    go_roundw
    case rel => exact ⟨i + 1, k, by omega, by go_num, by omega, hown, hnn, ⟨hH.out.1, hT.out.symm.trans hH.out.2⟩, hb⟩
    case measure => simp [intOf]; omega
  ·obtain rfl : i = s.size := by omega
   go_wp2
   go_ret
   refine ⟨_, k, rfl, hH.out.1, ?_, hown, hnn, hb⟩
   have := hH.out.2
   rw [List.drop_eq_nil_of_le (by simp)] at this
   unfold wordB wordL
   rw [← this]
   rfl
end Go.Proofs.YtboeaeoefoabdaaGreatDoor
namespace Go.Proofs.YtboeaeoefoabdaaGreatDoor
open Go.RowKit
def WordsG (l : List UInt8) (w : World) (e : Ending) (w' : World) : Prop := ∃ (A : Option Addr) (k cap : Nat), e = .returned (.slice A k cap) ∧ Good (told l k) ∧ (wordB l k).size = 0 ∧ (0 < k → ∃ g, A = some ⟨g, 0, none⟩ ∧ ∀ j, j < k → w'.cell? ⟨g, j, none⟩ = some (.string ⟨(wordL (behind l j)).toArray⟩)) ∧ Below w.heap.size w w'
theorem spec_wordsG (s : ByteArray) (hs : s.size ≤ 1048576) (w : World) : Calls Tryz.prog 41 #[.string s] w (WordsG s.data.toList w) := by
 refine (spec_words s hs w).mono ?_
 rintro e w' ⟨v, k, rfl, h1, h2, h3, h4, h5⟩
 generalize s.data.toList = l at *
 rcases h3.2 with ⟨rfl, h0⟩ | ⟨g, cap, cur, rfl, _⟩
 ·exact absurd rfl h4
 ·refine ⟨some ⟨g, 0, none⟩, k, cap, rfl, h1, h2, fun _ => ⟨g, rfl, fun j hj => ?_⟩, h5⟩
  have := h3.cells (g := g) rfl j (.string (wordB l j)) (by simp [told, hj])
  cases j with
  | zero => simpa [Addr.add, wordB] using this
  | succ j => simpa [Addr.add, wordB] using this
end Go.Proofs.YtboeaeoefoabdaaGreatDoor
namespace Go.Proofs.YtboeaeoefoabdaaGreatDoor
open Go.RowKit Go.Deep Go.WideShapes Go.ChangeShapes
theorem infoU8 : (Tryz.prog.info? 5).map (fun i => (i.zero, i.size, i.bytes)) = some (some (.int .u8 0), 1, 1) := by kernel_rfl
theorem hx_in_yes (x a b : Int) (w : World) (h1 : a ≤ x) (h2 : x ≤ b) :
  Calls Tryz.prog 82 #[.int .i64 x, .int .i64 a, .int .i64 b] w fun e w' => e = .returned (.bool true) ∧ w = w' := by
 go_enter Tryz.func82, Tryz.ntmps82
 go_wp2
 go_ret
 exact ⟨rfl, rfl⟩
theorem hx_in_no (x a b : Int) (w : World) (h : x < a ∨ b < x) :
  Calls Tryz.prog 82 #[.int .i64 x, .int .i64 a, .int .i64 b] w fun e w' => e = .returned (.bool false) ∧ w = w' := by
 by_cases h1 : a ≤ x
 ·have h2 : ¬ x ≤ b := by omega
  clear h
  go_enter Tryz.func82, Tryz.ntmps82
  go_wp2
  go_ret
  exact ⟨rfl, rfl⟩
 ·clear h
  go_enter Tryz.func82, Tryz.ntmps82
  go_wp2
  go_ret
  exact ⟨rfl, rfl⟩
set_option maxRecDepth 100000 in
set_option maxHeartbeats 400000 in
theorem spec_hex (n : Int) (d : Nat) (h1 : 1 ≤ d) (h8 : d ≤ 8) (w : World) :
  Calls Tryz.prog 45 #[.int .i64 n, .int .i64 (d : Int)] w fun e w' => e = .returned (.string ⟨(hexl n d).toArray⟩) ∧ Below w.heap.size w w' := by
 obtain ⟨i0, hi, hz0, hz1, hz2⟩ := info_parts infoU8
 have hbt := i64_and15
 go_enter Tryz.func45, Tryz.ntmps45
 go_wp2_with (go_at_call 82; refine (hx_in_yes _ _ _ _ (by omega) (by omega)).mono ?_; rintro e w' ⟨rfl, rfl⟩)
 go_loopw [5, 6] (fun v5 v6 wr => ∃ k : Nat, k ≤ d ∧ v6 = .int .i64 ((d : Int) - 1 - k) ∧ wr.ownsRow w.heap.size 5 1 v5 k (hexCells n d k) ∧ Below w.heap.size w wr) (fun _ v6 _ => (1 + intOf v6).toNat)
 case atStart =>
  exact ⟨0, by omega, by simp, World.ownsRow_lit _ #[] 0 (Nat.le_refl _) (by decide) rfl, (Below.refl _ _).alloc (Nat.le_refl _) _⟩
 case round =>
  obtain ⟨k, hk, rfl, hown, hb⟩ := hrel
  by_cases hlt : k < d
  ·have hsh := shift4 n d k hlt
   have hx : (ByteArray.mk #[48, 49, 50, 51, 52, 53, 54, 55, 56, 57, 65, 66, 67, 68, 69, 70])[((n / 16 ^ (d - 1 - k)) % 16).toNat]'(by show _ < 16; omega) = hexAt n (d - 1 - k) := hexTab_at _ (by omega) (by show _ < 16; omega)
   go_wp2_with (at_builtin; refine wpList_append_own _ rfl _ _ 22 rfl w.heap.size 5 i0 (.int .u8 0) 1 1 Tryz.underlying22 hi hz0 hz1 hz2 rfl (by decide) _ _ _ rfl (hown.alloc _) ⟨wr.heap.size, 0, none⟩ 1 1 [.int .u8 ((hexAt n (d - 1 - k)).toNat : Int)] rfl rfl ?c1 ?c2 ?c3 ?c4 ?c5 ?_)
   case c1 =>
    intro j u hj
    match j, hj with
    | 0, hj => simp at hj; subst hj; simp [Addr.add]
   case c2 => intro u hu; simp at hu; subst hu; rfl
   case c3 => unfold maxLen; omega
   case c4 => omega
   case c5 => have := hb.size; simp; omega
   intro v' w1 hown' hgrow _
   rw [hexCells_succ n d k hlt] at hown'
   have hb' : Below w.heap.size w w1 := (hb.alloc hb.size _).grown hgrow (by have := hb.size; simp; omega) (fun g hg => (hown.lt g hg).1)
   clear hgrow hb hown hx
   go_wp2
   go_roundw
   case rel => exact ⟨k + 1, by omega, by go_num, hown', hb'⟩
   case measure => simp [intOf]; omega
  ·obtain rfl : k = d := by omega
   obtain ⟨g, cap, rfl⟩ : ∃ g cap, u5 = Value.slice (some ⟨g, 0, none⟩) k cap := by
    rcases hown.2 with ⟨_, h0⟩ | ⟨g, cap, cur, h0, _⟩
    ·omega
    ·exact ⟨g, cap, h0⟩
   rw [hexCells_all] at hown
   have hcv := run_convert_bytes_back (P := Tryz.prog) wr 22 9 5 ⟨g, 0, none⟩ cap (hexl n k) Tryz.underlying22 Tryz.underlying5 Tryz.underlying9 (fun j hj => hown.cells (g := g) rfl j _ (by simp [hj]))
   rw [hexl_length] at hcv
   go_wp2
   go_ret
   exact ⟨rfl, hb⟩
end Go.Proofs.YtboeaeoefoabdaaGreatDoor
