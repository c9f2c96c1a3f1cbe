/-
  Texts put together by program: VwA, VwB, VlA, VwC, RuL, VwD.
  Conditions: as each theorem says.
-/
import Derived.BigQuiet
import Derived.Deep.QuietTactic
import Derived.Laws.RangeAny
import Derived.Laws.RangeString
import Derived.Laws.Runes
import Derived.Lib.CountLaws
import Derived.Lib.IndexAny
import Derived.Lib.IndexBytes
import Derived.Lib.OthersKept
import Derived.Lib.SlTrimSet
import Derived.Lib.Split
import Derived.Lib.SplitLaws
import Derived.LoopIn
import Derived.LoopNIn
import Derived.OwnWalkIn
import Derived.RangeFuncBound
import Derived.RangeFuncBox
import Derived.RangeFuncCalls
import Derived.RangeFuncFrom
import Derived.RangeFuncLeaves
import Derived.RangeFuncNested
import Derived.Shelf.Abstract
import Derived.Shelf.RegionOpen
import Derived.Shelf.Strings.SlTrimAscii
import Derived.TacticsInMore
import Derived.Test.YtboeaeoefoabdaaGreatDoorAmae
import Derived.Test.YtboeaeoefoabdaaGreatDoorAman
namespace Go.Proofs.YtboeaeoefoabdaaGreatDoor
open Go.RowKit
set_option maxRecDepth 100000 in
set_option maxHeartbeats 4000000 in
theorem indexRune_bad (r : Int) (h : 128 ≤ r) (hne : r ≠ 65533) (hv : Lib.validRune r = false) (w : World) :
  Calls Tryz.prog 146 #[.string ⟨#[32, 9]⟩, .int .i32 r] w fun e w' => e = .returned (.int .i64 (-1)) ∧ Below w.heap.size w w' := by
 have hV := Tryz.utf8_ValidRune r
 rw [hv] at hV
 have h1 : ¬ r < 128 := by omega
 go_enter Tryz.func146, Tryz.ntmps146
 go_wp2_with (go_at_call 159; refine (hV _).mono ?_; rintro e w1 ⟨rfl, rfl⟩)
 go_ret
 exact ⟨rfl, Below.refl _ _⟩
set_option maxRecDepth 100000 in
set_option maxHeartbeats 4000000 in
theorem indexRune_valid (r : Int) (h : 128 ≤ r) (hne : r ≠ 65533) (hv : Lib.validRune r = true) (hv2 : Utf8.valid r = true) (w : World) :
  Calls Tryz.prog 146 #[.string ⟨#[32, 9]⟩, .int .i32 r] w fun e w' => e = .returned (.int .i64 (-1)) ∧ Below w.heap.size w w' := by
 have hV := Tryz.utf8_ValidRune r
 rw [hv] at hV
 have h1 : ¬ r < 128 := by omega
 obtain ⟨e2, e4, eL⟩ := encode_facts r hv2 h
 obtain ⟨E, hE⟩ : ∃ E, E = Utf8.encode r := ⟨_, rfl⟩
 have hcv := fun w => run_convert_int_string (P := Tryz.prog) w 21 9 .i32 r rfl Tryz.underlying9
 rw [← hE] at e2 e4 eL
 simp only [← hE] at hcv
 clear hE hv2
 go_enter Tryz.func146, Tryz.ntmps146
 go_wp2_with (go_at_call 159; refine (hV _).mono ?_; rintro e w1 ⟨rfl, rfl⟩)
 clear hV
 by_cases h2 : E.size = 2
 ·obtain ⟨a, b, rfl⟩ : ∃ a b, E = ⟨#[a, b]⟩ := by
   obtain ⟨⟨l⟩⟩ := E
   match l, h2 with
   | [a, b], _ => exact ⟨a, b, rfl⟩
  have hb : 128 ≤ b.toNat := eL (by show 1 < 2; omega)
  clear h2 eL e2 e4
  have hd : ((((⟨#[32, 9]⟩ : ByteArray)[1]'(by show 1 < 2; omega)).toNat : Int) != (((⟨#[a, b]⟩ : ByteArray)[1]'(by show 1 < 2; omega)).toNat : Int)) = true := by
   show ((9 : Int) != (b.toNat : Int)) = true
   simp; omega
  have hix : ∀ c, Lib.indexByte ((⟨#[32, 9]⟩ : ByteArray).extract 2 2).data.toList c = -1 := fun c => by
   have : ((⟨#[32, 9]⟩ : ByteArray).extract 2 2).data.toList = [] := by decide
   rw [this]; rfl
  have hw2 : IntKind.i64.wrap 2 = 2 := by decide
  have hsl : ∀ W : World, (Instr.slice 9 (.string ⟨#[32, 9]⟩) (some (.int .i64 2)) none none).run Tryz.prog W = .ok (.string ((⟨#[32, 9]⟩ : ByteArray).extract 2 2)) W := fun W =>
   run_slice_string_l W 9 ⟨#[32, 9]⟩ Tryz.underlying9 .i64 2 (by omega) (by decide)
  go_step3
  go_wp2
  refine wp_loop_rounds 1 ?_
  rw [rounds_succ]
  go_wp2
  go_step3
  go_wp2
  go_quiet (fail)
  rename_i nq
  have hb2 : Below w1.heap.size w1 (w1.drewN nq) := ⟨rfl, rfl, rfl, Nat.le_refl _, fun _ _ => rfl⟩
  generalize w1.drewN nq = w2 at hb2 ⊢
  go_wp2
  go_quiet ((go_at_call 158; exact Calls.quiet_of_same (Tryz.strings_IndexByte _ _ _)))
  rename_i nq
  have hb3 : Below w1.heap.size w1 (w2.drewN nq) := hb2.trans ⟨rfl, rfl, rfl, Nat.le_refl _, fun _ _ => rfl⟩
  go_wp2
  rw [Exit.noGoto_ret]
  go_wp2
  rw [Exit.noGoto_ret]
  go_ret
  exact ⟨rfl, hb3⟩
 ·go_step3
  go_wp2
  refine wp_loop_rounds 1 ?_
  rw [rounds_succ]
  go_wp2
  rw [Exit.noGoto_ret]
  go_ret
  exact ⟨rfl, Below.refl _ _⟩
set_option maxRecDepth 100000 in
set_option maxHeartbeats 4000000 in
theorem indexRune_err (w : World) :
  Calls Tryz.prog 146 #[.string ⟨#[32, 9]⟩, .int .i32 65533] w fun e w' => e = .returned (.int .i64 (-1)) ∧ Below w.heap.size w w' := by
 have h0 := fun ty => run_next_ascii (P := Tryz.prog) w ⟨#[32, 9]⟩ 0 ty (by decide) (by decide)
 have h1 := fun ty => run_next_ascii (P := Tryz.prog) w ⟨#[32, 9]⟩ 1 ty (by decide) (by decide)
 have h2 := fun ty => run_next_end (P := Tryz.prog) w ⟨#[32, 9]⟩ 2 ty (by decide)
 go_enter Tryz.func146, Tryz.ntmps146
 go_wp2
 go_rounds 3
 go_ret
 exact ⟨rfl, (Below.refl _ _).alloc (Nat.le_refl _) _⟩
end Go.Proofs.YtboeaeoefoabdaaGreatDoor
namespace Go.Proofs.YtboeaeoefoabdaaGreatDoor
open Go.RowKit Go.Lib
theorem get_lt (s : ByteArray) (i : Nat) (h : i < s.size) : s.get! i = s[i]'h := by
 simp [ByteArray.get!, h]; rfl
theorem decode_cont (s : ByteArray) (pos : Nat) (h : pos < s.size) (ha : 128 ≤ (s[pos]'h).toNat) : ∀ j, j < (Utf8.decode s pos).2 → pos + j < s.size ∧ 128 ≤ (s.get! (pos + j)).toNat := by
 have h00 : 128 ≤ (s.get! (pos + 0)).toNat := by rw [Nat.add_zero, get_lt s pos h]; exact ha
 simp only [Utf8.decode]
 repeat' split
 all_goals intro j hj
 all_goals try simp only [Bool.and_eq_true, decide_eq_true_eq, beq_iff_eq] at *
 all_goals (
  have : j = 0 ∨ j = 1 ∨ j = 2 ∨ j = 3 := by first | omega | (simp at hj; omega)
  rcases this with rfl | rfl | rfl | rfl <;> first | (exact ⟨by omega, by omega⟩) | (exfalso; first | omega | (simp at hj; omega)))
theorem noAny_many {l chars : List UInt8} {i : Nat} (h : NoAny l chars i) (w : Nat) (hw : ∀ j b, j < w → l[i + j]? = some b → chars.contains b = false) : NoAny l chars (i + w) := fun j b hj hb => by
 by_cases e : j < i
 ·exact h j b e hb
 ·have := hw (j - i) b (by omega) (by rw [show i + (j - i) = j by omega]; exact hb)
  exact this
theorem valid_same (r : Nat) : Lib.validRune r = Utf8.valid r := by
 unfold Lib.validRune Utf8.valid
 rw [Bool.eq_iff_iff]; simp; omega
theorem indexRune_high (r : Nat) (h : 128 ≤ r) (w : World) :
  Calls Tryz.prog 146 #[.string ⟨#[32, 9]⟩, .int .i32 r] w fun e w' => e = .returned (.int .i64 (-1)) ∧ Below w.heap.size w w' := by
 by_cases he : (r : Int) = 65533
 ·rw [he]; exact indexRune_err w
 ·cases hv : Lib.validRune r
  ·exact indexRune_bad r (by omega) he hv w
  ·exact indexRune_valid r (by omega) he hv (by rw [← valid_same]; exact hv) w
theorem chars_high (b : UInt8) (h : 128 ≤ b.toNat) : ([32, 9] : List UInt8).contains b = false := by
 have h1 : b ≠ 32 := fun e => by subst e; simp at h
 have h2 : b ≠ 9 := fun e => by subst e; simp at h
 simp [h1, h2]
def AnyPost (s : ByteArray) (w : World) (e : Ending) (w' : World) : Prop := e = .returned (.int .i64 (indexAny s.data.toList [32, 9])) ∧ Below w.heap.size w w'
set_option maxRecDepth 100000 in
set_option maxHeartbeats 4000000 in
theorem indexAny_short (s : ByteArray) (h8 : s.size ≤ 8) (w : World) : Calls Tryz.prog 124 #[.string s, .string ⟨#[32, 9]⟩] w (AnyPost s w) := by
 have h8z : decide ((8 : Int) < (s.size : Int)) = false := decide_eq_false (by omega)
 have hsz : s.data.toList.length = s.size := by simp
 have HZ := Lib.hid hsz
 clear hsz
 go_enter Tryz.func124, Tryz.ntmps124
 go_wp2_with (go_at_call 148; refine (Tryz.strings_shouldUseASCIISet _ _).mono ?_; rintro e w1 ⟨rfl, hw⟩; rw [hw, h8z]; clear hw)
 go_loopg [9, 10] s.size (fun g _ _ wx => ∃ i : Nat, i ≤ s.size ∧ s.size ≤ i + g ∧ wx.heap[w.heap.size]? = some (.stringIter s i) ∧ Below w.heap.size w wx ∧ Hid (NoAny s.data.toList [32, 9] i))
 case atStart => exact ⟨0, by omega, by omega, by simp [World.iter_heap], (Below.refl _ _).alloc (Nat.le_refl _) _, NoAny.zero _ _⟩
 case round =>
  obtain ⟨i, hi, hig, hit, hb, HN⟩ := hrel
  by_cases hlt : i < s.size
  ·cases gk with
   | zero => omega
   | succ g =>
    obtain ⟨x, hx⟩ : ∃ x : UInt8, s[i]'hlt = x := ⟨_, rfl⟩
    have hxl : s.data.toList[i]? = some x := by rw [← hx]; exact data_getElem? s i hlt
    obtain ⟨r, hr⟩ : ∃ r, (Utf8.decode s i).1 = r := ⟨_, rfl⟩
    obtain ⟨wd, hwd⟩ : ∃ wd, (Utf8.decode s i).2 = wd := ⟨_, rfl⟩
    have hnx := fun ty => run_next_any_at (P := Tryz.prog) wr w.heap.size s i ty hit hlt
    have hit2 := iterAt_heap wr w.heap.size s i (i + wd) hit
    have hb2 := below_iterAt hb (Nat.le_refl w.heap.size) s (i + wd)
    rw [hr, hwd] at hnx
    obtain ⟨W2, hW2⟩ : ∃ W2, W2 = wr.iterAt w.heap.size s (i + wd) := ⟨_, rfl⟩
    rw [← hW2] at hnx hit2 hb2
    clear hit hb hW2
    have hk2 : w.heap.size < W2.heap.size := (Array.getElem?_eq_some_iff.1 hit2).1
    have hNext := fun (w3 : World) (h3 : Below W2.heap.size W2 w3) => And.intro ((h3.block w.heap.size hk2).trans hit2) (hb2.trans (h3.mono hb2.size))
    by_cases hhi : 128 ≤ x.toNat
    ·have hdc := decode_cont s i hlt (by rw [hx]; exact hhi)
     have hdh := decode_high s i hlt (by rw [hx]; exact hhi)
     rw [hwd] at hdc hdh
     rw [hr] at hdh
     have hR := indexRune_high r hdh.1 W2
     have hend : i + wd ≤ s.size := by have := (hdc (wd - 1) (by omega)).1; omega
     have HN2 : Hid (NoAny s.data.toList [32, 9] (i + wd)) := noAny_many HN.out wd (fun j b hj hb => by
      obtain ⟨h1, h2⟩ := hdc j hj
      have e : s.data.toList[i + j]? = some (s.get! (i + j)) := by rw [get_lt s _ h1]; exact data_getElem? s (i + j) h1
      rw [e] at hb
      cases hb
      exact chars_high _ h2)
     have hwd1 := hdh.2
     clear hdc hdh hhi HN hx hxl hr hwd
     go_wp2_with (go_at_call 146; refine hR.mono ?_; rintro e w3 ⟨rfl, hb3⟩)
     go_roundg g
     case measure => omega
     case rel => exact ⟨i + wd, hend, by omega, (hNext w3 hb3).1, (hNext w3 hb3).2, HN2⟩
    ·have hda := decode_ascii s i hlt (by rw [hx]; omega)
     rw [hx] at hda
     have hr2 : r = x.toNat := by rw [← hr, hda]
     have hw2 : wd = 1 := by rw [← hwd, hda]
     subst hr2
     subst hw2
     have hR := Tryz.strings_IndexRune_ascii ⟨#[32, 9]⟩ (x.toNat : Int) W2 (by omega) (by omega)
     have hback : ((x.toNat : Int)).toNat.toUInt8 = x := by simp
     have hcon := contains_iff_indexByte [32, 9] x
     cases hin : ([32, 9] : List UInt8).contains x
     ·rw [hin] at hcon
      have hlt0 : ¬ ((0 : Int) ≤ indexByte [32, 9] x) := of_decide_eq_false hcon.symm
      have HN2 : Hid (NoAny s.data.toList [32, 9] (i + 1)) := HN.out.succ hxl hin
      clear hcon hin HN hx hxl hr hwd hda hhi
      rw [hback] at hR
      clear hback
      go_wp2_with (go_at_call 146; refine hR.mono ?_; rintro e w3 ⟨rfl, rfl⟩)
      go_roundg g
      case measure => omega
      case rel => exact ⟨i + 1, by omega, by omega, hit2, hb2, HN2⟩
     ·rw [hin] at hcon
      have hge : (0 : Int) ≤ indexByte [32, 9] x := of_decide_eq_true hcon.symm
      have hres : indexAny s.data.toList [32, 9] = i := indexAny_hit HN.out hxl hin
      have HR := Lib.hid hres
      clear hcon hin HN hx hxl hr hwd hda hhi hres
      rw [hback] at hR
      clear hback
      go_wp2_with (go_at_call 146; refine hR.mono ?_; rintro e w3 ⟨rfl, rfl⟩)
      go_ret
      exact ⟨by rw [HR.out]; rfl, hb2⟩
  ·obtain rfl : i = s.size := by omega
   have hr : indexAny s.data.toList [32, 9] = -1 := indexAny_none (by rw [HZ.out]; exact HN.out)
   have HR := Lib.hid hr
   have hnx := fun ty => run_next_end_at (P := Tryz.prog) wr w.heap.size s s.size ty hit (by omega)
   clear hr HN
   go_wp2
   go_ret
   exact ⟨by rw [HR.out]; rfl, hb⟩
theorem ascii_blanks : ∀ (j : Nat) b, (⟨#[32, 9]⟩ : ByteArray).data.toList[j]? = some b → b.toNat < 128 := by
 intro j b hb
 match j, hb with
 | 0, hb => simp at hb; subst hb; decide
 | 1, hb => simp at hb; subst hb; decide
 | j + 2, hb => simp at hb
theorem indexAny_any (s : ByteArray) (hs : s.size < 4294967281) (w : World) : Calls Tryz.prog 124 #[.string s, .string ⟨#[32, 9]⟩] w (AnyPost s w) := by
 by_cases h8 : s.size ≤ 8
 ·exact indexAny_short s h8 w
 ·refine (Tryz.strings_IndexAny_long (fun _ => by kernel_rfl) s ⟨#[32, 9]⟩ w (by decide) (by omega) hs (by decide) ascii_blanks).mono ?_
  rintro e w' ⟨rfl, rfl⟩
  exact ⟨rfl, ((Below.refl _ w).alloc (Nat.le_refl _) _).alloc (by simp) _⟩
end Go.Proofs.YtboeaeoefoabdaaGreatDoor
namespace Go.Proofs.YtboeaeoefoabdaaGreatDoor
open Go.Lib
theorem ba_ext {a b : ByteArray} (h : a.data.toList = b.data.toList) : a = b := by
 obtain ⟨⟨a⟩⟩ := a
 obtain ⟨⟨b⟩⟩ := b
 simpa using h
def NoNl (s : ByteArray) (fr k : Nat) : Prop := ∀ (j : Nat) (h : j < s.size), fr ≤ j → j < k → s[j] ≠ 10
theorem NoNl.part {s : ByteArray} {fr k : Nat} (h : NoNl s fr k) (hk : k ≤ s.size) : ∀ b ∈ (s.data.toList.drop fr).take (k - fr), b ≠ 10 := by
 intro b hb
 obtain ⟨i, hi, rfl⟩ := List.mem_iff_getElem.1 hb
 simp only [List.length_take, List.length_drop, Array.length_toList] at hi
 have hsz : s.data.size = s.size := rfl
 rw [hsz] at hi
 have := h (fr + i) (by omega) (by omega) (by omega)
 simp only [List.getElem_take, List.getElem_drop, Array.getElem_toList]
 exact this
theorem NoNl.more {s : ByteArray} {fr k : Nat} (h : NoNl s fr k) (hk : k < s.size) (hn : s[k] ≠ 10) : NoNl s fr (k + 1) := by
 intro j hj h1 h2
 by_cases e : j = k
 ·subst e; exact hn
 ·exact h j hj h1 (by omega)
end Go.Proofs.YtboeaeoefoabdaaGreatDoor
namespace Go.Proofs.YtboeaeoefoabdaaGreatDoor
open Go.RowKit Go.Lib
theorem indexAny_split (l : List UInt8) : (indexAny l [32, 9] = -1 ∧ l.takeWhile (fun b => !bl b) = l ∧ l.dropWhile (fun b => !bl b) = []) ∨
  ∃ i : Nat, indexAny l [32, 9] = i ∧ i ≤ l.length ∧ l.takeWhile (fun b => !bl b) = l.take i ∧ l.dropWhile (fun b => !bl b) = l.drop i := by
 induction l with
 | nil => left; exact ⟨rfl, rfl, rfl⟩
 | cons b l ih =>
  cases hb : bl b
  ·have hb' : ([32, 9] : List UInt8).contains b = false := hb
   rcases ih with ⟨h1, h2, h3⟩ | ⟨i, h1, h2, h3, h4⟩
   ·left
    refine ⟨?_, by simp [hb, h2], by simp [hb, h3]⟩
    simp only [indexAny]
    rw [hb', h1]; rfl
   ·right
    refine ⟨i + 1, ?_, by simp; omega, by simp [hb, h3], by simp [hb, h4]⟩
    simp only [indexAny]
    rw [hb', h1, if_neg (by simp), if_neg (by simp)]; rfl
  ·right
   have hb' : ([32, 9] : List UInt8).contains b = true := hb
   refine ⟨0, ?_, by simp, by simp [hb], by simp [hb]⟩
   simp only [indexAny]
   rw [hb', if_pos rfl]; rfl
def WordPost (l : List UInt8) (w : World) (e : Ending) (w' : World) : Prop := e = .returned (.tuple #[.string ⟨(wordL l).toArray⟩, .string ⟨(restL l).toArray⟩]) ∧ Below w.heap.size w w'
set_option maxRecDepth 100000 in
set_option maxHeartbeats 1000000 in
theorem first_word (s : ByteArray) (hs : s.size < 4294967281) (w : World) : Calls Tryz.prog 102 #[.string s] w (WordPost s.data.toList w) := by
 have hT := Any.strings_TrimLeft_laid Tryz.lays161 (by kernel_rfl) s ⟨#[32, 9]⟩ w (by decide) ascii_blanks
 have hT : Calls Tryz.prog 123 #[.string s, .string ⟨#[32, 9]⟩] w fun e w' => e = .returned (.string ⟨(trimL s.data.toList).toArray⟩) ∧ Below w.heap.size w w' := hT
 have hle := trimL_le s.data.toList
 have hsl : s.data.toList.length = s.size := by simp
 obtain ⟨t, ht⟩ : ∃ t : ByteArray, t = ⟨(trimL s.data.toList).toArray⟩ := ⟨_, rfl⟩
 have htl : t.data.toList = trimL s.data.toList := by rw [ht]
 have htz : t.size = (trimL s.data.toList).length := by rw [ht]; show (trimL s.data.toList).toArray.size = _; simp
 rw [← ht] at hT
 have hI := fun w => indexAny_any t (by omega) w
 unfold AnyPost at hI
 rw [htl] at hI
 have hsp := indexAny_split (trimL s.data.toList)
 have hwd : wordL s.data.toList = (trimL s.data.toList).takeWhile fun b => !bl b := rfl
 have hrs : restL s.data.toList = (trimL s.data.toList).dropWhile fun b => !bl b := rfl
 rcases hsp with ⟨h1, h2, h3⟩ | ⟨i, h1, h2, h3, h4⟩
 ·have hres : WordPost s.data.toList w = fun e w' => e = .returned (.tuple #[.string t, .string ⟨#[]⟩]) ∧ Below w.heap.size w w' := by
   funext e w'
   unfold WordPost
   rw [hwd, hrs, h2, h3, ← ht]
  rw [hres]
  rw [h1] at hI
  clear hres h1 h2 h3 htl htz hle hsl ht hwd hrs
  go_enter Tryz.func102, Tryz.ntmps102
  go_wp2_with (first
   | (go_at_call 123; refine hT.mono ?_; rintro e w1 ⟨rfl, hb1⟩)
   | (go_at_call 124; refine (hI _).mono ?_; rintro e w2 ⟨rfl, hb2⟩))
  go_ret2
  exact ⟨rfl, hb1.trans (hb2.mono hb1.size)⟩
 ·have hit : i ≤ t.size := by omega
  have hres : WordPost s.data.toList w = fun e w' => e = .returned (.tuple #[.string (t.extract 0 i), .string (t.extract i t.size)]) ∧ Below w.heap.size w w' := by
   funext e w'
   unfold WordPost
   have e1 : t.extract 0 i = ⟨(wordL s.data.toList).toArray⟩ := by apply ba_ext; rw [extract_data, htl, hwd, h3]; simp
   have e2 : t.extract i t.size = ⟨(restL s.data.toList).toArray⟩ := by apply ba_ext; rw [extract_to_end, htl, hrs, h4]
   rw [e1, e2]
  rw [hres]
  rw [h1] at hI
  have hi0 : (0 : Int) ≤ (i : Int) := by omega
  have hi1 : (i : Int) ≤ (t.size : Int) := by omega
  clear hres h1 h2 h3 h4 htl htz hle hsl ht hwd hrs
  go_enter Tryz.func102, Tryz.ntmps102
  go_wp2_with (first
   | (go_at_call 123; refine hT.mono ?_; rintro e w1 ⟨rfl, hb1⟩)
   | (go_at_call 124; refine (hI _).mono ?_; rintro e w2 ⟨rfl, hb2⟩))
  go_quiet (fail)
  go_wp2
  go_ret2
  exact ⟨rfl, (hb1.trans (hb2.mono hb1.size)).trans ⟨rfl, rfl, rfl, Nat.le_refl _, fun _ _ => rfl⟩⟩
end Go.Proofs.YtboeaeoefoabdaaGreatDoor
namespace Go.Proofs.YtboeaeoefoabdaaGreatDoor
open Go Go.RowKit Go.Shelf
variable {F : Fence} {n : Nat} {P : Program}
def RoundPost (n₀ id : Nat) (I : List ByteArray → World → Prop) (Ix : List ByteArray → World → Prop) (xs : List ByteArray) (W : World) : Exit → Act → World → Prop
 | .normal, _, W' => KeepsOthers W W' ∧ Below n₀ W W' ∧ I xs W'
 | .exit i, _, W' => i = id ∧ KeepsOthers W W' ∧ Ix xs W'
 | _, _, _ => False
def Tells (F : Fence) (n : Nat) (P : Program) (gf n₀ : Nat) (lb : Array Value) (Good Sp : List ByteArray → Prop) (N : Nat) (w : World) : Prop :=
 ∀ (l : Nat) (J Jx : List ByteArray → World → Prop) (W : World), Below w.heap.size w W →
  (∀ pre x W1, J pre W1 → pre.length < N → YieldAt F (n - 1) P l #[.string x] W1 fun e W' => (e = .returned (.bool true) ∧ J (pre ++ [x]) W' ∧ Below n₀ W1 W') ∨ (e = .returned (.bool false) ∧ Jx (pre ++ [x]) W')) →
  (∀ pre W1, J pre W1 → Good pre) → (∀ pre W1 W2, J pre W1 → Below W1.heap.size W1 W2 → J pre W2) → (∀ pre W1 W2, Jx pre W1 → Below W1.heap.size W1 W2 → Jx pre W2) → J [] W →
  CallsIn F n P gf (#[.func (.yield l) #[] #[]] ++ lb) W fun e W' => (∃ v, e = .returned v) ∧ ∃ pre, Sp pre ∧ Jx pre W'
theorem range_tells {g : Operand} {ps : Array Tmp} {assign body : Code} {Q : Exit → Act → World → Prop} {a : Act} {w w0 : World} {gf n₀ id N : Nat} {lb : Array Value} {Good Sp : List ByteArray → Prop}
  (hro : F.round = none) (h1 : 1 ≤ n) (hg : a.eval g = .func (.func gf) #[] lb) (hF : F.fn gf) (eg : ∀ args w, (callFunc gf args).run P w = .ok (.enter gf args) w) (hps : ps.size = 1)
  (iter : Tells F (n - 1) P gf n₀ lb Good Sp N w0) (hn₀ : n₀ ≤ w.heap.size) (hw0 : Below w0.heap.size w0 w)
  (I Ix : List ByteArray → World → Prop) (hI : OwnFrom w.heap.size I) (hIx : OwnFrom w.heap.size Ix) (hgood : ∀ pre W, I pre W → Good pre) (h0 : I [] w) (a₁ : ByteArray → Act)
  (keep : ∀ pre W1 W2, I pre W1 → Below W1.heap.size W1 W2 → I pre W2) (keepx : ∀ pre W1 W2, Ix pre W1 → Below W1.heap.size W1 W2 → Ix pre W2)
  (hassign : ∀ (l : Nat) (x : ByteArray) (W : World) (K : Act → World → Prop), K (a₁ x) W →
   assign.wpIn (F.inRound l) (n - 1 - 1) P (Exit.then K (fun _ _ _ => False)) { tmps := (ps.zip #[.string x]).foldl (fun t (p, v) => t.setIfInBounds p v) a.tmps, defers := [] } W)
  (hbody : ∀ (l : Nat) (pre : List ByteArray) (x : ByteArray) (W : World), I pre W → pre.length < N → body.wpIn (F.inRound l) (n - 1 - 1) P (RoundPost n₀ id I Ix (pre ++ [x]) W) (a₁ x) W)
  (hstop : ∀ (D : Nat) (pre : List ByteArray) (W : World), w.heap.size ≤ D → Sp pre → Ix pre W → W.heap[D]? = some (.deferred (some [])) → (Code.exit id).wpIn F n P Q { a with defers := { target := .collected D, args := #[] } :: a.defers } W) :
  (Code.rangeFunc g ps assign body).wpIn F n P Q a w := by
 refine wpIn_rangeFunc ?_
 intro fn hfn
 rw [hro]
 -- the loop's record, in its states; the block of the rounds' deferred calls is D, the record's block is D + 1
 let R : LoopState → Option Code → Obj := fun st pe => .loop { state := st, pending := pe, fn, tmps := a.tmps, params := ps, assign, body, defers := w.heap.size }
 let L := w.heap.size + 1
 let W0 := (w.alloc (.deferred (some []))).alloc (R .ready none)
 have sL : W0.heap[L]? = some (R .ready none) := by
  have := World.alloc_heap_new (w.alloc (.deferred (some []))) (R .ready none)
  rwa [World.size_alloc] at this
 have sD : W0.heap[w.heap.size]? = some (.deferred (some [])) := (Below.heap_alloc _ _ _ (by simp)).trans (World.alloc_heap_new w _)
 have sI : I [] W0 := hI.alloc _ (hI.alloc _ h0)
 have sB : Below w0.heap.size w0 W0 := hw0.trans ((((Below.refl _ w).alloc (Nat.le_refl _) _).alloc (by simp) _).mono hw0.size)
 refine ⟨L, [{ target := .collected w.heap.size, args := #[] }], W0, { target := .fn (.func gf) lb, args := #[.func (.yield L) #[] #[]] }, W0, gf, #[.func (.yield L) #[] #[]] ++ lb, W0, run_enterLoop_outer _ _ _ _ _, ?_, ?_, ?_, fun _ => h1, ?_⟩
 ·simp only [resolve, hg]; simp [go_sem, L]
 ·intro f' hf'; simp [Target.leads] at hf'; subst hf'; exact hF
 ·simp [invoke, go_sem, eg]
 have ltD : ∀ {W : World}, W.heap[L]? = some (R .ready none) → L < W.heap.size := fun h => (Array.getElem?_eq_some_iff.1 h).1
 refine (iter L (fun pre W => I pre W ∧ W.heap[L]? = some (R .ready none) ∧ W.heap[w.heap.size]? = some (.deferred (some [])))
  (fun pre W => Ix pre W ∧ W.heap[L]? = some (R .done (some (.exit id))) ∧ W.heap[w.heap.size]? = some (.deferred (some []))) W0 sB ?round (fun pre W h => hgood pre W h.1)
  (fun pre A B h hb => ⟨keep pre A B h.1 hb, (hb.block L (Array.getElem?_eq_some_iff.1 h.2.1).1).trans h.2.1, (hb.block _ (Array.getElem?_eq_some_iff.1 h.2.2).1).trans h.2.2⟩)
  (fun pre A B h hb => ⟨keepx pre A B h.1 hb, (hb.block L (Array.getElem?_eq_some_iff.1 h.2.1).1).trans h.2.1, (hb.block _ (Array.getElem?_eq_some_iff.1 h.2.2).1).trans h.2.2⟩) ⟨sI, sL, sD⟩).mono ?behind
 case round =>
  rintro pre x W ⟨hi, hl, hd⟩ hlen
  have hne : w.heap.size ≠ L := by simp [L]
  have hlt := ltD hl
  refine ⟨fn, _, assign, body, run_yield (args := #[.string x]) hl hps.symm, roundIn_of_wpIn hfn (hassign _ x W _ ⟨_, run_beginRound hl rfl, ?_⟩)⟩
  -- the round has begun: the record is busy
  have bl : (W.putObj L (R .busy none)).heap[L]? = some (R .busy none) := World.putObj_heap_same hlt
  have bd : (W.putObj L (R .busy none)).heap[w.heap.size]? = some (.deferred (some [])) := (World.putObj_heap_other hne).trans hd
  have turn : ∀ {A : World} {o : Obj} (o' : Obj), A.heap[L]? = some o → Below n₀ A (A.putObj L o') := fun {A o} o' _ => ⟨rfl, rfl, rfl, by simp, fun k hk => World.putObj_heap_other (by simp only [L]; omega)⟩
  refine wpIn_mono (hbody _ pre x _ (hI.putObj _ hi (by simp [L]) hl rfl) hlen) ?_
  rintro e a3 W3 hp
  match e, hp with
  | .normal, ⟨hk, hb, hi3⟩ =>
   have l3 := hk.same _ _ bl rfl
   have d3 := hk.same _ _ bd rfl
   refine ⟨_, _, run_endRound none l3, .inl ⟨rfl, ⟨hI.putObj _ hi3 (by simp [L]) l3 rfl, World.putObj_heap_same (Array.getElem?_eq_some_iff.1 l3).1, (World.putObj_heap_other hne).trans d3⟩, ((turn _ hl).trans hb).trans (turn _ l3)⟩⟩
  | .exit i, ⟨hid, hk, hx⟩ =>
   subst hid
   have l3 := hk.same _ _ bl rfl
   have d3 := hk.same _ _ bd rfl
   exact ⟨_, _, run_endRound (some (.exit i)) l3, .inr ⟨rfl, hIx.putObj _ hx (by simp [L]) l3 rfl, World.putObj_heap_same (Array.getElem?_eq_some_iff.1 l3).1, (World.putObj_heap_other hne).trans d3⟩⟩
 case behind =>
  rintro e W ⟨⟨v, rfl⟩, pre, hSp, hx, hl, hd⟩
  have hne : w.heap.size ≠ L := by simp [L]
  exact ⟨some (.exit id), _, run_endLoop hl (by simp), hstop _ pre _ (Nat.le_refl _) hSp (hIx.putObj _ hx (by simp [L]) hl rfl) ((World.putObj_heap_other hne).trans hd)⟩
end Go.Proofs.YtboeaeoefoabdaaGreatDoor
namespace Go.Proofs.YtboeaeoefoabdaaGreatDoor
open Go Go.RowKit Go.Shelf
attribute [local go_sem] Oper.semAt_some
def Sp (l : List UInt8) (pre : List ByteArray) : Prop := ∃ k, pre = told l (k + 1)
def strSz : Value → Nat
 | .string s => s.size
 | _ => 0
set_option maxRecDepth 100000 in
set_option maxHeartbeats 2000000 in
theorem words_tells (n n₀ Bn : Nat) (s : ByteArray) (hs : s.size < 4294967281) (w : World) (hBn : Bn < w.heap.size) (hc0 : w.cell? ⟨Bn, 0, none⟩ = some (.string s)) :
  Tells Fence.wide n Tryz.prog 115 n₀ #[.pointer (some ⟨Bn, 0, none⟩)] Good (Sp s.data.toList) (s.data.toList.length + 1) w := by
 intro l J Jx W hW hY hGood hJb hJxb h0
 have hc : W.cell? ⟨Bn, 0, none⟩ = some (.string s) := (hW.cell (p := ⟨Bn, 0, none⟩) hBn).trans hc0
 have hsl : s.data.toList.length = s.size := by simp
 have hF := first_word s hs
 unfold WordPost at hF
 obtain ⟨L, hL⟩ : ∃ L, L = s.data.toList := ⟨_, rfl⟩
 rw [← hL] at hsl hF ⊢
 clear hL hc0 hW
 show CallsIn Fence.wide n Tryz.prog 115 #[.func (.yield l) #[] #[], .pointer (some ⟨Bn, 0, none⟩)] W _
 refine callsIn_of_wp Tryz.func115 rfl trivial ?_ rfl
 simp only [Tryz.ntmps115, List.size_toArray, List.length_cons, List.length_nil, Nat.reduceAdd, Nat.reduceSub, Array.replicate_succ, Array.replicate_zero, List.push_toArray, List.append_toArray, List.nil_append, List.cons_append]
 gi_wp2_with (refine ⟨trivial, fun h => (by cases h), ?_⟩; refine (callsIn_wide.2 (hF _)).mono ?_; rintro e w1 ⟨rfl, hb1⟩)
 have h1 := hJb _ _ _ h0 hb1
 clear hc h0 hF
 gi_loopw [3, 4] (fun v3 v4 wr => ∃ k : Nat, v3 = .string (wordB L k) ∧ v4 = .string ⟨(restL (behind L k)).toArray⟩ ∧ k + (behind L k).length ≤ L.length ∧ J (told L k) wr) (fun v3 v4 _ => strSz v3 + strSz v4)
 case atStart => exact ⟨0, rfl, rfl, by simp [behind], h1⟩
 case round =>
  obtain ⟨k, rfl, rfl, hkl, hJ⟩ := hrel
  obtain ⟨fn, tmps, assign, body, hy, hR⟩ := hY (told L k) (wordB L k) wr hJ (by simp [told]; omega)
  have hle := behind_le L k
  have hF := first_word ⟨(restL (behind L k)).toArray⟩ (by rw [bsize]; have := restL_le (behind L k); omega)
  unfold WordPost at hF
  gi_wp2
  refine ⟨fun h => (by cases h), hR.mono ?_⟩
  rintro e W3 (⟨rfl, hJ3, hk3⟩ | ⟨rfl, hJx3⟩)
  ·gi_wp2_with (refine ⟨trivial, fun h => (by cases h), ?_⟩; refine (callsIn_wide.2 (hF _)).mono ?_; rintro e w4 ⟨rfl, hb4⟩)
   have hJ4 := hJb _ _ _ hJ3 hb4
   have hne := hGood _ _ hJ3 (wordB L k) (by simp)
   have hk5 : (k + 1) + (behind L (k + 1)).length ≤ L.length := by
    have e1 := word_rest (behind L k)
    have e4 := trimL_le (behind L k)
    unfold wordB at hne
    rw [bsize] at hne
    show (k + 1) + (restL (behind L k)).length ≤ L.length
    omega
   go_roundw
   case rel => exact ⟨k + 1, rfl, rfl, hk5, by rw [told_succ]; exact hJ4⟩
   case measure =>
    have e1 := word_rest (behind L k)
    have e2 := word_rest (restL (behind L k))
    have e3 := trimL_le (restL (behind L k))
    have e4 := trimL_le (behind L k)
    unfold wordB at hne
    rw [bsize] at hne
    simp only [strSz, wordB, bsize]
    omega
  ·gi_wp2
   go_end0
   exact ⟨⟨_, rfl⟩, told L k ++ [wordB L k], ⟨k, (told_succ L k).symm⟩, hJx3⟩
theorem wordsOf_any (n : Nat) (s : ByteArray) (w : World) :
  CallsIn Fence.wide n Tryz.prog 90 #[.string s] w fun e w' => e = .returned (.func (.func 115) #[] #[.pointer (some ⟨w.heap.size, 0, none⟩)]) ∧ w' = w.alloc (.cells #[.string s] 9) := by
 refine callsIn_of_wp Tryz.func90 rfl trivial ?_ rfl
 simp only [Tryz.ntmps90, List.size_toArray, List.length_cons, List.length_nil, Nat.reduceAdd, Nat.reduceSub, Array.replicate_succ, Array.replicate_zero, List.push_toArray, List.append_toArray, List.nil_append, List.cons_append]
 gi_wp2
 go_ret
 exact ⟨rfl, rfl⟩
end Go.Proofs.YtboeaeoefoabdaaGreatDoor
