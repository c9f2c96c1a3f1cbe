/-
  Texts put together by program: VwA, VwB, VwC, Shm, Bel.
  Conditions: as each theorem says.
-/
import Derived.Below
import Derived.BigQuiet
import Derived.Deep.QuietTactic
import Derived.Handy
import Derived.Laws.RangeAny
import Derived.Laws.RangeString
import Derived.Laws.Runes
import Derived.Lib.Hide
import Derived.Lib.IndexAny
import Derived.Lib.OthersKept
import Derived.Lib.SlTrimSet
import Derived.Shelf.Strings.SlTrimAscii
import Derived.WalkSpells
import Derived.Test.YtboeaeoefoabdaaGreatDoorPmad
import Derived.Test.YtboeaeoefoabdaaGreatDoorPmaf
namespace Go.Proofs.YtboeaeoefoabdaaGreatDoor
open Go.RowKit
set_option maxRecDepth 100000 in
set_option maxHeartbeats 4000000 in
theorem indexRune_bad (r : Int) (h : 128 ≤ r) (hne : r ≠ 65533) (hv : Lib.validRune r = false) (w : World) :
  Calls Tryz.prog 146 #[.string ⟨#[32, 9]⟩, .int .i32 r] w fun e w' => e = .returned (.int .i64 (-1)) ∧ Below w.heap.size w w' := by
 have hV := Tryz.utf8_ValidRune r
 rw [hv] at hV
 have h1 : ¬ r < 128 := by omega
 go_enter Tryz.func146, Tryz.ntmps146
 go_wp2_with (go_at_call 159; refine (hV _).mono ?_; rintro e w1 ⟨rfl, rfl⟩)
 go_ret
 exact ⟨rfl, Below.refl _ _⟩
set_option maxRecDepth 100000 in
set_option maxHeartbeats 4000000 in
theorem indexRune_valid (r : Int) (h : 128 ≤ r) (hne : r ≠ 65533) (hv : Lib.validRune r = true) (hv2 : Utf8.valid r = true) (w : World) :
  Calls Tryz.prog 146 #[.string ⟨#[32, 9]⟩, .int .i32 r] w fun e w' => e = .returned (.int .i64 (-1)) ∧ Below w.heap.size w w' := by
 have hV := Tryz.utf8_ValidRune r
 rw [hv] at hV
 have h1 : ¬ r < 128 := by omega
 obtain ⟨e2, e4, eL⟩ := encode_facts r hv2 h
 obtain ⟨E, hE⟩ : ∃ E, E = Utf8.encode r := ⟨_, rfl⟩
 have hcv := fun w => run_convert_int_string (P := Tryz.prog) w 21 9 .i32 r rfl Tryz.underlying9
 rw [← hE] at e2 e4 eL
 simp only [← hE] at hcv
 clear hE hv2
 go_enter Tryz.func146, Tryz.ntmps146
 go_wp2_with (go_at_call 159; refine (hV _).mono ?_; rintro e w1 ⟨rfl, rfl⟩)
 clear hV
 by_cases h2 : E.size = 2
 ·obtain ⟨a, b, rfl⟩ : ∃ a b, E = ⟨#[a, b]⟩ := by
   obtain ⟨⟨l⟩⟩ := E
   match l, h2 with
   | [a, b], _ => exact ⟨a, b, rfl⟩
  have hb : 128 ≤ b.toNat := eL (by show 1 < 2; omega)
  clear h2 eL e2 e4
  have hd : ((((⟨#[32, 9]⟩ : ByteArray)[1]'(by show 1 < 2; omega)).toNat : Int) != (((⟨#[a, b]⟩ : ByteArray)[1]'(by show 1 < 2; omega)).toNat : Int)) = true := by
   show ((9 : Int) != (b.toNat : Int)) = true
   simp; omega
  have hix : ∀ c, Lib.indexByte ((⟨#[32, 9]⟩ : ByteArray).extract 2 2).data.toList c = -1 := fun c => by
   have : ((⟨#[32, 9]⟩ : ByteArray).extract 2 2).data.toList = [] := by decide
   rw [this]; rfl
  have hw2 : IntKind.i64.wrap 2 = 2 := by decide
  have hsl : ∀ W : World, (Instr.slice 9 (.string ⟨#[32, 9]⟩) (some (.int .i64 2)) none none).run Tryz.prog W = .ok (.string ((⟨#[32, 9]⟩ : ByteArray).extract 2 2)) W := fun W =>
   run_slice_string_l W 9 ⟨#[32, 9]⟩ Tryz.underlying9 .i64 2 (by omega) (by decide)
  go_step3
  go_wp2
  refine wp_loop_rounds 1 ?_
  rw [rounds_succ]
  go_wp2
  go_step3
  go_wp2
  go_quiet (fail)
  rename_i nq
  have hb2 : Below w1.heap.size w1 (w1.drewN nq) := ⟨rfl, rfl, rfl, Nat.le_refl _, fun _ _ => rfl⟩
  generalize w1.drewN nq = w2 at hb2 ⊢
  go_wp2
  go_quiet ((go_at_call 158; exact Calls.quiet_of_same (Tryz.strings_IndexByte _ _ _)))
  rename_i nq
  have hb3 : Below w1.heap.size w1 (w2.drewN nq) := hb2.trans ⟨rfl, rfl, rfl, Nat.le_refl _, fun _ _ => rfl⟩
  go_wp2
  rw [Exit.noGoto_ret]
  go_wp2
  rw [Exit.noGoto_ret]
  go_ret
  exact ⟨rfl, hb3⟩
 ·go_step3
  go_wp2
  refine wp_loop_rounds 1 ?_
  rw [rounds_succ]
  go_wp2
  rw [Exit.noGoto_ret]
  go_ret
  exact ⟨rfl, Below.refl _ _⟩
set_option maxRecDepth 100000 in
set_option maxHeartbeats 4000000 in
theorem indexRune_err (w : World) :
  Calls Tryz.prog 146 #[.string ⟨#[32, 9]⟩, .int .i32 65533] w fun e w' => e = .returned (.int .i64 (-1)) ∧ Below w.heap.size w w' := by
 have h0 := fun ty => run_next_ascii (P := Tryz.prog) w ⟨#[32, 9]⟩ 0 ty (by decide) (by decide)
 have h1 := fun ty => run_next_ascii (P := Tryz.prog) w ⟨#[32, 9]⟩ 1 ty (by decide) (by decide)
 have h2 := fun ty => run_next_end (P := Tryz.prog) w ⟨#[32, 9]⟩ 2 ty (by decide)
 go_enter Tryz.func146, Tryz.ntmps146
 go_wp2
 go_rounds 3
 go_ret
 exact ⟨rfl, (Below.refl _ _).alloc (Nat.le_refl _) _⟩
end Go.Proofs.YtboeaeoefoabdaaGreatDoor
namespace Go.Proofs.YtboeaeoefoabdaaGreatDoor
open Go.RowKit Go.Lib
theorem get_lt (s : ByteArray) (i : Nat) (h : i < s.size) : s.get! i = s[i]'h := by
 simp [ByteArray.get!, h]; rfl
theorem decode_cont (s : ByteArray) (pos : Nat) (h : pos < s.size) (ha : 128 ≤ (s[pos]'h).toNat) : ∀ j, j < (Utf8.decode s pos).2 → pos + j < s.size ∧ 128 ≤ (s.get! (pos + j)).toNat := by
 have h00 : 128 ≤ (s.get! (pos + 0)).toNat := by rw [Nat.add_zero, get_lt s pos h]; exact ha
 simp only [Utf8.decode]
 repeat' split
 all_goals intro j hj
 all_goals try simp only [Bool.and_eq_true, decide_eq_true_eq, beq_iff_eq] at *
 all_goals (
  have : j = 0 ∨ j = 1 ∨ j = 2 ∨ j = 3 := by first | omega | (simp at hj; omega)
  rcases this with rfl | rfl | rfl | rfl <;> first | (exact ⟨by omega, by omega⟩) | (exfalso; first | omega | (simp at hj; omega)))
theorem noAny_many {l chars : List UInt8} {i : Nat} (h : NoAny l chars i) (w : Nat) (hw : ∀ j b, j < w → l[i + j]? = some b → chars.contains b = false) : NoAny l chars (i + w) := fun j b hj hb => by
 by_cases e : j < i
 ·exact h j b e hb
 ·have := hw (j - i) b (by omega) (by rw [show i + (j - i) = j by omega]; exact hb)
  exact this
theorem valid_same (r : Nat) : Lib.validRune r = Utf8.valid r := by
 unfold Lib.validRune Utf8.valid
 rw [Bool.eq_iff_iff]; simp; omega
theorem indexRune_high (r : Nat) (h : 128 ≤ r) (w : World) :
  Calls Tryz.prog 146 #[.string ⟨#[32, 9]⟩, .int .i32 r] w fun e w' => e = .returned (.int .i64 (-1)) ∧ Below w.heap.size w w' := by
 by_cases he : (r : Int) = 65533
 ·rw [he]; exact indexRune_err w
 ·cases hv : Lib.validRune r
  ·exact indexRune_bad r (by omega) he hv w
  ·exact indexRune_valid r (by omega) he hv (by rw [← valid_same]; exact hv) w
theorem chars_high (b : UInt8) (h : 128 ≤ b.toNat) : ([32, 9] : List UInt8).contains b = false := by
 have h1 : b ≠ 32 := fun e => by subst e; simp at h
 have h2 : b ≠ 9 := fun e => by subst e; simp at h
 simp [h1, h2]
def AnyPost (s : ByteArray) (w : World) (e : Ending) (w' : World) : Prop := e = .returned (.int .i64 (indexAny s.data.toList [32, 9])) ∧ Below w.heap.size w w'
set_option maxRecDepth 100000 in
set_option maxHeartbeats 4000000 in
theorem indexAny_short (s : ByteArray) (h8 : s.size ≤ 8) (w : World) : Calls Tryz.prog 124 #[.string s, .string ⟨#[32, 9]⟩] w (AnyPost s w) := by
 have h8z : decide ((8 : Int) < (s.size : Int)) = false := decide_eq_false (by omega)
 have hsz : s.data.toList.length = s.size := by simp
 have HZ := Lib.hid hsz
 clear hsz
 go_enter Tryz.func124, Tryz.ntmps124
 go_wp2_with (go_at_call 148; refine (Tryz.strings_shouldUseASCIISet _ _).mono ?_; rintro e w1 ⟨rfl, hw⟩; rw [hw, h8z]; clear hw)
 go_loopg [9, 10] s.size (fun g _ _ wx => ∃ i : Nat, i ≤ s.size ∧ s.size ≤ i + g ∧ wx.heap[w.heap.size]? = some (.stringIter s i) ∧ Below w.heap.size w wx ∧ Hid (NoAny s.data.toList [32, 9] i))
 case atStart => exact ⟨0, by omega, by omega, by simp [World.iter_heap], (Below.refl _ _).alloc (Nat.le_refl _) _, NoAny.zero _ _⟩
 case round =>
  obtain ⟨i, hi, hig, hit, hb, HN⟩ := hrel
  by_cases hlt : i < s.size
  ·cases gk with
   | zero => omega
   | succ g =>
    obtain ⟨x, hx⟩ : ∃ x : UInt8, s[i]'hlt = x := ⟨_, rfl⟩
    have hxl : s.data.toList[i]? = some x := by rw [← hx]; exact data_getElem? s i hlt
    obtain ⟨r, hr⟩ : ∃ r, (Utf8.decode s i).1 = r := ⟨_, rfl⟩
    obtain ⟨wd, hwd⟩ : ∃ wd, (Utf8.decode s i).2 = wd := ⟨_, rfl⟩
    have hnx := fun ty => run_next_any_at (P := Tryz.prog) wr w.heap.size s i ty hit hlt
    have hit2 := iterAt_heap wr w.heap.size s i (i + wd) hit
    have hb2 := below_iterAt hb (Nat.le_refl w.heap.size) s (i + wd)
    rw [hr, hwd] at hnx
    obtain ⟨W2, hW2⟩ : ∃ W2, W2 = wr.iterAt w.heap.size s (i + wd) := ⟨_, rfl⟩
    rw [← hW2] at hnx hit2 hb2
    clear hit hb hW2
    have hk2 : w.heap.size < W2.heap.size := (Array.getElem?_eq_some_iff.1 hit2).1
    have hNext := fun (w3 : World) (h3 : Below W2.heap.size W2 w3) => And.intro ((h3.block w.heap.size hk2).trans hit2) (hb2.trans (h3.mono hb2.size))
    by_cases hhi : 128 ≤ x.toNat
    ·have hdc := decode_cont s i hlt (by rw [hx]; exact hhi)
     have hdh := decode_high s i hlt (by rw [hx]; exact hhi)
     rw [hwd] at hdc hdh
     rw [hr] at hdh
     have hR := indexRune_high r hdh.1 W2
     have hend : i + wd ≤ s.size := by have := (hdc (wd - 1) (by omega)).1; omega
     have HN2 : Hid (NoAny s.data.toList [32, 9] (i + wd)) := noAny_many HN.out wd (fun j b hj hb => by
      obtain ⟨h1, h2⟩ := hdc j hj
      have e : s.data.toList[i + j]? = some (s.get! (i + j)) := by rw [get_lt s _ h1]; exact data_getElem? s (i + j) h1
      rw [e] at hb
      cases hb
      exact chars_high _ h2)
     have hwd1 := hdh.2
     clear hdc hdh hhi HN hx hxl hr hwd
     go_wp2_with (go_at_call 146; refine hR.mono ?_; rintro e w3 ⟨rfl, hb3⟩)
     go_roundg g
     case measure => omega
     case rel => exact ⟨i + wd, hend, by omega, (hNext w3 hb3).1, (hNext w3 hb3).2, HN2⟩
    ·have hda := decode_ascii s i hlt (by rw [hx]; omega)
     rw [hx] at hda
     have hr2 : r = x.toNat := by rw [← hr, hda]
     have hw2 : wd = 1 := by rw [← hwd, hda]
     subst hr2
     subst hw2
     have hR := Tryz.strings_IndexRune_ascii ⟨#[32, 9]⟩ (x.toNat : Int) W2 (by omega) (by omega)
     have hback : ((x.toNat : Int)).toNat.toUInt8 = x := by simp
     have hcon := contains_iff_indexByte [32, 9] x
     cases hin : ([32, 9] : List UInt8).contains x
     ·rw [hin] at hcon
      have hlt0 : ¬ ((0 : Int) ≤ indexByte [32, 9] x) := of_decide_eq_false hcon.symm
      have HN2 : Hid (NoAny s.data.toList [32, 9] (i + 1)) := HN.out.succ hxl hin
      clear hcon hin HN hx hxl hr hwd hda hhi
      rw [hback] at hR
      clear hback
      go_wp2_with (go_at_call 146; refine hR.mono ?_; rintro e w3 ⟨rfl, rfl⟩)
      go_roundg g
      case measure => omega
      case rel => exact ⟨i + 1, by omega, by omega, hit2, hb2, HN2⟩
     ·rw [hin] at hcon
      have hge : (0 : Int) ≤ indexByte [32, 9] x := of_decide_eq_true hcon.symm
      have hres : indexAny s.data.toList [32, 9] = i := indexAny_hit HN.out hxl hin
      have HR := Lib.hid hres
      clear hcon hin HN hx hxl hr hwd hda hhi hres
      rw [hback] at hR
      clear hback
      go_wp2_with (go_at_call 146; refine hR.mono ?_; rintro e w3 ⟨rfl, rfl⟩)
      go_ret
      exact ⟨by rw [HR.out]; rfl, hb2⟩
  ·obtain rfl : i = s.size := by omega
   have hr : indexAny s.data.toList [32, 9] = -1 := indexAny_none (by rw [HZ.out]; exact HN.out)
   have HR := Lib.hid hr
   have hnx := fun ty => run_next_end_at (P := Tryz.prog) wr w.heap.size s s.size ty hit (by omega)
   clear hr HN
   go_wp2
   go_ret
   exact ⟨by rw [HR.out]; rfl, hb⟩
theorem ascii_blanks : ∀ (j : Nat) b, (⟨#[32, 9]⟩ : ByteArray).data.toList[j]? = some b → b.toNat < 128 := by
 intro j b hb
 match j, hb with
 | 0, hb => simp at hb; subst hb; decide
 | 1, hb => simp at hb; subst hb; decide
 | j + 2, hb => simp at hb
theorem indexAny_any (s : ByteArray) (hs : s.size < 4294967281) (w : World) : Calls Tryz.prog 124 #[.string s, .string ⟨#[32, 9]⟩] w (AnyPost s w) := by
 by_cases h8 : s.size ≤ 8
 ·exact indexAny_short s h8 w
 ·refine (Tryz.strings_IndexAny_long (fun _ => by kernel_rfl) s ⟨#[32, 9]⟩ w (by decide) (by omega) hs (by decide) ascii_blanks).mono ?_
  rintro e w' ⟨rfl, rfl⟩
  exact ⟨rfl, ((Below.refl _ w).alloc (Nat.le_refl _) _).alloc (by simp) _⟩
end Go.Proofs.YtboeaeoefoabdaaGreatDoor
namespace Go.Proofs.YtboeaeoefoabdaaGreatDoor
open Go.RowKit Go.Lib
theorem indexAny_split (l : List UInt8) : (indexAny l [32, 9] = -1 ∧ l.takeWhile (fun b => !bl b) = l ∧ l.dropWhile (fun b => !bl b) = []) ∨
  ∃ i : Nat, indexAny l [32, 9] = i ∧ i ≤ l.length ∧ l.takeWhile (fun b => !bl b) = l.take i ∧ l.dropWhile (fun b => !bl b) = l.drop i := by
 induction l with
 | nil => left; exact ⟨rfl, rfl, rfl⟩
 | cons b l ih =>
  cases hb : bl b
  ·have hb' : ([32, 9] : List UInt8).contains b = false := hb
   rcases ih with ⟨h1, h2, h3⟩ | ⟨i, h1, h2, h3, h4⟩
   ·left
    refine ⟨?_, by simp [hb, h2], by simp [hb, h3]⟩
    simp only [indexAny]
    rw [hb', h1]; rfl
   ·right
    refine ⟨i + 1, ?_, by simp; omega, by simp [hb, h3], by simp [hb, h4]⟩
    simp only [indexAny]
    rw [hb', h1, if_neg (by simp), if_neg (by simp)]; rfl
  ·right
   have hb' : ([32, 9] : List UInt8).contains b = true := hb
   refine ⟨0, ?_, by simp, by simp [hb], by simp [hb]⟩
   simp only [indexAny]
   rw [hb', if_pos rfl]; rfl
def WordPost (l : List UInt8) (w : World) (e : Ending) (w' : World) : Prop := e = .returned (.tuple #[.string ⟨(wordL l).toArray⟩, .string ⟨(restL l).toArray⟩]) ∧ Below w.heap.size w w'
set_option maxRecDepth 100000 in
set_option maxHeartbeats 1000000 in
theorem first_word (s : ByteArray) (hs : s.size < 4294967281) (w : World) : Calls Tryz.prog 102 #[.string s] w (WordPost s.data.toList w) := by
 have hT := Any.strings_TrimLeft_laid Tryz.lays161 (by kernel_rfl) s ⟨#[32, 9]⟩ w (by decide) ascii_blanks
 have hT : Calls Tryz.prog 123 #[.string s, .string ⟨#[32, 9]⟩] w fun e w' => e = .returned (.string ⟨(trimL s.data.toList).toArray⟩) ∧ Below w.heap.size w w' := hT
 have hle := trimL_le s.data.toList
 have hsl : s.data.toList.length = s.size := by simp
 obtain ⟨t, ht⟩ : ∃ t : ByteArray, t = ⟨(trimL s.data.toList).toArray⟩ := ⟨_, rfl⟩
 have htl : t.data.toList = trimL s.data.toList := by rw [ht]
 have htz : t.size = (trimL s.data.toList).length := by rw [ht]; show (trimL s.data.toList).toArray.size = _; simp
 rw [← ht] at hT
 have hI := fun w => indexAny_any t (by omega) w
 unfold AnyPost at hI
 rw [htl] at hI
 have hsp := indexAny_split (trimL s.data.toList)
 have hwd : wordL s.data.toList = (trimL s.data.toList).takeWhile fun b => !bl b := rfl
 have hrs : restL s.data.toList = (trimL s.data.toList).dropWhile fun b => !bl b := rfl
 rcases hsp with ⟨h1, h2, h3⟩ | ⟨i, h1, h2, h3, h4⟩
 ·have hres : WordPost s.data.toList w = fun e w' => e = .returned (.tuple #[.string t, .string ⟨#[]⟩]) ∧ Below w.heap.size w w' := by
   funext e w'
   unfold WordPost
   rw [hwd, hrs, h2, h3, ← ht]
  rw [hres]
  rw [h1] at hI
  clear hres h1 h2 h3 htl htz hle hsl ht hwd hrs
  go_enter Tryz.func102, Tryz.ntmps102
  go_wp2_with (first
   | (go_at_call 123; refine hT.mono ?_; rintro e w1 ⟨rfl, hb1⟩)
   | (go_at_call 124; refine (hI _).mono ?_; rintro e w2 ⟨rfl, hb2⟩))
  go_ret2
  exact ⟨rfl, hb1.trans (hb2.mono hb1.size)⟩
 ·have hit : i ≤ t.size := by omega
  have hres : WordPost s.data.toList w = fun e w' => e = .returned (.tuple #[.string (t.extract 0 i), .string (t.extract i t.size)]) ∧ Below w.heap.size w w' := by
   funext e w'
   unfold WordPost
   have e1 : t.extract 0 i = ⟨(wordL s.data.toList).toArray⟩ := by apply ba_ext; rw [extract_data, htl, hwd, h3]; simp
   have e2 : t.extract i t.size = ⟨(restL s.data.toList).toArray⟩ := by apply ba_ext; rw [extract_to_end, htl, hrs, h4]
   rw [e1, e2]
  rw [hres]
  rw [h1] at hI
  have hi0 : (0 : Int) ≤ (i : Int) := by omega
  have hi1 : (i : Int) ≤ (t.size : Int) := by omega
  clear hres h1 h2 h3 h4 htl htz hle hsl ht hwd hrs
  go_enter Tryz.func102, Tryz.ntmps102
  go_wp2_with (first
   | (go_at_call 123; refine hT.mono ?_; rintro e w1 ⟨rfl, hb1⟩)
   | (go_at_call 124; refine (hI _).mono ?_; rintro e w2 ⟨rfl, hb2⟩))
  go_quiet (fail)
  go_wp2
  go_ret2
  exact ⟨rfl, (hb1.trans (hb2.mono hb1.size)).trans ⟨rfl, rfl, rfl, Nat.le_refl _, fun _ _ => rfl⟩⟩
end Go.Proofs.YtboeaeoefoabdaaGreatDoor
namespace Go.Proofs
open Go.Shelf
def Tryz.lays146_ren : Go.Shelf.Ren := ⟨fun | 146 => 71 | 221 => 104 | 268 => 126 | 138 => 127 | 143 => 128 | 195 => 149 | 197 => 120 | 218 => 150 | 219 => 116 | 260 => 145 | 217 => 135 | 225 => 136 | 224 => 137 | 267 => 138 | 266 => 154 | 314 => 155 | n => n, fun | 9 => 9 | 31 => 46 | 3 => 3 | 4 => 4 | 0 => 0 | 105 => 160 | 21 => 21 | 5 => 5 | 46 => 91 | 119 => 181 | 139 => 184 | 138 => 183 | 146 => 176 | 51 => 175 | n => n, fun | 1 => 1 | 3 => 4 | 4 => 5 | n => n⟩
theorem Tryz.lays146 : Go.Proofs.Lays.n146 Tryz.prog Tryz.lays146_ren := {
 mixed := by kernel_rfl
 f138 := Tryz.func127.trans (congrArg some (by kernel_rfl))
 f143 := Tryz.func128.trans (congrArg some (by kernel_rfl))
 f146 := Tryz.func71.trans (congrArg some (by kernel_rfl))
 f195 := Tryz.func149.trans (congrArg some (by kernel_rfl))
 f197 := Tryz.func120.trans (congrArg some (by kernel_rfl))
 f217 := Tryz.func135.trans (congrArg some (by kernel_rfl))
 f218 := Tryz.func150.trans (congrArg some (by kernel_rfl))
 f219 := Tryz.func116.trans (congrArg some (by kernel_rfl))
 f221 := Tryz.func104.trans (congrArg some (by kernel_rfl))
 f224 := Tryz.func137.trans (congrArg some (by kernel_rfl))
 f225 := Tryz.func136.trans (congrArg some (by kernel_rfl))
 f260 := Tryz.func145.trans (congrArg some (by kernel_rfl))
 f266 := Tryz.func154.trans (congrArg some (by kernel_rfl))
 f267 := Tryz.func138.trans (congrArg some (by kernel_rfl))
 f268 := Tryz.func126.trans (congrArg some (by kernel_rfl))
 f314 := Tryz.func155.trans (congrArg some (by kernel_rfl))
 t0 := Tryz.underlying0
 a0 := Tryz.isAgg0
 z0 := Tryz.sizeOf0
 v0 := Tryz.zeroValue0
 t3 := Tryz.underlying3
 a3 := Tryz.isAgg3
 z3 := Tryz.sizeOf3
 v3 := Tryz.zeroValue3
 t4 := Tryz.underlying4
 a4 := Tryz.isAgg4
 z4 := Tryz.sizeOf4
 v4 := Tryz.zeroValue4
 t5 := Tryz.underlying5
 a5 := Tryz.isAgg5
 z5 := Tryz.sizeOf5
 v5 := Tryz.zeroValue5
 t9 := Tryz.underlying9
 a9 := Tryz.isAgg9
 z9 := Tryz.sizeOf9
 v9 := Tryz.zeroValue9
 t21 := Tryz.underlying21
 a21 := Tryz.isAgg21
 z21 := Tryz.sizeOf21
 v21 := Tryz.zeroValue21
 t31 := Tryz.underlying46
 a31 := Tryz.isAgg46
 z31 := Tryz.sizeOf46
 v31 := Tryz.zeroValue46
 t46 := Tryz.underlying91
 a46 := Tryz.isAgg91
 z46 := Tryz.sizeOf91
 v46 := Tryz.zeroValue91
 t51 := Tryz.underlying175
 a51 := Tryz.isAgg175
 z51 := Tryz.sizeOf175
 v51 := Tryz.zeroValue175
 t105 := Tryz.underlying160
 a105 := Tryz.isAgg160
 z105 := Tryz.sizeOf160
 v105 := Tryz.zeroValue160
 t119 := Tryz.underlying181
 a119 := Tryz.isAgg181
 z119 := Tryz.sizeOf181
 t138 := Tryz.underlying183
 a138 := Tryz.isAgg183
 z138 := Tryz.sizeOf183
 v138 := Tryz.zeroValue183
 t139 := Tryz.underlying184
 a139 := Tryz.isAgg184
 z139 := Tryz.sizeOf184
 v139 := Tryz.zeroValue184
 t146 := Tryz.underlying176
 a146 := Tryz.isAgg176
 z146 := Tryz.sizeOf176
 v146 := Tryz.zeroValue176
 g1 := by kernel_rfl
 g3 := by kernel_rfl
 g4 := by kernel_rfl }
open Go.RowKit Go.Lib in
theorem Tryz.strings_Split (s sep : ByteArray) (m : Int) (w : World) (hs : s.size < 4294967281) (hm : w.cell? ⟨1, 0, none⟩ = some (.int .i64 m)) (h1 : 1 ≤ sep.size) :
  Calls Tryz.prog 71 #[.string s, .string sep] w fun e w' =>
   e = .returned (.slice (some ⟨w.heap.size, 0, none⟩) (Lib.countB s sep + 1) (Lib.countB s sep + 1)) ∧ w' = w.alloc (.cells ((Lib.splitB sep 0 (Lib.countB s sep) s).map Value.string).toArray 9) := Any.strings_Split Tryz.lays146 (by kernel_rfl) s sep m w hs hm h1
end Go.Proofs
namespace Go.Proofs.YtboeaeoefoabdaaGreatDoor
open Go.RowKit
theorem below_drewN {B : Nat} {w w' : World} (h : Below B w w') (n : Nat) : Below B w (w'.drewN n) := ⟨h.os, h.tape, h.output, h.size, h.block⟩
theorem below_then {a b c : World} (h : Below a.heap.size a b) (k : Below b.heap.size b c) : Below a.heap.size a c := h.trans (k.mono h.size)
theorem below_alloc {a b : World} (h : Below a.heap.size a b) (o : Obj) : Below a.heap.size a (b.alloc o) := h.alloc h.size o
theorem blk_new (w : World) (o : Obj) : (w.alloc o).heap[w.heap.size]? = some o := by show (w.heap.push o)[w.heap.size]? = _; simp
theorem blk_old {w : World} {o : Obj} {b : Nat} {x : Obj} (h : w.heap[b]? = some x) : (w.alloc o).heap[b]? = some x := by
 have hb : b < w.heap.size := (Array.getElem?_eq_some_iff.1 h).1
 show (w.heap.push o)[b]? = _
 rw [Array.getElem?_push_lt hb, ← h, Array.getElem?_eq_getElem hb]
theorem blk_below {w w' : World} {b : Nat} {x : Obj} (h : w.heap[b]? = some x) (hb : Below w.heap.size w w') : w'.heap[b]? = some x :=
 (hb.block b (Array.getElem?_eq_some_iff.1 h).1).trans h
theorem cell_of_blk {w : World} {b i : Nat} {cs : Array Value} {t : TypeId} {v : Value} (h : w.heap[b]? = some (.cells cs t (0, 0))) (hv : cs[i]? = some v) : w.cell? ⟨b, i, none⟩ = some v := by
 unfold World.cell?; rw [h]; exact hv
theorem addr_add (r k : Nat) : (⟨r, 0, none⟩ : Addr).add k = ⟨r, k, none⟩ := by cases k <;> simp [Addr.add]
theorem alloc_size (w : World) (o : Obj) : (w.alloc o).heap.size = w.heap.size + 1 := by simp
theorem blk_new2 (w : World) (o o2 : Obj) : ((w.alloc o).alloc o2).heap[w.heap.size + 1]? = some o2 := by
 have := blk_new (w.alloc o) o2
 rwa [alloc_size] at this
end Go.Proofs.YtboeaeoefoabdaaGreatDoor
