/-
  The walk of Go's own strings.IndexAny over any text, asked for a blank and a byte 9: the first place of one of them, or -1.
  Conditions: the text is shorter than 4294967281 bytes.
-/
import Derived.Test.YtboeaeoefoabdaaGreatDoorVwA
import Derived.Lib.OthersKept
import Derived.Lib.IndexAny
namespace Go.Proofs.YtboeaeoefoabdaaGreatDoor
open Go.RowKit Go.Lib
theorem get_lt (s : ByteArray) (i : Nat) (h : i < s.size) : s.get! i = s[i]'h := by
  simp [ByteArray.get!, h]; rfl
/-- The bytes of a rune that is none of ASCII are none of ASCII, and lie in the text. -/
theorem decode_cont (s : ByteArray) (pos : Nat) (h : pos < s.size) (ha : 128 ≤ (s[pos]'h).toNat) : ∀ j, j < (Utf8.decode s pos).2 → pos + j < s.size ∧ 128 ≤ (s.get! (pos + j)).toNat := by
  have h00 : 128 ≤ (s.get! (pos + 0)).toNat := by rw [Nat.add_zero, get_lt s pos h]; exact ha
  simp only [Utf8.decode]
  repeat' split
  all_goals intro j hj
  all_goals try simp only [Bool.and_eq_true, decide_eq_true_eq, beq_iff_eq] at *
  all_goals (
    have : j = 0 ∨ j = 1 ∨ j = 2 ∨ j = 3 := by first | omega | (simp at hj; omega)
    rcases this with rfl | rfl | rfl | rfl <;> first | (exact ⟨by omega, by omega⟩) | (exfalso; first | omega | (simp at hj; omega)))
theorem noAny_many {l chars : List UInt8} {i : Nat} (h : NoAny l chars i) (w : Nat) (hw : ∀ j b, j < w → l[i + j]? = some b → chars.contains b = false) : NoAny l chars (i + w) := fun j b hj hb => by
  by_cases e : j < i
  · exact h j b e hb
  · have := hw (j - i) b (by omega) (by rw [show i + (j - i) = j by omega]; exact hb)
    exact this
theorem valid_same (r : Nat) : Lib.validRune r = Utf8.valid r := by
  unfold Lib.validRune Utf8.valid
  rw [Bool.eq_iff_iff]; simp; omega
theorem indexRune_high (r : Nat) (h : 128 ≤ r) (w : World) :
    Calls Tryz.prog 146 #[.string ⟨#[32, 9]⟩, .int .i32 r] w fun e w' => e = .returned (.int .i64 (-1)) ∧ Below w.heap.size w w' := by
  by_cases he : (r : Int) = 65533
  · rw [he]; exact indexRune_err w
  · cases hv : Lib.validRune r
    · exact indexRune_bad r (by omega) he hv w
    · exact indexRune_valid r (by omega) he hv (by rw [← valid_same]; exact hv) w
theorem chars_high (b : UInt8) (h : 128 ≤ b.toNat) : ([32, 9] : List UInt8).contains b = false := by
  have h1 : b ≠ 32 := fun e => by subst e; simp at h
  have h2 : b ≠ 9 := fun e => by subst e; simp at h
  simp [h1, h2]
def AnyPost (s : ByteArray) (w : World) (e : Ending) (w' : World) : Prop := e = .returned (.int .i64 (indexAny s.data.toList [32, 9])) ∧ Below w.heap.size w w'
set_option maxRecDepth 100000 in
set_option maxHeartbeats 4000000 in
theorem indexAny_short (s : ByteArray) (h8 : s.size ≤ 8) (w : World) : Calls Tryz.prog 124 #[.string s, .string ⟨#[32, 9]⟩] w (AnyPost s w) := by
  have h8z : decide ((8 : Int) < (s.size : Int)) = false := decide_eq_false (by omega)
  have hsz : s.data.toList.length = s.size := by simp
  have HZ := Lib.hid hsz
  clear hsz
  go_enter Tryz.func124, Tryz.ntmps124
  go_wp2_with (go_at_call 148; refine (Tryz.strings_shouldUseASCIISet _ _).mono ?_; rintro e w1 ⟨rfl, hw⟩; rw [hw, h8z]; clear hw)
  go_loopg [9, 10] s.size (fun g _ _ wx => ∃ i : Nat, i ≤ s.size ∧ s.size ≤ i + g ∧ wx.heap[w.heap.size]? = some (.stringIter s i) ∧ Below w.heap.size w wx ∧ Hid (NoAny s.data.toList [32, 9] i))
  case atStart => exact ⟨0, by omega, by omega, by simp [World.iter_heap], (Below.refl _ _).alloc (Nat.le_refl _) _, NoAny.zero _ _⟩
  case round =>
    obtain ⟨i, hi, hig, hit, hb, HN⟩ := hrel
    by_cases hlt : i < s.size
    · cases gk with
      | zero => omega
      | succ g =>
        obtain ⟨x, hx⟩ : ∃ x : UInt8, s[i]'hlt = x := ⟨_, rfl⟩
        have hxl : s.data.toList[i]? = some x := by rw [← hx]; exact data_getElem? s i hlt
        obtain ⟨r, hr⟩ : ∃ r, (Utf8.decode s i).1 = r := ⟨_, rfl⟩
        obtain ⟨wd, hwd⟩ : ∃ wd, (Utf8.decode s i).2 = wd := ⟨_, rfl⟩
        have hnx := fun ty => run_next_any_at (P := Tryz.prog) wr w.heap.size s i ty hit hlt
        have hit2 := iterAt_heap wr w.heap.size s i (i + wd) hit
        have hb2 := below_iterAt hb (Nat.le_refl w.heap.size) s (i + wd)
        rw [hr, hwd] at hnx
        obtain ⟨W2, hW2⟩ : ∃ W2, W2 = wr.iterAt w.heap.size s (i + wd) := ⟨_, rfl⟩
        rw [← hW2] at hnx hit2 hb2
        clear hit hb hW2
        have hk2 : w.heap.size < W2.heap.size := (Array.getElem?_eq_some_iff.1 hit2).1
        have hNext := fun (w3 : World) (h3 : Below W2.heap.size W2 w3) => And.intro ((h3.block w.heap.size hk2).trans hit2) (hb2.trans (h3.mono hb2.size))
        by_cases hhi : 128 ≤ x.toNat
        · have hdc := decode_cont s i hlt (by rw [hx]; exact hhi)
          have hdh := decode_high s i hlt (by rw [hx]; exact hhi)
          rw [hwd] at hdc hdh
          rw [hr] at hdh
          have hR := indexRune_high r hdh.1 W2
          have hend : i + wd ≤ s.size := by have := (hdc (wd - 1) (by omega)).1; omega
          have HN2 : Hid (NoAny s.data.toList [32, 9] (i + wd)) := noAny_many HN.out wd (fun j b hj hb => by
            obtain ⟨h1, h2⟩ := hdc j hj
            have e : s.data.toList[i + j]? = some (s.get! (i + j)) := by rw [get_lt s _ h1]; exact data_getElem? s (i + j) h1
            rw [e] at hb
            cases hb
            exact chars_high _ h2)
          have hwd1 := hdh.2
          clear hdc hdh hhi HN hx hxl hr hwd
          go_wp2_with (go_at_call 146; refine hR.mono ?_; rintro e w3 ⟨rfl, hb3⟩)
          go_roundg g
          case measure => omega
          case rel => exact ⟨i + wd, hend, by omega, (hNext w3 hb3).1, (hNext w3 hb3).2, HN2⟩
        · have hda := decode_ascii s i hlt (by rw [hx]; omega)
          rw [hx] at hda
          have hr2 : r = x.toNat := by rw [← hr, hda]
          have hw2 : wd = 1 := by rw [← hwd, hda]
          subst hr2
          subst hw2
          have hR := Tryz.strings_IndexRune_ascii ⟨#[32, 9]⟩ (x.toNat : Int) W2 (by omega) (by omega)
          have hback : ((x.toNat : Int)).toNat.toUInt8 = x := by simp
          have hcon := contains_iff_indexByte [32, 9] x
          cases hin : ([32, 9] : List UInt8).contains x
          · rw [hin] at hcon
            have hlt0 : ¬ ((0 : Int) ≤ indexByte [32, 9] x) := of_decide_eq_false hcon.symm
            have HN2 : Hid (NoAny s.data.toList [32, 9] (i + 1)) := HN.out.succ hxl hin
            clear hcon hin HN hx hxl hr hwd hda hhi
            rw [hback] at hR
            clear hback
            go_wp2_with (go_at_call 146; refine hR.mono ?_; rintro e w3 ⟨rfl, rfl⟩)
            go_roundg g
            case measure => omega
            case rel => exact ⟨i + 1, by omega, by omega, hit2, hb2, HN2⟩
          · rw [hin] at hcon
            have hge : (0 : Int) ≤ indexByte [32, 9] x := of_decide_eq_true hcon.symm
            have hres : indexAny s.data.toList [32, 9] = i := indexAny_hit HN.out hxl hin
            have HR := Lib.hid hres
            clear hcon hin HN hx hxl hr hwd hda hhi hres
            rw [hback] at hR
            clear hback
            go_wp2_with (go_at_call 146; refine hR.mono ?_; rintro e w3 ⟨rfl, rfl⟩)
            go_ret
            exact ⟨by rw [HR.out]; rfl, hb2⟩
    · obtain rfl : i = s.size := by omega
      have hr : indexAny s.data.toList [32, 9] = -1 := indexAny_none (by rw [HZ.out]; exact HN.out)
      have HR := Lib.hid hr
      have hnx := fun ty => run_next_end_at (P := Tryz.prog) wr w.heap.size s s.size ty hit (by omega)
      clear hr HN
      go_wp2
      go_ret
      exact ⟨by rw [HR.out]; rfl, hb⟩
theorem ascii_blanks : ∀ (j : Nat) b, (⟨#[32, 9]⟩ : ByteArray).data.toList[j]? = some b → b.toNat < 128 := by
  intro j b hb
  match j, hb with
  | 0, hb => simp at hb; subst hb; decide
  | 1, hb => simp at hb; subst hb; decide
  | j + 2, hb => simp at hb
theorem indexAny_any (s : ByteArray) (hs : s.size < 4294967281) (w : World) : Calls Tryz.prog 124 #[.string s, .string ⟨#[32, 9]⟩] w (AnyPost s w) := by
  by_cases h8 : s.size ≤ 8
  · exact indexAny_short s h8 w
  · refine (Tryz.strings_IndexAny_long (fun _ => by kernel_rfl) s ⟨#[32, 9]⟩ w (by decide) (by omega) hs (by decide) ascii_blanks).mono ?_
    rintro e w' ⟨rfl, rfl⟩
    exact ⟨rfl, ((Below.refl _ w).alloc (Nat.le_refl _) _).alloc (by simp) _⟩
end Go.Proofs.YtboeaeoefoabdaaGreatDoor
