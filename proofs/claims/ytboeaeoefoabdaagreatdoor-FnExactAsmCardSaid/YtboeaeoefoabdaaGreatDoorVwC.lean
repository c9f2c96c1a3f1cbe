/-
  The walk of impl.firstWord: the first word of a text and what follows it, empty where there is none.
  Conditions: the text is shorter than 4294967281 bytes.
-/
import Derived.Test.YtboeaeoefoabdaaGreatDoorVwB
import Derived.Test.YtboeaeoefoabdaaGreatDoorVlA
import Derived.Test.YtboeaeoefoabdaaGreatDoorWsA
import Derived.Lib.SlTrimSet
import Derived.Shelf.Strings.SlTrimAscii
import Derived.Deep.QuietTactic
import Derived.BigQuiet
namespace Go.Proofs.YtboeaeoefoabdaaGreatDoor
open Go.RowKit Go.Lib
theorem trimL_eq (l : List UInt8) : trimLeftS l [32, 9] = trimL l := rfl
theorem indexAny_split (l : List UInt8) : (indexAny l [32, 9] = -1 ∧ l.takeWhile (fun b => !bl b) = l ∧ l.dropWhile (fun b => !bl b) = []) ∨
    ∃ i : Nat, indexAny l [32, 9] = i ∧ i ≤ l.length ∧ l.takeWhile (fun b => !bl b) = l.take i ∧ l.dropWhile (fun b => !bl b) = l.drop i := by
  induction l with
  | nil => left; exact ⟨rfl, rfl, rfl⟩
  | cons b l ih =>
    cases hb : bl b
    · have hb' : ([32, 9] : List UInt8).contains b = false := hb
      rcases ih with ⟨h1, h2, h3⟩ | ⟨i, h1, h2, h3, h4⟩
      · left
        refine ⟨?_, by simp [hb, h2], by simp [hb, h3]⟩
        simp only [indexAny]
        rw [hb', h1]; rfl
      · right
        refine ⟨i + 1, ?_, by simp; omega, by simp [hb, h3], by simp [hb, h4]⟩
        simp only [indexAny]
        rw [hb', h1, if_neg (by simp), if_neg (by simp)]; rfl
    · right
      have hb' : ([32, 9] : List UInt8).contains b = true := hb
      refine ⟨0, ?_, by simp, by simp [hb], by simp [hb]⟩
      simp only [indexAny]
      rw [hb', if_pos rfl]; rfl
def WordPost (l : List UInt8) (w : World) (e : Ending) (w' : World) : Prop := e = .returned (.tuple #[.string ⟨(wordL l).toArray⟩, .string ⟨(restL l).toArray⟩]) ∧ Below w.heap.size w w'
set_option maxRecDepth 100000 in
set_option maxHeartbeats 1000000 in
theorem first_word (s : ByteArray) (hs : s.size < 4294967281) (w : World) : Calls Tryz.prog 102 #[.string s] w (WordPost s.data.toList w) := by
  have hT := Any.strings_TrimLeft_laid Tryz.lays161 (by kernel_rfl) s ⟨#[32, 9]⟩ w (by decide) ascii_blanks
  have hT : Calls Tryz.prog 123 #[.string s, .string ⟨#[32, 9]⟩] w fun e w' => e = .returned (.string ⟨(trimL s.data.toList).toArray⟩) ∧ Below w.heap.size w w' := hT
  have hle := trimL_le s.data.toList
  have hsl : s.data.toList.length = s.size := by simp
  obtain ⟨t, ht⟩ : ∃ t : ByteArray, t = ⟨(trimL s.data.toList).toArray⟩ := ⟨_, rfl⟩
  have htl : t.data.toList = trimL s.data.toList := by rw [ht]
  have htz : t.size = (trimL s.data.toList).length := by rw [ht]; show (trimL s.data.toList).toArray.size = _; simp
  rw [← ht] at hT
  have hI := fun w => indexAny_any t (by omega) w
  unfold AnyPost at hI
  rw [htl] at hI
  have hsp := indexAny_split (trimL s.data.toList)
  have hwd : wordL s.data.toList = (trimL s.data.toList).takeWhile fun b => !bl b := rfl
  have hrs : restL s.data.toList = (trimL s.data.toList).dropWhile fun b => !bl b := rfl
  rcases hsp with ⟨h1, h2, h3⟩ | ⟨i, h1, h2, h3, h4⟩
  · have hres : WordPost s.data.toList w = fun e w' => e = .returned (.tuple #[.string t, .string ⟨#[]⟩]) ∧ Below w.heap.size w w' := by
      funext e w'
      unfold WordPost
      rw [hwd, hrs, h2, h3, ← ht]
    rw [hres]
    rw [h1] at hI
    clear hres h1 h2 h3 htl htz hle hsl ht hwd hrs
    go_enter Tryz.func102, Tryz.ntmps102
    go_wp2_with (first
      | (go_at_call 123; refine hT.mono ?_; rintro e w1 ⟨rfl, hb1⟩)
      | (go_at_call 124; refine (hI _).mono ?_; rintro e w2 ⟨rfl, hb2⟩))
    go_ret2
    exact ⟨rfl, hb1.trans (hb2.mono hb1.size)⟩
  · have hit : i ≤ t.size := by omega
    have hres : WordPost s.data.toList w = fun e w' => e = .returned (.tuple #[.string (t.extract 0 i), .string (t.extract i t.size)]) ∧ Below w.heap.size w w' := by
      funext e w'
      unfold WordPost
      have e1 : t.extract 0 i = ⟨(wordL s.data.toList).toArray⟩ := by apply ba_ext; rw [extract_data, htl, hwd, h3]; simp
      have e2 : t.extract i t.size = ⟨(restL s.data.toList).toArray⟩ := by apply ba_ext; rw [extract_to_end, htl, hrs, h4]
      rw [e1, e2]
    rw [hres]
    rw [h1] at hI
    have hi0 : (0 : Int) ≤ (i : Int) := by omega
    have hi1 : (i : Int) ≤ (t.size : Int) := by omega
    clear hres h1 h2 h3 h4 htl htz hle hsl ht hwd hrs
    go_enter Tryz.func102, Tryz.ntmps102
    go_wp2_with (first
      | (go_at_call 123; refine hT.mono ?_; rintro e w1 ⟨rfl, hb1⟩)
      | (go_at_call 124; refine (hI _).mono ?_; rintro e w2 ⟨rfl, hb2⟩))
    go_quiet (fail)
    go_wp2
    go_ret2
    exact ⟨rfl, (hb1.trans (hb2.mono hb1.size)).trans ⟨rfl, rfl, rfl, Nat.le_refl _, fun _ _ => rfl⟩⟩
end Go.Proofs.YtboeaeoefoabdaaGreatDoor
