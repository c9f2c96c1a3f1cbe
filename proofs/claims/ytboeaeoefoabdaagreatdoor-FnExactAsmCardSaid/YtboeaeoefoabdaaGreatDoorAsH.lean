/-
  Words, Join and Trim as Asm calls them (chapter 13).
  Conditions: as each says.
-/
import Derived.Test.YtboeaeoefoabdaaGreatDoorAsG
import Derived.Test.YtboeaeoefoabdaaGreatDoorVwE
import Derived.Test.YtboeaeoefoabdaaGreatDoorUpA
import Derived.Test.YtboeaeoefoabdaaGreatDoorShl
import Derived.Shelf.Strings.SlTrimAscii
import Derived.Shelf.Strings.OnBuilder
namespace Go.Proofs.YtboeaeoefoabdaaGreatDoor
open Go.RowKit
/-- What impl.Words hands back. -/
def WordsI (l : List UInt8) (w : World) (e : Ending) (w' : World) : Prop := ∃ (A : Option Addr) (k cap : Nat), e = .returned (.slice A k cap) ∧ Good (told l k) ∧ (wordB l k).size = 0 ∧ k ≤ cap ∧ (k = 0 ∨ ∃ g, A = some ⟨g, 0, none⟩ ∧ g < w'.heap.size ∧ ∀ j x, (told l k)[j]? = some x → w'.cell? ⟨g, 0 + j, none⟩ = some (.string x)) ∧ Below w.heap.size w w'
theorem impl_words (s : ByteArray) (hs : s.size ≤ 1048576) (w : World) : Calls Tryz.prog 53 #[.string s] w (WordsI s.data.toList w) := by
  refine ((callsIn_wide (n := 3)).1 (words_in s hs w)).mono ?_
  rintro e w' ⟨v, k, rfl, h1, h2, h3, _, h5⟩
  generalize s.data.toList = l at *
  rcases h3.2 with ⟨rfl, h0⟩ | ⟨g, cap, cur, rfl, _, hg, hcap, _⟩
  · subst h0
    exact ⟨none, 0, 0, rfl, h1, h2, Nat.le_refl _, .inl rfl, h5⟩
  · refine ⟨some ⟨g, 0, none⟩, k, cap, rfl, h1, h2, hcap, .inr ⟨g, rfl, (Array.getElem?_eq_some_iff.1 hg).1, fun j x hx => ?_⟩, h5⟩
    have := h3.cells (g := g) rfl j (.string x) (by rw [List.getElem?_map, hx]; rfl)
    rw [Nat.zero_add]
    cases j with
    | zero => simpa [Addr.add] using this
    | succ j => simpa [Addr.add] using this
theorem inter_join : ∀ ws : List (List UInt8), Lib.join ws [32] = joinB ws
  | [] => rfl
  | [v] => by simp [Lib.join, List.intercalate, joinB]
  | v :: u :: ws => by
    have ih := inter_join (u :: ws)
    unfold Lib.join at ih ⊢
    show _ = v ++ 32 :: joinB (u :: ws)
    rw [← ih]
    simp [List.intercalate]
theorem told_lists (l : List UInt8) (k : Nat) : (told l k).map (fun x => x.data.toList) = wordsL l k := by
  simp [told, wordsL, wordB]
theorem join_call (l : List UInt8) (hl : l.length ≤ 1048576) (A : Option Addr) (k cap : Nat) (hg : Good (told l k)) (hcap : k ≤ cap) (w : World) (hc : k = 0 ∨ ∃ g, A = some ⟨g, 0, none⟩ ∧ g < w.heap.size ∧ ∀ j x, (told l k)[j]? = some x → w.cell? ⟨g, 0 + j, none⟩ = some (.string x)) :
    Calls Tryz.prog 52 #[.slice A k cap, .string ⟨#[32]⟩] w fun e w' => e = .returned (.string ⟨(lineS l k).toArray⟩) ∧ Below w.heap.size w w' := by
  rcases hc with rfl | ⟨g, rfl, hgl, hcell⟩
  · refine (Tryz.strings_Join_none A cap ⟨#[32]⟩ w).mono ?_
    rintro e w' ⟨rfl, rfl⟩
    exact ⟨rfl, Below.refl _ _⟩
  · have hb := lineS_bound hg
    have h := Tryz.strings_Join g 0 cap (told l k) ⟨#[32]⟩ w hcell hgl (by rw [told_length]; have := told_bound l k hg; omega) (by rw [told_length]; exact hcap) (by
      rw [told_lists, show (⟨#[32]⟩ : ByteArray).data.toList = [32] from rfl, inter_join]
      show (lineS l k).length ≤ _
      omega)
    rw [told_lists, told_length, show (⟨#[32]⟩ : ByteArray).data.toList = [32] from rfl, inter_join] at h
    exact h
theorem set_ascii : ∀ (j : Nat) b, (⟨#[35, 36, 40, 41, 44, 88, 89]⟩ : ByteArray).data.toList[j]? = some b → b.toNat < 128 := by
  intro j b h
  have hm := List.mem_of_getElem? h
  have : ∀ c ∈ ([35, 36, 40, 41, 44, 88, 89] : List UInt8), c.toNat < 128 := by decide
  exact this b hm
theorem trim_call (l : List UInt8) (hl : l.length ≤ 1048576) (w : World) : Calls Tryz.prog 56 #[.string ⟨l.toArray⟩, .string ⟨#[35, 36, 40, 41, 44, 88, 89]⟩] w fun e w' => e = .returned (.string ⟨(trimT l).toArray⟩) ∧ Below w.heap.size w w' := by
  have h := Any.strings_Trim_laid Tryz.lays160 (by kernel_rfl) ⟨l.toArray⟩ ⟨#[35, 36, 40, 41, 44, 88, 89]⟩ w (by rw [bsize]; omega) (by decide) set_ascii
  rw [show (⟨l.toArray⟩ : ByteArray).data.toList = l by simp] at h
  exact h
end Go.Proofs.YtboeaeoefoabdaaGreatDoor
