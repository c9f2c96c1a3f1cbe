/-
  What both ReadPins find in a text, plainly (chapter 12).
  Conditions: none.
-/
import Derived.Test.YtboeaeoefoabdaaDoorPnD
import Derived.Test.YtboeaeoefoabdaaDoorCuA
import Derived.Test.YtboeaeoefoabdaaDoorWsA
import Derived.Test.YtboeaeoefoabdaaDoorHxN
namespace Go.Proofs.YtboeaeoefoabdaaDoor
open Go.RowKit
theorem pinL_ok (n i t r : Bool) : pinL n i t r ≠ [] ∧ ∀ c ∈ pinL n i t r, bl c = false := by cases n <;> cases i <;> cases t <;> cases r <;> decide
theorem pinL_noS (n i t r : Bool) : NoS (pinL n i t r) := by unfold NoS; cases n <;> cases i <;> cases t <;> cases r <;> decide
theorem tab_nb : ∀ m : Fin 16, bl (hexTab.getD m.val 0) = false := by decide
theorem hexl_nb (n : Int) (k : Nat) : ∀ c ∈ hexl n k, bl c = false := by
  intro c hc
  unfold hexl at hc
  simp only [List.mem_map] at hc
  obtain ⟨j, _, rfl⟩ := hc
  exact tab_nb ⟨((n / 16 ^ (k - 1 - j)) % 16).toNat, by omega⟩
theorem pinT_zero (n i t r : Bool) {p : Int} (h : p % 256 = 0) : pinT n i t r p = pinL n i t r := by unfold pinT; rw [if_pos h, List.append_nil]
theorem pinT_port (n i t r : Bool) {p : Int} (h : p % 256 ≠ 0) : pinT n i t r p = pinL n i t r ++ 32 :: hexl p 2 := by unfold pinT; rw [if_neg h]
theorem pin_has (n i t r : Bool) : hasB 110 (pinL n i t r) = n ∧ hasB 105 (pinL n i t r) = i ∧ hasB 119 (pinL n i t r) = t ∧ hasB 114 (pinL n i t r) = r := by
  cases n <;> cases i <;> cases t <;> cases r <;> decide
theorem pin_rh (p : Int) : rh (hexl p 2) = p % 256 := by rw [rh_hexl p 2 (by omega) (by omega)]; rfl
theorem rh_nil : rh [] = -1 := rh_len [] (.inl (by simp))
/-- The program's way: the port read is what it was. -/
theorem pin_cut (n i t r : Bool) (p : Int) : nameL (pinT n i t r p) = pinL n i t r ∧ (rh (restB (pinT n i t r p)) = p % 256 ∨ (p % 256 = 0 ∧ rh (restB (pinT n i t r p)) = -1)) := by
  by_cases h : p % 256 = 0
  · rw [pinT_zero n i t r h, (cut_nil _ (pinL_noS n i t r)).1, (cut_nil _ (pinL_noS n i t r)).2]
    exact ⟨rfl, .inr ⟨h, rh_nil⟩⟩
  · rw [pinT_port n i t r h, (cut_at _ (hexl p 2) (pinL_noS n i t r)).1, (cut_at _ (hexl p 2) (pinL_noS n i t r)).2]
    exact ⟨rfl, .inl (pin_rh p)⟩
theorem rp_impl_yes {l : List UInt8} {n i t r : Bool} {P : Int} (hP : P = if rh (restB l) < 0 then 0 else rh (restB l)) (h : pinT n i t r P = l) : RpOk l n i t r P true := by
  obtain ⟨_, h2⟩ := pin_cut n i t r P
  rw [h] at h2
  refine .inl ⟨rfl, ?_, ?_, h⟩
  · rw [hP]; split <;> omega
  · rw [hP]; split <;> omega
theorem rp_impl_no {l : List UInt8} {P : Int} (hP : P = if rh (restB l) < 0 then 0 else rh (restB l)) (h : ¬ pinT (hasB 110 (nameL l)) (hasB 105 (nameL l)) (hasB 119 (nameL l)) (hasB 114 (nameL l)) P = l) : RpOk l false false false false 0 false := by
  refine .inr ⟨rfl, rfl, rfl, rfl, rfl, rfl, ?_⟩
  rintro n i t r p h0 h1 rfl
  obtain ⟨e1, e2⟩ := pin_cut n i t r p
  obtain ⟨c1, c2, c3, c4⟩ := pin_has n i t r
  rw [e1, c1, c2, c3, c4] at h
  refine h ?_
  rw [show P = p by rw [hP]; split <;> omega]
/-- The model's way: of its words. -/
theorem pin_told (n i t r : Bool) (p : Int) {k : Nat} (hg : Good (told (pinT n i t r p) k)) (hz : (wordB (pinT n i t r p) k).size = 0) : 0 < k ∧ wordL (pinT n i t r p) = pinL n i t r ∧ ((k = 1 ∧ p % 256 = 0) ∨ (1 < k ∧ rh (wordL (behind (pinT n i t r p) 1)) = p % 256)) := by
  by_cases h : p % 256 = 0
  · rw [pinT_zero n i t r h] at hg hz ⊢
    have hw : ∀ w ∈ [pinL n i t r], w ≠ [] ∧ ∀ c ∈ w, bl c = false := fun w hw => by rw [List.mem_singleton.1 hw]; exact pinL_ok n i t r
    have e := (told_words [pinL n i t r] hw).2
    have k1 : k = 1 := told_one hg hz (good_words [pinL n i t r] hw) e
    subst k1
    have := (wordL_of (pinL n i t r) [] (pinL_ok n i t r).1 (pinL_ok n i t r).2 (.inl rfl)).1
    rw [List.append_nil] at this
    exact ⟨by omega, this, .inl ⟨rfl, h⟩⟩
  · rw [pinT_port n i t r h] at hg hz ⊢
    have hh : hexl p 2 ≠ [] := fun e => by have := hexl_length p 2; rw [e] at this; simp at this
    have hw : ∀ w ∈ [pinL n i t r, hexl p 2], w ≠ [] ∧ ∀ c ∈ w, bl c = false := by
      intro w hw
      simp only [List.mem_cons, List.not_mem_nil, or_false] at hw
      rcases hw with rfl | rfl
      · exact pinL_ok n i t r
      · exact ⟨hh, hexl_nb p 2⟩
    have e := (told_words [pinL n i t r, hexl p 2] hw).2
    have k1 : k = 2 := told_one hg hz (good_words [pinL n i t r, hexl p 2] hw) e
    subst k1
    obtain ⟨w1, w2⟩ := wordL_of (pinL n i t r) (32 :: hexl p 2) (pinL_ok n i t r).1 (pinL_ok n i t r).2 (.inr ⟨_, rfl⟩)
    refine ⟨by omega, w1, .inr ⟨by omega, ?_⟩⟩
    show rh (wordL (restL (pinL n i t r ++ 32 :: hexl p 2))) = _
    rw [w2, (word_blank _).1]
    have := (wordL_of (hexl p 2) [] hh (hexl_nb p 2) (.inl rfl)).1
    rw [List.append_nil] at this
    rw [this, pin_rh]
theorem rp_spec_none {l : List UInt8} (hz : (wordB l 0).size = 0) : RpOk l false false false false 0 false := by
  refine .inr ⟨rfl, rfl, rfl, rfl, rfl, rfl, ?_⟩
  rintro n i t r p h0 h1 rfl
  have := (pin_told n i t r p (k := 0) (by simp [Good, told]) hz).1
  omega
theorem rp_spec_yes {l : List UInt8} {n i t r : Bool} {P : Int} (h0 : 0 ≤ P) (h1 : P < 256) (h : pinT n i t r P = l) : RpOk l n i t r P true := .inl ⟨rfl, h0, h1, h⟩
theorem rp_spec_no {l : List UInt8} {k : Nat} (hg : Good (told l k)) (hz : (wordB l k).size = 0) {P : Int} (hP : P = if 1 < k then rh (wordL (behind l 1)) % 256 else 0) (h : ¬ pinT (hasB 110 (wordL l)) (hasB 105 (wordL l)) (hasB 119 (wordL l)) (hasB 114 (wordL l)) P = l) : RpOk l false false false false 0 false := by
  refine .inr ⟨rfl, rfl, rfl, rfl, rfl, rfl, ?_⟩
  rintro n i t r p h0 h1 rfl
  obtain ⟨e0, e1, e2⟩ := pin_told n i t r p hg hz
  obtain ⟨c1, c2, c3, c4⟩ := pin_has n i t r
  rw [e1, c1, c2, c3, c4] at h
  refine h ?_
  rw [show P = p by rw [hP]; split <;> omega]
end Go.Proofs.YtboeaeoefoabdaaDoor
