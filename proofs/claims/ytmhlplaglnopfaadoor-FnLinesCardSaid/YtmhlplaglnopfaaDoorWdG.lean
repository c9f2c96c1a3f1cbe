/-
  The walk of the law FnExactWords: both lists of words are alike, and the one that is marked shares no memory with the others.
  Conditions: none.
-/
import Derived.Test.YtmhlplaglnopfaaDoorWdF
import Derived.Test.YtmhlplaglnopfaaDoorLnC
import Derived.Test.YtmhlplaglnopfaaDoorRows
namespace Go.Proofs.YtmhlplaglnopfaaDoor
open Go.RowKit Go.Lib
theorem behind_succ (L : List UInt8) (k : Nat) : behind L (k + 1) = restL (behind L k) := rfl
theorem told_end (L : List UInt8) : ∃ k, Good (told L k) ∧ (wordB L k).size = 0 := by
  suffices h : ∀ n k, (behind L k).length ≤ n → Good (told L k) → ∃ k, Good (told L k) ∧ (wordB L k).size = 0 from h _ 0 (Nat.le_refl _) (by simp [Good, told])
  intro n
  induction n with
  | zero =>
    intro k hk hg
    refine ⟨k, hg, ?_⟩
    have h1 := word_rest (behind L k)
    have h2 := trimL_le (behind L k)
    unfold wordB
    rw [bsize]
    omega
  | succ n ih =>
    intro k hk hg
    by_cases h0 : (wordB L k).size = 0
    · exact ⟨k, hg, h0⟩
    · refine ih (k + 1) ?_ ?_
      · have h1 := word_rest (behind L k)
        have h2 := trimL_le (behind L k)
        unfold wordB at h0
        rw [bsize] at h0
        rw [behind_succ]
        omega
      · rw [told_succ]
        intro y hy
        rcases List.mem_append.1 hy with hy | hy
        · exact hg y hy
        · rw [List.mem_singleton] at hy; subst hy; exact h0
theorem told_one {L : List UInt8} {k m : Nat} (h1 : Good (told L k)) (h2 : (wordB L k).size = 0) (k1 : Good (told L m)) (k2 : (wordB L m).size = 0) : k = m := by
  have mem : ∀ {a b : Nat}, a < b → wordB L a ∈ told L b := fun {a b} h => List.mem_map.2 ⟨a, List.mem_range.2 h, rfl⟩
  rcases Nat.lt_trichotomy k m with h | h | h
  · exact absurd h2 (k1 _ (mem h))
  · exact h
  · exact absurd k2 (h1 _ (mem h))
theorem told_length (L : List UInt8) (k : Nat) : (told L k).length = k := by simp [told]
theorem told_bound (L : List UInt8) (k : Nat) (h : Good (told L k)) : k ≤ L.length := by
  suffices h : ∀ j, j ≤ k → j + (behind L j).length ≤ L.length by have := h k (Nat.le_refl _); omega
  intro j
  induction j with
  | zero => intro _; simp [behind]
  | succ j ih =>
    intro hj
    have h0 := h (wordB L j) (List.mem_map.2 ⟨j, List.mem_range.2 (by omega), rfl⟩)
    have h1 := word_rest (behind L j)
    have h2 := trimL_le (behind L j)
    have h3 := ih (by omega)
    unfold wordB at h0
    rw [bsize] at h0
    rw [behind_succ]
    omega
def SpecRow (L : List ByteArray) (w : World) (e : Ending) (w' : World) : Prop := ∃ v, e = .returned v ∧ NewStrs w.heap.size w' v L ∧ Below w.heap.size w w'
/-- The model's list, and the program's: a new row of these strings, or nil where there is none. -/
theorem both_words (s : ByteArray) (hs : s.size ≤ 1048576) : ∃ L : List ByteArray, L.length ≤ 1048576 ∧ (∀ w, Calls Tryd.prog 30 #[.string s] w (SpecRow L w)) ∧
    (∀ w, Calls Tryd.prog 26 #[.string s] w fun e w' => if L = [] then e = .returned (.slice none 0 0) ∧ Below w.heap.size w w' else SpecRow L w e w') := by
  obtain ⟨k, hg, he⟩ := told_end s.data.toList
  have hk := told_bound _ _ hg
  refine ⟨told s.data.toList k, by rw [told_length]; simp at hk; omega, fun w => (spec_words s hs w).mono ?_, fun w => ((callsIn_wide (n := 3)).1 (words_in s hs w)).mono ?_⟩
  · rintro e w' ⟨v, m, rfl, h1, h2, h3, h4, h5⟩
    obtain rfl := told_one h1 h2 hg he
    exact ⟨v, rfl, newStrs_own (by rw [told_length]; exact h3) (.inr h4), h5⟩
  · rintro e w' ⟨v, m, rfl, h1, h2, h3, h4, h5⟩
    obtain rfl := told_one h1 h2 hg he
    by_cases h0 : told s.data.toList m = []
    · rw [if_pos h0]
      have : m = 0 := by rw [← told_length s.data.toList m, h0]; rfl
      exact ⟨by rw [h4.2 this], h5⟩
    · rw [if_neg h0]
      exact ⟨v, rfl, newStrs_own (by rw [told_length]; exact h3) (.inl h0), h5⟩
theorem words_walk_none (s : ByteArray) (hs : s.size ≤ 1048576) (W : World) (hS : ∀ w, Calls Tryd.prog 30 #[.string s] w (SpecRow [] w)) (hI : ∀ w, Calls Tryd.prog 26 #[.string s] w fun e w' => e = .returned (.slice none 0 0) ∧ Below w.heap.size w w') :
    Calls Tryd.prog 10 #[.string s] W fun e w' => e = .returned (.bool true) ∧ Below W.heap.size W w' := by
  unfold SpecRow at hS
  have HS := Lib.hid hS
  have HI := Lib.hid hI
  clear hS hI
  go_enter Tryd.func10, Tryd.ntmps10
  go_wp2_with (go_at_call 30; refine (HS.out _).mono ?_; rintro e w1 ⟨v0, rfl, hv0, hb1⟩; refine Hid.out ?_)
  obtain ⟨g0, c0, rfl, _, _⟩ := hv0.blk
  clear hv0
  refine Lib.hid ?_
  go_wp2_with (go_at_call 26; refine (HI.out _).mono ?_; rintro e w2 ⟨rfl, hb2⟩; refine Hid.out ?_)
  have hb2 := hb1.trans (hb2.mono hb1.size)
  clear hb1
  refine Lib.hid ?_
  go_wp2_with (first
    | (go_at_call 26; refine (HI.out _).mono ?_; rintro e w3 ⟨rfl, hb3⟩)
    | (go_at_call 31; refine (eq_zero _ _ _ _ _).mono ?_; rintro e w' ⟨rfl, rfl⟩)
    | (go_at_call 32; refine (mark_zero _ _ _ _).mono ?_; rintro e w' ⟨rfl, rfl⟩)
    | (go_at_call 33; refine (held_zero _ _ _ _).mono ?_; rintro e w' ⟨rfl, rfl⟩))
  go_ret
  exact ⟨rfl, hb2.trans (hb3.mono hb2.size)⟩
set_option maxHeartbeats 800000 in
theorem words_walk_some (s : ByteArray) (hs : s.size ≤ 1048576) (L : List ByteArray) (hn : L.length ≤ 1048576) (W : World) (hspec : ∀ w, Calls Tryd.prog 30 #[.string s] w (SpecRow L w)) (himpl : ∀ w, Calls Tryd.prog 26 #[.string s] w (SpecRow L w)) :
    Calls Tryd.prog 10 #[.string s] W fun e w' => e = .returned (.bool true) ∧ Below W.heap.size W w' := by
  unfold SpecRow at hspec himpl
  have HS := Lib.hid hspec
  have HI := Lib.hid himpl
  clear hspec himpl
  go_enter Tryd.func10, Tryd.ntmps10
  -- the list of the model
  go_wp2_with (go_at_call 30; refine (HS.out _).mono ?_; rintro e w1 ⟨v0, rfl, hv0, hb1⟩; refine Hid.out ?_)
  obtain ⟨g0, c0, rfl, hg0, hk0⟩ := hv0.blk
  clear hv0
  refine Lib.hid ?_
  -- the list of the program
  go_wp2_with (go_at_call 26; refine (HI.out _).mono ?_; rintro e w2 ⟨v1, rfl, hv1, hb2⟩; refine Hid.out ?_)
  obtain ⟨g1, c1, rfl, hg1, hk1⟩ := hv1.blk
  have hne : g0 ≠ g1 := by have := hk0.lt; omega
  have hk0 := hk0.below hb2
  have hz1 : W.heap.size ≤ w1.heap.size := hb1.size
  have hb2 := hb1.trans (hb2.mono hb1.size)
  clear hv1 hb1
  refine Lib.hid ?_
  -- they are alike
  have hE : Calls Tryd.prog 31 #[.slice (some ⟨g1, 0, none⟩) L.length c1, .slice (some ⟨g0, 0, none⟩) L.length c0] w2 fun e w' => e = .returned (.bool true) ∧ Below w2.heap.size w2 w' :=
    (eq_row g1 g0 L.length c1 c0 (by unfold maxLen; omega) w2 (hk1.both hk0)).mono fun e w' ⟨he, q, hq⟩ => ⟨he, hq ▸ below_drewN w2 q⟩
  go_wp2_with (go_at_call 31; refine hE.mono ?_; rintro e w3 ⟨rfl, hb3⟩; refine Hid.out ?_)
  have hk0 := hk0.below hb3
  have hk1 := hk1.below hb3
  have hb3 := hb2.trans (hb3.mono hb2.size)
  clear hE hb2
  refine Lib.hid ?_
  -- the program's list is marked
  obtain ⟨cs, hcs, hcn, _⟩ := hk1
  have hM : Calls Tryd.prog 32 #[.slice (some ⟨g1, 0, none⟩) L.length c1, .int .i64 1] w3 (MarkPost w3 g1 cs.size 1 L.length) := mark_row g1 L.length c1 1 cs hcn (by omega) (by omega) w3 hcs
  unfold MarkPost at hM
  go_wp2_with (go_at_call 32; refine hM.mono ?_; rintro e w4 ⟨rfl, hgr, hMk⟩; refine Hid.out ?_)
  have hk0 := hk0.keep (hgr.block g0 hk0.lt (by simp [hne]))
  have hW1 : W.heap.size ≤ g1 := by omega
  have hb4 := hb3.grown hgr hb3.size (fun k hk => by cases hk; exact hW1)
  clear hM hb3 hgr hcs hcn
  refine Lib.hid ?_
  -- and held
  have hH : Calls Tryd.prog 33 #[.slice (some ⟨g1, 0, none⟩) L.length c1, .int .i64 1] w4 (HeldPost w4 1 L.length) := held_row g1 L.length c1 1 (by omega) (by omega) w4 hMk.lt (fun i hi => hMk.cell i hi)
  unfold HeldPost at hH
  go_wp2_with (go_at_call 33; refine hH.mono ?_; rintro e w5 ⟨rfl, hb5⟩; refine Hid.out ?_)
  have hk0 := hk0.below hb5
  have hMk := hMk.keep (hb5.block g1 hMk.lt)
  have hb5 := hb4.trans (hb5.mono hb4.size)
  clear hH hb4
  refine Lib.hid ?_
  -- the program's second list
  go_wp2_with (go_at_call 26; refine (HI.out _).mono ?_; rintro e w6 ⟨v2, rfl, hv2, hb6⟩; refine Hid.out ?_)
  obtain ⟨g2, c2, rfl, hg2, hk2⟩ := hv2.blk
  have hk0 := hk0.below hb6
  have hMk := hMk.keep (hb6.block g1 hMk.lt)
  have hb6 := hb5.trans (hb6.mono hb5.size)
  clear hv2 hb5 HI HS
  refine Lib.hid ?_
  have hE : Calls Tryd.prog 31 #[.slice (some ⟨g2, 0, none⟩) L.length c2, .slice (some ⟨g0, 0, none⟩) L.length c0] w6 fun e w' => e = .returned (.bool true) ∧ Below w6.heap.size w6 w' :=
    (eq_row g2 g0 L.length c2 c0 (by unfold maxLen; omega) w6 (hk2.both hk0)).mono fun e w' ⟨he, q, hq⟩ => ⟨he, hq ▸ below_drewN w6 q⟩
  go_wp2_with (go_at_call 31; refine hE.mono ?_; rintro e w7 ⟨rfl, hb7⟩; refine Hid.out ?_)
  have hMk := hMk.keep (hb7.block g1 hMk.lt)
  have hb7 := hb6.trans (hb7.mono hb6.size)
  clear hE hb6 hk0 hk2
  refine Lib.hid ?_
  have hH : Calls Tryd.prog 33 #[.slice (some ⟨g1, 0, none⟩) L.length c1, .int .i64 1] w7 (HeldPost w7 1 L.length) := held_row g1 L.length c1 1 (by omega) (by omega) w7 hMk.lt (fun i hi => hMk.cell i hi)
  unfold HeldPost at hH
  go_wp2_with (go_at_call 33; refine hH.mono ?_; rintro e w8 ⟨rfl, hb8⟩)
  go_ret
  exact ⟨rfl, hb7.trans (hb8.mono hb7.size)⟩
theorem words_walk (s : ByteArray) (_hs : s.size ≤ maxLen) (W : World) : Calls Tryd.prog 10 #[.string s] W fun e w' => e = .returned (.bool true) ∧ Below W.heap.size W w' := by
  by_cases h20 : 1048576 < s.size
  · go_enter Tryd.func10, Tryd.ntmps10
    go_wp2
    go_ret
    exact ⟨rfl, Below.refl _ _⟩
  · obtain ⟨L, hn, hS, hI⟩ := both_words s (by omega)
    by_cases h0 : L = []
    · subst h0
      simp only at hI
      exact words_walk_none s (by omega) W hS hI
    · simp only [if_neg h0] at hI
      exact words_walk_some s (by omega) L hn W hS hI
theorem words_law (s : ByteArray) (hs : s.size ≤ maxLen) (W : World) (_hL : laidMet Tryd.prog Rows.fnExactWordsRow.laid W) : Calls Tryd.prog 10 #[.string s] W fun e w' => e = .returned (.bool true) ∧ Below W.heap.size W w' := words_walk s hs W
end Go.Proofs.YtmhlplaglnopfaaDoor
