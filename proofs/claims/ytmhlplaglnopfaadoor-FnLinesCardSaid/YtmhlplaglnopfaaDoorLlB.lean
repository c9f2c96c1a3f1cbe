/-
  Plain facts on lines and words: lines with line ends between are the text; words with a blank behind each are those words. And the walk of sameTexts at two rows of the same texts.
  Conditions: as each lemma says.
-/
import Derived.Test.YtmhlplaglnopfaaDoorWdG
namespace Go.Proofs.YtmhlplaglnopfaaDoor
open Go.RowKit
/-- Each part with a line end ahead. -/
def tailJ : List ByteArray → List UInt8
  | [] => []
  | x :: l => 10 :: (x.data.toList ++ tailJ l)
def fullJ : List ByteArray → List UInt8
  | [] => []
  | x :: l => x.data.toList ++ tailJ l
theorem split10 (l : List UInt8) : (∀ b ∈ l, b ≠ 10) ∨ ∃ p r, l = p ++ 10 :: r ∧ ∀ b ∈ p, b ≠ 10 := by
  induction l with
  | nil => left; simp
  | cons b l ih =>
    by_cases hb : b = 10
    · right; exact ⟨[], l, by simp [hb], by simp⟩
    · rcases ih with h | ⟨p, r, rfl, hp⟩
      · left; intro x hx; rcases List.mem_cons.1 hx with rfl | hx
        · exact hb
        · exact h x hx
      · right; refine ⟨b :: p, r, rfl, ?_⟩
        intro x hx; rcases List.mem_cons.1 hx with rfl | hx
        · exact hb
        · exact hp x hx
theorem linesB_cons (s : ByteArray) : ∃ x l, linesB s = x :: l := by
  rcases split10 s.data.toList with h | ⟨p, r, e, hp⟩
  · exact ⟨_, _, linesB_none s h⟩
  · exact ⟨_, _, linesB_first s p r e hp⟩
theorem fullJ_lines (n : Nat) : ∀ s : ByteArray, s.size ≤ n → fullJ (linesB s) = s.data.toList := by
  induction n with
  | zero =>
    intro s hs
    have hz : s.data.toList.length = s.size := by simp
    have h : s.data.toList = [] := List.eq_nil_of_length_eq_zero (by omega)
    rw [linesB_none s (by rw [h]; simp)]
    simp [fullJ, tailJ]
  | succ n ih =>
    intro s hs
    rcases split10 s.data.toList with h | ⟨p, r, e, hp⟩
    · rw [linesB_none s h]; simp [fullJ, tailJ]
    · rw [linesB_first s p r e hp]
      have hx : (s.extract 0 p.length).data.toList = p := by rw [Lib.extract_data, e]; simp
      have hr : (s.extract (p.length + 1) s.size).data.toList = r := by
        rw [Lib.extract_to_end, e]
        simp
      have hz : (s.extract (p.length + 1) s.size).size ≤ n := by simp; omega
      have ih' := ih _ hz
      rw [hr] at ih'
      obtain ⟨x, l, hl⟩ := linesB_cons (s.extract (p.length + 1) s.size)
      rw [hl] at ih' ⊢
      have ht : tailJ (x :: l) = 10 :: fullJ (x :: l) := rfl
      show (s.extract 0 p.length).data.toList ++ tailJ (x :: l) = _
      rw [ht, ih', hx, e]
/-- Each word with a blank behind. -/
def lineL (ws : List ByteArray) : List UInt8 := ws.flatMap fun w => w.data.toList ++ [32]
def lineT (ws : List ByteArray) : ByteArray := ⟨(lineL ws).toArray⟩
theorem lineT_nil : lineT [] = ⟨#[]⟩ := rfl
theorem lineT_snoc (ws : List ByteArray) (x : ByteArray) : lineT (ws ++ [x]) = lineT ws ++ x ++ ⟨#[32]⟩ := by
  apply ba_ext
  simp [lineT, lineL]
def NoBlank (x : ByteArray) : Prop := x.size ≠ 0 ∧ ∀ b ∈ x.data.toList, bl b = false
theorem behind_shift (l : List UInt8) (k : Nat) : behind l (k + 1) = behind (restL l) k := by
  induction k with
  | zero => rfl
  | succ k ih => show restL (behind l (k + 1)) = restL (behind (restL l) k); rw [ih]
theorem wordB_shift (l : List UInt8) (k : Nat) : wordB l (k + 1) = wordB (restL l) k := by unfold wordB; rw [behind_shift]
theorem told_shift (l : List UInt8) (k : Nat) : told l (k + 1) = wordB l 0 :: told (restL l) k := by
  induction k with
  | zero => simp [told]
  | succ k ih =>
    rw [told_succ, ih, wordB_shift, told_succ (restL l) k]
    rfl
theorem takeWhile_all (x y : List UInt8) (h : ∀ b ∈ x, bl b = false) (hy : ∀ b ∈ y.head?, bl b = true) : (x ++ y).takeWhile (fun b => !bl b) = x ∧ (x ++ y).dropWhile (fun b => !bl b) = y := by
  induction x with
  | nil =>
    cases y with
    | nil => exact ⟨rfl, rfl⟩
    | cons b y => have := hy b (by simp); simp [this]
  | cons b x ih =>
    obtain ⟨h1, h2⟩ := ih (fun c hc => h c (by simp [hc]))
    have hb := h b (by simp)
    simp [hb, h1, h2]
theorem told_line (ws : List ByteArray) (hws : ∀ x ∈ ws, NoBlank x) : ∀ l : List UInt8, trimL l = trimL (lineL ws) → told l ws.length = ws ∧ (wordB l ws.length).size = 0 := by
  induction ws with
  | nil =>
    intro l hl
    refine ⟨rfl, ?_⟩
    unfold wordB
    rw [bsize]
    show (wordL l).length = 0
    unfold wordL
    rw [hl]
    rfl
  | cons x ws ih =>
    intro l hl
    obtain ⟨hx0, hxb⟩ := hws x (by simp)
    have hlen : x.data.toList.length ≠ 0 := by simpa using hx0
    have e : lineL (x :: ws) = x.data.toList ++ (32 :: lineL ws) := by simp [lineL]
    have ht : trimL (lineL (x :: ws)) = x.data.toList ++ (32 :: lineL ws) := by
      rw [e]
      cases hd : x.data.toList with
      | nil => rw [hd] at hlen; simp at hlen
      | cons b r =>
        have := hxb b (by rw [hd]; simp)
        simp [trimL, this]
    obtain ⟨h1, h2⟩ := takeWhile_all x.data.toList (32 :: lineL ws) hxb (by intro b hb; simp at hb; subst hb; rfl)
    have hw : wordB l 0 = x := by
      apply ba_ext
      show (wordL l).toArray.toList = _
      simp only [wordL, hl, ht, h1]
    have hr : restL l = 32 :: lineL ws := by simp only [restL, hl, ht, h2]
    have htr : trimL (restL l) = trimL (lineL ws) := by rw [hr]; simp [trimL, show bl 32 = true from rfl]
    obtain ⟨i1, i2⟩ := ih (fun y hy => hws y (by simp [hy])) (restL l) htr
    refine ⟨?_, ?_⟩
    · show told l (ws.length + 1) = _
      rw [told_shift, hw, i1]
    · show (wordB l (ws.length + 1)).size = 0
      rw [wordB_shift]; exact i2
theorem told_noBlank (l : List UInt8) (k : Nat) (hg : Good (told l k)) : ∀ x ∈ told l k, NoBlank x := by
  intro x hx
  refine ⟨hg x hx, ?_⟩
  obtain ⟨j, _, rfl⟩ := List.mem_map.1 hx
  intro b hb
  have hb' : b ∈ (wordL (behind l j)) := by simpa [wordB] using hb
  unfold wordL at hb'
  have := List.all_eq_true.1 (List.all_takeWhile (p := fun b => !bl b) (l := trimL (behind l j))) b hb'
  simpa using this
/-- The words of a text: both the model and the program answer just those; and they are those again of the line that they make. -/
theorem words_of (s : ByteArray) (hs : s.size ≤ 1000) : ∃ L : List ByteArray, L.length ≤ 1000 ∧ (∀ x ∈ L, x.size ≤ 1000) ∧ (∀ w, Calls Tryd.prog 30 #[.string s] w (SpecRow L w)) ∧
    (∀ w, Calls Tryd.prog 26 #[.string s] w fun e w' => if L = [] then e = .returned (.slice none 0 0) ∧ Below w.heap.size w w' else SpecRow L w e w') ∧
    (∀ w, (lineT L).size ≤ 1048576 → Calls Tryd.prog 26 #[.string (lineT L)] w fun e w' => if L = [] then e = .returned (.slice none 0 0) ∧ Below w.heap.size w w' else SpecRow L w e w') := by
  obtain ⟨k, hg, he⟩ := told_end s.data.toList
  have hk := told_bound _ _ hg
  have hnb := told_noBlank _ _ hg
  have hlen := told_length s.data.toList k
  obtain ⟨L, hL⟩ : ∃ L, L = told s.data.toList k := ⟨_, rfl⟩
  obtain ⟨t1, t2⟩ := told_line L (by rw [hL]; exact hnb) (lineT L).data.toList (by simp [lineT])
  have conv : ∀ (t : ByteArray) (m : Nat) (w : World) (e : Ending) (w' : World), Good (told t.data.toList m) → (wordB t.data.toList m).size = 0 → told t.data.toList m = L → OwnPost t w e w' → if L = [] then e = .returned (.slice none 0 0) ∧ Below w.heap.size w w' else SpecRow L w e w' := by
    rintro t m w e w' hg he hL ⟨v, j, rfl, h1, h2, h3, h4, h5⟩
    obtain rfl := told_one h1 h2 hg he
    by_cases h0 : L = []
    · rw [if_pos h0]
      have : j = 0 := by rw [← told_length t.data.toList j, hL, h0]; rfl
      exact ⟨by rw [h4.2 this], h5⟩
    · rw [if_neg h0]
      rw [hL] at h3
      have hj : j = L.length := by rw [← hL, told_length]
      rw [hj] at h3
      exact ⟨v, rfl, newStrs_own h3 (.inl h0), h5⟩
  have hss : s.data.toList.length = s.size := by simp
  refine ⟨L, by rw [hL, hlen]; omega, ?_, fun w => (spec_words s (by omega) w).mono ?_, fun w => ((callsIn_wide (n := 3)).1 (words_in s (by omega) w)).mono ?_, fun w hz => ((callsIn_wide (n := 3)).1 (words_in (lineT L) hz w)).mono ?_⟩
  · intro x hx
    rw [hL] at hx
    obtain ⟨j, _, rfl⟩ := List.mem_map.1 hx
    have h1 := word_rest (behind s.data.toList j)
    have h2 := trimL_le (behind s.data.toList j)
    have h3 := behind_le s.data.toList j
    unfold wordB
    rw [bsize]
    omega
  · rintro e w' ⟨v, m, rfl, h1, h2, h3, h4, h5⟩
    obtain rfl := told_one h1 h2 hg he
    exact ⟨v, rfl, newStrs_own (by rw [hL, told_length]; exact h3) (.inr h4), h5⟩
  · intro e w' h
    exact conv s k w e w' hg he hL.symm h
  · intro e w' h
    refine conv (lineT L) L.length w e w' ?_ t2 t1 h
    rw [t1]
    intro x hx
    rw [hL] at hx
    exact hg x hx
/-- A slice value that holds these texts. -/
def StrsAt (w : World) (v : Value) (L : List ByteArray) : Prop := ∃ A cap, v = .slice A L.length cap ∧ (L = [] ∨ ∃ g, A = some ⟨g, 0, none⟩ ∧ StrBlk w g L)
theorem StrsAt.below {w w' : World} {v : Value} {L : List ByteArray} (h : StrsAt w v L) (hb : Below w.heap.size w w') : StrsAt w' v L := by
  obtain ⟨A, cap, rfl, h⟩ := h
  refine ⟨A, cap, rfl, h.imp_right ?_⟩
  rintro ⟨g, rfl, hk⟩
  exact ⟨g, rfl, hk.below hb⟩
theorem StrBlk.cell {w : World} {g : Nat} {L : List ByteArray} (h : StrBlk w g L) (i : Nat) (hi : i < L.length) : w.cell? ⟨g, i, none⟩ = some (.string L[i]) := by
  obtain ⟨cs, hb, h1, h2⟩ := h
  simp [World.cell?, hb, h2 i hi]
theorem strsAt_spec {L : List ByteArray} {w : World} {e : Ending} {w' : World} (h : SpecRow L w e w') : ∃ v, e = .returned v ∧ StrsAt w' v L ∧ Below w.heap.size w w' := by
  obtain ⟨v, rfl, hv, hb⟩ := h
  obtain ⟨g, cap, rfl, _, hk⟩ := hv.blk
  exact ⟨_, rfl, ⟨_, cap, rfl, .inr ⟨g, rfl, hk⟩⟩, hb⟩
theorem strsAt_impl {L : List ByteArray} {w : World} {e : Ending} {w' : World} (h : if L = [] then e = .returned (.slice none 0 0) ∧ Below w.heap.size w w' else SpecRow L w e w') : ∃ v, e = .returned v ∧ StrsAt w' v L ∧ Below w.heap.size w w' := by
  by_cases h0 : L = []
  · rw [if_pos h0] at h
    obtain ⟨rfl, hb⟩ := h
    exact ⟨_, rfl, ⟨none, 0, by rw [h0]; rfl, .inl h0⟩, hb⟩
  · rw [if_neg h0] at h
    exact strsAt_spec h
theorem same_texts (w : World) (v u : Value) (L : List ByteArray) (hn : L.length ≤ maxLen) (hv : StrsAt w v L) (hu : StrsAt w u L) :
    Calls Tryd.prog 28 #[v, u] w fun e w' => e = .returned (.bool true) ∧ Below w.heap.size w w' := by
  obtain ⟨A, ca, rfl, hA⟩ := hv
  obtain ⟨D, cd, rfl, hD⟩ := hu
  have H : Hid (∀ i, i < L.length → ∃ g d, A = some ⟨g, 0, none⟩ ∧ D = some ⟨d, 0, none⟩ ∧ w.cell? ⟨g, i, none⟩ = some (.string (L.getD i ⟨#[]⟩)) ∧ w.cell? ⟨d, i, none⟩ = some (.string (L.getD i ⟨#[]⟩))) := by
    refine Lib.hid fun i hi => ?_
    rcases hA with rfl | ⟨g, rfl, hg⟩
    · simp at hi
    · rcases hD with rfl | ⟨d, rfl, hd⟩
      · simp at hi
      · refine ⟨g, d, rfl, rfl, ?_, ?_⟩
        · rw [hg.cell i hi]; simp [List.getD, hi]
        · rw [hd.cell i hi]; simp [List.getD, hi]
  obtain ⟨n, hnn⟩ : ∃ n, n = L.length := ⟨_, rfl⟩
  rw [← hnn] at H hn ⊢
  clear hA hD hnn
  unfold maxLen at hn
  go_enter Tryd.func28, Tryd.ntmps28
  go_wp2
  trace_state
  go_loopw [5] (fun v3 wr => ∃ i q : Nat, i ≤ n ∧ v3 = .int .i64 i ∧ wr = w.drewN q) (fun v3 _ => n - (intOf v3).toNat)
  case atStart => exact ⟨0, 0, by omega, rfl, rfl⟩
  case round =>
    obtain ⟨i, q, hi, rfl, rfl⟩ := hrel
    by_cases hlt : i < n
    · obtain ⟨g, d, rfl, rfl, hx, hy⟩ := H.out i hlt
      have h0 : (0 : Int) ≤ (i : Int) := by omega
      have h1 : (i : Int) < (n : Int) := by omega
      go_wp2
      go_quiet (fail)
      go_wp2
      go_roundw
      case rel => exact ⟨i + 1, q + nq, by omega, by go_num, rfl⟩
      case measure => simp [intOf]; omega
    · go_wp2
      go_ret
      exact ⟨rfl, below_drewN w q⟩
end Go.Proofs.YtmhlplaglnopfaaDoor
