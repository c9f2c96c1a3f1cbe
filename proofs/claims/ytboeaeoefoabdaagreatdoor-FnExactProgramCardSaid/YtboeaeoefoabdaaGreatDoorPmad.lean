/-
  Texts put together by program: WsA, UpA, PrP, VlA.
  Conditions: as each theorem says.
-/
import Derived.Lib.CountLaws
import Derived.Lib.IndexBytes
import Derived.Lib.Split
import Derived.Lib.SplitLaws
import Derived.Test.YtboeaeoefoabdaaGreatDoorPmac
namespace Go.Proofs.YtboeaeoefoabdaaGreatDoor
def bl (b : UInt8) : Bool := ([32, 9] : List UInt8).contains b
def trimL (l : List UInt8) : List UInt8 := l.dropWhile bl
def wordL (l : List UInt8) : List UInt8 := (trimL l).takeWhile fun b => !bl b
def restL (l : List UInt8) : List UInt8 := (trimL l).dropWhile fun b => !bl b
theorem trimL_le (l : List UInt8) : (trimL l).length ≤ l.length := (List.dropWhile_sublist _).length_le
def behind (l : List UInt8) : Nat → List UInt8
 | 0 => l
 | k + 1 => restL (behind l k)
def wordB (l : List UInt8) (k : Nat) : ByteArray := ⟨(wordL (behind l k)).toArray⟩
def told (l : List UInt8) (k : Nat) : List ByteArray := (List.range k).map (wordB l)
theorem told_succ (l : List UInt8) (k : Nat) : told l (k + 1) = told l k ++ [wordB l k] := by simp [told, List.range_succ]
theorem restL_le (l : List UInt8) : (restL l).length ≤ l.length := Nat.le_trans (List.dropWhile_sublist _).length_le (trimL_le l)
theorem behind_le (l : List UInt8) (k : Nat) : (behind l k).length ≤ l.length := by
 induction k with
 | zero => exact Nat.le_refl _
 | succ k ih => exact Nat.le_trans (restL_le _) ih
theorem word_rest (l : List UInt8) : (wordL l).length + (restL l).length = (trimL l).length := by
 have h := List.takeWhile_append_dropWhile (p := fun b => !bl b) (l := trimL l)
 have h2 := congrArg List.length h
 rw [List.length_append] at h2
 exact h2
def Good (pre : List ByteArray) : Prop := ∀ x ∈ pre, x.size ≠ 0
theorem bsize (l : List UInt8) : (⟨l.toArray⟩ : ByteArray).size = l.length := by show l.toArray.size = _; simp
theorem behind_succ (L : List UInt8) (k : Nat) : behind L (k + 1) = restL (behind L k) := rfl
theorem told_one {L : List UInt8} {k m : Nat} (h1 : Good (told L k)) (h2 : (wordB L k).size = 0) (k1 : Good (told L m)) (k2 : (wordB L m).size = 0) : k = m := by
 have mem : ∀ {a b : Nat}, a < b → wordB L a ∈ told L b := fun {a b} h => List.mem_map.2 ⟨a, List.mem_range.2 h, rfl⟩
 rcases Nat.lt_trichotomy k m with h | h | h
 ·exact absurd h2 (k1 _ (mem h))
 ·exact h
 ·exact absurd k2 (h1 _ (mem h))
theorem told_length (L : List UInt8) (k : Nat) : (told L k).length = k := by simp [told]
theorem told_bound (L : List UInt8) (k : Nat) (h : Good (told L k)) : k ≤ L.length := by
 suffices h : ∀ j, j ≤ k → j + (behind L j).length ≤ L.length by have := h k (Nat.le_refl _); omega
 intro j
 induction j with
 | zero => intro _; simp [behind]
 | succ j ih =>
  intro hj
  have h0 := h (wordB L j) (List.mem_map.2 ⟨j, List.mem_range.2 (by omega), rfl⟩)
  have h1 := word_rest (behind L j)
  have h2 := trimL_le (behind L j)
  have h3 := ih (by omega)
  unfold wordB at h0
  rw [bsize] at h0
  rw [behind_succ]
  omega
theorem word_blank (l : List UInt8) : wordL (32 :: l) = wordL l ∧ restL (32 :: l) = restL l := by
 unfold wordL restL trimL
 rw [List.dropWhile_cons_of_pos (by decide)]
 exact ⟨rfl, rfl⟩
theorem take_nb (w r : List UInt8) (h : ∀ c ∈ w, bl c = false) (hr : r = [] ∨ ∃ r', r = 32 :: r') : (w ++ r).takeWhile (fun b => !bl b) = w ∧ (w ++ r).dropWhile (fun b => !bl b) = r := by
 induction w with
 | nil =>
  rcases hr with rfl | ⟨r', rfl⟩
  ·exact ⟨rfl, rfl⟩
  ·exact ⟨rfl, rfl⟩
 | cons c w ih =>
  have hc := h c (by simp)
  obtain ⟨h1, h2⟩ := ih fun d hd => h d (by simp [hd])
  rw [List.cons_append, List.takeWhile_cons_of_pos (by rw [hc]; rfl), List.dropWhile_cons_of_pos (by rw [hc]; rfl), h1, h2]
  exact ⟨rfl, rfl⟩
theorem wordL_of (w r : List UInt8) (hne : w ≠ []) (h : ∀ c ∈ w, bl c = false) (hr : r = [] ∨ ∃ r', r = 32 :: r') : wordL (w ++ r) = w ∧ restL (w ++ r) = r := by
 have ht : trimL (w ++ r) = w ++ r := by
  cases w with
  | nil => exact absurd rfl hne
  | cons c w =>
   unfold trimL
   rw [List.cons_append, List.dropWhile_cons_of_neg (by rw [h c (by simp)]; decide)]
 unfold wordL restL
 rw [ht]
 exact take_nb w r h hr
def joinB : List (List UInt8) → List UInt8
 | [] => []
 | [w] => w
 | w :: v :: ws => w ++ 32 :: joinB (v :: ws)
theorem told_join : ∀ (ws : List (List UInt8)), (∀ w ∈ ws, w ≠ [] ∧ ∀ c ∈ w, bl c = false) → ∀ (L : List UInt8) (k : Nat), (behind L k = joinB ws ∨ behind L k = 32 :: joinB ws) →
  told L (k + ws.length) = told L k ++ ws.map (fun w => ⟨w.toArray⟩) ∧ (wordB L (k + ws.length)).size = 0
 | [], _, L, k, hb => by
  refine ⟨by simp, ?_⟩
  have h : wordL (behind L k) = [] := by
   rcases hb with h | h
   ·rw [h]; rfl
   ·rw [h, (word_blank _).1]; rfl
  unfold wordB
  rw [show k + ([] : List (List UInt8)).length = k from rfl, bsize, h]; rfl
 | w :: ws, hw, L, k, hb => by
  obtain ⟨hne, hnb⟩ := hw w (by simp)
  obtain ⟨r, hr, hj, hk⟩ : ∃ r, (r = [] ∨ ∃ r', r = 32 :: r') ∧ joinB (w :: ws) = w ++ r ∧ (r = joinB ws ∨ r = 32 :: joinB ws) := by
   cases ws with
   | nil => exact ⟨[], .inl rfl, by simp [joinB], .inl rfl⟩
   | cons v ws => exact ⟨32 :: joinB (v :: ws), .inr ⟨_, rfl⟩, rfl, .inr rfl⟩
  have hword : wordL (behind L k) = w ∧ restL (behind L k) = r := by
   have h0 := wordL_of w r hne hnb hr
   rcases hb with h | h
   ·rw [h, hj]; exact h0
   ·rw [h, (word_blank _).1, (word_blank _).2, hj]; exact h0
  have ih := told_join ws (fun x hx => hw x (by simp [hx])) L (k + 1) (by rw [behind_succ, hword.2]; exact hk)
  have e : k + (w :: ws).length = k + 1 + ws.length := by simp; omega
  rw [e]
  refine ⟨?_, ih.2⟩
  rw [ih.1, told_succ]
  unfold wordB
  rw [hword.1]
  simp
theorem told_words (ws : List (List UInt8)) (hw : ∀ w ∈ ws, w ≠ [] ∧ ∀ c ∈ w, bl c = false) : told (joinB ws) ws.length = ws.map (fun w => ⟨w.toArray⟩) ∧ (wordB (joinB ws) ws.length).size = 0 := by
 have h := told_join ws hw (joinB ws) 0 (.inl rfl)
 rw [Nat.zero_add] at h
 exact ⟨by rw [h.1]; simp [told], h.2⟩
theorem good_words (ws : List (List UInt8)) (hw : ∀ w ∈ ws, w ≠ [] ∧ ∀ c ∈ w, bl c = false) : Good (told (joinB ws) ws.length) := by
 rw [(told_words ws hw).1]
 intro x hx
 obtain ⟨w, hm, rfl⟩ := List.mem_map.1 hx
 rw [bsize]
 intro h0
 exact (hw w hm).1 (List.length_eq_zero_iff.1 h0)
end Go.Proofs.YtboeaeoefoabdaaGreatDoor
namespace Go.Proofs.YtboeaeoefoabdaaGreatDoor
open Go.RowKit
def up1 (c : UInt8) : UInt8 := if 97 ≤ c.toNat ∧ c.toNat ≤ 122 then c - 32 else c
def upL (l : List UInt8) : List UInt8 := l.map up1
theorem up_all : ∀ m : Fin 256, bl (up1 (UInt8.ofNat m.val)) = bl (UInt8.ofNat m.val) := by decide +kernel
theorem bl_up (c : UInt8) : bl (up1 c) = bl c := by
 have h := up_all ⟨c.toNat, c.toNat_lt⟩
 rwa [UInt8.ofNat_toNat] at h
theorem upL_length (l : List UInt8) : (upL l).length = l.length := by simp [upL]
theorem trim_up (l : List UInt8) : trimL (upL l) = upL (trimL l) := by
 unfold trimL upL
 induction l with
 | nil => rfl
 | cons c l ih =>
  rw [List.map_cons, List.dropWhile_cons, List.dropWhile_cons, bl_up]
  split
  ·exact ih
  ·rfl
theorem take_up (l : List UInt8) : ((upL l).takeWhile fun b => !bl b) = upL (l.takeWhile fun b => !bl b) ∧ ((upL l).dropWhile fun b => !bl b) = upL (l.dropWhile fun b => !bl b) := by
 unfold upL
 induction l with
 | nil => exact ⟨rfl, rfl⟩
 | cons c l ih =>
  rw [List.map_cons, List.takeWhile_cons, List.takeWhile_cons, List.dropWhile_cons, List.dropWhile_cons, bl_up]
  split
  ·exact ⟨by rw [ih.1]; rfl, ih.2⟩
  ·exact ⟨rfl, rfl⟩
theorem word_up (l : List UInt8) : wordL (upL l) = upL (wordL l) ∧ restL (upL l) = upL (restL l) := by
 unfold wordL restL
 rw [trim_up]
 exact take_up _
theorem behind_up (l : List UInt8) (k : Nat) : behind (upL l) k = upL (behind l k) := by
 induction k with
 | zero => rfl
 | succ k ih => rw [behind_succ, behind_succ, ih, (word_up _).2]
theorem word_size (l : List UInt8) (k : Nat) : (wordB l k).size = (wordL (behind l k)).length := bsize _
theorem up_size (l : List UInt8) (k : Nat) : (wordB (upL l) k).size = (wordB l k).size := by
 rw [word_size, word_size, behind_up, (word_up _).1, upL_length]
theorem good_iff (l : List UInt8) (k : Nat) : Good (told l k) ↔ ∀ i, i < k → (wordB l i).size ≠ 0 := by
 unfold Good told
 simp
theorem good_up {l : List UInt8} {k : Nat} (h : Good (told (upL l) k)) : Good (told l k) := by
 rw [good_iff] at h ⊢
 intro i hi
 rw [← up_size]; exact h i hi
def wordsL (l : List UInt8) (k : Nat) : List (List UInt8) := (List.range k).map fun i => wordL (behind l i)
theorem wordsL_succ (l : List UInt8) (k : Nat) : wordsL l (k + 1) = wordsL l k ++ [wordL (behind l k)] := by simp [wordsL, List.range_succ]
theorem wordsL_length (l : List UInt8) (k : Nat) : (wordsL l k).length = k := by simp [wordsL]
theorem wordsL_up (l : List UInt8) (k : Nat) : wordsL (upL l) k = (wordsL l k).map upL := by
 simp [wordsL, behind_up, word_up]
theorem joinB_snoc : ∀ (ws : List (List UInt8)) (w : List UInt8), ws ≠ [] → joinB (ws ++ [w]) = joinB ws ++ 32 :: w
 | [], _, h => absurd rfl h
 | [v], w, _ => rfl
 | v :: u :: ws, w, _ => by
  have ih := joinB_snoc (u :: ws) w (by simp)
  show v ++ 32 :: joinB (u :: ws ++ [w]) = (v ++ 32 :: joinB (u :: ws)) ++ 32 :: w
  rw [ih]; simp
theorem joinB_up : ∀ (ws : List (List UInt8)), joinB (ws.map upL) = upL (joinB ws)
 | [] => rfl
 | [v] => rfl
 | v :: u :: ws => by
  have ih := joinB_up (u :: ws)
  show upL v ++ 32 :: joinB ((u :: ws).map upL) = upL (v ++ 32 :: joinB (u :: ws))
  rw [ih]
  simp [upL, up1]
def lineS (l : List UInt8) (k : Nat) : List UInt8 := joinB (wordsL l k)
theorem lineS_zero (l : List UInt8) : lineS l 0 = [] := rfl
theorem lineS_one (l : List UInt8) : lineS l 1 = wordL l := rfl
theorem lineS_succ (l : List UInt8) (k : Nat) (h : 0 < k) : lineS l (k + 1) = lineS l k ++ 32 :: wordL (behind l k) := by
 unfold lineS
 rw [wordsL_succ, joinB_snoc _ _ (fun e => by have := wordsL_length l k; rw [e] at this; simp at this; omega)]
theorem lineS_up (l : List UInt8) (k : Nat) : lineS (upL l) k = upL (lineS l k) := by unfold lineS; rw [wordsL_up, joinB_up]
theorem rest_head (l : List UInt8) : restL l = [] ∨ ∃ c r, restL l = c :: r ∧ bl c = true := by
 unfold restL
 generalize trimL l = t
 induction t with
 | nil => exact .inl rfl
 | cons c t ih =>
  rw [List.dropWhile_cons]
  by_cases h : bl c = true
  ·rw [if_neg (by simp [h])]; exact .inr ⟨c, t, rfl, h⟩
  ·rw [if_pos (by simp [h])]; exact ih
theorem lineS_bound {l : List UInt8} {k : Nat} (h : Good (told l k)) : (lineS l k).length + (if k = 0 then 0 else (behind l k).length) ≤ l.length := by
 induction k with
 | zero => simp [lineS_zero]
 | succ k ih =>
  rw [good_iff] at h
  have ih := ih ((good_iff l k).2 fun i hi => h i (by omega))
  have hk := h k (by omega)
  rw [word_size] at hk
  have wr := word_rest (behind l k)
  have tl := trimL_le (behind l k)
  rw [if_neg (by omega), behind_succ]
  rcases Nat.eq_zero_or_pos k with rfl | hp
  ·rw [lineS_one]
   have e : behind l 0 = l := rfl
   rw [e] at wr tl ⊢
   omega
  ·rw [lineS_succ l k hp, List.length_append, List.length_cons]
   rw [if_neg (by omega)] at ih
   have hb : (trimL (behind l k)).length + 1 ≤ (behind l k).length := by
    obtain ⟨j, rfl⟩ : ∃ j, k = j + 1 := ⟨k - 1, by omega⟩
    rw [behind_succ] at wr tl hk ⊢
    rcases rest_head (behind l j) with e | ⟨c, r, e, hc⟩
    ·rw [e] at hk; exact absurd rfl hk
    ·rw [e]
     have := trimL_le r
     unfold trimL at this ⊢
     rw [List.dropWhile_cons, if_pos hc]
     simp only [List.length_cons]; omega
   omega
end Go.Proofs.YtboeaeoefoabdaaGreatDoor
namespace Go.Proofs.YtboeaeoefoabdaaGreatDoor
open Go.RowKit
def hasI (l : List UInt8) : Prop := ∃ c r, wordL l = c :: r ∧ c ≠ 59
def LineR (l : List UInt8) (r : Option (List UInt8)) : Prop :=
 (¬ hasI l ∧ r = some []) ∨ (hasI l ∧ ∃ (k : Nat) (out : List UInt8) (ok : Bool), Good (told l k) ∧ (wordB l k).size = 0 ∧ AsmOk (upL (lineS l k)) out ok ∧ r = if ok = true then some out else none)
theorem line_one {l : List UInt8} {r q : Option (List UInt8)} (h : LineR l r) (g : LineR l q) : r = q := by
 rcases h with ⟨h0, rfl⟩ | ⟨h0, k, out, ok, h1, h2, h3, rfl⟩
 ·rcases g with ⟨_, rfl⟩ | ⟨g0, _⟩
  ·rfl
  ·exact absurd g0 h0
 ·rcases g with ⟨g0, _⟩ | ⟨_, k2, out2, ok2, g1, g2, g3, rfl⟩
  ·exact absurd h0 g0
  ·obtain rfl := told_one h1 h2 g1 g2
   obtain ⟨rfl, rfl⟩ := asm_one h3 g3
   rfl
def ProgPre (Ls : List (List UInt8)) (i : Nat) (out : List UInt8) : Prop := ∃ parts : List (List UInt8), parts.length = i ∧ (∀ j (h : j < parts.length) (h2 : j < Ls.length), LineR Ls[j] (some parts[j])) ∧ out = parts.flatten
theorem pre_zero (Ls : List (List UInt8)) : ProgPre Ls 0 [] := ⟨[], rfl, fun _ h => absurd h (Nat.not_lt_zero _), rfl⟩
theorem pre_succ {Ls : List (List UInt8)} {i : Nat} {out p : List UInt8} (h : ProgPre Ls i out) (hi : i < Ls.length) (hp : LineR Ls[i] (some p)) : ProgPre Ls (i + 1) (out ++ p) := by
 obtain ⟨parts, rfl, h2, rfl⟩ := h
 refine ⟨parts ++ [p], by simp, fun j hj hl => ?_, by simp⟩
 by_cases e : j < parts.length
 ·rw [List.getElem_append_left e]; exact h2 j e hl
 ·have : j = parts.length := by simp at hj; omega
  subst this
  simpa using hp
theorem pre_one {Ls : List (List UInt8)} {i : Nat} (hi : i ≤ Ls.length) {a b : List UInt8} (h : ProgPre Ls i a) (g : ProgPre Ls i b) : a = b := by
 obtain ⟨p, rfl, h2, rfl⟩ := h
 obtain ⟨q, hq, g2, rfl⟩ := g
 have e : p = q := by
  apply List.ext_getElem hq.symm
  intro j h1 h3
  exact Option.some.inj (line_one (h2 j h1 (by omega)) (g2 j h3 (by omega)))
 rw [e]
def ProgOk (Ls : List (List UInt8)) (out : List UInt8) (bad : Int) : Prop := (bad = -1 ∧ ProgPre Ls Ls.length out) ∨ (∃ (i : Nat) (hi : i < Ls.length), bad = (i : Int) ∧ out = [] ∧ (∃ o, ProgPre Ls i o) ∧ LineR Ls[i] none)
theorem prog_bad {Ls : List (List UInt8)} {i : Nat} {o : List UInt8} (hi : i < Ls.length) (hp : ProgPre Ls i o) (h : LineR Ls[i] none) : ProgOk Ls [] (i : Int) := .inr ⟨i, hi, rfl, rfl, ⟨o, hp⟩, h⟩
theorem prog_all {Ls : List (List UInt8)} {o : List UInt8} (hp : ProgPre Ls Ls.length o) : ProgOk Ls o (-1) := .inl ⟨rfl, hp⟩
theorem pre_at {Ls : List (List UInt8)} {n i : Nat} {o : List UInt8} (h : ProgPre Ls n o) (hi : i < n) (hl : i < Ls.length) : ∃ p, LineR Ls[i] (some p) := by
 obtain ⟨parts, rfl, h2, _⟩ := h
 exact ⟨_, h2 i hi hl⟩
theorem prog_one {Ls : List (List UInt8)} {out out2 : List UInt8} {bad bad2 : Int} (h : ProgOk Ls out bad) (g : ProgOk Ls out2 bad2) : out = out2 ∧ bad = bad2 := by
 rcases h with ⟨rfl, h⟩ | ⟨i, hi, rfl, rfl, ⟨o, ho⟩, hb⟩
 ·rcases g with ⟨rfl, g⟩ | ⟨j, hj, rfl, rfl, ⟨o2, ho2⟩, gb⟩
  ·exact ⟨pre_one (Nat.le_refl _) h g, rfl⟩
  ·obtain ⟨p, hp⟩ := pre_at h hj hj
   cases line_one hp gb
 ·rcases g with ⟨rfl, g⟩ | ⟨j, hj, rfl, rfl, ⟨o2, ho2⟩, gb⟩
  ·obtain ⟨p, hp⟩ := pre_at g hi hi
   cases line_one hp hb
  ·rcases Nat.lt_trichotomy i j with h | h | h
   ·obtain ⟨p, hp⟩ := pre_at ho2 h hi
    cases line_one hp hb
   ·subst h; exact ⟨rfl, rfl⟩
   ·obtain ⟨p, hp⟩ := pre_at ho h hj
    cases line_one hp gb
theorem asm_len {S out : List UInt8} {ok : Bool} (h : AsmOk S out ok) : out.length ≤ 3 := by
 rcases h with ⟨_, c, lo, hi, _, _, _, _, rfl⟩ | ⟨_, rfl, _⟩
 ·rw [List.length_take]; simp; omega
 ·simp
theorem line_len {l p : List UInt8} (h : LineR l (some p)) : p.length ≤ 3 := by
 rcases h with ⟨_, h⟩ | ⟨_, k, out, ok, _, _, ha, h⟩
 ·cases h; simp
 ·cases ok
  ·cases h
  ·cases h; exact asm_len ha
theorem pre_len {Ls : List (List UInt8)} {i : Nat} (hi : i ≤ Ls.length) {o : List UInt8} (h : ProgPre Ls i o) : o.length ≤ 3 * i := by
 obtain ⟨p, rfl, h2, rfl⟩ := h
 have : ∀ (q : List (List UInt8)), (∀ x ∈ q, x.length ≤ 3) → q.flatten.length ≤ 3 * q.length := by
  intro q
  induction q with
  | nil => simp
  | cons x q ih =>
   intro hx
   have a := hx x (by simp)
   have b := ih fun y hy => hx y (by simp [hy])
   simp only [List.flatten_cons, List.length_append, List.length_cons]
   omega
 refine this p fun x hx => ?_
 obtain ⟨j, hj, rfl⟩ := List.mem_iff_getElem.1 hx
 exact line_len (h2 j hj (by omega))
end Go.Proofs.YtboeaeoefoabdaaGreatDoor
namespace Go.Proofs.YtboeaeoefoabdaaGreatDoor
open Go.Lib
def nl : ByteArray := ⟨#[10]⟩
def linesB (s : ByteArray) : List ByteArray := splitB nl 0 (countB s nl) s
theorem index_none (c : UInt8) (l : List UInt8) (h : ∀ b ∈ l, b ≠ c) : index l [c] = -1 := by
 induction l with
 | nil => simp [index]
 | cons b l ih =>
  have hb : b ≠ c := h b (by simp)
  have ih' := ih (fun x hx => h x (by simp [hx]))
  simp [index, ih', Ne.symm hb]
theorem index_first (c : UInt8) (p r : List UInt8) (h : ∀ b ∈ p, b ≠ c) : index (p ++ c :: r) [c] = p.length := by
 induction p with
 | nil => simp [index]
 | cons b p ih =>
  have hb : b ≠ c := h b (by simp)
  have ih' := ih (fun x hx => h x (by simp [hx]))
  simp only [List.cons_append, index]
  rw [ih', if_neg (by simp [Ne.symm hb]), if_neg (by simp)]
  simp
theorem linesB_none (t : ByteArray) (h : ∀ b ∈ t.data.toList, b ≠ 10) : linesB t = [t] := by
 have hi : indexB t nl = -1 := index_none 10 _ h
 unfold linesB
 rw [countB_miss t nl hi]
 exact splitB_miss nl 0 0 t hi
theorem linesB_first (t : ByteArray) (p r : List UInt8) (e : t.data.toList = p ++ 10 :: r) (h : ∀ b ∈ p, b ≠ 10) : linesB t = t.extract 0 p.length :: linesB (t.extract (p.length + 1) t.size) := by
 have hi : indexB t nl = (p.length : Int) := by
  show index t.data.toList nl.data.toList = _
  rw [e]
  exact index_first 10 p r h
 have hs : nl.size = 1 := rfl
 unfold linesB
 rw [countB_hit t nl p.length (by decide) hi, Nat.add_comm 1, splitB_hit nl 0 _ t p.length hi]
 rw [hs]; rfl
theorem ba_ext {a b : ByteArray} (h : a.data.toList = b.data.toList) : a = b := by
 obtain ⟨⟨a⟩⟩ := a
 obtain ⟨⟨b⟩⟩ := b
 simpa using h
def NoNl (s : ByteArray) (fr k : Nat) : Prop := ∀ (j : Nat) (h : j < s.size), fr ≤ j → j < k → s[j] ≠ 10
theorem NoNl.part {s : ByteArray} {fr k : Nat} (h : NoNl s fr k) (hk : k ≤ s.size) : ∀ b ∈ (s.data.toList.drop fr).take (k - fr), b ≠ 10 := by
 intro b hb
 obtain ⟨i, hi, rfl⟩ := List.mem_iff_getElem.1 hb
 simp only [List.length_take, List.length_drop, Array.length_toList] at hi
 have hsz : s.data.size = s.size := rfl
 rw [hsz] at hi
 have := h (fr + i) (by omega) (by omega) (by omega)
 simp only [List.getElem_take, List.getElem_drop, Array.getElem_toList]
 exact this
theorem linesB_step (s : ByteArray) (fr k : Nat) (hf : fr ≤ k) (hk : k < s.size) (h10 : s[k] = 10) (h : NoNl s fr k) : linesB (s.extract fr s.size) = s.extract fr k :: linesB (s.extract (k + 1) s.size) := by
 have hsz : s.data.toList.length = s.size := by simp
 have e : (s.extract fr s.size).data.toList = (s.data.toList.drop fr).take (k - fr) ++ 10 :: s.data.toList.drop (k + 1) := by
  rw [extract_to_end]
  have h1 : s.data.toList.drop fr = (s.data.toList.drop fr).take (k - fr) ++ (s.data.toList.drop fr).drop (k - fr) := (List.take_append_drop _ _).symm
  have h2 : s.data.toList.drop k = s.data.toList[k]'(by omega) :: s.data.toList.drop (k + 1) := List.drop_eq_getElem_cons (by omega)
  have h3 : s.data.toList[k]'(by omega) = 10 := h10
  refine h1.trans ?_
  rw [List.drop_drop, show fr + (k - fr) = k by omega, h2, h3]
 have hl : ((s.data.toList.drop fr).take (k - fr)).length = k - fr := by simp; omega
 rw [linesB_first _ _ _ e (h.part (by omega)), hl]
 congr 1
 ·apply ba_ext
  rw [extract_data, extract_to_end, extract_data]; simp
 ·congr 1
  apply ba_ext
  rw [extract_to_end, extract_to_end, extract_to_end, List.drop_drop]
  congr 1; omega
theorem linesB_last (s : ByteArray) (fr : Nat) (h : NoNl s fr s.size) : linesB (s.extract fr s.size) = [s.extract fr s.size] := by
 apply linesB_none
 rw [extract_to_end]
 have := h.part (Nat.le_refl _)
 rw [List.take_of_length_le (by simp)] at this
 exact this
theorem extract_zero_all (s : ByteArray) : s.extract 0 s.size = s := by
 apply ba_ext; rw [extract_to_end]; rfl
theorem NoNl.more {s : ByteArray} {fr k : Nat} (h : NoNl s fr k) (hk : k < s.size) (hn : s[k] ≠ 10) : NoNl s fr (k + 1) := by
 intro j hj h1 h2
 by_cases e : j = k
 ·subst e; exact hn
 ·exact h j hj h1 (by omega)
theorem NoNl.start (s : ByteArray) (k : Nat) : NoNl s k k := fun j _ h1 h2 => by omega
end Go.Proofs.YtboeaeoefoabdaaGreatDoor
