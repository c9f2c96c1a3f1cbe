/-
  Texts put together by program: WsA, WsB, WsC, RhS.
  Conditions: as each theorem says.
-/
import Derived.Laws.AppendOwn
import Derived.Lib.Hide
import Derived.WalkSpells
import Derived.Test.YtboeaeoefoabdaaGreatDoorAmaa
namespace Go.Proofs.YtboeaeoefoabdaaGreatDoor
def bl (b : UInt8) : Bool := ([32, 9] : List UInt8).contains b
def trimL (l : List UInt8) : List UInt8 := l.dropWhile bl
def wordL (l : List UInt8) : List UInt8 := (trimL l).takeWhile fun b => !bl b
def restL (l : List UInt8) : List UInt8 := (trimL l).dropWhile fun b => !bl b
theorem trimL_le (l : List UInt8) : (trimL l).length ≤ l.length := (List.dropWhile_sublist _).length_le
def behind (l : List UInt8) : Nat → List UInt8
 | 0 => l
 | k + 1 => restL (behind l k)
def wordB (l : List UInt8) (k : Nat) : ByteArray := ⟨(wordL (behind l k)).toArray⟩
def told (l : List UInt8) (k : Nat) : List ByteArray := (List.range k).map (wordB l)
theorem told_succ (l : List UInt8) (k : Nat) : told l (k + 1) = told l k ++ [wordB l k] := by simp [told, List.range_succ]
theorem restL_le (l : List UInt8) : (restL l).length ≤ l.length := Nat.le_trans (List.dropWhile_sublist _).length_le (trimL_le l)
theorem behind_le (l : List UInt8) (k : Nat) : (behind l k).length ≤ l.length := by
 induction k with
 | zero => exact Nat.le_refl _
 | succ k ih => exact Nat.le_trans (restL_le _) ih
theorem word_rest (l : List UInt8) : (wordL l).length + (restL l).length = (trimL l).length := by
 have h := List.takeWhile_append_dropWhile (p := fun b => !bl b) (l := trimL l)
 have h2 := congrArg List.length h
 rw [List.length_append] at h2
 exact h2
def Good (pre : List ByteArray) : Prop := ∀ x ∈ pre, x.size ≠ 0
theorem bsize (l : List UInt8) : (⟨l.toArray⟩ : ByteArray).size = l.length := by show l.toArray.size = _; simp
theorem behind_succ (L : List UInt8) (k : Nat) : behind L (k + 1) = restL (behind L k) := rfl
theorem told_one {L : List UInt8} {k m : Nat} (h1 : Good (told L k)) (h2 : (wordB L k).size = 0) (k1 : Good (told L m)) (k2 : (wordB L m).size = 0) : k = m := by
 have mem : ∀ {a b : Nat}, a < b → wordB L a ∈ told L b := fun {a b} h => List.mem_map.2 ⟨a, List.mem_range.2 h, rfl⟩
 rcases Nat.lt_trichotomy k m with h | h | h
 ·exact absurd h2 (k1 _ (mem h))
 ·exact h
 ·exact absurd k2 (h1 _ (mem h))
theorem told_length (L : List UInt8) (k : Nat) : (told L k).length = k := by simp [told]
theorem told_bound (L : List UInt8) (k : Nat) (h : Good (told L k)) : k ≤ L.length := by
 suffices h : ∀ j, j ≤ k → j + (behind L j).length ≤ L.length by have := h k (Nat.le_refl _); omega
 intro j
 induction j with
 | zero => intro _; simp [behind]
 | succ j ih =>
  intro hj
  have h0 := h (wordB L j) (List.mem_map.2 ⟨j, List.mem_range.2 (by omega), rfl⟩)
  have h1 := word_rest (behind L j)
  have h2 := trimL_le (behind L j)
  have h3 := ih (by omega)
  unfold wordB at h0
  rw [bsize] at h0
  rw [behind_succ]
  omega
theorem word_blank (l : List UInt8) : wordL (32 :: l) = wordL l ∧ restL (32 :: l) = restL l := by
 unfold wordL restL trimL
 rw [List.dropWhile_cons_of_pos (by decide)]
 exact ⟨rfl, rfl⟩
theorem take_nb (w r : List UInt8) (h : ∀ c ∈ w, bl c = false) (hr : r = [] ∨ ∃ r', r = 32 :: r') : (w ++ r).takeWhile (fun b => !bl b) = w ∧ (w ++ r).dropWhile (fun b => !bl b) = r := by
 induction w with
 | nil =>
  rcases hr with rfl | ⟨r', rfl⟩
  ·exact ⟨rfl, rfl⟩
  ·exact ⟨rfl, rfl⟩
 | cons c w ih =>
  have hc := h c (by simp)
  obtain ⟨h1, h2⟩ := ih fun d hd => h d (by simp [hd])
  rw [List.cons_append, List.takeWhile_cons_of_pos (by rw [hc]; rfl), List.dropWhile_cons_of_pos (by rw [hc]; rfl), h1, h2]
  exact ⟨rfl, rfl⟩
theorem wordL_of (w r : List UInt8) (hne : w ≠ []) (h : ∀ c ∈ w, bl c = false) (hr : r = [] ∨ ∃ r', r = 32 :: r') : wordL (w ++ r) = w ∧ restL (w ++ r) = r := by
 have ht : trimL (w ++ r) = w ++ r := by
  cases w with
  | nil => exact absurd rfl hne
  | cons c w =>
   unfold trimL
   rw [List.cons_append, List.dropWhile_cons_of_neg (by rw [h c (by simp)]; decide)]
 unfold wordL restL
 rw [ht]
 exact take_nb w r h hr
def joinB : List (List UInt8) → List UInt8
 | [] => []
 | [w] => w
 | w :: v :: ws => w ++ 32 :: joinB (v :: ws)
theorem told_join : ∀ (ws : List (List UInt8)), (∀ w ∈ ws, w ≠ [] ∧ ∀ c ∈ w, bl c = false) → ∀ (L : List UInt8) (k : Nat), (behind L k = joinB ws ∨ behind L k = 32 :: joinB ws) →
  told L (k + ws.length) = told L k ++ ws.map (fun w => ⟨w.toArray⟩) ∧ (wordB L (k + ws.length)).size = 0
 | [], _, L, k, hb => by
  refine ⟨by simp, ?_⟩
  have h : wordL (behind L k) = [] := by
   rcases hb with h | h
   ·rw [h]; rfl
   ·rw [h, (word_blank _).1]; rfl
  unfold wordB
  rw [show k + ([] : List (List UInt8)).length = k from rfl, bsize, h]; rfl
 | w :: ws, hw, L, k, hb => by
  obtain ⟨hne, hnb⟩ := hw w (by simp)
  obtain ⟨r, hr, hj, hk⟩ : ∃ r, (r = [] ∨ ∃ r', r = 32 :: r') ∧ joinB (w :: ws) = w ++ r ∧ (r = joinB ws ∨ r = 32 :: joinB ws) := by
   cases ws with
   | nil => exact ⟨[], .inl rfl, by simp [joinB], .inl rfl⟩
   | cons v ws => exact ⟨32 :: joinB (v :: ws), .inr ⟨_, rfl⟩, rfl, .inr rfl⟩
  have hword : wordL (behind L k) = w ∧ restL (behind L k) = r := by
   have h0 := wordL_of w r hne hnb hr
   rcases hb with h | h
   ·rw [h, hj]; exact h0
   ·rw [h, (word_blank _).1, (word_blank _).2, hj]; exact h0
  have ih := told_join ws (fun x hx => hw x (by simp [hx])) L (k + 1) (by rw [behind_succ, hword.2]; exact hk)
  have e : k + (w :: ws).length = k + 1 + ws.length := by simp; omega
  rw [e]
  refine ⟨?_, ih.2⟩
  rw [ih.1, told_succ]
  unfold wordB
  rw [hword.1]
  simp
theorem told_words (ws : List (List UInt8)) (hw : ∀ w ∈ ws, w ≠ [] ∧ ∀ c ∈ w, bl c = false) : told (joinB ws) ws.length = ws.map (fun w => ⟨w.toArray⟩) ∧ (wordB (joinB ws) ws.length).size = 0 := by
 have h := told_join ws hw (joinB ws) 0 (.inl rfl)
 rw [Nat.zero_add] at h
 exact ⟨by rw [h.1]; simp [told], h.2⟩
theorem good_words (ws : List (List UInt8)) (hw : ∀ w ∈ ws, w ≠ [] ∧ ∀ c ∈ w, bl c = false) : Good (told (joinB ws) ws.length) := by
 rw [(told_words ws hw).1]
 intro x hx
 obtain ⟨w, hm, rfl⟩ := List.mem_map.1 hx
 rw [bsize]
 intro h0
 exact (hw w hm).1 (List.length_eq_zero_iff.1 h0)
end Go.Proofs.YtboeaeoefoabdaaGreatDoor
namespace Go.Proofs.YtboeaeoefoabdaaGreatDoor
open Go.RowKit
theorem info9 : (Tryz.prog.info? 9).map (fun i => (i.zero, i.size, i.bytes)) = some (some (.string ⟨#[]⟩), 1, 16) := by kernel_rfl
theorem blank_fn (b : UInt8) (w : World) : Calls Tryz.prog 79 #[.int .u8 b.toNat] w fun e w' => e = .returned (.bool (bl b)) ∧ w = w' := by
 have hb : bl b = (((b.toNat : Int) == 32) || ((b.toNat : Int) == 9)) := by
  unfold bl
  rw [Bool.eq_iff_iff]
  simp [← UInt8.toNat_inj]
  omega
 rw [hb]
 clear hb
 go_enter Tryz.func79, Tryz.ntmps79
 cases h1 : ((b.toNat : Int) == 32) <;> cases h2 : ((b.toNat : Int) == 9)
 all_goals go_wp2
 all_goals go_ret
 all_goals exact ⟨rfl, rfl⟩
def SpecPost (s : ByteArray) (w : World) (e : Ending) (W' : World) : Prop := ∃ v k, e = .returned v ∧ Good (told s.data.toList k) ∧ (wordB s.data.toList k).size = 0 ∧ W'.ownsRow w.heap.size 9 1 v k ((told s.data.toList k).map Value.string) ∧ v ≠ .slice none 0 0 ∧ Below w.heap.size w W'
theorem drop_cons (s : ByteArray) (i : Nat) (h : i < s.size) : s.data.toList.drop i = s[i] :: s.data.toList.drop (i + 1) := by
 rw [List.drop_eq_getElem_cons (by simpa using h)]
 rfl
theorem trim_blank (s : ByteArray) (i : Nat) (h : i < s.size) (hb : bl s[i] = true) : trimL (s.data.toList.drop i) = trimL (s.data.toList.drop (i + 1)) := by
 rw [drop_cons s i h]; simp [trimL, hb]
theorem trim_word (s : ByteArray) (i : Nat) (h : i < s.size) (hb : bl s[i] = false) : trimL (s.data.toList.drop i) = s.data.toList.drop i := by
 rw [drop_cons s i h]; simp [trimL, hb]
def NoBl (s : ByteArray) (i e : Nat) : Prop := ∀ j, i ≤ j → j < e → ∀ h : j < s.size, bl s[j] = false
theorem NoBl.more {s : ByteArray} {i e : Nat} (h : NoBl s i e) (he : e < s.size) (hb : bl s[e] = false) : NoBl s i (e + 1) := by
 intro j h1 h2 h3
 by_cases h4 : j = e
 ·subst h4; exact hb
 ·exact h j h1 (by omega) h3
theorem take_word (s : ByteArray) (i e : Nat) (hie : i ≤ e) (he : e ≤ s.size) (hn : NoBl s i e) (hend : e = s.size ∨ ∃ h : e < s.size, bl s[e] = true) :
  (s.data.toList.drop i).takeWhile (fun b => !bl b) = (s.extract i e).data.toList ∧ (s.data.toList.drop i).dropWhile (fun b => !bl b) = s.data.toList.drop e := by
 have hx : (s.extract i e).data.toList = (s.data.toList.drop i).take (e - i) := by
  rw [Lib.extract_data]
 rw [hx]
 clear hx
 obtain ⟨d, rfl⟩ : ∃ d, e = i + d := ⟨e - i, by omega⟩
 rw [Nat.add_sub_cancel_left]
 induction d generalizing i with
 | zero =>
  rcases hend with h | ⟨h, hb⟩
  ·rw [List.drop_eq_nil_of_le (by simp; omega)]; simp; omega
  ·have h' : i < s.size := h
   have hb' : bl s[i] = true := hb
   rw [Nat.add_zero, drop_cons s i h']; simp [hb']
 | succ d ih =>
  have hi : i < s.size := by omega
  have hb := hn i (Nat.le_refl _) (by omega) hi
  obtain ⟨h1, h2⟩ := ih (i + 1) (by omega) (by omega) (fun j a b c => hn j (by omega) (by omega) c) (by rw [show i + 1 + d = i + (d + 1) by omega]; exact hend)
  rw [drop_cons s i hi]
  simp [hb, h1, h2, show i + 1 + d = i + (d + 1) by omega]
set_option maxRecDepth 100000 in
set_option maxHeartbeats 2000000 in
theorem spec_words (s : ByteArray) (hs : s.size ≤ 1048576) (w : World) : Calls Tryz.prog 41 #[.string s] w (SpecPost s w) := by
 obtain ⟨i0, hi, hz0, hz1, hz2⟩ := info_parts info9
 go_enter Tryz.func41, Tryz.ntmps41
 go_wp2
 go_loopw [3, 4] (fun v3 v4 wr => ∃ (i k : Nat), i ≤ s.size ∧ v4 = .int .i64 i ∧ k ≤ i ∧ wr.ownsRow w.heap.size 9 1 v3 k ((told s.data.toList k).map Value.string) ∧ v3 ≠ .slice none 0 0 ∧ Hid (Good (told s.data.toList k) ∧ trimL (s.data.toList.drop i) = trimL (behind s.data.toList k)) ∧ Below w.heap.size w wr)
  (fun _ v4 _ => s.size - (intOf v4).toNat)
 case atStart =>
  exact ⟨0, 0, by omega, rfl, by simp, World.ownsRow_lit _ #[] 0 (Nat.le_refl _) (by decide) rfl, by simp, ⟨by simp [Good, told], rfl⟩, (Below.refl _ _).alloc (Nat.le_refl _) _⟩
 case round =>
  obtain ⟨i, k, hik, rfl, hk, hown, hnn, hH, hb⟩ := hrel
  by_cases hlt : i < s.size
  ·cases hbl : bl s[i]
   ·go_wp2_with (go_at_call 79; refine (blank_fn _ _).mono ?_; rintro e w1 ⟨rfl, rfl⟩)
    have hW := Lib.hid (⟨trim_word s i hlt hbl, hH.out.1, hH.out.2⟩ : trimL (s.data.toList.drop i) = s.data.toList.drop i ∧ _ ∧ _)
    clear hH
    go_loopw [5] (fun v5 wr' => ∃ e : Nat, i ≤ e ∧ e ≤ s.size ∧ v5 = .int .i64 e ∧ Hid (NoBl s i e) ∧ wr' = wr) (fun v5 _ => s.size - (intOf v5).toNat)
    case atStart => exact ⟨i, Nat.le_refl _, hik, rfl, Lib.hid (fun j a b c => by omega), rfl⟩
    case round =>
     obtain ⟨e, hie, he, rfl, hN, rfl⟩ := hrel
     by_cases hle : e < s.size
     ·cases hbe : bl s[e]
      ·have hM := Lib.hid (hN.out.more hle hbe)
       go_wp2_with (go_at_call 79; refine (blank_fn _ _).mono ?_; rintro e w1 ⟨rfl, rfl⟩)
       go_roundw
       case rel => exact ⟨e + 1, by omega, by omega, by go_num, hM, trivial⟩
       case measure => simp [intOf]; omega
      ·have hT := Lib.hid (take_word s i e hie he hN.out (.inr ⟨hle, hbe⟩))
       have hie2 : i < e := by
        rcases Nat.lt_or_ge i e with h | h
        ·exact h
        ·obtain rfl : i = e := by omega
         rw [hbl] at hbe; cases hbe
       go_wp2_with (first
         | (go_at_call 79; refine (blank_fn _ _).mono ?_; rintro e w1 ⟨rfl, rfl⟩)
         | (at_builtin; refine wpList_append_own _ rfl _ _ 46 rfl w.heap.size 9 i0 (.string ⟨#[]⟩) 1 16 Tryz.underlying46 hi hz0 hz1 hz2 rfl (by decide) _ _ _ rfl (hown.alloc _) ⟨wr.heap.size, 0, none⟩ 1 1 [.string (s.extract i e)] rfl rfl ?c1 ?c2 ?c3 ?c4 ?c5 ?_))
       case c1 =>
        intro j u hj
        match j, hj with
        | 0, hj => simp at hj; subst hj; simp [Addr.add]
       case c2 => intro u hu; simp at hu; subst hu; rfl
       case c3 => unfold maxLen; omega
       case c4 => omega
       case c5 => have := hb.size; simp; omega
       intro v' w1 hown' hgrow hnil'
       have hwd : wordB s.data.toList k = s.extract i e := by
        unfold wordB wordL
        rw [← hW.out.2.2, hW.out.1, hT.out.1]
       have hrs : behind s.data.toList (k + 1) = s.data.toList.drop e := by
        show restL _ = _
        unfold restL
        rw [← hW.out.2.2, hW.out.1, hT.out.2]
       have hown2 : w1.ownsRow w.heap.size 9 1 v' (k + 1) ((told s.data.toList (k + 1)).map Value.string) := by
        rw [told_succ, hwd]
        simpa using hown'
       have hnn2 : v' ≠ .slice none 0 0 := hnil'
       have hG : Good (told s.data.toList (k + 1)) := by
        rw [told_succ]
        intro y hy
        rcases List.mem_append.1 hy with hy | hy
        ·exact hW.out.2.1 y hy
        ·rw [List.mem_singleton] at hy
         subst hy
         rw [hwd]
         simp
         omega
       have hb' : Below w.heap.size w w1 := (hb.alloc hb.size _).grown hgrow (by have := hb.size; simp; omega) (fun g hg => (hown.lt g hg).1)
       have hH2 := Lib.hid (⟨hG, by rw [hrs]⟩ : Good (told s.data.toList (k + 1)) ∧ trimL (s.data.toList.drop e) = trimL (behind s.data.toList (k + 1)))
       clear hgrow hb hown hown' hnn hnil' hG hT hW hN
       go_wp2
       go_roundw
       case rel => exact ⟨e, k + 1, by omega, rfl, by omega, hown2, hnn2, hH2, hb'⟩
       case measure => simp [intOf]; omega
     ·obtain rfl : e = s.size := by omega
      have hT := Lib.hid (take_word s i s.size hie he hN.out (.inl rfl))
      go_wp2_with (at_builtin; refine wpList_append_own _ rfl _ _ 46 rfl w.heap.size 9 i0 (.string ⟨#[]⟩) 1 16 Tryz.underlying46 hi hz0 hz1 hz2 rfl (by decide) _ _ _ rfl (hown.alloc _) ⟨wr.heap.size, 0, none⟩ 1 1 [.string (s.extract i s.size)] rfl rfl ?c1 ?c2 ?c3 ?c4 ?c5 ?_)
      case c1 =>
       intro j u hj
       match j, hj with
       | 0, hj => simp at hj; subst hj; simp [Addr.add]
      case c2 => intro u hu; simp at hu; subst hu; rfl
      case c3 => unfold maxLen; omega
      case c4 => omega
      case c5 => have := hb.size; simp; omega
      intro v' w1 hown' hgrow hnil'
      have hwd : wordB s.data.toList k = s.extract i s.size := by
       unfold wordB wordL
       rw [← hW.out.2.2, hW.out.1, hT.out.1]
      have hrs : behind s.data.toList (k + 1) = s.data.toList.drop s.size := by
       show restL _ = _
       unfold restL
       rw [← hW.out.2.2, hW.out.1, hT.out.2]
      have hown2 : w1.ownsRow w.heap.size 9 1 v' (k + 1) ((told s.data.toList (k + 1)).map Value.string) := by
       rw [told_succ, hwd]
       simpa using hown'
      have hnn2 : v' ≠ .slice none 0 0 := hnil'
      have hG : Good (told s.data.toList (k + 1)) := by
       rw [told_succ]
       intro y hy
       rcases List.mem_append.1 hy with hy | hy
       ·exact hW.out.2.1 y hy
       ·rw [List.mem_singleton] at hy
        subst hy
        rw [hwd]
        simp
        omega
      have hb' : Below w.heap.size w w1 := (hb.alloc hb.size _).grown hgrow (by have := hb.size; simp; omega) (fun g hg => (hown.lt g hg).1)
      have hH2 := Lib.hid (⟨hG, by rw [hrs]⟩ : Good (told s.data.toList (k + 1)) ∧ trimL (s.data.toList.drop s.size) = trimL (behind s.data.toList (k + 1)))
      clear hgrow hb hown hown' hnn hnil' hG hT hW hN
      go_wp2
      go_roundw
      case rel => exact ⟨s.size, k + 1, by omega, rfl, by omega, hown2, hnn2, hH2, hb'⟩
      case measure => simp [intOf]; omega
   ·have hT := Lib.hid (trim_blank s i hlt hbl)
    go_wp2_with (go_at_call 79; refine (blank_fn _ _).mono ?_; rintro e w1 ⟨rfl, rfl⟩)
    go_roundw
    case rel => exact ⟨i + 1, k, by omega, by go_num, by omega, hown, hnn, ⟨hH.out.1, hT.out.symm.trans hH.out.2⟩, hb⟩
    case measure => simp [intOf]; omega
  ·obtain rfl : i = s.size := by omega
   go_wp2
   go_ret
   refine ⟨_, k, rfl, hH.out.1, ?_, hown, hnn, hb⟩
   have := hH.out.2
   rw [List.drop_eq_nil_of_le (by simp)] at this
   unfold wordB wordL
   rw [← this]
   rfl
end Go.Proofs.YtboeaeoefoabdaaGreatDoor
namespace Go.Proofs.YtboeaeoefoabdaaGreatDoor
open Go.RowKit
def WordsAt (ws : List (List UInt8)) (w : World) (e : Ending) (w' : World) : Prop := ∃ g cap, e = .returned (.slice (some ⟨g, 0, none⟩) ws.length cap) ∧
 (∀ j (h : j < ws.length), w'.cell? ⟨g, j, none⟩ = some (.string ⟨ws[j].toArray⟩)) ∧ Below w.heap.size w w'
theorem spec_words_of (ws : List (List UInt8)) (hne : 0 < ws.length) (hok : ∀ w ∈ ws, w ≠ [] ∧ ∀ c ∈ w, bl c = false) (hs : (joinB ws).length ≤ 1048576) (w : World) :
  Calls Tryz.prog 41 #[.string ⟨(joinB ws).toArray⟩] w (WordsAt ws w) := by
 refine (spec_words ⟨(joinB ws).toArray⟩ (by rw [bsize]; omega) w).mono ?_
 rintro e w' ⟨v, k, rfl, h1, h2, h3, h4, h5⟩
 have e0 : (⟨(joinB ws).toArray⟩ : ByteArray).data.toList = joinB ws := List.toList_toArray
 rw [e0] at h1 h2 h3
 have ht := told_words _ hok
 have hk : k = ws.length := told_one h1 h2 (good_words _ hok) ht.2
 rw [hk, ht.1] at h3
 obtain ⟨g, cap, rfl⟩ : ∃ g cap, v = Value.slice (some ⟨g, 0, none⟩) ws.length cap := by
  rcases h3.2 with ⟨_, h0⟩ | ⟨g, cap, cur, h0, _⟩
  ·omega
  ·exact ⟨g, cap, h0⟩
 exact ⟨g, cap, rfl, fun j hj => by
  have := h3.cells (g := g) rfl j (.string ⟨ws[j].toArray⟩) (by simp [hj])
  cases j with
  | zero => simpa [Addr.add] using this
  | succ j => simpa [Addr.add] using this, h5⟩
theorem ok_words (ws : List (List UInt8)) (h : (ws.all fun w => w != [] && w.all fun c => !bl c) = true) : ∀ w ∈ ws, w ≠ [] ∧ ∀ c ∈ w, bl c = false := by
 intro w hw
 have h1 := List.all_eq_true.1 h w hw
 simp only [Bool.and_eq_true, bne_iff_ne, ne_eq] at h1
 exact ⟨h1.1, fun c hc => by simpa using List.all_eq_true.1 h1.2 c hc⟩
end Go.Proofs.YtboeaeoefoabdaaGreatDoor
namespace Go.Proofs.YtboeaeoefoabdaaGreatDoor
open Go.RowKit
theorem dig_yes (c : Int) (h : 48 ≤ c ∧ c ≤ 57) (w : World) : Calls Tryz.prog 110 #[.int .u8 c] w fun e w' => e = .returned (.bool true) ∧ w = w' := by
 obtain ⟨h1, h2⟩ := h
 go_enter Tryz.func110, Tryz.ntmps110
 go_wp2_with (go_in)
 go_ret
 exact ⟨rfl, rfl⟩
theorem dig_no (c : Int) (h0 : 0 ≤ c ∧ c ≤ 255) (h : ¬ (48 ≤ c ∧ c ≤ 57)) (w : World) : Calls Tryz.prog 110 #[.int .u8 c] w fun e w' => e = .returned (.bool false) ∧ w = w' := by
 obtain ⟨h1, h2⟩ := h0
 by_cases h3 : 48 ≤ c
 ·have h4 : ¬ c ≤ 57 := by omega
  go_enter Tryz.func110, Tryz.ntmps110
  go_wp2_with (go_in)
  go_ret
  exact ⟨rfl, rfl⟩
 ·go_enter Tryz.func110, Tryz.ntmps110
  go_wp2_with (go_in)
  go_ret
  exact ⟨rfl, rfl⟩
theorem take_snoc (s : ByteArray) (k : Nat) (h : k < s.size) : s.data.toList.take (k + 1) = s.data.toList.take k ++ [s[k]] := by
 rw [List.take_succ_eq_append_getElem (by simpa using h)]; rfl
theorem mem_byte (s : ByteArray) (k : Nat) (h : k < s.size) : s[k] ∈ s.data.toList := by
 have : s.data.toList[k]? = some s[k] := by simp [h]; rfl
 exact List.mem_of_getElem? this
theorem spec_hxv (c : Int) (h0 : 0 ≤ c ∧ c ≤ 255) (w : World) : Calls Tryz.prog 100 #[.int .u8 c] w fun e w' => e = .returned (.int .i64 (hxv c)) ∧ w = w' := by
 by_cases h1 : 48 ≤ c ∧ c ≤ 57
 ·have hx : hxv c = c - 48 := by unfold hxv; rw [if_pos h1]
  have hc := dig_yes c h1
  rw [hx]
  clear hx
  go_enter Tryz.func100, Tryz.ntmps100
  go_wp2_with (go_at_call 110; refine (hc _).mono ?_; rintro e w' ⟨rfl, rfl⟩)
  go_ret
  exact ⟨rfl, rfl⟩
 ·have hc := dig_no c h0 h1
  by_cases h2 : 65 ≤ c ∧ c ≤ 70
  ·have hx : hxv c = c - 55 := by unfold hxv; rw [if_neg h1, if_pos h2]
   rw [hx]
   have hy := fun w => hx_in_yes c 65 70 w h2.1 h2.2
   clear hx
   go_enter Tryz.func100, Tryz.ntmps100
   go_wp2_with (first
    | (go_at_call 110; refine (hc _).mono ?_; rintro e w' ⟨rfl, rfl⟩)
    | (go_at_call 82; refine (hy _).mono ?_; rintro e w' ⟨rfl, rfl⟩))
   go_ret
   exact ⟨rfl, rfl⟩
  ·have hn := fun w => hx_in_no c 65 70 w (by omega)
   by_cases h3 : 97 ≤ c ∧ c ≤ 102
   ·have hx : hxv c = c - 87 := by unfold hxv; rw [if_neg h1, if_neg h2, if_pos h3]
    rw [hx]
    have hy := fun w => hx_in_yes c 97 102 w h3.1 h3.2
    clear hx
    go_enter Tryz.func100, Tryz.ntmps100
    go_wp2_with (first
     | (go_at_call 110; refine (hc _).mono ?_; rintro e w' ⟨rfl, rfl⟩)
     | (go_at_call 82; (first | (with_reducible refine (hn _).mono ?_) | (with_reducible refine (hy _).mono ?_)); rintro e w' ⟨rfl, rfl⟩))
    go_ret
    exact ⟨rfl, rfl⟩
   ·have hx : hxv c = -1 := by unfold hxv; rw [if_neg h1, if_neg h2, if_neg h3]
    rw [hx]
    have hy := fun w => hx_in_no c 97 102 w (by omega)
    clear hx
    go_enter Tryz.func100, Tryz.ntmps100
    go_wp2_with (first
     | (go_at_call 110; refine (hc _).mono ?_; rintro e w' ⟨rfl, rfl⟩)
     | (go_at_call 82; (first | (with_reducible refine (hn _).mono ?_) | (with_reducible refine (hy _).mono ?_)); rintro e w' ⟨rfl, rfl⟩))
    go_ret
    exact ⟨rfl, rfl⟩
set_option maxRecDepth 100000 in
set_option maxHeartbeats 400000 in
theorem spec_rh (s : ByteArray) (hs : s.size ≤ maxLen) (w : World) :
  Calls Tryz.prog 101 #[.string s] w fun e w' => e = .returned (.int .i64 (rh s.data.toList)) ∧ w = w' := by
 unfold maxLen at hs
 have hlen : s.data.toList.length = s.size := by simp
 have H := Lib.hid hlen
 clear hlen
 go_enter Tryz.func101, Tryz.ntmps101
 go_wp2
 go_loop [3, 4] (fun v3 v4 => ∃ k : Nat, k ≤ s.size ∧ k ≤ 8 ∧ v4 = .int .i64 k ∧ HexOk (s.data.toList.take k) ∧ v3 = .int .i64 (hexNum (s.data.toList.take k))) (fun _ v4 => 8 - (RowKit.intOf v4).toNat)
 case atStart => exact ⟨0, by omega, by omega, rfl, fun c hc => by simp at hc, rfl⟩
 case round =>
  obtain ⟨k, hk, h8, rfl, hd, rfl⟩ := hrel
  have hbd := hexNum_bd _ hd (by simp; omega)
  by_cases hlt : k < s.size ∧ k < 8
  ·obtain ⟨hlt, hlt8⟩ := hlt
   have hb : 0 ≤ (s[k].toNat : Int) ∧ (s[k].toNat : Int) ≤ 255 := by have := s[k].toNat_lt; omega
   have hc := spec_hxv (s[k].toNat : Int) hb
   have hvb := hxv_bd s[k].toNat
   by_cases hv : 0 ≤ hxv s[k].toNat
   ·have hd' : HexOk (s.data.toList.take (k + 1)) := by
     rw [take_snoc s k hlt]
     intro c hc
     simp only [List.mem_append, List.mem_singleton] at hc
     rcases hc with hc | rfl
     ·exact hd c hc
     ·exact hv
    have HV : Hid (hexNum (s.data.toList.take (k + 1)) = 16 * hexNum (s.data.toList.take k) + hxv s[k].toNat) := by rw [take_snoc s k hlt, hexNum_snoc]; trivial
    clear hd
    go_wp2_with (go_at_call 100; refine (hc _).mono ?_; rintro e w' ⟨rfl, rfl⟩)
    go_round
    case rel =>
     refine ⟨k + 1, by omega, by omega, by go_num, hd', ?_⟩
     rw [HV.out]
    case measure => simp [RowKit.intOf]; omega
   ·have hr := rh_bad s.data.toList s[k] (mem_byte s k hlt) (by omega)
    go_wp2_with (go_at_call 100; refine (hc _).mono ?_; rintro e w' ⟨rfl, rfl⟩)
    go_ret
    exact ⟨by rw [hr]; rfl, rfl⟩
  ·by_cases hl : 1 ≤ s.size ∧ s.size ≤ 7
   ·obtain rfl : k = s.size := by omega
    have ht : s.data.toList.take s.size = s.data.toList := List.take_of_length_le (by rw [H.out]; omega)
    rw [ht] at hd hbd
    rw [ht]
    have hr := rh_yes _ hd (by rw [H.out]; omega) (by rw [H.out]; omega)
    have hy := fun w => hx_in_yes (s.size : Int) 1 7 w (by omega) (by omega)
    clear ht hlt
    go_wp2_with (go_at_call 82; refine (hy _).mono ?_; rintro e w' ⟨rfl, rfl⟩)
    go_ret
    exact ⟨by rw [hr]; rfl, rfl⟩
   ·have hr := rh_len s.data.toList (by rw [H.out]; omega)
    have hy := fun w => hx_in_no (s.size : Int) 1 7 w (by omega)
    by_cases hk2 : k < s.size
    ·obtain rfl : k = 8 := by omega
     clear hlt
     go_wp2_with (go_at_call 82; refine (hy _).mono ?_; rintro e w' ⟨rfl, rfl⟩)
     go_ret
     exact ⟨by rw [hr]; rfl, rfl⟩
    ·clear hlt
     go_wp2_with (go_at_call 82; refine (hy _).mono ?_; rintro e w' ⟨rfl, rfl⟩)
     go_ret
     exact ⟨by rw [hr]; rfl, rfl⟩
end Go.Proofs.YtboeaeoefoabdaaGreatDoor
