/-
  The walk of spec.Words: a new row of the words of a text; old memory stays as it was.
  Conditions: the text has at most 1048576 bytes.
-/
import Derived.Test.YtboeaeoefoabdaaGreatDoorWsA
import Derived.Test.YtboeaeoefoabdaaGreatDoorProg
import Derived.WalkKit
import Derived.ProofKit
import Derived.Handy
import Derived.Lib.Hide
import Derived.Laws.AppendOwn
import Derived.Deep.OwnRows
import Derived.WalkSpells
import Derived.Lib.Strings
namespace Go.Proofs.YtboeaeoefoabdaaGreatDoor
open Go.RowKit
theorem info9 : (Tryz.prog.info? 9).map (fun i => (i.zero, i.size, i.bytes)) = some (some (.string ⟨#[]⟩), 1, 16) := by kernel_rfl
theorem blank_fn (b : UInt8) (w : World) : Calls Tryz.prog 79 #[.int .u8 b.toNat] w fun e w' => e = .returned (.bool (bl b)) ∧ w = w' := by
  have hb : bl b = (((b.toNat : Int) == 32) || ((b.toNat : Int) == 9)) := by
    unfold bl
    rw [Bool.eq_iff_iff]
    simp [← UInt8.toNat_inj]
    omega
  rw [hb]
  clear hb
  go_enter Tryz.func79, Tryz.ntmps79
  cases h1 : ((b.toNat : Int) == 32) <;> cases h2 : ((b.toNat : Int) == 9)
  all_goals go_wp2
  all_goals go_ret
  all_goals exact ⟨rfl, rfl⟩
def SpecPost (s : ByteArray) (w : World) (e : Ending) (W' : World) : Prop := ∃ v k, e = .returned v ∧ Good (told s.data.toList k) ∧ (wordB s.data.toList k).size = 0 ∧ W'.ownsRow w.heap.size 9 1 v k ((told s.data.toList k).map Value.string) ∧ v ≠ .slice none 0 0 ∧ Below w.heap.size w W'
theorem drop_cons (s : ByteArray) (i : Nat) (h : i < s.size) : s.data.toList.drop i = s[i] :: s.data.toList.drop (i + 1) := by
  rw [List.drop_eq_getElem_cons (by simpa using h)]
  rfl
theorem trim_blank (s : ByteArray) (i : Nat) (h : i < s.size) (hb : bl s[i] = true) : trimL (s.data.toList.drop i) = trimL (s.data.toList.drop (i + 1)) := by
  rw [drop_cons s i h]; simp [trimL, hb]
theorem trim_word (s : ByteArray) (i : Nat) (h : i < s.size) (hb : bl s[i] = false) : trimL (s.data.toList.drop i) = s.data.toList.drop i := by
  rw [drop_cons s i h]; simp [trimL, hb]
/-- From i to e there is no blank. -/
def NoBl (s : ByteArray) (i e : Nat) : Prop := ∀ j, i ≤ j → j < e → ∀ h : j < s.size, bl s[j] = false
theorem NoBl.more {s : ByteArray} {i e : Nat} (h : NoBl s i e) (he : e < s.size) (hb : bl s[e] = false) : NoBl s i (e + 1) := by
  intro j h1 h2 h3
  by_cases h4 : j = e
  · subst h4; exact hb
  · exact h j h1 (by omega) h3
theorem take_word (s : ByteArray) (i e : Nat) (hie : i ≤ e) (he : e ≤ s.size) (hn : NoBl s i e) (hend : e = s.size ∨ ∃ h : e < s.size, bl s[e] = true) :
    (s.data.toList.drop i).takeWhile (fun b => !bl b) = (s.extract i e).data.toList ∧ (s.data.toList.drop i).dropWhile (fun b => !bl b) = s.data.toList.drop e := by
  have hx : (s.extract i e).data.toList = (s.data.toList.drop i).take (e - i) := by
    rw [Lib.extract_data]
  rw [hx]
  clear hx
  obtain ⟨d, rfl⟩ : ∃ d, e = i + d := ⟨e - i, by omega⟩
  rw [Nat.add_sub_cancel_left]
  induction d generalizing i with
  | zero =>
    rcases hend with h | ⟨h, hb⟩
    · rw [List.drop_eq_nil_of_le (by simp; omega)]; simp; omega
    · have h' : i < s.size := h
      have hb' : bl s[i] = true := hb
      rw [Nat.add_zero, drop_cons s i h']; simp [hb']
  | succ d ih =>
    have hi : i < s.size := by omega
    have hb := hn i (Nat.le_refl _) (by omega) hi
    obtain ⟨h1, h2⟩ := ih (i + 1) (by omega) (by omega) (fun j a b c => hn j (by omega) (by omega) c) (by rw [show i + 1 + d = i + (d + 1) by omega]; exact hend)
    rw [drop_cons s i hi]
    simp [hb, h1, h2, show i + 1 + d = i + (d + 1) by omega]
set_option maxRecDepth 100000 in
set_option maxHeartbeats 2000000 in
theorem spec_words (s : ByteArray) (hs : s.size ≤ 1048576) (w : World) : Calls Tryz.prog 41 #[.string s] w (SpecPost s w) := by
  obtain ⟨i0, hi, hz0, hz1, hz2⟩ := info_parts info9
  go_enter Tryz.func41, Tryz.ntmps41
  go_wp2
  go_loopw [3, 4] (fun v3 v4 wr => ∃ (i k : Nat), i ≤ s.size ∧ v4 = .int .i64 i ∧ k ≤ i ∧ wr.ownsRow w.heap.size 9 1 v3 k ((told s.data.toList k).map Value.string) ∧ v3 ≠ .slice none 0 0 ∧ Hid (Good (told s.data.toList k) ∧ trimL (s.data.toList.drop i) = trimL (behind s.data.toList k)) ∧ Below w.heap.size w wr)
    (fun _ v4 _ => s.size - (intOf v4).toNat)
  case atStart =>
    exact ⟨0, 0, by omega, rfl, by simp, World.ownsRow_lit _ #[] 0 (Nat.le_refl _) (by decide) rfl, by simp, ⟨by simp [Good, told], rfl⟩, (Below.refl _ _).alloc (Nat.le_refl _) _⟩
  case round =>
    obtain ⟨i, k, hik, rfl, hk, hown, hnn, hH, hb⟩ := hrel
    by_cases hlt : i < s.size
    · cases hbl : bl s[i]
      · go_wp2_with (go_at_call 79; refine (blank_fn _ _).mono ?_; rintro e w1 ⟨rfl, rfl⟩)
        have hW := Lib.hid (⟨trim_word s i hlt hbl, hH.out.1, hH.out.2⟩ : trimL (s.data.toList.drop i) = s.data.toList.drop i ∧ _ ∧ _)
        clear hH
        go_loopw [5] (fun v5 wr' => ∃ e : Nat, i ≤ e ∧ e ≤ s.size ∧ v5 = .int .i64 e ∧ Hid (NoBl s i e) ∧ wr' = wr) (fun v5 _ => s.size - (intOf v5).toNat)
        case atStart => exact ⟨i, Nat.le_refl _, hik, rfl, Lib.hid (fun j a b c => by omega), rfl⟩
        case round =>
          obtain ⟨e, hie, he, rfl, hN, rfl⟩ := hrel
          by_cases hle : e < s.size
          · cases hbe : bl s[e]
            · have hM := Lib.hid (hN.out.more hle hbe)
              go_wp2_with (go_at_call 79; refine (blank_fn _ _).mono ?_; rintro e w1 ⟨rfl, rfl⟩)
              go_roundw
              case rel => exact ⟨e + 1, by omega, by omega, by go_num, hM, trivial⟩
              case measure => simp [intOf]; omega
            · have hT := Lib.hid (take_word s i e hie he hN.out (.inr ⟨hle, hbe⟩))
              have hie2 : i < e := by
                rcases Nat.lt_or_ge i e with h | h
                · exact h
                · obtain rfl : i = e := by omega
                  rw [hbl] at hbe; cases hbe
              go_wp2_with (first
                  | (go_at_call 79; refine (blank_fn _ _).mono ?_; rintro e w1 ⟨rfl, rfl⟩)
                  | (at_builtin; refine wpList_append_own _ rfl _ _ 46 rfl w.heap.size 9 i0 (.string ⟨#[]⟩) 1 16 Tryz.underlying46 hi hz0 hz1 hz2 rfl (by decide) _ _ _ rfl (hown.alloc _) ⟨wr.heap.size, 0, none⟩ 1 1 [.string (s.extract i e)] rfl rfl ?c1 ?c2 ?c3 ?c4 ?c5 ?_))
              case c1 =>
                intro j u hj
                match j, hj with
                | 0, hj => simp at hj; subst hj; simp [Addr.add]
              case c2 => intro u hu; simp at hu; subst hu; rfl
              case c3 => unfold maxLen; omega
              case c4 => omega
              case c5 => have := hb.size; simp; omega
              intro v' w1 hown' hgrow hnil'
              have hwd : wordB s.data.toList k = s.extract i e := by
                unfold wordB wordL
                rw [← hW.out.2.2, hW.out.1, hT.out.1]
              have hrs : behind s.data.toList (k + 1) = s.data.toList.drop e := by
                show restL _ = _
                unfold restL
                rw [← hW.out.2.2, hW.out.1, hT.out.2]
              have hown2 : w1.ownsRow w.heap.size 9 1 v' (k + 1) ((told s.data.toList (k + 1)).map Value.string) := by
                rw [told_succ, hwd]
                simpa using hown'
              have hnn2 : v' ≠ .slice none 0 0 := hnil'
              have hG : Good (told s.data.toList (k + 1)) := by
                rw [told_succ]
                intro y hy
                rcases List.mem_append.1 hy with hy | hy
                · exact hW.out.2.1 y hy
                · rw [List.mem_singleton] at hy
                  subst hy
                  rw [hwd]
                  simp
                  omega
              have hb' : Below w.heap.size w w1 := (hb.alloc hb.size _).grown hgrow (by have := hb.size; simp; omega) (fun g hg => (hown.lt g hg).1)
              have hH2 := Lib.hid (⟨hG, by rw [hrs]⟩ : Good (told s.data.toList (k + 1)) ∧ trimL (s.data.toList.drop e) = trimL (behind s.data.toList (k + 1)))
              clear hgrow hb hown hown' hnn hnil' hG hT hW hN
              go_wp2
              go_roundw
              case rel => exact ⟨e, k + 1, by omega, rfl, by omega, hown2, hnn2, hH2, hb'⟩
              case measure => simp [intOf]; omega
          · obtain rfl : e = s.size := by omega
            have hT := Lib.hid (take_word s i s.size hie he hN.out (.inl rfl))
            go_wp2_with (at_builtin; refine wpList_append_own _ rfl _ _ 46 rfl w.heap.size 9 i0 (.string ⟨#[]⟩) 1 16 Tryz.underlying46 hi hz0 hz1 hz2 rfl (by decide) _ _ _ rfl (hown.alloc _) ⟨wr.heap.size, 0, none⟩ 1 1 [.string (s.extract i s.size)] rfl rfl ?c1 ?c2 ?c3 ?c4 ?c5 ?_)
            case c1 =>
              intro j u hj
              match j, hj with
              | 0, hj => simp at hj; subst hj; simp [Addr.add]
            case c2 => intro u hu; simp at hu; subst hu; rfl
            case c3 => unfold maxLen; omega
            case c4 => omega
            case c5 => have := hb.size; simp; omega
            intro v' w1 hown' hgrow hnil'
            have hwd : wordB s.data.toList k = s.extract i s.size := by
              unfold wordB wordL
              rw [← hW.out.2.2, hW.out.1, hT.out.1]
            have hrs : behind s.data.toList (k + 1) = s.data.toList.drop s.size := by
              show restL _ = _
              unfold restL
              rw [← hW.out.2.2, hW.out.1, hT.out.2]
            have hown2 : w1.ownsRow w.heap.size 9 1 v' (k + 1) ((told s.data.toList (k + 1)).map Value.string) := by
              rw [told_succ, hwd]
              simpa using hown'
            have hnn2 : v' ≠ .slice none 0 0 := hnil'
            have hG : Good (told s.data.toList (k + 1)) := by
              rw [told_succ]
              intro y hy
              rcases List.mem_append.1 hy with hy | hy
              · exact hW.out.2.1 y hy
              · rw [List.mem_singleton] at hy
                subst hy
                rw [hwd]
                simp
                omega
            have hb' : Below w.heap.size w w1 := (hb.alloc hb.size _).grown hgrow (by have := hb.size; simp; omega) (fun g hg => (hown.lt g hg).1)
            have hH2 := Lib.hid (⟨hG, by rw [hrs]⟩ : Good (told s.data.toList (k + 1)) ∧ trimL (s.data.toList.drop s.size) = trimL (behind s.data.toList (k + 1)))
            clear hgrow hb hown hown' hnn hnil' hG hT hW hN
            go_wp2
            go_roundw
            case rel => exact ⟨s.size, k + 1, by omega, rfl, by omega, hown2, hnn2, hH2, hb'⟩
            case measure => simp [intOf]; omega
      · have hT := Lib.hid (trim_blank s i hlt hbl)
        go_wp2_with (go_at_call 79; refine (blank_fn _ _).mono ?_; rintro e w1 ⟨rfl, rfl⟩)
        go_roundw
        case rel => exact ⟨i + 1, k, by omega, by go_num, by omega, hown, hnn, ⟨hH.out.1, hT.out.symm.trans hH.out.2⟩, hb⟩
        case measure => simp [intOf]; omega
    · obtain rfl : i = s.size := by omega
      go_wp2
      go_ret
      refine ⟨_, k, rfl, hH.out.1, ?_, hown, hnn, hb⟩
      have := hH.out.2
      rw [List.drop_eq_nil_of_le (by simp)] at this
      unfold wordB wordL
      rw [← this]
      rfl
end Go.Proofs.YtboeaeoefoabdaaGreatDoor
