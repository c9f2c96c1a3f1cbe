/-
  Texts put together by program: WsB, WsC, NeL, TbE, TbC, TbD, BvA, BvB.
  Conditions: as each theorem says.
-/
import Derived.WalkSpells
import Derived.Test.YthklebkpoccblaaGreatRqac
namespace Go.Proofs.YthklebkpoccblaaGreat
open Go.RowKit
theorem info9 : (Tryz.prog.info? 9).map (fun i => (i.zero, i.size, i.bytes)) = some (some (.string ⟨#[]⟩), 1, 16) := by kernel_rfl
theorem blank_fn (b : UInt8) (w : World) : Calls Tryz.prog 124 #[.int .u8 b.toNat] w fun e w' => e = .returned (.bool (bl b)) ∧ w = w' := by
 have hb : bl b = (((b.toNat : Int) == 32) || ((b.toNat : Int) == 9)) := by
  unfold bl
  rw [Bool.eq_iff_iff]
  simp [← UInt8.toNat_inj]
  omega
 rw [hb]
 clear hb
 go_enter Tryz.func124, Tryz.ntmps124
 cases h1 : ((b.toNat : Int) == 32) <;> cases h2 : ((b.toNat : Int) == 9)
 all_goals go_wp2
 all_goals go_ret
 all_goals exact ⟨rfl, rfl⟩
def SpecPost (s : ByteArray) (w : World) (e : Ending) (W' : World) : Prop := ∃ v k, e = .returned v ∧ Good (told s.data.toList k) ∧ (wordB s.data.toList k).size = 0 ∧ W'.ownsRow w.heap.size 9 1 v k ((told s.data.toList k).map Value.string) ∧ v ≠ .slice none 0 0 ∧ Below w.heap.size w W'
theorem drop_cons (s : ByteArray) (i : Nat) (h : i < s.size) : s.data.toList.drop i = s[i] :: s.data.toList.drop (i + 1) := by
 rw [List.drop_eq_getElem_cons (by simpa using h)]
 rfl
theorem trim_blank (s : ByteArray) (i : Nat) (h : i < s.size) (hb : bl s[i] = true) : trimL (s.data.toList.drop i) = trimL (s.data.toList.drop (i + 1)) := by
 rw [drop_cons s i h]; simp [trimL, hb]
theorem trim_word (s : ByteArray) (i : Nat) (h : i < s.size) (hb : bl s[i] = false) : trimL (s.data.toList.drop i) = s.data.toList.drop i := by
 rw [drop_cons s i h]; simp [trimL, hb]
def NoBl (s : ByteArray) (i e : Nat) : Prop := ∀ j, i ≤ j → j < e → ∀ h : j < s.size, bl s[j] = false
theorem NoBl.more {s : ByteArray} {i e : Nat} (h : NoBl s i e) (he : e < s.size) (hb : bl s[e] = false) : NoBl s i (e + 1) := by
 intro j h1 h2 h3
 by_cases h4 : j = e
 ·subst h4; exact hb
 ·exact h j h1 (by omega) h3
theorem take_word (s : ByteArray) (i e : Nat) (hie : i ≤ e) (he : e ≤ s.size) (hn : NoBl s i e) (hend : e = s.size ∨ ∃ h : e < s.size, bl s[e] = true) :
  (s.data.toList.drop i).takeWhile (fun b => !bl b) = (s.extract i e).data.toList ∧ (s.data.toList.drop i).dropWhile (fun b => !bl b) = s.data.toList.drop e := by
 have hx : (s.extract i e).data.toList = (s.data.toList.drop i).take (e - i) := by
  rw [Lib.extract_data]
 rw [hx]
 clear hx
 obtain ⟨d, rfl⟩ : ∃ d, e = i + d := ⟨e - i, by omega⟩
 rw [Nat.add_sub_cancel_left]
 induction d generalizing i with
 | zero =>
  rcases hend with h | ⟨h, hb⟩
  ·rw [List.drop_eq_nil_of_le (by simp; omega)]; simp; omega
  ·have h' : i < s.size := h
   have hb' : bl s[i] = true := hb
   rw [Nat.add_zero, drop_cons s i h']; simp [hb']
 | succ d ih =>
  have hi : i < s.size := by omega
  have hb := hn i (Nat.le_refl _) (by omega) hi
  obtain ⟨h1, h2⟩ := ih (i + 1) (by omega) (by omega) (fun j a b c => hn j (by omega) (by omega) c) (by rw [show i + 1 + d = i + (d + 1) by omega]; exact hend)
  rw [drop_cons s i hi]
  simp [hb, h1, h2, show i + 1 + d = i + (d + 1) by omega]
set_option maxRecDepth 100000 in
set_option maxHeartbeats 2000000 in
theorem spec_words (s : ByteArray) (hs : s.size ≤ 1048576) (w : World) : Calls Tryz.prog 95 #[.string s] w (SpecPost s w) := by
 obtain ⟨i0, hi, hz0, hz1, hz2⟩ := info_parts info9
 go_enter Tryz.func95, Tryz.ntmps95
 go_wp2
 go_loopw [3, 4] (fun v3 v4 wr => ∃ (i k : Nat), i ≤ s.size ∧ v4 = .int .i64 i ∧ k ≤ i ∧ wr.ownsRow w.heap.size 9 1 v3 k ((told s.data.toList k).map Value.string) ∧ v3 ≠ .slice none 0 0 ∧ Hid (Good (told s.data.toList k) ∧ trimL (s.data.toList.drop i) = trimL (behind s.data.toList k)) ∧ Below w.heap.size w wr)
  (fun _ v4 _ => s.size - (intOf v4).toNat)
 case atStart =>
  exact ⟨0, 0, by omega, rfl, by simp, World.ownsRow_lit _ #[] 0 (Nat.le_refl _) (by decide) rfl, by simp, ⟨by simp [Good, told], rfl⟩, (Below.refl _ _).alloc (Nat.le_refl _) _⟩
 case round =>
  obtain ⟨i, k, hik, rfl, hk, hown, hnn, hH, hb⟩ := hrel
  by_cases hlt : i < s.size
  ·cases hbl : bl s[i]
   ·go_wp2_with (go_at_call 124; refine (blank_fn _ _).mono ?_; rintro e w1 ⟨rfl, rfl⟩)
    have hW := Lib.hid (⟨trim_word s i hlt hbl, hH.out.1, hH.out.2⟩ : trimL (s.data.toList.drop i) = s.data.toList.drop i ∧ _ ∧ _)
    clear hH
    go_loopw [5] (fun v5 wr' => ∃ e : Nat, i ≤ e ∧ e ≤ s.size ∧ v5 = .int .i64 e ∧ Hid (NoBl s i e) ∧ wr' = wr) (fun v5 _ => s.size - (intOf v5).toNat)
    case atStart => exact ⟨i, Nat.le_refl _, hik, rfl, Lib.hid (fun j a b c => by omega), rfl⟩
    case round =>
     obtain ⟨e, hie, he, rfl, hN, rfl⟩ := hrel
     by_cases hle : e < s.size
     ·cases hbe : bl s[e]
      ·have hM := Lib.hid (hN.out.more hle hbe)
       go_wp2_with (go_at_call 124; refine (blank_fn _ _).mono ?_; rintro e w1 ⟨rfl, rfl⟩)
       go_roundw
       case rel => exact ⟨e + 1, by omega, by omega, by go_num, hM, trivial⟩
       case measure => simp [intOf]; omega
      ·have hT := Lib.hid (take_word s i e hie he hN.out (.inr ⟨hle, hbe⟩))
       have hie2 : i < e := by
        rcases Nat.lt_or_ge i e with h | h
        ·exact h
        ·obtain rfl : i = e := by omega
         rw [hbl] at hbe; cases hbe
       go_wp2_with (first
         | (go_at_call 124; refine (blank_fn _ _).mono ?_; rintro e w1 ⟨rfl, rfl⟩)
         | (at_builtin; refine wpList_append_own _ rfl _ _ 111 rfl w.heap.size 9 i0 (.string ⟨#[]⟩) 1 16 Tryz.underlying111 hi hz0 hz1 hz2 rfl (by decide) _ _ _ rfl (hown.alloc _) ⟨wr.heap.size, 0, none⟩ 1 1 [.string (s.extract i e)] rfl rfl ?c1 ?c2 ?c3 ?c4 ?c5 ?_))
       case c1 =>
        intro j u hj
        match j, hj with
        | 0, hj => simp at hj; subst hj; simp [Addr.add]
       case c2 => intro u hu; simp at hu; subst hu; rfl
       case c3 => unfold maxLen; omega
       case c4 => omega
       case c5 => have := hb.size; simp; omega
       intro v' w1 hown' hgrow hnil'
       have hwd : wordB s.data.toList k = s.extract i e := by
        unfold wordB wordL
        rw [← hW.out.2.2, hW.out.1, hT.out.1]
       have hrs : behind s.data.toList (k + 1) = s.data.toList.drop e := by
        show restL _ = _
        unfold restL
        rw [← hW.out.2.2, hW.out.1, hT.out.2]
       have hown2 : w1.ownsRow w.heap.size 9 1 v' (k + 1) ((told s.data.toList (k + 1)).map Value.string) := by
        rw [told_succ, hwd]
        simpa using hown'
       have hnn2 : v' ≠ .slice none 0 0 := hnil'
       have hG : Good (told s.data.toList (k + 1)) := by
        rw [told_succ]
        intro y hy
        rcases List.mem_append.1 hy with hy | hy
        ·exact hW.out.2.1 y hy
        ·rw [List.mem_singleton] at hy
         subst hy
         rw [hwd]
         simp
         omega
       have hb' : Below w.heap.size w w1 := (hb.alloc hb.size _).grown hgrow (by have := hb.size; simp; omega) (fun g hg => (hown.lt g hg).1)
       have hH2 := Lib.hid (⟨hG, by rw [hrs]⟩ : Good (told s.data.toList (k + 1)) ∧ trimL (s.data.toList.drop e) = trimL (behind s.data.toList (k + 1)))
       clear hgrow hb hown hown' hnn hnil' hG hT hW hN
       go_wp2
       go_roundw
       case rel => exact ⟨e, k + 1, by omega, rfl, by omega, hown2, hnn2, hH2, hb'⟩
       case measure => simp [intOf]; omega
     ·obtain rfl : e = s.size := by omega
      have hT := Lib.hid (take_word s i s.size hie he hN.out (.inl rfl))
      go_wp2_with (at_builtin; refine wpList_append_own _ rfl _ _ 111 rfl w.heap.size 9 i0 (.string ⟨#[]⟩) 1 16 Tryz.underlying111 hi hz0 hz1 hz2 rfl (by decide) _ _ _ rfl (hown.alloc _) ⟨wr.heap.size, 0, none⟩ 1 1 [.string (s.extract i s.size)] rfl rfl ?c1 ?c2 ?c3 ?c4 ?c5 ?_)
      case c1 =>
       intro j u hj
       match j, hj with
       | 0, hj => simp at hj; subst hj; simp [Addr.add]
      case c2 => intro u hu; simp at hu; subst hu; rfl
      case c3 => unfold maxLen; omega
      case c4 => omega
      case c5 => have := hb.size; simp; omega
      intro v' w1 hown' hgrow hnil'
      have hwd : wordB s.data.toList k = s.extract i s.size := by
       unfold wordB wordL
       rw [← hW.out.2.2, hW.out.1, hT.out.1]
      have hrs : behind s.data.toList (k + 1) = s.data.toList.drop s.size := by
       show restL _ = _
       unfold restL
       rw [← hW.out.2.2, hW.out.1, hT.out.2]
      have hown2 : w1.ownsRow w.heap.size 9 1 v' (k + 1) ((told s.data.toList (k + 1)).map Value.string) := by
       rw [told_succ, hwd]
       simpa using hown'
      have hnn2 : v' ≠ .slice none 0 0 := hnil'
      have hG : Good (told s.data.toList (k + 1)) := by
       rw [told_succ]
       intro y hy
       rcases List.mem_append.1 hy with hy | hy
       ·exact hW.out.2.1 y hy
       ·rw [List.mem_singleton] at hy
        subst hy
        rw [hwd]
        simp
        omega
      have hb' : Below w.heap.size w w1 := (hb.alloc hb.size _).grown hgrow (by have := hb.size; simp; omega) (fun g hg => (hown.lt g hg).1)
      have hH2 := Lib.hid (⟨hG, by rw [hrs]⟩ : Good (told s.data.toList (k + 1)) ∧ trimL (s.data.toList.drop s.size) = trimL (behind s.data.toList (k + 1)))
      clear hgrow hb hown hown' hnn hnil' hG hT hW hN
      go_wp2
      go_roundw
      case rel => exact ⟨s.size, k + 1, by omega, rfl, by omega, hown2, hnn2, hH2, hb'⟩
      case measure => simp [intOf]; omega
   ·have hT := Lib.hid (trim_blank s i hlt hbl)
    go_wp2_with (go_at_call 124; refine (blank_fn _ _).mono ?_; rintro e w1 ⟨rfl, rfl⟩)
    go_roundw
    case rel => exact ⟨i + 1, k, by omega, by go_num, by omega, hown, hnn, ⟨hH.out.1, hT.out.symm.trans hH.out.2⟩, hb⟩
    case measure => simp [intOf]; omega
  ·obtain rfl : i = s.size := by omega
   go_wp2
   go_ret
   refine ⟨_, k, rfl, hH.out.1, ?_, hown, hnn, hb⟩
   have := hH.out.2
   rw [List.drop_eq_nil_of_le (by simp)] at this
   unfold wordB wordL
   rw [← this]
   rfl
end Go.Proofs.YthklebkpoccblaaGreat
namespace Go.Proofs.YthklebkpoccblaaGreat
open Go.RowKit
def WordsAt (ws : List (List UInt8)) (w : World) (e : Ending) (w' : World) : Prop := ∃ g cap, e = .returned (.slice (some ⟨g, 0, none⟩) ws.length cap) ∧
 (∀ j (h : j < ws.length), w'.cell? ⟨g, j, none⟩ = some (.string ⟨ws[j].toArray⟩)) ∧ Below w.heap.size w w'
theorem spec_words_of (ws : List (List UInt8)) (hne : 0 < ws.length) (hok : ∀ w ∈ ws, w ≠ [] ∧ ∀ c ∈ w, bl c = false) (hs : (joinB ws).length ≤ 1048576) (w : World) :
  Calls Tryz.prog 95 #[.string ⟨(joinB ws).toArray⟩] w (WordsAt ws w) := by
 refine (spec_words ⟨(joinB ws).toArray⟩ (by rw [bsize]; omega) w).mono ?_
 rintro e w' ⟨v, k, rfl, h1, h2, h3, h4, h5⟩
 have e0 : (⟨(joinB ws).toArray⟩ : ByteArray).data.toList = joinB ws := List.toList_toArray
 rw [e0] at h1 h2 h3
 have ht := told_words _ hok
 have hk : k = ws.length := told_one h1 h2 (good_words _ hok) ht.2
 rw [hk, ht.1] at h3
 obtain ⟨g, cap, rfl⟩ : ∃ g cap, v = Value.slice (some ⟨g, 0, none⟩) ws.length cap := by
  rcases h3.2 with ⟨_, h0⟩ | ⟨g, cap, cur, h0, _⟩
  ·omega
  ·exact ⟨g, cap, h0⟩
 exact ⟨g, cap, rfl, fun j hj => by
  have := h3.cells (g := g) rfl j (.string ⟨ws[j].toArray⟩) (by simp [hj])
  cases j with
  | zero => simpa [Addr.add] using this
  | succ j => simpa [Addr.add] using this, h5⟩
theorem ok_words (ws : List (List UInt8)) (h : (ws.all fun w => w != [] && w.all fun c => !bl c) = true) : ∀ w ∈ ws, w ≠ [] ∧ ∀ c ∈ w, bl c = false := by
 intro w hw
 have h1 := List.all_eq_true.1 h w hw
 simp only [Bool.and_eq_true, bne_iff_ne, ne_eq] at h1
 exact ⟨h1.1, fun c hc => by simpa using List.all_eq_true.1 h1.2 c hc⟩
end Go.Proofs.YthklebkpoccblaaGreat
namespace Go.Proofs.YthklebkpoccblaaGreat
theorem eq_no {a b : ByteArray} (h : ¬ a = b) : (a.toList == b.toList) = false := by
 rw [beq_eq_false_iff_ne]
 intro e
 rw [ByteArray.toList_eq, ByteArray.toList_eq] at e
 exact h (ByteArray.ext (Array.toList_inj.mp e))
theorem ne_list {x : ByteArray} (l : List UInt8) (h : ¬ x = ⟨l.toArray⟩) : (x.toList == l) = false := by
 have := eq_no h
 rw [ByteArray.toList_eq (⟨l.toArray⟩ : ByteArray)] at this
 exact this
theorem ne_list' {x : ByteArray} (l : List UInt8) (h : ¬ x = ⟨l.toArray⟩) : (l == x.toList) = false := by
 have := ne_list l h
 rw [beq_eq_false_iff_ne] at this ⊢
 exact fun e => this e.symm
end Go.Proofs.YthklebkpoccblaaGreat
namespace Go.Proofs.YthklebkpoccblaaGreat
def inB (x : ByteArray) (ws : List (List UInt8)) : Bool := ws.any fun w => decide ((⟨w.toArray⟩ : ByteArray) = x)
theorem inB_at (x : ByteArray) (ws : List (List UInt8)) : (∀ k (h : k < ws.length), (⟨ws[k].toArray⟩ : ByteArray) = x → inB x ws = true) ∧ ((∀ k (h : k < ws.length), (⟨ws[k].toArray⟩ : ByteArray) ≠ x) → inB x ws = false) := by
 constructor
 ·intro k h e
  exact List.any_eq_true.2 ⟨ws[k], List.getElem_mem h, by simpa using e⟩
 ·intro h
  unfold inB
  rw [List.any_eq_false]
  intro w hw
  obtain ⟨k, hk, rfl⟩ := List.mem_iff_getElem.1 hw
  simpa using h k hk
def ws1 : List (List UInt8) := [[105, 109, 112], [97, 99, 99]]
def ws3 : List (List UInt8) := [[97, 98, 115], [97, 98, 120], [97, 98, 121], [105, 110, 100]]
def ws2 : List (List UInt8) := [[105, 109, 109], [122, 112, 103], [122, 112, 120], [122, 112, 121], [105, 110, 120], [105, 110, 121], [114, 101, 108]]
def wsOwn : List (List UInt8) := [[105, 109, 112], [97, 99, 99], [114, 101, 108]]
def wsJ : List (List UInt8) := [[74, 77, 80], [74, 83, 82]]
def wsSt : List (List UInt8) := [[83, 84, 65], [83, 84, 88], [83, 84, 89]]
def wsMo : List (List UInt8) := [[65, 83, 76], [76, 83, 82], [82, 79, 76], [82, 79, 82], [73, 78, 67], [68, 69, 67]]
def modeSz (m : ByteArray) : Int := if inB m ws1 then 1 else if inB m ws3 then 3 else if inB m ws2 then 2 else 0
def kindI (a b : ByteArray) : Int := if codeOf a b < 0 then 3 else if inB b wsOwn then 3 else if inB a wsJ then 3 else if inB a wsSt then 1 else if inB a wsMo then 2 else 0
end Go.Proofs.YthklebkpoccblaaGreat
namespace Go.Proofs.YthklebkpoccblaaGreat
open Go.RowKit
theorem rh_two (c : Nat) (h : c < 256) : rh (hexl (c : Int) 2) = c := by
 rw [rh_hexl _ 2 (by omega) (by omega), show (16 : Int) ^ 2 = 256 by decide]
 omega
set_option maxRecDepth 100000 in
set_option maxHeartbeats 400000 in
theorem spec_codeOf (a b : ByteArray) (w : World) :
  Calls Tryz.prog 70 #[.string a, .string b] w fun e w' => e = .returned (.int .i64 (codeOf a b)) ∧ w = w' := by
 have hs := tabS_size
 have ht := Lib.hid table_says
 have hx := Lib.hid tab_row
 have hl := Lib.hid rows_length
 have hc := Lib.hid (tab_cuts tabS hs)
 generalize tabS = T at *
 go_enter Tryz.func70, Tryz.ntmps70
 go_wp2_with (go_at_call 64; refine (ht.out _).mono ?_; rintro e w' ⟨rfl, rfl⟩)
 go_loopw [6] (fun v5 wr => ∃ i k : Nat, k ≤ 151 ∧ i = 11 * k ∧ v5 = .int .i64 (i : Int) ∧ Hid (∀ j (hj : j < opRows.length), j < k → ¬ (nmR opRows[j] = a ∧ mdR opRows[j] = b)) ∧ wr = w) (fun v5 _ => 1661 - (intOf v5).toNat)
 case atStart => exact ⟨0, 0, by omega, rfl, rfl, Lib.hid (fun j _ hj => absurd hj (Nat.not_lt_zero _)), rfl⟩
 case round =>
  obtain ⟨i, k, hk, hik, rfl, hp, rfl⟩ := hrel
  by_cases hlt : k < 151
  ·have hkl : k < opRows.length := by rw [hl.out]; exact hlt
   obtain ⟨x1, x2, x3⟩ := hx.out k hkl
   rw [← hik] at x1 x2 x3
   obtain ⟨c1, c2, c3⟩ := hc.out i (by omega) _ _ _ x1 x2 x3
   have HI := Lib.hid hik
   have h0 : (0 : Int) ≤ (i : Int) := by omega
   have h1 : (i : Int) < (1661 : Int) := by omega
   have hr := rh_two opRows[k].1 (rows_ok _ (List.getElem_mem hkl)).1
   have hhit := codeOf_hit a b k hkl
   have hp2 : ∀ j (hj : j < k), ¬ (nmR opRows[j] = a ∧ mdR opRows[j] = b) := fun j hj => hp.out j (by omega) hj
   have hd : nmR opRows[k] = ⟨opRows[k].2.1.toArray⟩ ∧ mdR opRows[k] = ⟨opRows[k].2.2.toArray⟩ := ⟨rfl, rfl⟩
   rw [← hd.1] at c2
   rw [← hd.2] at c3
   have hrc := fun w => spec_rh ⟨(hexl (opRows[k].1 : Int) 2).toArray⟩ (by rw [bsize, hexl_length]; decide) w
   have hR : (⟨(hexl (opRows[k].1 : Int) 2).toArray⟩ : ByteArray).data.toList = hexl (opRows[k].1 : Int) 2 := List.toList_toArray
   rw [hR, hr] at hrc
   have HRC := Lib.hid hrc
   clear hrc hR hr
   generalize (⟨(hexl (opRows[k].1 : Int) 2).toArray⟩ : ByteArray) = R at *
   by_cases he : nmR opRows[k] = a
   ·by_cases hf : mdR opRows[k] = b
    ·have hH := Lib.hid (hhit he hf hp2)
     subst he
     subst hf
     clear hhit hp2 hd x1 x2 x3 hik hp
     go_wp2_with (go_at_call 94; refine (HRC.out _).mono ?_; rintro e w' ⟨rfl, rfl⟩)
     go_ret
     exact ⟨by rw [hH.out]; rfl, rfl⟩
    ·have hne := eq_no hf
     have hp3 := Lib.hid (fun j (hj : j < opRows.length) (hjk : j < k + 1) => (by
      by_cases hj2 : j = k
      ·subst hj2; exact fun h => hf h.2
      ·exact hp.out j hj (by omega) : ¬ (nmR opRows[j] = a ∧ mdR opRows[j] = b)))
     subst he
     clear hhit hp2 hd x1 x2 x3 hik hp hf
     go_wp2
     go_roundw
     case rel => exact ⟨i + 11, k + 1, by omega, by have := HI.out; omega, by go_num, hp3, trivial⟩
     case measure => simp [intOf]; omega
   ·have hne := eq_no he
    have hp3 := Lib.hid (fun j (hj : j < opRows.length) (hjk : j < k + 1) => (by
     by_cases hj2 : j = k
     ·subst hj2; exact fun h => he h.1
     ·exact hp.out j hj (by omega) : ¬ (nmR opRows[j] = a ∧ mdR opRows[j] = b)))
    clear hhit hp2 hd x1 x2 x3 hik hp he
    go_wp2
    go_roundw
    case rel => exact ⟨i + 11, k + 1, by omega, by have := HI.out; omega, by go_num, hp3, trivial⟩
    case measure => simp [intOf]; omega
  ·obtain rfl : k = 151 := by omega
   have hm := Lib.hid (codeOf_miss a b (fun j hj => hp.out j hj (by have := hl.out; omega)))
   have h1 : ¬ (i : Int) < (1661 : Int) := by omega
   go_wp2
   go_ret
   exact ⟨by rw [hm.out]; rfl, rfl⟩
end Go.Proofs.YthklebkpoccblaaGreat
namespace Go.Proofs.YthklebkpoccblaaGreat
open Go.RowKit
set_option maxRecDepth 100000 in
set_option maxHeartbeats 400000 in
theorem spec_is (x : ByteArray) (ws : List (List UInt8)) (hne : 0 < ws.length) (hok : ∀ w ∈ ws, w ≠ [] ∧ ∀ c ∈ w, bl c = false) (hs : (joinB ws).length ≤ 1048576) (hn : ws.length ≤ 1000) (w : World) :
  Calls Tryz.prog 71 #[.string x, .string ⟨(joinB ws).toArray⟩] w fun e w' => e = .returned (.bool (inB x ws)) ∧ Below w.heap.size w w' := by
 have hw := Lib.hid (spec_words_of ws hne hok hs)
 clear hne hok hs
 generalize (⟨(joinB ws).toArray⟩ : ByteArray) = J at *
 have hin := Lib.hid (inB_at x ws)
 obtain ⟨n, hlen⟩ : ∃ n, n = ws.length := ⟨_, rfl⟩
 have HL := Lib.hid hlen
 go_enter Tryz.func71, Tryz.ntmps71
 go_wp2_with (go_at_call 95; refine (hw.out _).mono ?_; rintro e w' ⟨g, cap, rfl, hc, hb⟩; refine Hid.out ?_)
 rw [← hlen]
 have HC := Lib.hid hc
 have HB := Lib.hid hb
 clear hc hb hw
 rw [← hlen] at hn
 clear hlen
 refine Lib.hid ?_
 go_wp2
 go_loopw [6] (fun v4 wr => ∃ k : Nat, k ≤ n ∧ v4 = .int .i64 (k : Int) ∧ Hid (∀ j (hj : j < ws.length), j < k → (⟨ws[j].toArray⟩ : ByteArray) ≠ x) ∧ wr = w') (fun v4 _ => n - (intOf v4).toNat)
 case atStart => exact ⟨0, by omega, rfl, Lib.hid (fun j _ hj => absurd hj (Nat.not_lt_zero _)), rfl⟩
 case round =>
  obtain ⟨k, hk, rfl, hp, rfl⟩ := hrel
  by_cases hlt : k < n
  ·have hkl : k < ws.length := by rw [← HL.out]; exact hlt
   have h0 := HC.out k hkl
   have hh := hin.out
   by_cases he : (⟨ws[k].toArray⟩ : ByteArray) = x
   ·have hH := Lib.hid (hh.1 k hkl he)
    subst he
    clear hh hp
    go_wp2
    go_ret
    exact ⟨by rw [hH.out]; rfl, HB.out⟩
   ·have hne := eq_no he
    have hp3 := Lib.hid (fun j (hj : j < ws.length) (hjk : j < k + 1) => (by
     by_cases hj2 : j = k
     ·subst hj2; exact he
     ·exact hp.out j hj (by omega) : (⟨ws[j].toArray⟩ : ByteArray) ≠ x))
    clear hh hp he
    generalize (⟨ws[k].toArray⟩ : ByteArray) = R at *
    go_wp2
    go_roundw
    case rel => exact ⟨k + 1, by omega, by go_num, hp3, trivial⟩
    case measure => simp [intOf]; omega
  ·obtain rfl : k = n := by omega
   have hH := Lib.hid (hin.out.2 (fun j hj => hp.out j hj (by rw [HL.out]; exact hj)))
   go_wp2
   go_ret
   exact ⟨by rw [hH.out]; rfl, HB.out⟩
theorem is_1 (x : ByteArray) (w : World) : Calls Tryz.prog 71 #[.string x, .string ⟨#[105, 109, 112, 32, 97, 99, 99]⟩] w fun e w' => e = .returned (.bool (inB x ws1)) ∧ Below w.heap.size w w' :=
 spec_is x ws1 (by decide) (ok_words _ (by decide)) (by decide) (by decide) w
theorem is_3 (x : ByteArray) (w : World) : Calls Tryz.prog 71 #[.string x, .string ⟨#[97, 98, 115, 32, 97, 98, 120, 32, 97, 98, 121, 32, 105, 110, 100]⟩] w fun e w' => e = .returned (.bool (inB x ws3)) ∧ Below w.heap.size w w' :=
 spec_is x ws3 (by decide) (ok_words _ (by decide)) (by decide) (by decide) w
theorem is_2 (x : ByteArray) (w : World) : Calls Tryz.prog 71 #[.string x, .string ⟨#[105, 109, 109, 32, 122, 112, 103, 32, 122, 112, 120, 32, 122, 112, 121, 32, 105, 110, 120, 32, 105, 110, 121, 32, 114, 101, 108]⟩] w fun e w' => e = .returned (.bool (inB x ws2)) ∧ Below w.heap.size w w' :=
 spec_is x ws2 (by decide) (ok_words _ (by decide)) (by decide) (by decide) w
theorem is_own (x : ByteArray) (w : World) : Calls Tryz.prog 71 #[.string x, .string ⟨#[105, 109, 112, 32, 97, 99, 99, 32, 114, 101, 108]⟩] w fun e w' => e = .returned (.bool (inB x wsOwn)) ∧ Below w.heap.size w w' :=
 spec_is x wsOwn (by decide) (ok_words _ (by decide)) (by decide) (by decide) w
theorem is_j (x : ByteArray) (w : World) : Calls Tryz.prog 71 #[.string x, .string ⟨#[74, 77, 80, 32, 74, 83, 82]⟩] w fun e w' => e = .returned (.bool (inB x wsJ)) ∧ Below w.heap.size w w' :=
 spec_is x wsJ (by decide) (ok_words _ (by decide)) (by decide) (by decide) w
theorem is_st (x : ByteArray) (w : World) : Calls Tryz.prog 71 #[.string x, .string ⟨#[83, 84, 65, 32, 83, 84, 88, 32, 83, 84, 89]⟩] w fun e w' => e = .returned (.bool (inB x wsSt)) ∧ Below w.heap.size w w' :=
 spec_is x wsSt (by decide) (ok_words _ (by decide)) (by decide) (by decide) w
theorem is_mo (x : ByteArray) (w : World) : Calls Tryz.prog 71 #[.string x, .string ⟨#[65, 83, 76, 32, 76, 83, 82, 32, 82, 79, 76, 32, 82, 79, 82, 32, 73, 78, 67, 32, 68, 69, 67]⟩] w fun e w' => e = .returned (.bool (inB x wsMo)) ∧ Below w.heap.size w w' :=
 spec_is x wsMo (by decide) (ok_words _ (by decide)) (by decide) (by decide) w
set_option maxRecDepth 100000 in
theorem spec_modeSize (m : ByteArray) (w : World) :
  Calls Tryz.prog 128 #[.string m] w fun e w' => e = .returned (.int .i64 (modeSz m)) ∧ Below w.heap.size w w' := by
 have i1 := is_1 m
 have i3 := is_3 m
 have i2 := is_2 m
 have hd : modeSz m = if inB m ws1 then 1 else if inB m ws3 then 3 else if inB m ws2 then 2 else 0 := rfl
 cases h1 : inB m ws1
 all_goals cases h3 : inB m ws3
 all_goals cases h2 : inB m ws2
 all_goals
  rw [h1] at i1
  rw [h3] at i3
  rw [h2] at i2
  rw [h1, h3, h2] at hd
  have HD := Lib.hid hd
  clear hd
  have I1 := Lib.hid i1
  have I2 := Lib.hid i2
  have I3 := Lib.hid i3
  clear i1 i2 i3
  go_enter Tryz.func128, Tryz.ntmps128
  go_wp2_with (first
   | (go_at_call 71; (with_reducible refine (I1.out _).mono ?_); rintro e w1 ⟨rfl, hb1⟩)
   | (go_at_call 71; (with_reducible refine (I3.out _).mono ?_); rintro e w3 ⟨rfl, hb3⟩)
   | (go_at_call 71; (with_reducible refine (I2.out _).mono ?_); rintro e w2 ⟨rfl, hb2⟩))
  all_goals go_ret
  all_goals exact ⟨by rw [HD.out]; rfl, by first | exact hb1 | exact below_then hb1 hb3 | exact below_then (below_then hb1 hb3) hb2⟩
def opV (a b : ByteArray) : Value := .agg #[.string a, .string b]
set_option maxRecDepth 100000 in
set_option maxHeartbeats 1000000 in
theorem spec_kindOf (a b : ByteArray) (w : World) :
  Calls Tryz.prog 36 #[opV a b] w fun e w' => e = .returned (.int .i64 (kindI a b)) ∧ Below w.heap.size w w' := by
 have i0 := Lib.hid (spec_codeOf a b)
 have i1 := is_own b
 have i2 := is_j a
 have i3 := is_st a
 have i4 := is_mo a
 have hd : kindI a b = if codeOf a b < 0 then 3 else if inB b wsOwn then 3 else if inB a wsJ then 3 else if inB a wsSt then 1 else if inB a wsMo then 2 else 0 := rfl
 have HT := Lib.hid (twoAt_new w a b 55)
 have HL : w.heap.size < (w.alloc (.cells #[.string a, .string b] 55)).heap.size := by simp
 have HB := Lib.hid ((Below.refl w.heap.size w).alloc (Nat.le_refl _) (.cells #[.string a, .string b] 55))
 have HL := Lib.hid HL
 unfold opV
 generalize codeOf a b = C at *
 generalize inB b wsOwn = B1 at *
 generalize inB a wsJ = B2 at *
 generalize inB a wsSt = B3 at *
 generalize inB a wsMo = B4 at *
 have HD := Lib.hid hd
 have I1 := Lib.hid i1
 have I2 := Lib.hid i2
 have I3 := Lib.hid i3
 have I4 := Lib.hid i4
 clear hd i1 i2 i3 i4
 go_enter Tryz.func36, Tryz.ntmps36
 by_cases h0 : C < 0
 ·go_wp2_with (go_at_call 70; (with_reducible refine (i0.out _).mono ?_); rintro e w1 ⟨rfl, rfl⟩)
  go_ret
  exact ⟨by rw [HD.out, if_pos h0]; rfl, HB.out⟩
 ·have HD := Lib.hid (HD.out.trans (if_neg h0))
  go_wp2_with (first
   | (go_at_call 70; (with_reducible refine (i0.out _).mono ?_); rintro e w1 ⟨rfl, rfl⟩)
   | (go_at_call 71; (with_reducible refine (I1.out _).mono ?_); rintro e w1 ⟨rfl, hb⟩; refine Hid.out ?_))
  clear i0
  have HT := Lib.hid (HT.out.below HL.out hb)
  have HB := Lib.hid (HB.out.trans (hb.mono HB.out.size))
  have HL := Lib.hid (Nat.lt_of_lt_of_le HL.out hb.size)
  clear hb
  cases B1
  case true =>
   refine Lib.hid ?_
   go_wp2
   go_ret
   exact ⟨by rw [HD.out]; rfl, HB.out⟩
  have HD := Lib.hid (HD.out.trans (if_neg Bool.false_ne_true))
  clear I1
  obtain ⟨k0, k1⟩ := HT.out
  refine Lib.hid ?_
  go_wp2_with (go_at_call 71; (with_reducible refine (I2.out _).mono ?_); rintro e w2 ⟨rfl, hb⟩; refine Hid.out ?_)
  clear k0 k1
  have HT := Lib.hid (HT.out.below HL.out hb)
  have HB := Lib.hid (HB.out.trans (hb.mono HB.out.size))
  have HL := Lib.hid (Nat.lt_of_lt_of_le HL.out hb.size)
  clear hb
  cases B2
  case true =>
   refine Lib.hid ?_
   go_wp2
   go_ret
   exact ⟨by rw [HD.out]; rfl, HB.out⟩
  have HD := Lib.hid (HD.out.trans (if_neg Bool.false_ne_true))
  clear I2
  obtain ⟨k0, k1⟩ := HT.out
  refine Lib.hid ?_
  go_wp2_with (go_at_call 71; (with_reducible refine (I3.out _).mono ?_); rintro e w3 ⟨rfl, hb⟩; refine Hid.out ?_)
  clear k0 k1
  have HT := Lib.hid (HT.out.below HL.out hb)
  have HB := Lib.hid (HB.out.trans (hb.mono HB.out.size))
  have HL := Lib.hid (Nat.lt_of_lt_of_le HL.out hb.size)
  clear hb
  cases B3
  case true =>
   refine Lib.hid ?_
   go_wp2
   go_ret
   exact ⟨by rw [HD.out]; rfl, HB.out⟩
  have HD := Lib.hid (HD.out.trans (if_neg Bool.false_ne_true))
  clear I3
  obtain ⟨k0, k1⟩ := HT.out
  refine Lib.hid ?_
  go_wp2_with (go_at_call 71; (with_reducible refine (I4.out _).mono ?_); rintro e w4 ⟨rfl, hb⟩; refine Hid.out ?_)
  clear k0 k1
  have HB := Lib.hid (HB.out.trans (hb.mono HB.out.size))
  clear hb
  cases B4
  case true =>
   refine Lib.hid ?_
   go_wp2
   go_ret
   exact ⟨by rw [HD.out]; rfl, HB.out⟩
  refine Lib.hid ?_
  go_wp2
  go_ret
  exact ⟨by rw [HD.out]; rfl, HB.out⟩
end Go.Proofs.YthklebkpoccblaaGreat
namespace Go.Proofs.YthklebkpoccblaaGreat
def B8 (x : Int) : BitVec 8 := BitVec.ofInt 8 x
def bop (op : BinOp) (a b : BitVec 8) : BitVec 8 :=
 match op with
 | .and => a &&& b
 | .or => a ||| b
 | .xor => a ^^^ b
 | _ => a &&& ~~~b
theorem B8_nat (x : Int) : ((B8 x).toNat : Int) = x % 256 := by
 unfold B8
 rw [BitVec.toNat_ofInt]
 have : ((2 ^ 8 : Nat) : Int) = 256 := by decide
 rw [this]
 omega
theorem B8_eq {x y : Int} (h : x % 256 = y % 256) : B8 x = B8 y := by
 apply BitVec.eq_of_toNat_eq
 have h1 := B8_nat x
 have h2 := B8_nat y
 omega
theorem B8_back (b : BitVec 8) : B8 (b.toNat : Int) = b := by
 apply BitVec.eq_of_toNat_eq
 have h1 := B8_nat (b.toNat : Int)
 have := b.isLt
 omega
theorem B8_mod (x : Int) : B8 (x % 256) = B8 x := B8_eq (by omega)
theorem B8_wrap (k : IntKind) (n : Int) : B8 (k.wrap n) = B8 n := by
 apply B8_eq
 cases k <;> simp [IntKind.wrap, IntKind.bits, IntKind.signed] <;> (try split) <;> omega
theorem bits_ge (k : IntKind) : 8 ≤ k.bits := by cases k <;> decide
theorem B8_wide {w : Nat} (hw : 8 ≤ w) (x : Int) : (BitVec.ofInt w x).setWidth 8 = B8 x := by
 apply BitVec.eq_of_toNat_eq
 have h1 := B8_nat x
 rw [BitVec.toNat_setWidth, BitVec.toNat_ofInt]
 obtain ⟨d, rfl⟩ : ∃ d, w = 8 + d := ⟨w - 8, by omega⟩
 have hd : (2 ^ 8 : Nat) ∣ 2 ^ (8 + d) := Nat.pow_dvd_pow 2 (by omega)
 have hz : ((2 ^ 8 : Nat) : Int) ∣ ((2 ^ (8 + d) : Nat) : Int) := Int.natCast_dvd_natCast.2 hd
 have h2 : (x % ((2 ^ (8 + d) : Nat) : Int)) % ((2 ^ 8 : Nat) : Int) = x % ((2 ^ 8 : Nat) : Int) := Int.emod_emod_of_dvd x hz
 have h3 : 0 ≤ x % ((2 ^ (8 + d) : Nat) : Int) := Int.emod_nonneg _ (by have := Nat.two_pow_pos (8 + d); omega)
 have e : ((2 ^ 8 : Nat) : Int) = 256 := by decide
 rw [e] at h2
 have e2 : (2 ^ 8 : Nat) = 256 := by decide
 rw [e2]
 generalize x % ((2 ^ (8 + d) : Nat) : Int) = y at h2 h3 ⊢
 omega
theorem B8_bits (op : BinOp) (k : IntKind) (x y : Int) : B8 (bits op k x y) = bop op (B8 x) (B8 y) := by
 unfold bits
 simp only []
 rw [B8_wrap]
 have hk := bits_ge k
 unfold B8
 rw [BitVec.ofInt_natCast, BitVec.ofNat_toNat]
 have hx := B8_wide hk x
 have hy := B8_wide hk y
 unfold B8 at hx hy
 unfold bop
 cases op <;> simp only [BitVec.setWidth_and, BitVec.setWidth_or, BitVec.setWidth_xor, BitVec.setWidth_not hk, hx, hy]
theorem B8_val (x : Int) (h0 : 0 ≤ x) (h1 : x < 256) : x = ((B8 x).toNat : Int) := by rw [B8_nat]; omega
theorem B8_inj {x y : Int} (hx : 0 ≤ x ∧ x < 256) (hy : 0 ≤ y ∧ y < 256) (h : B8 x = B8 y) : x = y := by
 rw [B8_val x hx.1 hx.2, B8_val y hy.1 hy.2, h]
theorem bits_u8_val (op : BinOp) (x y : Int) : bits op .u8 x y = ((bop op (B8 x) (B8 y)).toNat : Int) := by
 have h0 := bits_lo_u8 op x y
 have h1 := bits_hi_u8 op x y
 rw [B8_val (bits op .u8 x y) h0 (by omega), B8_bits]
theorem and_small (x m : Int) (hm : 0 ≤ m ∧ m < 256) : 0 ≤ bits .and .i64 x m ∧ bits .and .i64 x m < 256 := by
 obtain ⟨n, rfl⟩ : ∃ n : Nat, m = n := ⟨m.toNat, by omega⟩
 have hn : n < 256 := by omega
 unfold bits
 simp only [IntKind.wrap_i64]
 have h : (BitVec.ofInt IntKind.i64.bits x &&& BitVec.ofInt IntKind.i64.bits (n : Int)).toNat ≤ n := by
  rw [BitVec.ofInt_natCast, BitVec.toNat_and, BitVec.toNat_ofNat]
  exact Nat.le_trans Nat.and_le_right (Nat.mod_le _ _)
 generalize (BitVec.ofInt IntKind.i64.bits x &&& BitVec.ofInt IntKind.i64.bits (n : Int)).toNat = z at h
 omega
theorem and_val (x m : Int) (hm : 0 ≤ m ∧ m < 256) : bits .and .i64 x m = ((B8 x &&& B8 m).toNat : Int) := by
 have h := and_small x m hm
 rw [B8_val _ h.1 h.2, B8_bits]
 rfl
def w8 (p f : BitVec 8) (on : Bool) : BitVec 8 := if on then p ||| f else p &&& ~~~f
def wI (p f : Int) (on : Bool) : Int := ((w8 (B8 p) (B8 f) on).toNat : Int)
theorem wI_bd (p f : Int) (on : Bool) : 0 ≤ wI p f on ∧ wI p f on < 256 := by
 unfold wI
 have := (w8 (B8 p) (B8 f) on).isLt
 omega
theorem wI_B8 (p f : Int) (on : Bool) : B8 (wI p f on) = w8 (B8 p) (B8 f) on := B8_back _
theorem wI_mod (p f : Int) (on : Bool) : wI (p % 256) f on = wI p f on := by unfold wI; rw [B8_mod]
theorem wI_mod' (p f : Int) (on : Bool) : wI p (f % 256) on = wI p f on := by unfold wI; rw [B8_mod]
theorem wI_spec_on (p f : Int) : bits .and .i64 (bits .or .i64 p f) 255 = wI p f true := by
 rw [and_val _ _ (by omega), B8_bits]
 unfold wI w8 bop
 simp only [if_true]
 congr 1
 rw [show B8 255 = BitVec.allOnes 8 by decide, BitVec.and_allOnes]
theorem wI_spec_off (p f : Int) : bits .and .i64 (bits .andNot .i64 p f) 255 = wI p f false := by
 rw [and_val _ _ (by omega), B8_bits]
 unfold wI w8 bop
 simp only [Bool.false_eq_true, if_false]
 congr 1
 rw [show B8 255 = BitVec.allOnes 8 by decide, BitVec.and_allOnes]
theorem wI_u8_on (p f : Int) : bits .or .u8 p f = wI p f true := by rw [bits_u8_val]; rfl
theorem wI_u8_off (p f : Int) : bits .andNot .u8 p f = wI p f false := by rw [bits_u8_val]; rfl
def tst (p f : Int) : Bool := B8 p &&& B8 f != 0
theorem tst_u8 (p f : Int) : (bits .and .u8 p f != 0) = tst p f := by
 rw [bits_u8_val]
 unfold tst bop
 simp only []
 rw [Bool.eq_iff_iff, bne_iff_ne, bne_iff_ne, Ne, Ne, not_congr]
 constructor
 ·intro h
  apply BitVec.eq_of_toNat_eq
  have : (B8 p &&& B8 f).toNat = 0 := by omega
  rw [this]; rfl
 ·intro h; rw [h]; rfl
theorem tst_i64 (p f : Int) (hf : 0 ≤ f ∧ f < 256) : (bits .and .i64 p f != 0) = tst p f := by
 rw [and_val _ _ hf, ← tst_u8, bits_u8_val]; rfl
theorem and255_0 (v : Int) : (bits .and .i64 v 255 == 0) = (!tst v 255) := by
 rw [← tst_i64 v 255 (by omega)]
 unfold bne
 rw [Bool.not_not]
def cI (p : Int) : Int := ((B8 p &&& 1).toNat : Int)
theorem cI_eq (p : Int) : cI p = p % 2 := by
 have h := B8_nat p
 unfold cI
 rw [BitVec.toNat_and, show (1 : BitVec 8).toNat = 1 from rfl, Nat.and_one_is_mod]
 omega
theorem cI_bd (p : Int) : 0 ≤ cI p ∧ cI p ≤ 1 := by rw [cI_eq]; omega
theorem and_1 (p : Int) : bits .and .i64 p 1 = cI p := and_val p 1 (by omega)
theorem and_255 (a : Int) : bits .and .i64 a 255 = a % 256 := by
 rw [and_val a 255 (by omega), show B8 255 = BitVec.allOnes 8 by decide, BitVec.and_allOnes, B8_nat]
theorem B8_15 (a : Int) : ((B8 a &&& 15).toNat : Int) = a % 16 := by
 have h := B8_nat a
 rw [BitVec.toNat_and, show (15 : BitVec 8).toNat = 2 ^ 4 - 1 from rfl, Nat.and_two_pow_sub_one_eq_mod]
 omega
theorem and_15 (a : Int) : bits .and .i64 a 15 = a % 16 := by
 rw [and_val a 15 (by omega)]; exact B8_15 a
theorem hi_all : ∀ a : BitVec 8, (a &&& 240).toNat = a.toNat / 16 * 16 := by decide +kernel
theorem B8_240 (a : Int) : ((B8 a &&& 240).toNat : Int) = a % 256 / 16 * 16 := by
 have h := B8_nat a
 rw [hi_all]
 omega
theorem and_240 (a : Int) : bits .and .i64 a 240 = a % 256 / 16 * 16 := by
 rw [and_val a 240 (by omega)]; exact B8_240 a
end Go.Proofs.YthklebkpoccblaaGreat
namespace Go.Proofs.YthklebkpoccblaaGreat
theorem tst_mod (p f : Int) : tst (p % 256) f = tst p f := by unfold tst; rw [B8_mod]
def nzI (p v : Int) : Int := wI (wI p 128 (tst v 128)) 2 (!tst v 255)
theorem nzI_mod' (p v : Int) : nzI p (v % 256) = nzI p v := by unfold nzI; rw [tst_mod, tst_mod]
def sg (a b r : Int) : Bool := (B8 a ^^^ B8 r) &&& (B8 b ^^^ B8 r) &&& 128 != 0
theorem sg_mod (a b r : Int) : sg (a % 256) (b % 256) r = sg a b r := by unfold sg; rw [B8_mod, B8_mod]
theorem sg_i64 (a b r : Int) : (bits .and .i64 (bits .and .i64 (bits .xor .i64 a r) (bits .xor .i64 b r)) 128 != 0) = sg a b r := by
 rw [tst_i64 _ 128 (by omega)]; unfold tst; rw [B8_bits, B8_bits, B8_bits]; rfl
def rI (p a b : Int) : Int := a % 256 + b % 256 + cI p
def binN (p a b : Int) : Int := wI (wI (nzI p (rI p a b)) 64 (sg a b (rI p a b))) 1 (decide (255 < rI p a b))
def lowI (l : Int) : Int := if 9 < l then (l + 6) % 16 + 16 else l
def sI (p a b : Int) : Int := a % 256 / 16 * 16 + b % 256 / 16 * 16 + lowI (a % 16 + b % 16 + cI p)
def upI (s : Int) : Int := if 160 ≤ s then s + 96 else s
def tenN (p a b : Int) : Int := wI (wI (wI (nzI p (rI p a b)) 128 (tst (sI p a b) 128)) 64 (sg a b (sI p a b))) 1 (decide (256 ≤ upI (sI p a b)))
def addN (p a b : Int) : Int := if tst p 8 then tenN p a b else binN p a b
def addR (p a b : Int) : Int := if tst p 8 then upI (sI p a b) % 256 else rI p a b % 256
theorem w8_bit (p f : BitVec 8) (on : Bool) (i : Nat) (hi : i < 8) : (w8 p f on).getLsbD i = if f.getLsbD i then on else p.getLsbD i := by
 unfold w8
 cases on
 ·rw [if_neg (by decide), BitVec.getLsbD_and, BitVec.getLsbD_not]
  cases f.getLsbD i <;> simp only [hi, decide_true, Bool.not_false, Bool.and_true, Bool.not_true, Bool.and_false, if_true, if_false, Bool.false_eq_true]
 ·rw [if_pos rfl, BitVec.getLsbD_or]
  cases f.getLsbD i <;> simp only [Bool.or_false, Bool.or_true, if_true, if_false, Bool.false_eq_true]
theorem w8_swap (p f g : BitVec 8) (a b : Bool) (h : f &&& g = 0) : w8 (w8 p f a) g b = w8 (w8 p g b) f a := by
 apply BitVec.eq_of_getLsbD_eq
 intro i hi
 have h2 : (f.getLsbD i && g.getLsbD i) = false := by rw [← BitVec.getLsbD_and, h]; simp
 rw [w8_bit _ _ _ _ hi, w8_bit _ _ _ _ hi, w8_bit _ _ _ _ hi, w8_bit _ _ _ _ hi]
 cases hf : f.getLsbD i <;> cases hg : g.getLsbD i <;> simp_all
theorem wI_eq {p f p' f' : Int} {a a' : Bool} (h : w8 (B8 p) (B8 f) a = w8 (B8 p') (B8 f') a') : wI p f a = wI p' f' a' := by unfold wI; rw [h]
theorem ten_close (p a b s u : Int) (ht : tst p 8 = true) (hs : sI p a b = s) (hu : upI s = u) :
  wI (wI (wI (nzI p (a % 256 + b % 256 + cI p)) 128 (bits .and .i64 s 128 != 0)) 64 (bits .and .i64 (bits .and .i64 (bits .xor .i64 (a % 256) s) (bits .xor .i64 (b % 256) s)) 128 != 0)) 1 (decide (256 ≤ u)) = addN p a b ∧
  bits .and .i64 u 255 = addR p a b := by
 subst hs hu
 rw [sg_i64, sg_mod, tst_i64 _ 128 (by omega), and_255]
 unfold addN addR tenN
 rw [if_pos ht, if_pos ht]
 exact ⟨rfl, rfl⟩
end Go.Proofs.YthklebkpoccblaaGreat
