/-
  Texts put together by program: PrQ, VlB.
  Conditions: as each theorem says.
-/
import Derived.Handy
import Derived.Laws.OwnMore
import Derived.Lib.Hide
import Derived.Lib.SmallJoins
import Derived.Test.YtboeaeoefoabdaaGreatDoorProg
import Derived.WalkSpells
import Derived.Test.YtboeaeoefoabdaaGreatDoorPmad
namespace Go.Proofs.YtboeaeoefoabdaaGreatDoor
open Go.RowKit
theorem first_nl (l : List UInt8) : (∀ b ∈ l, b ≠ 10) ∨ ∃ p r, l = p ++ 10 :: r ∧ ∀ b ∈ p, b ≠ 10 := by
 induction l with
 | nil => exact .inl (fun b hb => by simp at hb)
 | cons c l ih =>
  by_cases hc : c = 10
  ·exact .inr ⟨[], l, by simp [hc], fun b hb => by simp at hb⟩
  ·rcases ih with h | ⟨p, r, rfl, hp⟩
   ·exact .inl fun b hb => by
     rcases List.mem_cons.1 hb with rfl | hb
     ·exact hc
     ·exact h b hb
   ·exact .inr ⟨c :: p, r, rfl, fun b hb => by
     rcases List.mem_cons.1 hb with rfl | hb
     ·exact hc
     ·exact hp b hb⟩
theorem lines_small (n : Nat) : ∀ t : ByteArray, t.size ≤ n → (linesB t).length ≤ t.size + 1 ∧ ∀ x ∈ linesB t, x.size ≤ t.size := by
 induction n with
 | zero =>
  intro t ht
  have h : ∀ b ∈ t.data.toList, b ≠ 10 := by
   have hz : t.data.toList.length = t.size := by simp
   have : t.data.toList = [] := List.eq_nil_of_length_eq_zero (hz.trans (by omega))
   rw [this]; intro b hb; simp at hb
  rw [linesB_none t h]
  exact ⟨by simp, fun x hx => by rw [List.mem_singleton.1 hx]; exact Nat.le_refl _⟩
 | succ n ih =>
  intro t ht
  rcases first_nl t.data.toList with h | ⟨p, r, e, hp⟩
  ·rw [linesB_none t h]
   exact ⟨by simp, fun x hx => by rw [List.mem_singleton.1 hx]; exact Nat.le_refl _⟩
  ·have hsz : t.size = p.length + (r.length + 1) := by
    have : t.data.toList.length = t.size := by simp
    rw [← this, e]; simp
   rw [linesB_first t p r e hp]
   have e1 : (t.extract (p.length + 1) t.size).size = r.length := by rw [ByteArray.size_extract]; omega
   have e2 : (t.extract 0 p.length).size ≤ t.size := by rw [ByteArray.size_extract]; omega
   obtain ⟨i1, i2⟩ := ih (t.extract (p.length + 1) t.size) (by omega)
   rw [e1] at i1 i2
   refine ⟨by simp; omega, fun x hx => ?_⟩
   rcases List.mem_cons.1 hx with rfl | hx
   ·exact e2
   ·have := i2 x hx; omega
def lineBs (s : ByteArray) : List ByteArray := if s.size = 0 then [] else linesB s
theorem lineBs_small (s : ByteArray) : (lineBs s).length ≤ s.size + 1 ∧ ∀ x ∈ lineBs s, x.size ≤ s.size := by
 unfold lineBs
 split
 ·exact ⟨by simp, fun x hx => by simp at hx⟩
 ·exact lines_small s.size s (Nat.le_refl _)
end Go.Proofs.YtboeaeoefoabdaaGreatDoor
namespace Go.Proofs.YtboeaeoefoabdaaGreatDoor
open Go.RowKit
theorem info9l : (Tryz.prog.info? 9).map (fun i => (i.zero, i.size, i.bytes)) = some (some (.string ⟨#[]⟩), 1, 16) := by kernel_rfl
def NewStrs (B : Nat) (w' : World) (v : Value) (L : List ByteArray) : Prop :=
 ∃ g cap cs, v = .slice (some ⟨g, 0, none⟩) L.length cap ∧ B ≤ g ∧ w'.heap[g]? = some (.cells cs 9 (0, 0)) ∧ L.length ≤ cs.size ∧ ∀ i (h : i < L.length), cs[i]? = some (.string L[i])
theorem newStrs_own {B : Nat} {w' : World} {v : Value} {L : List ByteArray} (h : w'.ownsRow B 9 1 v L.length (L.map Value.string)) (hp : L ≠ [] ∨ v ≠ .slice none 0 0) : NewStrs B w' v L := by
 rcases h.2 with ⟨rfl, h0⟩ | ⟨g, cap, cur, rfl, hb, hg, hn, _, hs, ht⟩
 ·have : L = [] := List.eq_nil_of_length_eq_zero h0
  subst this
  simp at hp
 ·refine ⟨g, cap, cur, rfl, hb, hg, by omega, fun i hi => ?_⟩
  have e : (cur.toList.take (L.length * 1))[i]? = (L.map Value.string)[i]? := by rw [ht]
  rw [List.getElem?_take, if_pos (by omega)] at e
  simpa [hi] using e
def LinesPost (s : ByteArray) (w : World) (e : Ending) (w' : World) : Prop := ∃ v, e = .returned v ∧ NewStrs w.heap.size w' v (if s.size = 0 then [] else linesB s) ∧ Below w.heap.size w w'
set_option maxRecDepth 100000 in
theorem spec_lines_empty (w : World) : Calls Tryz.prog 40 #[.string ⟨#[]⟩] w (LinesPost ⟨#[]⟩ w) := by
 go_enter Tryz.func40, Tryz.ntmps40
 go_wp2
 go_ret
 exact ⟨_, rfl, ⟨w.heap.size, 0, #[], rfl, Nat.le_refl _, heap_alloc_new w _, Nat.le_refl _, fun i h => absurd h (Nat.not_lt_zero _)⟩, (Below.refl _ _).alloc (Nat.le_refl _) _⟩
set_option maxRecDepth 100000 in
set_option maxHeartbeats 800000 in
theorem spec_lines (s : ByteArray) (h0 : s.size ≠ 0) (hs : s.size ≤ 1048576) (w : World) : Calls Tryz.prog 40 #[.string s] w (LinesPost s w) := by
 obtain ⟨i0, hi, hz0, hz1, hz2⟩ := info_parts info9l
 have hemp : s.toList.isEmpty = false := by
  rw [← decide_eq_emptyBytes]
  exact decide_eq_false (fun h => h0 (by rw [h]; rfl))
 go_enter Tryz.func40, Tryz.ntmps40
 go_wp2
 go_loopw [3, 4, 5] (fun v3 v4 v5 wr => ∃ (fr k : Nat) (L : List ByteArray), fr ≤ k ∧ k ≤ s.size ∧ v4 = .int .i64 fr ∧ v5 = .int .i64 k ∧ L.length ≤ fr ∧ wr.ownsRow w.heap.size 9 1 v3 L.length (L.map Value.string) ∧ Hid (L ++ linesB (s.extract fr s.size) = linesB s ∧ NoNl s fr k) ∧ Below w.heap.size w wr)
  (fun _ _ v5 _ => s.size - (intOf v5).toNat)
 case atStart =>
  exact ⟨0, 0, [], by omega, by omega, rfl, rfl, by simp, World.ownsRow_lit _ #[] 0 (Nat.le_refl _) (by decide) rfl, ⟨by rw [extract_zero_all]; rfl, NoNl.start s 0⟩, (Below.refl _ _).alloc (Nat.le_refl _) _⟩
 case round =>
  obtain ⟨fr, k, L, hfk, hk, rfl, rfl, hL, hown, hH, hb⟩ := hrel
  by_cases hlt : k < s.size
  ·by_cases h10 : s[k] = 10
   ·have h10' : ((s[k].toNat : Int) == 10) = true := by rw [h10]; rfl
    have HN : Hid ((L ++ [s.extract fr k]) ++ linesB (s.extract (k + 1) s.size) = linesB s) := by
     have := hH.out.1
     rw [linesB_step s fr k hfk hlt h10 hH.out.2] at this
     rw [← this]; show _ = _; simp
    clear h10 hH
    go_wp2_with (at_builtin; refine wpList_append_own _ rfl _ _ 46 rfl w.heap.size 9 i0 (.string ⟨#[]⟩) 1 16 Tryz.underlying46 hi hz0 hz1 hz2 rfl (by decide) _ _ _ rfl (hown.alloc _) ⟨wr.heap.size, 0, none⟩ 1 1 [.string (s.extract fr k)] rfl rfl ?c1 ?c2 ?c3 ?c4 ?c5 ?_)
    case c1 =>
     intro j u hj
     match j, hj with
     | 0, hj => simp at hj; subst hj; simp [Addr.add]
    case c2 => intro u hu; simp at hu; subst hu; rfl
    case c3 => unfold maxLen; omega
    case c4 => omega
    case c5 => have := hb.size; simp; omega
    intro v' w1 hown' hgrow _
    have hown2 : w1.ownsRow w.heap.size 9 1 v' (L ++ [s.extract fr k]).length ((L ++ [s.extract fr k]).map Value.string) := by simpa using hown'
    have hb' : Below w.heap.size w w1 := (hb.alloc hb.size _).grown hgrow (by have := hb.size; simp; omega) (fun g hg => (hown.lt g hg).1)
    clear hgrow hb hown hown'
    go_wp2
    go_roundw
    case rel => exact ⟨k + 1, k + 1, L ++ [s.extract fr k], by omega, by omega, by go_num, by go_num, by simp; omega, hown2, ⟨HN.out, NoNl.start s (k + 1)⟩, hb'⟩
    case measure => simp [intOf]; omega
   ·have h10' : ((s[k].toNat : Int) == 10) = false := by
     simp only [beq_eq_false_iff_ne]
     intro e
     exact h10 (UInt8.toNat_inj.1 (by show s[k].toNat = 10; omega))
    have HM := hH.out.2.more hlt h10
    have H1 := Lib.hid hH.out.1
    clear h10 hH
    go_wp2
    go_roundw
    case rel => exact ⟨fr, k + 1, L, by omega, by omega, rfl, by go_num, hL, hown, ⟨H1.out, HM⟩, hb⟩
    case measure => simp [intOf]; omega
  ·obtain rfl : k = s.size := by omega
   have HN : Hid (L ++ [s.extract fr s.size] = linesB s) := by
    have := hH.out.1
    rw [linesB_last s fr hH.out.2] at this
    exact this
   clear hH
   go_wp2_with (at_builtin; refine wpList_append_own _ rfl _ _ 46 rfl w.heap.size 9 i0 (.string ⟨#[]⟩) 1 16 Tryz.underlying46 hi hz0 hz1 hz2 rfl (by decide) _ _ _ rfl (hown.alloc _) ⟨wr.heap.size, 0, none⟩ 1 1 [.string (s.extract fr s.size)] rfl rfl ?d1 ?d2 ?d3 ?d4 ?d5 ?_)
   case d1 =>
    intro j u hj
    match j, hj with
    | 0, hj => simp at hj; subst hj; simp [Addr.add]
   case d2 => intro u hu; simp at hu; subst hu; rfl
   case d3 => unfold maxLen; omega
   case d4 => omega
   case d5 => have := hb.size; simp; omega
   intro v' w1 hown' hgrow _
   have hown2 : w1.ownsRow w.heap.size 9 1 v' (L ++ [s.extract fr s.size]).length ((L ++ [s.extract fr s.size]).map Value.string) := by simpa using hown'
   rw [HN.out] at hown2
   have hb' : Below w.heap.size w w1 := (hb.alloc hb.size _).grown hgrow (by have := hb.size; simp; omega) (fun g hg => (hown.lt g hg).1)
   have hne : linesB s ≠ [] := by rw [← HN.out]; simp
   have HP : Hid (NewStrs w.heap.size w1 v' (if s.size = 0 then [] else linesB s)) := by rw [if_neg h0]; exact newStrs_own hown2 (.inl hne)
   clear hgrow hb hown hown' hown2 hne
   go_wp2
   go_ret
   exact ⟨v', rfl, HP.out, hb'⟩
end Go.Proofs.YtboeaeoefoabdaaGreatDoor
