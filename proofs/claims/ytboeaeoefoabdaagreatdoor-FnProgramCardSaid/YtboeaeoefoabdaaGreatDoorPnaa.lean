/-
  Texts put together by program: PrD, PrP, VlA, PrQ, PrR, VlB, Shl, Shm.
  Conditions: as each theorem says.
-/
import Derived.Test.YtboeaeoefoabdaaGreatDoorAmas
namespace Go.Proofs.YtboeaeoefoabdaaGreatDoor
open Go.RowKit
def jamD (c : Nat) : Nat := ((List.range 256).find? fun k => (opOf (((c + k) % 256 : Nat) : Int)).1 != jamN).getD 256
theorem jam_next : ∀ m : Fin 256, (opOf (m.val : Int)).1 = jamN → jamD ((m.val + 1) % 256) < jamD m.val := by decide +kernel
theorem jam_listD : jamN.toList = [74, 65, 77] := by rw [ByteArray.toList_eq]; rfl
theorem field_nmD (a b : ByteArray) (W : World) : (Instr.field 41 (.agg #[.string a, .string b]) 0).run Tryz.prog W = .ok (.string a) W := by kernel_rfl
def ProgDrawn (w : World) (e : Ending) (w' : World) : Prop := ∃ s : ByteArray, e = .returned (.string s) ∧ s.size ≤ 2000 ∧ Below w.heap.size w w'
set_option maxRecDepth 100000 in
set_option maxHeartbeats 4000000 in
theorem drawProgram_any (B n c : Nat) (A : Option Addr) (w : World) (hB : B ≤ w.heap.size) (hcode : Code w B A n) :
  Calls Tryz.prog 26 #[.slice A n c] w (ProgDrawn w) := by
 have hN := l01New_any B n c A w hcode
 have HD := fun (w1 : World) hc hb => new_drawn (c := c) (w1 := w1) hB hcode hc hb
 clear hcode
 unfold NewPost at hN
 unfold ProgDrawn
 go_enter Tryz.func26, Tryz.ntmps26
 go_wp2_with (go_at_call 33; refine hN.mono ?_; rintro e w1 ⟨rfl, hc, hb⟩; refine Hid.out ?_)
 have hD := Lib.hid (HD w1 hc hb)
 have hb := Lib.hid hb
 have hy := l01Below_any hD.out 6 (by omega) (by omega)
 clear hN HD hc
 refine Lib.hid ?_
 go_wp2_with (go_at_call 46; refine hy.mono ?_; rintro e w2 ⟨z, rfl, z0, z1, hc2, hg2⟩; refine Hid.out ?_)
 have D2 := Lib.hid (hD.out.next hc2 hg2)
 have G2 := Lib.hid hg2
 have B2 := Lib.hid (hb.out.grown hg2 hb.out.size (fun k hk => by cases hk; exact Nat.le_refl _))
 clear hc2 hg2 hD hy G2 hb
 refine Lib.hid ?_
 go_wp2
 go_loopw [4, 6] (fun v4 v6 wr => ∃ (s : ByteArray) (i : Nat), (i : Int) ≤ z ∧ v4 = .string s ∧ v6 = .int .i64 i ∧ s.size ≤ 112 * i ∧ Hid (Drawn B w.heap.size n c A wr) ∧ Hid (Below w.heap.size w wr)) (fun _ v6 _ => (z - intOf v6).toNat)
 case atStart => exact ⟨⟨#[]⟩, 0, by omega, rfl, rfl, Nat.le_refl 0, D2, B2⟩
 case round =>
  obtain ⟨s, i, hi, rfl, rfl, hs, DD, BB⟩ := hrel
  clear D2 B2
  by_cases hlt : (i : Int) < z
  ·have hy := l01Below_any DD.out 256 (by omega) (by omega)
   go_wp2_with (go_at_call 46; refine hy.mono ?_; rintro e w3 ⟨x, rfl, x0, x1, hc, hg⟩; refine Hid.out ?_)
   have D3 := Lib.hid (DD.out.next hc hg)
   have B3 := Lib.hid (BB.out.grown hg BB.out.size (fun k hk => by cases hk; exact Nat.le_refl _))
   obtain ⟨X, rfl⟩ : ∃ X : Nat, x = X := ⟨x.toNat, by omega⟩
   have hX : X < 256 := by omega
   clear hc hg hy DD BB x0 x1
   refine Lib.hid ?_
   go_wp2
   go_loopw [7] (fun v7 wr => ∃ q : Nat, q < 256 ∧ v7 = .int .i64 q ∧ Hid (Drawn B w.heap.size n c A wr) ∧ Hid (Below w.heap.size w wr)) (fun v7 _ => jamD (intOf v7).toNat)
   case atStart => exact ⟨X, hX, rfl, D3, B3⟩
   case round =>
    obtain ⟨q, hq, rfl, D4, B4⟩ := hrel
    clear D3 B3 hX
    have HO := fun w => spec_opOf (q : Int) w
    have HT := fun (y v : Int) w => spec_OpText (q : Int) y v w
    have hl := fun y v : Int => opT_length (opOf (q : Int)).1 (opOf (q : Int)).2 y v (op_size3 (q : Int)).1
    have hd := jam_next ⟨q, hq⟩
    simp only at hd
    generalize (opOf (q : Int)).1 = a at *
    generalize (opOf (q : Int)).2 = md at *
    have fb := fun w => field_nmD a md w
    replace HO := Lib.hid HO
    replace HT := Lib.hid HT
    replace hl := Lib.hid hl
    by_cases hj : a = jamN
    ·have hd2 := hd hj
     clear hd
     subst hj
     have hj := jam_listD
     clear HT hl
     replace hd2 := Lib.hid hd2
     go_wp2_with (go_at_call 24; (with_reducible refine (HO.out _).mono ?_); rintro e w5 ⟨rfl, hb5⟩)
     go_roundw
     case rel => exact ⟨(q + 1) % 256, by omega, by go_num, Lib.hid (D4.out.below hb5), Lib.hid (below_then B4.out hb5)⟩
     case measure => have := hd2.out; simp [intOf]; rw [show (((q : Int) + 1) % 256).toNat = (q + 1) % 256 by omega]; exact this
    ·have hk := eq_no hj
     rw [jam_listD] at hk
     clear hd hj
     go_wp2_with (first
      | (go_at_call 24; (with_reducible refine (HO.out _).mono ?_); rintro e w5 ⟨rfl, hb5⟩; refine Hid.out ?_))
     have D5 := Lib.hid (D4.out.below hb5)
     have B5 := Lib.hid (below_then B4.out hb5)
     have hy := l02Byte_any D5.out
     clear hb5 D4 B4 HO
     refine Lib.hid ?_
     go_wp2_with (go_at_call 68; refine hy.mono ?_; rintro e w6 ⟨y, rfl, y0, y1, hc, hg⟩; refine Hid.out ?_)
     have D6 := Lib.hid (D5.out.next hc hg)
     have B6 := Lib.hid (B5.out.grown hg B5.out.size (fun k hk => by cases hk; exact Nat.le_refl _))
     have hy := l02Byte_any D6.out
     clear hc hg D5 B5 y0 y1 fb hk
     refine Lib.hid ?_
     go_wp2_with (go_at_call 68; refine hy.mono ?_; rintro e w7 ⟨v, rfl, v0, v1, hc, hg⟩; refine Hid.out ?_)
     have D7 := Lib.hid (D6.out.next hc hg)
     have B7 := Lib.hid (B6.out.grown hg B6.out.size (fun k hk => by cases hk; exact Nat.le_refl _))
     have hT := fun w => HT.out y v w
     have hz : (⟨(opT a md y v).toArray⟩ : ByteArray).size ≤ 12 := by rw [bsize]; exact hl.out y v
     generalize (⟨(opT a md y v).toArray⟩ : ByteArray) = T at *
     replace hT := Lib.hid hT
     have c1 : ∀ w, (Op.stringOp .add s T).run Tryz.prog w = .ok (.string (s ++ T)) w := fun w => run_string_add_sum w _ _ (by omega)
     have hsz : (s ++ T).size ≤ 112 * i + 12 := by rw [ByteArray.size_append]; omega
     generalize s ++ T = S1 at *
     clear hc hg D6 B6 v0 v1 HT hl hy hz hs
     refine Lib.hid ?_
     go_wp2_with (go_at_call 23; (with_reducible refine (hT.out _).mono ?_); rintro e w8 ⟨rfl, hb8⟩; refine Hid.out ?_)
     have D8 := Lib.hid (D7.out.below hb8)
     have B8 := Lib.hid (below_then B7.out hb8)
     have hy := pick_new D8.out [.string ⟨#[10]⟩, .string ⟨#[10, 59, 32, 120, 10]⟩, .string ⟨#[10, 10]⟩] (k := 3) rfl (by omega) (by omega)
      (by repeat (first | exact allS_nil | refine allS_cons (by decide) ?_))
     clear hb8 D7 B7 hT
     refine Lib.hid ?_
     go_wp2_with (go_at_call 36; refine hy.mono ?_; rintro e w9 ⟨t, rfl, ht, hc, hg⟩; refine Hid.out ?_)
     have D9 := Lib.hid (D8.out.next hc hg)
     have B9 := Lib.hid (B8.out.grown hg B8.out.size (fun k hk => by cases hk; exact Nat.le_refl _))
     have c2 : ∀ w, (Op.stringOp .add S1 t).run Tryz.prog w = .ok (.string (S1 ++ t)) w := fun w => run_string_add_sum w _ _ (by omega)
     have hs2 : (S1 ++ t).size ≤ 112 * (i + 1) := by rw [ByteArray.size_append]; omega
     generalize S1 ++ t = S2 at *
     clear hc hg hy D8 B8 hsz ht
     refine Lib.hid ?_
     go_wp2
     go_roundw
     case rel => exact ⟨S2, i + 1, by omega, rfl, by go_num, hs2, D9, B9⟩
     case measure => simp [intOf]; omega
  ·obtain rfl : (i : Int) = z := by omega
   have hy := l01Once_any DD.out 3 (by omega) (by omega)
   go_wp2_with (go_at_call 34; refine hy.mono ?_; rintro e w3 ⟨o, rfl, hc, hg⟩; refine Hid.out ?_)
   have D3 := Lib.hid (DD.out.next hc hg)
   have B3 := Lib.hid (BB.out.grown hg BB.out.size (fun k hk => by cases hk; exact Nat.le_refl _))
   clear hc hg hy DD BB
   cases o
   ·refine Lib.hid ?_
    go_wp2
    go_ret
    exact ⟨s, rfl, by omega, B3.out⟩
   ·have hy := l13Line_any D3.out
    unfold BentPost at hy
    refine Lib.hid ?_
    go_wp2_with (go_at_call 50; refine hy.mono ?_; rintro e w4 ⟨t, rfl, ht, hc, hg⟩; refine Hid.out ?_)
    have B4 := Lib.hid (B3.out.grown hg B3.out.size (fun k hk => by cases hk; exact Nat.le_refl _))
    have c2 : ∀ w, (Op.stringOp .add s t).run Tryz.prog w = .ok (.string (s ++ t)) w := fun w => run_string_add_sum w _ _ (by omega)
    have hs2 : (s ++ t).size ≤ 2000 := by rw [ByteArray.size_append]; omega
    generalize s ++ t = S2 at *
    clear hc hg hy B3 D3
    refine Lib.hid ?_
    go_wp2
    go_ret
    exact ⟨S2, rfl, hs2, B4.out⟩
end Go.Proofs.YtboeaeoefoabdaaGreatDoor
namespace Go.Proofs.YtboeaeoefoabdaaGreatDoor
open Go.RowKit
def hasI (l : List UInt8) : Prop := ∃ c r, wordL l = c :: r ∧ c ≠ 59
def LineR (l : List UInt8) (r : Option (List UInt8)) : Prop :=
 (¬ hasI l ∧ r = some []) ∨ (hasI l ∧ ∃ (k : Nat) (out : List UInt8) (ok : Bool), Good (told l k) ∧ (wordB l k).size = 0 ∧ AsmOk (upL (lineS l k)) out ok ∧ r = if ok = true then some out else none)
theorem line_one {l : List UInt8} {r q : Option (List UInt8)} (h : LineR l r) (g : LineR l q) : r = q := by
 rcases h with ⟨h0, rfl⟩ | ⟨h0, k, out, ok, h1, h2, h3, rfl⟩
 ·rcases g with ⟨_, rfl⟩ | ⟨g0, _⟩
  ·rfl
  ·exact absurd g0 h0
 ·rcases g with ⟨g0, _⟩ | ⟨_, k2, out2, ok2, g1, g2, g3, rfl⟩
  ·exact absurd h0 g0
  ·obtain rfl := told_one h1 h2 g1 g2
   obtain ⟨rfl, rfl⟩ := asm_one h3 g3
   rfl
def ProgPre (Ls : List (List UInt8)) (i : Nat) (out : List UInt8) : Prop := ∃ parts : List (List UInt8), parts.length = i ∧ (∀ j (h : j < parts.length) (h2 : j < Ls.length), LineR Ls[j] (some parts[j])) ∧ out = parts.flatten
theorem pre_zero (Ls : List (List UInt8)) : ProgPre Ls 0 [] := ⟨[], rfl, fun _ h => absurd h (Nat.not_lt_zero _), rfl⟩
theorem pre_succ {Ls : List (List UInt8)} {i : Nat} {out p : List UInt8} (h : ProgPre Ls i out) (hi : i < Ls.length) (hp : LineR Ls[i] (some p)) : ProgPre Ls (i + 1) (out ++ p) := by
 obtain ⟨parts, rfl, h2, rfl⟩ := h
 refine ⟨parts ++ [p], by simp, fun j hj hl => ?_, by simp⟩
 by_cases e : j < parts.length
 ·rw [List.getElem_append_left e]; exact h2 j e hl
 ·have : j = parts.length := by simp at hj; omega
  subst this
  simpa using hp
theorem pre_one {Ls : List (List UInt8)} {i : Nat} (hi : i ≤ Ls.length) {a b : List UInt8} (h : ProgPre Ls i a) (g : ProgPre Ls i b) : a = b := by
 obtain ⟨p, rfl, h2, rfl⟩ := h
 obtain ⟨q, hq, g2, rfl⟩ := g
 have e : p = q := by
  apply List.ext_getElem hq.symm
  intro j h1 h3
  exact Option.some.inj (line_one (h2 j h1 (by omega)) (g2 j h3 (by omega)))
 rw [e]
def ProgOk (Ls : List (List UInt8)) (out : List UInt8) (bad : Int) : Prop := (bad = -1 ∧ ProgPre Ls Ls.length out) ∨ (∃ (i : Nat) (hi : i < Ls.length), bad = (i : Int) ∧ out = [] ∧ (∃ o, ProgPre Ls i o) ∧ LineR Ls[i] none)
theorem prog_bad {Ls : List (List UInt8)} {i : Nat} {o : List UInt8} (hi : i < Ls.length) (hp : ProgPre Ls i o) (h : LineR Ls[i] none) : ProgOk Ls [] (i : Int) := .inr ⟨i, hi, rfl, rfl, ⟨o, hp⟩, h⟩
theorem prog_all {Ls : List (List UInt8)} {o : List UInt8} (hp : ProgPre Ls Ls.length o) : ProgOk Ls o (-1) := .inl ⟨rfl, hp⟩
theorem pre_at {Ls : List (List UInt8)} {n i : Nat} {o : List UInt8} (h : ProgPre Ls n o) (hi : i < n) (hl : i < Ls.length) : ∃ p, LineR Ls[i] (some p) := by
 obtain ⟨parts, rfl, h2, _⟩ := h
 exact ⟨_, h2 i hi hl⟩
theorem prog_one {Ls : List (List UInt8)} {out out2 : List UInt8} {bad bad2 : Int} (h : ProgOk Ls out bad) (g : ProgOk Ls out2 bad2) : out = out2 ∧ bad = bad2 := by
 rcases h with ⟨rfl, h⟩ | ⟨i, hi, rfl, rfl, ⟨o, ho⟩, hb⟩
 ·rcases g with ⟨rfl, g⟩ | ⟨j, hj, rfl, rfl, ⟨o2, ho2⟩, gb⟩
  ·exact ⟨pre_one (Nat.le_refl _) h g, rfl⟩
  ·obtain ⟨p, hp⟩ := pre_at h hj hj
   cases line_one hp gb
 ·rcases g with ⟨rfl, g⟩ | ⟨j, hj, rfl, rfl, ⟨o2, ho2⟩, gb⟩
  ·obtain ⟨p, hp⟩ := pre_at g hi hi
   cases line_one hp hb
  ·rcases Nat.lt_trichotomy i j with h | h | h
   ·obtain ⟨p, hp⟩ := pre_at ho2 h hi
    cases line_one hp hb
   ·subst h; exact ⟨rfl, rfl⟩
   ·obtain ⟨p, hp⟩ := pre_at ho h hj
    cases line_one hp gb
theorem asm_len {S out : List UInt8} {ok : Bool} (h : AsmOk S out ok) : out.length ≤ 3 := by
 rcases h with ⟨_, c, lo, hi, _, _, _, _, rfl⟩ | ⟨_, rfl, _⟩
 ·rw [List.length_take]; simp; omega
 ·simp
theorem line_len {l p : List UInt8} (h : LineR l (some p)) : p.length ≤ 3 := by
 rcases h with ⟨_, h⟩ | ⟨_, k, out, ok, _, _, ha, h⟩
 ·cases h; simp
 ·cases ok
  ·cases h
  ·cases h; exact asm_len ha
theorem pre_len {Ls : List (List UInt8)} {i : Nat} (hi : i ≤ Ls.length) {o : List UInt8} (h : ProgPre Ls i o) : o.length ≤ 3 * i := by
 obtain ⟨p, rfl, h2, rfl⟩ := h
 have : ∀ (q : List (List UInt8)), (∀ x ∈ q, x.length ≤ 3) → q.flatten.length ≤ 3 * q.length := by
  intro q
  induction q with
  | nil => simp
  | cons x q ih =>
   intro hx
   have a := hx x (by simp)
   have b := ih fun y hy => hx y (by simp [hy])
   simp only [List.flatten_cons, List.length_append, List.length_cons]
   omega
 refine this p fun x hx => ?_
 obtain ⟨j, hj, rfl⟩ := List.mem_iff_getElem.1 hx
 exact line_len (h2 j hj (by omega))
end Go.Proofs.YtboeaeoefoabdaaGreatDoor
namespace Go.Proofs.YtboeaeoefoabdaaGreatDoor
open Go.Lib
def nl : ByteArray := ⟨#[10]⟩
def linesB (s : ByteArray) : List ByteArray := splitB nl 0 (countB s nl) s
theorem index_none (c : UInt8) (l : List UInt8) (h : ∀ b ∈ l, b ≠ c) : index l [c] = -1 := by
 induction l with
 | nil => simp [index]
 | cons b l ih =>
  have hb : b ≠ c := h b (by simp)
  have ih' := ih (fun x hx => h x (by simp [hx]))
  simp [index, ih', Ne.symm hb]
theorem index_first (c : UInt8) (p r : List UInt8) (h : ∀ b ∈ p, b ≠ c) : index (p ++ c :: r) [c] = p.length := by
 induction p with
 | nil => simp [index]
 | cons b p ih =>
  have hb : b ≠ c := h b (by simp)
  have ih' := ih (fun x hx => h x (by simp [hx]))
  simp only [List.cons_append, index]
  rw [ih', if_neg (by simp [Ne.symm hb]), if_neg (by simp)]
  simp
theorem linesB_none (t : ByteArray) (h : ∀ b ∈ t.data.toList, b ≠ 10) : linesB t = [t] := by
 have hi : indexB t nl = -1 := index_none 10 _ h
 unfold linesB
 rw [countB_miss t nl hi]
 exact splitB_miss nl 0 0 t hi
theorem linesB_first (t : ByteArray) (p r : List UInt8) (e : t.data.toList = p ++ 10 :: r) (h : ∀ b ∈ p, b ≠ 10) : linesB t = t.extract 0 p.length :: linesB (t.extract (p.length + 1) t.size) := by
 have hi : indexB t nl = (p.length : Int) := by
  show index t.data.toList nl.data.toList = _
  rw [e]
  exact index_first 10 p r h
 have hs : nl.size = 1 := rfl
 unfold linesB
 rw [countB_hit t nl p.length (by decide) hi, Nat.add_comm 1, splitB_hit nl 0 _ t p.length hi]
 rw [hs]; rfl
theorem linesB_step (s : ByteArray) (fr k : Nat) (hf : fr ≤ k) (hk : k < s.size) (h10 : s[k] = 10) (h : NoNl s fr k) : linesB (s.extract fr s.size) = s.extract fr k :: linesB (s.extract (k + 1) s.size) := by
 have hsz : s.data.toList.length = s.size := by simp
 have e : (s.extract fr s.size).data.toList = (s.data.toList.drop fr).take (k - fr) ++ 10 :: s.data.toList.drop (k + 1) := by
  rw [extract_to_end]
  have h1 : s.data.toList.drop fr = (s.data.toList.drop fr).take (k - fr) ++ (s.data.toList.drop fr).drop (k - fr) := (List.take_append_drop _ _).symm
  have h2 : s.data.toList.drop k = s.data.toList[k]'(by omega) :: s.data.toList.drop (k + 1) := List.drop_eq_getElem_cons (by omega)
  have h3 : s.data.toList[k]'(by omega) = 10 := h10
  refine h1.trans ?_
  rw [List.drop_drop, show fr + (k - fr) = k by omega, h2, h3]
 have hl : ((s.data.toList.drop fr).take (k - fr)).length = k - fr := by simp; omega
 rw [linesB_first _ _ _ e (h.part (by omega)), hl]
 congr 1
 ·apply ba_ext
  rw [extract_data, extract_to_end, extract_data]; simp
 ·congr 1
  apply ba_ext
  rw [extract_to_end, extract_to_end, extract_to_end, List.drop_drop]
  congr 1; omega
theorem linesB_last (s : ByteArray) (fr : Nat) (h : NoNl s fr s.size) : linesB (s.extract fr s.size) = [s.extract fr s.size] := by
 apply linesB_none
 rw [extract_to_end]
 have := h.part (Nat.le_refl _)
 rw [List.take_of_length_le (by simp)] at this
 exact this
theorem extract_zero_all (s : ByteArray) : s.extract 0 s.size = s := by
 apply ba_ext; rw [extract_to_end]; rfl
theorem NoNl.start (s : ByteArray) (k : Nat) : NoNl s k k := fun j _ h1 h2 => by omega
end Go.Proofs.YtboeaeoefoabdaaGreatDoor
namespace Go.Proofs.YtboeaeoefoabdaaGreatDoor
open Go.RowKit
theorem first_nl (l : List UInt8) : (∀ b ∈ l, b ≠ 10) ∨ ∃ p r, l = p ++ 10 :: r ∧ ∀ b ∈ p, b ≠ 10 := by
 induction l with
 | nil => exact .inl (fun b hb => by simp at hb)
 | cons c l ih =>
  by_cases hc : c = 10
  ·exact .inr ⟨[], l, by simp [hc], fun b hb => by simp at hb⟩
  ·rcases ih with h | ⟨p, r, rfl, hp⟩
   ·exact .inl fun b hb => by
     rcases List.mem_cons.1 hb with rfl | hb
     ·exact hc
     ·exact h b hb
   ·exact .inr ⟨c :: p, r, rfl, fun b hb => by
     rcases List.mem_cons.1 hb with rfl | hb
     ·exact hc
     ·exact hp b hb⟩
theorem lines_small (n : Nat) : ∀ t : ByteArray, t.size ≤ n → (linesB t).length ≤ t.size + 1 ∧ ∀ x ∈ linesB t, x.size ≤ t.size := by
 induction n with
 | zero =>
  intro t ht
  have h : ∀ b ∈ t.data.toList, b ≠ 10 := by
   have hz : t.data.toList.length = t.size := by simp
   have : t.data.toList = [] := List.eq_nil_of_length_eq_zero (hz.trans (by omega))
   rw [this]; intro b hb; simp at hb
  rw [linesB_none t h]
  exact ⟨by simp, fun x hx => by rw [List.mem_singleton.1 hx]; exact Nat.le_refl _⟩
 | succ n ih =>
  intro t ht
  rcases first_nl t.data.toList with h | ⟨p, r, e, hp⟩
  ·rw [linesB_none t h]
   exact ⟨by simp, fun x hx => by rw [List.mem_singleton.1 hx]; exact Nat.le_refl _⟩
  ·have hsz : t.size = p.length + (r.length + 1) := by
    have : t.data.toList.length = t.size := by simp
    rw [← this, e]; simp
   rw [linesB_first t p r e hp]
   have e1 : (t.extract (p.length + 1) t.size).size = r.length := by rw [ByteArray.size_extract]; omega
   have e2 : (t.extract 0 p.length).size ≤ t.size := by rw [ByteArray.size_extract]; omega
   obtain ⟨i1, i2⟩ := ih (t.extract (p.length + 1) t.size) (by omega)
   rw [e1] at i1 i2
   refine ⟨by simp; omega, fun x hx => ?_⟩
   rcases List.mem_cons.1 hx with rfl | hx
   ·exact e2
   ·have := i2 x hx; omega
def lineBs (s : ByteArray) : List ByteArray := if s.size = 0 then [] else linesB s
theorem lineBs_small (s : ByteArray) : (lineBs s).length ≤ s.size + 1 ∧ ∀ x ∈ lineBs s, x.size ≤ s.size := by
 unfold lineBs
 split
 ·exact ⟨by simp, fun x hx => by simp at hx⟩
 ·exact lines_small s.size s (Nat.le_refl _)
end Go.Proofs.YtboeaeoefoabdaaGreatDoor
namespace Go.Proofs.YtboeaeoefoabdaaGreatDoor
open Go.RowKit
theorem ext_listR (s : ByteArray) (a b : Nat) : (s.extract a b).data.toList = (s.data.toList.take b).drop a := by
 rw [ByteArray.data_extract, Array.toList_extract, List.extract_eq_take_drop, List.drop_take]
def linL (l : List UInt8) : List (List UInt8) := (linesB ⟨l.toArray⟩).map fun x => x.data.toList
theorem linL_none (l : List UInt8) (h : ∀ b ∈ l, b ≠ 10) : linL l = [l] := by
 unfold linL
 rw [linesB_none _ (by simpa using h)]
 simp
theorem linL_first (p r : List UInt8) (h : ∀ b ∈ p, b ≠ 10) : linL (p ++ 10 :: r) = p :: linL r := by
 unfold linL
 rw [linesB_first _ p r (by simp) h]
 have e1 : ((⟨(p ++ 10 :: r).toArray⟩ : ByteArray).extract 0 p.length).data.toList = p := by rw [ext_listR]; simp
 have e2 : (⟨(p ++ 10 :: r).toArray⟩ : ByteArray).extract (p.length + 1) (⟨(p ++ 10 :: r).toArray⟩ : ByteArray).size = ⟨r.toArray⟩ := by
  apply ByteArray.ext
  apply Array.toList_inj.mp
  rw [ext_listR, bsize]
  show List.drop (p.length + 1) (List.take (p ++ 10 :: r).length (p ++ 10 :: r)) = r
  rw [List.take_of_length_le (Nat.le_refl _), show p ++ 10 :: r = (p ++ [10]) ++ r by simp, List.drop_left' (by simp)]
 rw [List.map_cons, e1, e2]
theorem linL_cat (n : Nat) : ∀ a b : List UInt8, a.length ≤ n → linL (a ++ 10 :: b) = linL a ++ linL b := by
 induction n with
 | zero =>
  intro a b ha
  have : a = [] := List.eq_nil_of_length_eq_zero (by omega)
  subst this
  rw [linL_none [] (by simp)]
  exact linL_first [] b (by simp)
 | succ n ih =>
  intro a b ha
  rcases first_nl a with h | ⟨p, r, rfl, hp⟩
  ·rw [linL_none a h, linL_first a b h]; rfl
  ·rw [List.append_assoc, List.cons_append, linL_first p _ hp, linL_first p r hp, ih r b (by simp at ha; omega)]; rfl
theorem hasI_nil : ¬ hasI [] := by rintro ⟨c, r, h, _⟩; cases h
theorem line_nil : LineR [] (some []) := .inl ⟨hasI_nil, rfl⟩
theorem line_note : LineR [59, 32, 110, 111, 116, 101] (some []) := .inl ⟨by
 rintro ⟨c, r, h, hc⟩
 have e : wordL [59, 32, 110, 111, 116, 101] = [59] := by decide
 rw [e] at h
 cases h
 exact hc rfl, rfl⟩
theorem plain_one (w : List UInt8) (hne : w ≠ []) (hw : ∀ c ∈ w, bl c = false) : Good (told w 1) ∧ (wordB w 1).size = 0 ∧ lineS w 1 = w := by
 obtain ⟨h1, h2⟩ := word_at [] w [] (by simp) hne hw (.inl rfl)
 simp only [List.nil_append, List.append_nil] at h1 h2
 refine ⟨(good_iff _ _).2 fun i hi => ?_, ?_, h1⟩
 ·obtain rfl : i = 0 := by omega
  rw [word_size]
  show (wordL w).length ≠ 0
  rw [h1]
  cases w with
  | nil => exact absurd rfl hne
  | cons c w => simp
 ·rw [word_size, behind_succ]
  show (wordL (restL w)).length = 0
  rw [h2]
  decide
theorem asm_is {q : Nat} (hq : q < 256) (hj : (opOf (q : Int)).1 ≠ jamN) (lo hi : Int) : AsmOk (opT (opOf (q : Int)).1 (opOf (q : Int)).2 lo hi) ([UInt8.ofNat q, UInt8.ofNat (lo % 256).toNat, UInt8.ofNat (hi % 256).toNat].take (modeSz (opOf (q : Int)).2).toNat) true := by
 have h0 : (rowAt q).1 ≠ noB := fun h => hj (by rw [rowAt_mod (q : Int) q (by omega), if_pos h])
 have er := op_rowA hq h0
 exact .inl ⟨rfl, q, lo, hi, hq, h0, by rw [er], fun j hjq hop => by have := (op_whose (n := (q : Int)) (by omega) (by omega) (by omega) hop).1; omega, by rw [er]⟩
theorem nop_text : (opOf 234).1 ≠ jamN ∧ opT (opOf 234).1 (opOf 234).2 0 0 = [78, 79, 80] ∧ modeSz (opOf 234).2 = 1 := by
 refine ⟨by decide +kernel, by decide +kernel, by decide +kernel⟩
theorem line_nop : LineR [78, 79, 80] (some [234]) := by
 obtain ⟨h1, h2, h3⟩ := plain_one [78, 79, 80] (by simp) (by decide)
 refine .inr ⟨⟨78, [79, 80], by decide, by decide⟩, 1, [234], true, h1, h2, ?_, rfl⟩
 rw [h3]
 have h := asm_is (q := 234) (by omega) nop_text.1 0 0
 have e : ((234 : Nat) : Int) = 234 := rfl
 rw [e, nop_text.2.1, nop_text.2.2] at h
 exact h
theorem row_name3 {c : Nat} (hc : c < 256) (h : (rowAt c).1 ≠ noB) : (rowAt c).1.data.toList.length ≤ 3 := by
 have := (op_size3 (c : Int)).1
 rw [op_rowA hc h] at this
 simpa using this
theorem line_junk : LineR [106, 117, 110, 107] none := by
 obtain ⟨h1, h2, h3⟩ := plain_one [106, 117, 110, 107] (by simp) (by decide)
 refine .inr ⟨⟨106, [117, 110, 107], by decide, by decide⟩, 1, [], false, h1, h2, ?_, rfl⟩
 rw [h3]
 refine .inr ⟨rfl, rfl, fun j hj hop => ?_⟩
 have e := is_name hj hop
 have hl := row_name3 hj hop.1
 rw [← e] at hl
 exact absurd hl (by decide)
theorem pre_cat {L M : List (List UInt8)} {a b : List UInt8} (h : ProgPre L L.length a) (g : ProgPre M M.length b) : ProgPre (L ++ M) (L ++ M).length (a ++ b) := by
 obtain ⟨p, hp, h2, rfl⟩ := h
 obtain ⟨q, hq, g2, rfl⟩ := g
 refine ⟨p ++ q, by simp [hp, hq], fun j hj hl => ?_, by simp⟩
 by_cases e : j < p.length
 ·rw [List.getElem_append_left e, List.getElem_append_left (by omega)]
  exact h2 j e (by omega)
 ·rw [List.getElem_append_right (by omega), List.getElem_append_right (by omega)]
  have hj' : j - p.length < q.length := by simp at hj; omega
  have := g2 (j - p.length) hj' (by omega)
  simpa only [hp] using this
theorem pre_line {l p : List UInt8} (h : LineR l (some p)) : ProgPre [l] [l].length p := by
 refine ⟨[p], rfl, fun j hj hl => ?_, by simp⟩
 obtain rfl : j = 0 := by simp at hj; omega
 exact h
theorem line_cat_lt {L M : List (List UInt8)} {i : Nat} {o : List UInt8} (hi : i ≤ L.length) (h : ProgPre L i o) : ProgPre (L ++ M) i o := by
 obtain ⟨p, rfl, h2, rfl⟩ := h
 refine ⟨p, rfl, fun j hj hl => ?_, rfl⟩
 rw [List.getElem_append_left (by omega)]
 exact h2 j hj (by omega)
theorem prog_more {l out : List UInt8} (h : ProgPre (linL l) (linL l).length out) : ProgOk (linL ([59, 32, 110, 111, 116, 101, 10] ++ l ++ [10, 78, 79, 80])) (out ++ [234]) (-1) := by
 have e : linL ([59, 32, 110, 111, 116, 101, 10] ++ l ++ [10, 78, 79, 80]) = [[59, 32, 110, 111, 116, 101]] ++ (linL l ++ [[78, 79, 80]]) := by
  have := linL_first [59, 32, 110, 111, 116, 101] (l ++ 10 :: [78, 79, 80]) (by decide)
  rw [linL_cat l.length l [78, 79, 80] (Nat.le_refl _), linL_none [78, 79, 80] (by decide)] at this
  simpa using this
 rw [e]
 exact prog_all (by simpa using pre_cat (pre_line line_note) (pre_cat h (pre_line line_nop)))
theorem prog_junk {l out : List UInt8} (h : ProgPre (linL l) (linL l).length out) : ProgOk (linL (l ++ [10, 106, 117, 110, 107])) [] ((linL l).length : Int) ∧ (linL (l ++ [10, 106, 117, 110, 107])).length = (linL l).length + 1 := by
 have e : linL (l ++ [10, 106, 117, 110, 107]) = linL l ++ [[106, 117, 110, 107]] := by
  have := linL_cat l.length l [106, 117, 110, 107] (Nat.le_refl _)
  rw [linL_none [106, 117, 110, 107] (by decide)] at this
  exact this
 rw [e]
 refine ⟨prog_bad (by simp) (line_cat_lt (Nat.le_refl _) h) ?_, by simp⟩
 rw [List.getElem_append_right (Nat.le_refl _)]
 simpa using line_junk
end Go.Proofs.YtboeaeoefoabdaaGreatDoor
namespace Go.Proofs.YtboeaeoefoabdaaGreatDoor
open Go.RowKit
theorem info9l : (Tryz.prog.info? 9).map (fun i => (i.zero, i.size, i.bytes)) = some (some (.string ⟨#[]⟩), 1, 16) := by kernel_rfl
def NewStrs (B : Nat) (w' : World) (v : Value) (L : List ByteArray) : Prop :=
 ∃ g cap cs, v = .slice (some ⟨g, 0, none⟩) L.length cap ∧ B ≤ g ∧ w'.heap[g]? = some (.cells cs 9 (0, 0)) ∧ L.length ≤ cs.size ∧ ∀ i (h : i < L.length), cs[i]? = some (.string L[i])
theorem newStrs_own {B : Nat} {w' : World} {v : Value} {L : List ByteArray} (h : w'.ownsRow B 9 1 v L.length (L.map Value.string)) (hp : L ≠ [] ∨ v ≠ .slice none 0 0) : NewStrs B w' v L := by
 rcases h.2 with ⟨rfl, h0⟩ | ⟨g, cap, cur, rfl, hb, hg, hn, _, hs, ht⟩
 ·have : L = [] := List.eq_nil_of_length_eq_zero h0
  subst this
  simp at hp
 ·refine ⟨g, cap, cur, rfl, hb, hg, by omega, fun i hi => ?_⟩
  have e : (cur.toList.take (L.length * 1))[i]? = (L.map Value.string)[i]? := by rw [ht]
  rw [List.getElem?_take, if_pos (by omega)] at e
  simpa [hi] using e
def LinesPost (s : ByteArray) (w : World) (e : Ending) (w' : World) : Prop := ∃ v, e = .returned v ∧ NewStrs w.heap.size w' v (if s.size = 0 then [] else linesB s) ∧ Below w.heap.size w w'
set_option maxRecDepth 100000 in
theorem spec_lines_empty (w : World) : Calls Tryz.prog 40 #[.string ⟨#[]⟩] w (LinesPost ⟨#[]⟩ w) := by
 go_enter Tryz.func40, Tryz.ntmps40
 go_wp2
 go_ret
 exact ⟨_, rfl, ⟨w.heap.size, 0, #[], rfl, Nat.le_refl _, heap_alloc_new w _, Nat.le_refl _, fun i h => absurd h (Nat.not_lt_zero _)⟩, (Below.refl _ _).alloc (Nat.le_refl _) _⟩
set_option maxRecDepth 100000 in
set_option maxHeartbeats 800000 in
theorem spec_lines (s : ByteArray) (h0 : s.size ≠ 0) (hs : s.size ≤ 1048576) (w : World) : Calls Tryz.prog 40 #[.string s] w (LinesPost s w) := by
 obtain ⟨i0, hi, hz0, hz1, hz2⟩ := info_parts info9l
 have hemp : s.toList.isEmpty = false := by
  rw [← decide_eq_emptyBytes]
  exact decide_eq_false (fun h => h0 (by rw [h]; rfl))
 go_enter Tryz.func40, Tryz.ntmps40
 go_wp2
 go_loopw [3, 4, 5] (fun v3 v4 v5 wr => ∃ (fr k : Nat) (L : List ByteArray), fr ≤ k ∧ k ≤ s.size ∧ v4 = .int .i64 fr ∧ v5 = .int .i64 k ∧ L.length ≤ fr ∧ wr.ownsRow w.heap.size 9 1 v3 L.length (L.map Value.string) ∧ Hid (L ++ linesB (s.extract fr s.size) = linesB s ∧ NoNl s fr k) ∧ Below w.heap.size w wr)
  (fun _ _ v5 _ => s.size - (intOf v5).toNat)
 case atStart =>
  exact ⟨0, 0, [], by omega, by omega, rfl, rfl, by simp, World.ownsRow_lit _ #[] 0 (Nat.le_refl _) (by decide) rfl, ⟨by rw [extract_zero_all]; rfl, NoNl.start s 0⟩, (Below.refl _ _).alloc (Nat.le_refl _) _⟩
 case round =>
  obtain ⟨fr, k, L, hfk, hk, rfl, rfl, hL, hown, hH, hb⟩ := hrel
  by_cases hlt : k < s.size
  ·by_cases h10 : s[k] = 10
   ·have h10' : ((s[k].toNat : Int) == 10) = true := by rw [h10]; rfl
    have HN : Hid ((L ++ [s.extract fr k]) ++ linesB (s.extract (k + 1) s.size) = linesB s) := by
     have := hH.out.1
     rw [linesB_step s fr k hfk hlt h10 hH.out.2] at this
     rw [← this]; show _ = _; simp
    clear h10 hH
    go_wp2_with (at_builtin; refine wpList_append_own _ rfl _ _ 46 rfl w.heap.size 9 i0 (.string ⟨#[]⟩) 1 16 Tryz.underlying46 hi hz0 hz1 hz2 rfl (by decide) _ _ _ rfl (hown.alloc _) ⟨wr.heap.size, 0, none⟩ 1 1 [.string (s.extract fr k)] rfl rfl ?c1 ?c2 ?c3 ?c4 ?c5 ?_)
    case c1 =>
     intro j u hj
     match j, hj with
     | 0, hj => simp at hj; subst hj; simp [Addr.add]
    case c2 => intro u hu; simp at hu; subst hu; rfl
    case c3 => unfold maxLen; omega
    case c4 => omega
    case c5 => have := hb.size; simp; omega
    intro v' w1 hown' hgrow _
    have hown2 : w1.ownsRow w.heap.size 9 1 v' (L ++ [s.extract fr k]).length ((L ++ [s.extract fr k]).map Value.string) := by simpa using hown'
    have hb' : Below w.heap.size w w1 := (hb.alloc hb.size _).grown hgrow (by have := hb.size; simp; omega) (fun g hg => (hown.lt g hg).1)
    clear hgrow hb hown hown'
    go_wp2
    go_roundw
    case rel => exact ⟨k + 1, k + 1, L ++ [s.extract fr k], by omega, by omega, by go_num, by go_num, by simp; omega, hown2, ⟨HN.out, NoNl.start s (k + 1)⟩, hb'⟩
    case measure => simp [intOf]; omega
   ·have h10' : ((s[k].toNat : Int) == 10) = false := by
     simp only [beq_eq_false_iff_ne]
     intro e
     exact h10 (UInt8.toNat_inj.1 (by show s[k].toNat = 10; omega))
    have HM := hH.out.2.more hlt h10
    have H1 := Lib.hid hH.out.1
    clear h10 hH
    go_wp2
    go_roundw
    case rel => exact ⟨fr, k + 1, L, by omega, by omega, rfl, by go_num, hL, hown, ⟨H1.out, HM⟩, hb⟩
    case measure => simp [intOf]; omega
  ·obtain rfl : k = s.size := by omega
   have HN : Hid (L ++ [s.extract fr s.size] = linesB s) := by
    have := hH.out.1
    rw [linesB_last s fr hH.out.2] at this
    exact this
   clear hH
   go_wp2_with (at_builtin; refine wpList_append_own _ rfl _ _ 46 rfl w.heap.size 9 i0 (.string ⟨#[]⟩) 1 16 Tryz.underlying46 hi hz0 hz1 hz2 rfl (by decide) _ _ _ rfl (hown.alloc _) ⟨wr.heap.size, 0, none⟩ 1 1 [.string (s.extract fr s.size)] rfl rfl ?d1 ?d2 ?d3 ?d4 ?d5 ?_)
   case d1 =>
    intro j u hj
    match j, hj with
    | 0, hj => simp at hj; subst hj; simp [Addr.add]
   case d2 => intro u hu; simp at hu; subst hu; rfl
   case d3 => unfold maxLen; omega
   case d4 => omega
   case d5 => have := hb.size; simp; omega
   intro v' w1 hown' hgrow _
   have hown2 : w1.ownsRow w.heap.size 9 1 v' (L ++ [s.extract fr s.size]).length ((L ++ [s.extract fr s.size]).map Value.string) := by simpa using hown'
   rw [HN.out] at hown2
   have hb' : Below w.heap.size w w1 := (hb.alloc hb.size _).grown hgrow (by have := hb.size; simp; omega) (fun g hg => (hown.lt g hg).1)
   have hne : linesB s ≠ [] := by rw [← HN.out]; simp
   have HP : Hid (NewStrs w.heap.size w1 v' (if s.size = 0 then [] else linesB s)) := by rw [if_neg h0]; exact newStrs_own hown2 (.inl hne)
   clear hgrow hb hown hown' hown2 hne
   go_wp2
   go_ret
   exact ⟨v', rfl, HP.out, hb'⟩
end Go.Proofs.YtboeaeoefoabdaaGreatDoor
namespace Go.Proofs
open Go.Shelf
def Tryz.lays99_ren : Go.Shelf.Ren := ⟨fun | 99 => 103 | 206 => 125 | n => n, fun | 9 => 9 | 4 => 4 | 3 => 3 | n => n, fun | n => n⟩
theorem Tryz.lays99 : Go.Proofs.Lays.n99 Tryz.prog Tryz.lays99_ren := {
 mixed := by kernel_rfl
 f99 := Tryz.func103.trans (congrArg some (by kernel_rfl))
 f206 := Tryz.func125.trans (congrArg some (by kernel_rfl))
 t3 := Tryz.underlying3
 a3 := Tryz.isAgg3
 z3 := Tryz.sizeOf3
 v3 := Tryz.zeroValue3
 t4 := Tryz.underlying4
 a4 := Tryz.isAgg4
 z4 := Tryz.sizeOf4
 v4 := Tryz.zeroValue4
 t9 := Tryz.underlying9
 a9 := Tryz.isAgg9
 z9 := Tryz.sizeOf9
 v9 := Tryz.zeroValue9 }
open Go.RowKit Go.Lib in
theorem Tryz.strings_HasPrefix (s p : ByteArray) (w : World) :
  Calls Tryz.prog 103 #[.string s, .string p] w fun e w' => e = .returned (.bool (Lib.hasPrefix s.data.toList p.data.toList)) ∧ w' = w := Any.strings_HasPrefix Tryz.lays99 s p w
end Go.Proofs
namespace Go.Proofs
open Go.Shelf
def Tryz.lays146_ren : Go.Shelf.Ren := ⟨fun | 146 => 71 | 221 => 104 | 268 => 126 | 138 => 127 | 143 => 128 | 195 => 149 | 197 => 120 | 218 => 150 | 219 => 116 | 260 => 145 | 217 => 135 | 225 => 136 | 224 => 137 | 267 => 138 | 266 => 154 | 314 => 155 | n => n, fun | 9 => 9 | 31 => 46 | 3 => 3 | 4 => 4 | 0 => 0 | 105 => 160 | 21 => 21 | 5 => 5 | 46 => 91 | 119 => 181 | 139 => 184 | 138 => 183 | 146 => 176 | 51 => 175 | n => n, fun | 1 => 1 | 3 => 4 | 4 => 5 | n => n⟩
theorem Tryz.lays146 : Go.Proofs.Lays.n146 Tryz.prog Tryz.lays146_ren := {
 mixed := by kernel_rfl
 f138 := Tryz.func127.trans (congrArg some (by kernel_rfl))
 f143 := Tryz.func128.trans (congrArg some (by kernel_rfl))
 f146 := Tryz.func71.trans (congrArg some (by kernel_rfl))
 f195 := Tryz.func149.trans (congrArg some (by kernel_rfl))
 f197 := Tryz.func120.trans (congrArg some (by kernel_rfl))
 f217 := Tryz.func135.trans (congrArg some (by kernel_rfl))
 f218 := Tryz.func150.trans (congrArg some (by kernel_rfl))
 f219 := Tryz.func116.trans (congrArg some (by kernel_rfl))
 f221 := Tryz.func104.trans (congrArg some (by kernel_rfl))
 f224 := Tryz.func137.trans (congrArg some (by kernel_rfl))
 f225 := Tryz.func136.trans (congrArg some (by kernel_rfl))
 f260 := Tryz.func145.trans (congrArg some (by kernel_rfl))
 f266 := Tryz.func154.trans (congrArg some (by kernel_rfl))
 f267 := Tryz.func138.trans (congrArg some (by kernel_rfl))
 f268 := Tryz.func126.trans (congrArg some (by kernel_rfl))
 f314 := Tryz.func155.trans (congrArg some (by kernel_rfl))
 t0 := Tryz.underlying0
 a0 := Tryz.isAgg0
 z0 := Tryz.sizeOf0
 v0 := Tryz.zeroValue0
 t3 := Tryz.underlying3
 a3 := Tryz.isAgg3
 z3 := Tryz.sizeOf3
 v3 := Tryz.zeroValue3
 t4 := Tryz.underlying4
 a4 := Tryz.isAgg4
 z4 := Tryz.sizeOf4
 v4 := Tryz.zeroValue4
 t5 := Tryz.underlying5
 a5 := Tryz.isAgg5
 z5 := Tryz.sizeOf5
 v5 := Tryz.zeroValue5
 t9 := Tryz.underlying9
 a9 := Tryz.isAgg9
 z9 := Tryz.sizeOf9
 v9 := Tryz.zeroValue9
 t21 := Tryz.underlying21
 a21 := Tryz.isAgg21
 z21 := Tryz.sizeOf21
 v21 := Tryz.zeroValue21
 t31 := Tryz.underlying46
 a31 := Tryz.isAgg46
 z31 := Tryz.sizeOf46
 v31 := Tryz.zeroValue46
 t46 := Tryz.underlying91
 a46 := Tryz.isAgg91
 z46 := Tryz.sizeOf91
 v46 := Tryz.zeroValue91
 t51 := Tryz.underlying175
 a51 := Tryz.isAgg175
 z51 := Tryz.sizeOf175
 v51 := Tryz.zeroValue175
 t105 := Tryz.underlying160
 a105 := Tryz.isAgg160
 z105 := Tryz.sizeOf160
 v105 := Tryz.zeroValue160
 t119 := Tryz.underlying181
 a119 := Tryz.isAgg181
 z119 := Tryz.sizeOf181
 t138 := Tryz.underlying183
 a138 := Tryz.isAgg183
 z138 := Tryz.sizeOf183
 v138 := Tryz.zeroValue183
 t139 := Tryz.underlying184
 a139 := Tryz.isAgg184
 z139 := Tryz.sizeOf184
 v139 := Tryz.zeroValue184
 t146 := Tryz.underlying176
 a146 := Tryz.isAgg176
 z146 := Tryz.sizeOf176
 v146 := Tryz.zeroValue176
 g1 := by kernel_rfl
 g3 := by kernel_rfl
 g4 := by kernel_rfl }
open Go.RowKit Go.Lib in
theorem Tryz.strings_Split (s sep : ByteArray) (m : Int) (w : World) (hs : s.size < 4294967281) (hm : w.cell? ⟨1, 0, none⟩ = some (.int .i64 m)) (h1 : 1 ≤ sep.size) :
  Calls Tryz.prog 71 #[.string s, .string sep] w fun e w' =>
   e = .returned (.slice (some ⟨w.heap.size, 0, none⟩) (Lib.countB s sep + 1) (Lib.countB s sep + 1)) ∧ w' = w.alloc (.cells ((Lib.splitB sep 0 (Lib.countB s sep) s).map Value.string).toArray 9) := Any.strings_Split Tryz.lays146 (by kernel_rfl) s sep m w hs hm h1
end Go.Proofs
