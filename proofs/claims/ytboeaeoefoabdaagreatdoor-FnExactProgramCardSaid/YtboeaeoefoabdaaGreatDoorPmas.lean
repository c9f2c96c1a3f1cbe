/-
  Texts put together by program: VwE, AsH, CuB, RpB.
  Conditions: as each theorem says.
-/
import Derived.Lib.IndexMore
import Derived.Maps.AppendAt
import Derived.Outline
import Derived.WalkMore
import Derived.Test.YtboeaeoefoabdaaGreatDoorPmar
namespace Go.Proofs.YtboeaeoefoabdaaGreatDoor
open Go Go.RowKit Go.Shelf
attribute [local go_sem] Oper.semAt_some
theorem scope_in {n : Nat} {P : Program} {c : Code} {Q : Exit → Act → World → Prop} {a : Act} {w : World} (h : c.wpIn Fence.wide n P (Exit.noGoto Q) a w) : (Code.scope c).wpIn Fence.wide n P Q a w := wpIn_wide.2 (wp_scope_straight ((wpIn_wide (n := n)).1 h))
theorem emp_size (x : ByteArray) : x.toList.isEmpty = true ↔ x.size = 0 := by
 rw [ByteArray.toList_eq, List.isEmpty_iff]
 show _ ↔ x.data.size = 0
 rw [← Array.length_toList, List.length_eq_zero_iff]
theorem info9w : (Tryz.prog.info? 9).map (fun i => (i.zero, i.size, i.bytes)) = some (some (.string ⟨#[]⟩), 1, 16) := by kernel_rfl
def OwnPost (s : ByteArray) (w : World) (e : Ending) (W' : World) : Prop := ∃ v k, e = .returned v ∧ Good (told s.data.toList k) ∧ (wordB s.data.toList k).size = 0 ∧ W'.ownsRow w.heap.size 9 1 v k ((told s.data.toList k).map Value.string) ∧ (v = .slice none 0 0 ↔ k = 0) ∧ Below w.heap.size w W'
def BoxI (n₀ B : Nat) (w : World) (pre : List ByteArray) (W : World) : Prop := (∃ v, Boxed W B 46 v ∧ W.ownsRow n₀ 9 1 v pre.length (pre.map Value.string) ∧ ((v = .slice none 0 0 ↔ pre = []) ∧ Good pre)) ∧ Below n₀ w W
def BoxX (n₀ B : Nat) (w : World) (xs : List ByteArray) (W : World) : Prop := (∃ v, Boxed W B 46 v ∧ W.ownsRow n₀ 9 1 v xs.dropLast.length (xs.dropLast.map Value.string) ∧ ((v = .slice none 0 0 ↔ xs.dropLast = []) ∧ Good xs.dropLast ∧ ∃ x, xs.getLast? = some x ∧ x.size = 0)) ∧ Below n₀ w W
theorem grown_none {A B : World} (h : Below A.heap.size A B) : A.grownBy B none := ⟨h.os, h.tape, h.output, h.size, fun k hk _ => h.block k hk⟩
theorem row_keep {n₀ : Nat} {A B : World} {e : TypeId} {size : Nat} {v : Value} {k : Nat} {xs : List Value} (h : A.ownsRow n₀ e size v k xs) (hb : Below A.heap.size A B) : B.ownsRow n₀ e size v k xs := by
 refine h.kept (grown_none hb) ?_
 rcases h.2 with ⟨rfl, _⟩ | ⟨g, cap, cur, rfl, _, hgb, _⟩
 ·exact .inl rfl
 ·exact .inr (by simp [Value.ownBlock])
theorem BoxI_keep {n₀ B : Nat} {w : World} (pre : List ByteArray) (W1 W2 : World) (h : BoxI n₀ B w pre W1) (hn : n₀ ≤ W1.heap.size) (hb : Below W1.heap.size W1 W2) : BoxI n₀ B w pre W2 := by
 obtain ⟨⟨v, h1, h2, h3⟩, h4⟩ := h
 exact ⟨⟨v, h1.kept (grown_none hb) (by simp), row_keep h2 hb, h3⟩, h4.trans (hb.mono hn)⟩
theorem BoxX_keep {n₀ B : Nat} {w : World} (pre : List ByteArray) (W1 W2 : World) (h : BoxX n₀ B w pre W1) (hn : n₀ ≤ W1.heap.size) (hb : Below W1.heap.size W1 W2) : BoxX n₀ B w pre W2 := by
 obtain ⟨⟨v, h1, h2, h3⟩, h4⟩ := h
 exact ⟨⟨v, h1.kept (grown_none hb) (by simp), row_keep h2 hb, h3⟩, h4.trans (hb.mono hn)⟩
set_option maxRecDepth 100000 in
set_option maxHeartbeats 2000000 in
theorem words_in (s : ByteArray) (hs : s.size ≤ 1048576) (w : World) :
  CallsIn Fence.wide 3 Tryz.prog 53 #[.string s] w (OwnPost s w) := by
 obtain ⟨i0, hi, hz0, hz1, hz2⟩ := info_parts info9w
 refine callsIn_of_wp_marks Tryz.func53 rfl trivial ?_ rfl
 simp only [Tryz.ntmps53, List.size_toArray, List.length_cons, List.length_nil, Nat.reduceAdd, Nat.reduceSub, Array.replicate_succ, Array.replicate_zero, List.push_toArray, List.append_toArray, List.nil_append, List.cons_append]
 gi_wp2
 refine scope_in ?_
 gi_wp2_with (refine ⟨trivial, fun h => (by cases h), ?_⟩; refine (wordsOf_any _ _ _).mono ?_; rintro e w1 ⟨rfl, rfl⟩)
 have bO := Boxed.new w 46 (.slice none 0 0)
 have bN := Boxed.new (w.alloc (.cells #[.slice none 0 0] 46)) 9 (.string s)
 rw [World.size_alloc] at bN
 have hB0 : Below w.heap.size w ((w.alloc (.cells #[.slice none 0 0] 46)).alloc (.cells #[.string s] 9)) := ((Below.refl _ w).alloc (Nat.le_refl _) _).alloc (by simp) _
 have hsl : s.data.toList.length = s.size := by simp
 refine wpIn_label ?_
 gi_wp2_with (refine ⟨trivial, ?_⟩; refine (wordsOf_any _ _ _).mono ?_; rintro e w1 ⟨rfl, rfl⟩)
 have hT := words_tells 2 w.heap.size (w.heap.size + 1) s (by omega) ((w.alloc (.cells #[.slice none 0 0] 46)).alloc (.cells #[.string s] 9)) (by simp) bN.cell
 refine range_tells (gf := 115) (lb := #[.pointer (some ⟨w.heap.size + 1, 0, none⟩)]) (n₀ := w.heap.size) (id := 0) rfl (by omega) rfl trivial (enters_of Tryz.func115 (by kernel_rfl) rfl) rfl hT (by simp; omega) (Below.refl _ _)
  (BoxI w.heap.size w.heap.size w) (BoxX w.heap.size w.heap.size w) ?oI ?oX (fun pre W h => by obtain ⟨⟨v, _, _, _, h⟩, _⟩ := h; exact h) ?h0
  (fun x => { tmps := #[.string s, undef, .slice none 0 0, .pointer (some ⟨w.heap.size, 0, none⟩), .string x, .string s, .func (.func 115) #[] #[.pointer (some ⟨w.heap.size + 1, 0, none⟩)], .string x, undef, undef, undef, undef, undef, undef, undef, undef], defers := [] })
  (fun pre W1 W2 h hb => BoxI_keep pre W1 W2 h h.2.size hb) (fun pre W1 W2 h hb => BoxX_keep pre W1 W2 h h.2.size hb) ?assign ?body ?stop
 case oI => exact OwnFrom.and (Own.from (holdsRow_own w.heap.size w.heap.size 46 9 1 (fun pre => pre.length) (fun pre => pre.map Value.string) (fun pre v => (v = .slice none 0 0 ↔ pre = []) ∧ Good pre)) _) (ownFrom_below (Nat.le_refl _) (by simp; omega))
 case oX => exact OwnFrom.and (Own.from (holdsRow_own w.heap.size w.heap.size 46 9 1 (fun xs : List ByteArray => xs.dropLast.length) (fun xs => xs.dropLast.map Value.string) (fun xs v => (v = .slice none 0 0 ↔ xs.dropLast = []) ∧ Good xs.dropLast ∧ ∃ x : ByteArray, xs.getLast? = some x ∧ x.size = 0)) _) (ownFrom_below (Nat.le_refl _) (by simp; omega))
 case h0 => exact ⟨⟨_, bO.alloc _, World.ownsRow_nil _ _ _ _, by simp, by simp [Good]⟩, hB0⟩
 case assign =>
  intro l x W K hK
  gi_wp2
  exact hK
 case body =>
  rintro l pre x W ⟨⟨v, hv, hrow, hnil, hg⟩, hB⟩ hlt
  have hc := hv.cell
  gi_wp2_with (gi_at_builtin; refine wpListIn_append_own _ rfl _ _ 46 rfl w.heap.size 9 i0 (.string ⟨#[]⟩) 1 16 Tryz.underlying46 hi hz0 hz1 hz2 rfl (by decide) _ _ _ rfl (hrow.alloc _) ⟨W.heap.size, 0, none⟩ 1 1 [.string x] rfl rfl ?c1 ?c2 ?c3 ?c4 ?c5 ?_)
  case c1 =>
   intro j u hj
   match j, hj with
   | 0, hj => simp at hj; subst hj; simp [Addr.add]
  case c2 => intro u hu; simp at hu; subst hu; rfl
  case c3 => unfold maxLen; omega
  case c4 => omega
  case c5 => have := hB.size; simp; omega
  ·have he : x.toList.isEmpty = true := by assumption
   exact ⟨rfl, KeepsOthers.refl _, ⟨v, hv, by simpa using hrow, by simpa using hnil, by simpa using hg, x, by simp, (emp_size x).1 he⟩, hB⟩
  ·have he : x.toList.isEmpty = false := by assumption
   intro v' w1 hown' hgrow _
   obtain ⟨g', cap', rfl⟩ := ownsRow_succ hown'
   obtain ⟨hv1, hv2, hr2, hk2, hb2⟩ := hv.appended (by decide) hrow hB.size (Nat.le_refl _) hown' hgrow
   have hc1 := hv1.cell
   have hf1 := hv1.frozen
   gi_wp2
   exact ⟨hk2, hb2, ⟨_, hv2, by simpa using hr2, by simp, fun y hy => by
    rcases List.mem_append.1 hy with hy | hy
    ·exact hg y hy
    ·rw [List.mem_singleton] at hy; subst hy; intro h0; rw [(emp_size y).2 h0] at he; cases he⟩, hB.trans hb2⟩
 case stop =>
  rintro D pre W hD ⟨k, rfl⟩ ⟨⟨v, hv, hrow, hnil, hg, x, hx, hx0⟩, hB⟩ hK
  have hc := hv.cell
  refine wpIn_exit ?_
  gi_wp2
  rw [told_succ, List.dropLast_concat] at hrow hnil hg
  rw [told_succ, List.getLast?_concat] at hx
  obtain rfl := Option.some.inj hx
  refine ⟨by simp, .inl ⟨_, _, rfl, run_takeDeferred hK, ?_⟩⟩
  refine ⟨_, results_tmp rfl _ _ _, v, k, rfl, hg, hx0, ?_, ?_, hB.trans (belowK_b (w := w) (Nat.le_refl _) W D _ _ (by simp at hD; omega) hK rfl rfl)⟩
  ·have := ownsRow_putObj hrow (.deferred none) hK rfl
   simpa [told] using this
  ·rw [hnil]; simp [told]
end Go.Proofs.YtboeaeoefoabdaaGreatDoor
namespace Go.Proofs.YtboeaeoefoabdaaGreatDoor
open Go.RowKit
def WordsI (l : List UInt8) (w : World) (e : Ending) (w' : World) : Prop := ∃ (A : Option Addr) (k cap : Nat), e = .returned (.slice A k cap) ∧ Good (told l k) ∧ (wordB l k).size = 0 ∧ k ≤ cap ∧ (k = 0 ∨ ∃ g, A = some ⟨g, 0, none⟩ ∧ g < w'.heap.size ∧ ∀ j x, (told l k)[j]? = some x → w'.cell? ⟨g, 0 + j, none⟩ = some (.string x)) ∧ Below w.heap.size w w'
theorem impl_words (s : ByteArray) (hs : s.size ≤ 1048576) (w : World) : Calls Tryz.prog 53 #[.string s] w (WordsI s.data.toList w) := by
 refine ((callsIn_wide (n := 3)).1 (words_in s hs w)).mono ?_
 rintro e w' ⟨v, k, rfl, h1, h2, h3, _, h5⟩
 generalize s.data.toList = l at *
 rcases h3.2 with ⟨rfl, h0⟩ | ⟨g, cap, cur, rfl, _, hg, hcap, _⟩
 ·subst h0
  exact ⟨none, 0, 0, rfl, h1, h2, Nat.le_refl _, .inl rfl, h5⟩
 ·refine ⟨some ⟨g, 0, none⟩, k, cap, rfl, h1, h2, hcap, .inr ⟨g, rfl, (Array.getElem?_eq_some_iff.1 hg).1, fun j x hx => ?_⟩, h5⟩
  have := h3.cells (g := g) rfl j (.string x) (by rw [List.getElem?_map, hx]; rfl)
  rw [Nat.zero_add]
  cases j with
  | zero => simpa [Addr.add] using this
  | succ j => simpa [Addr.add] using this
theorem inter_join : ∀ ws : List (List UInt8), Lib.join ws [32] = joinB ws
 | [] => rfl
 | [v] => by simp [Lib.join, List.intercalate, joinB]
 | v :: u :: ws => by
  have ih := inter_join (u :: ws)
  unfold Lib.join at ih ⊢
  show _ = v ++ 32 :: joinB (u :: ws)
  rw [← ih]
  simp [List.intercalate]
theorem told_lists (l : List UInt8) (k : Nat) : (told l k).map (fun x => x.data.toList) = wordsL l k := by
 simp [told, wordsL, wordB]
theorem join_call (l : List UInt8) (hl : l.length ≤ 1048576) (A : Option Addr) (k cap : Nat) (hg : Good (told l k)) (hcap : k ≤ cap) (w : World) (hc : k = 0 ∨ ∃ g, A = some ⟨g, 0, none⟩ ∧ g < w.heap.size ∧ ∀ j x, (told l k)[j]? = some x → w.cell? ⟨g, 0 + j, none⟩ = some (.string x)) :
  Calls Tryz.prog 52 #[.slice A k cap, .string ⟨#[32]⟩] w fun e w' => e = .returned (.string ⟨(lineS l k).toArray⟩) ∧ Below w.heap.size w w' := by
 rcases hc with rfl | ⟨g, rfl, hgl, hcell⟩
 ·refine (Tryz.strings_Join_none A cap ⟨#[32]⟩ w).mono ?_
  rintro e w' ⟨rfl, rfl⟩
  exact ⟨rfl, Below.refl _ _⟩
 ·have hb := lineS_bound hg
  have h := Tryz.strings_Join g 0 cap (told l k) ⟨#[32]⟩ w hcell hgl (by rw [told_length]; have := told_bound l k hg; omega) (by rw [told_length]; exact hcap) (by
   rw [told_lists, show (⟨#[32]⟩ : ByteArray).data.toList = [32] from rfl, inter_join]
   show (lineS l k).length ≤ _
   omega)
  rw [told_lists, told_length, show (⟨#[32]⟩ : ByteArray).data.toList = [32] from rfl, inter_join] at h
  exact h
theorem set_ascii : ∀ (j : Nat) b, (⟨#[35, 36, 40, 41, 44, 88, 89]⟩ : ByteArray).data.toList[j]? = some b → b.toNat < 128 := by
 intro j b h
 have hm := List.mem_of_getElem? h
 have : ∀ c ∈ ([35, 36, 40, 41, 44, 88, 89] : List UInt8), c.toNat < 128 := by decide
 exact this b hm
theorem trim_call (l : List UInt8) (hl : l.length ≤ 1048576) (w : World) : Calls Tryz.prog 56 #[.string ⟨l.toArray⟩, .string ⟨#[35, 36, 40, 41, 44, 88, 89]⟩] w fun e w' => e = .returned (.string ⟨(trimT l).toArray⟩) ∧ Below w.heap.size w w' := by
 have h := Any.strings_Trim_laid Tryz.lays160 (by kernel_rfl) ⟨l.toArray⟩ ⟨#[35, 36, 40, 41, 44, 88, 89]⟩ w (by rw [bsize]; omega) (by decide) set_ascii
 rw [show (⟨l.toArray⟩ : ByteArray).data.toList = l by simp] at h
 exact h
end Go.Proofs.YtboeaeoefoabdaaGreatDoor
namespace Go.Proofs.YtboeaeoefoabdaaGreatDoor
open Go.RowKit
theorem cut_index (l : List UInt8) : (0 ≤ Lib.index l [32] ∧ l.take (Lib.index l [32]).toNat = nameL l ∧ l.drop ((Lib.index l [32]).toNat + 1) = restB l) ∨ (Lib.index l [32] = -1 ∧ nameL l = l ∧ restB l = []) := by
 unfold nameL restB
 induction l with
 | nil => exact .inr ⟨rfl, rfl, rfl⟩
 | cons c l ih =>
  unfold Lib.index
  by_cases hc : c = 32
  ·subst hc
   refine .inl ?_
   simp
  ·have h1 : ([32] : List UInt8).isPrefixOf (c :: l) = false := by simp [List.isPrefixOf, Ne.symm hc]
   have h2 : (c != 32) = true := by simp [hc]
   rw [if_neg (by simp [h1]), List.takeWhile_cons, if_pos h2, List.dropWhile_cons, if_pos h2]
   rcases ih with ⟨i0, i1, i2⟩ | ⟨i0, i1, i2⟩
   ·refine .inl ?_
    rw [if_neg (by simp; omega)]
    have e : (Lib.index l [32] + 1).toNat = (Lib.index l [32]).toNat + 1 := by omega
    refine ⟨by omega, ?_, ?_⟩
    ·rw [e, List.take_succ_cons, i1]
    ·rw [e, List.drop_succ_cons, i2]
   ·refine .inr ?_
    rw [if_pos (by simp [i0])]
    exact ⟨rfl, by rw [i1], i2⟩
theorem cut_blank (l : List UInt8) : (Lib.cut l [32]).1 = nameL l ∧ (Lib.cut l [32]).2.1 = restB l := by
 unfold Lib.cut
 rcases cut_index l with ⟨h0, h1, h2⟩ | ⟨h0, h1, h2⟩
 ·rw [if_pos h0]; exact ⟨h1, h2⟩
 ·rw [if_neg (by omega)]; exact ⟨h1.symm, h2.symm⟩
theorem cut_call (s : ByteArray) (hs : s.size < 4294967281) (m : Int) (w : World) (hm : w.cell? ⟨1, 0, none⟩ = some (.int .i64 m)) : ∃ b, Calls Tryz.prog 54 #[.string s, .string ⟨#[32]⟩] w fun e w' => e = .returned (.tuple #[.string ⟨(nameL s.data.toList).toArray⟩, .string ⟨(restB s.data.toList).toArray⟩, .bool b]) ∧ Below w.heap.size w w' := by
 have h := Tryz.strings_Cut s ⟨#[32]⟩ m w hs hm
 obtain ⟨e1, e2⟩ := cut_blank s.data.toList
 rw [show (⟨#[32]⟩ : ByteArray).data.toList = [32] from rfl, e1, e2] at h
 exact ⟨(Lib.cut s.data.toList [32]).2.2, h.mono fun e w' ⟨he, n, hw⟩ => ⟨he, by rw [hw]; exact below_drewN (Below.refl _ _) n⟩⟩
end Go.Proofs.YtboeaeoefoabdaaGreatDoor
namespace Go.Proofs.YtboeaeoefoabdaaGreatDoor
open Go.RowKit
def Got (bs : List UInt8) (k : Nat) (a : Int) : Prop := HexOk (bs.take k) ∧ a = hexNum (bs.take k)
theorem Got.step {bs : List UInt8} {k : Nat} {a : Int} (h : Got bs k a) (hk : k < bs.length) (hv : 0 ≤ hxv bs[k].toNat) : Got bs (k + 1) (a * 16 + hxv bs[k].toNat) := by
 obtain ⟨h1, rfl⟩ := h
 have e : bs.take (k + 1) = bs.take k ++ [bs[k]] := List.take_succ_eq_append_getElem hk
 refine ⟨?_, by rw [e, hexNum_snoc]; omega⟩
 rw [e]
 intro c hc
 simp only [List.mem_append, List.mem_singleton] at hc
 rcases hc with hc | rfl
 ·exact h1 c hc
 ·exact hv
theorem Got.bd {bs : List UInt8} {k : Nat} {a : Int} (h : Got bs k a) (h7 : bs.length ≤ 7) : 0 ≤ a ∧ a < 4294967296 := by
 obtain ⟨h1, rfl⟩ := h
 exact hexNum_bd _ h1 (by simp; omega)
def Ends16 (l : List UInt8) (W1 : World) (e : Ending) (w' : World) : Prop :=
 ((HexOk l ∧ e = .returned (.tuple #[.int .u64 (hexNum l), .nilIface])) ∨ ((∃ c ∈ l, hxv c.toNat < 0) ∧ e = .returned (.tuple #[.int .u64 0, .iface 167 (.int .i64 2)]))) ∧ w' = W1
theorem ends_ok {l : List UInt8} {W1 : World} (h : HexOk l) : Ends16 l W1 (.returned (.tuple #[.int .u64 (hexNum l), .nilIface])) W1 := ⟨.inl ⟨h, rfl⟩, rfl⟩
theorem ends_bad {l : List UInt8} {W1 : World} {c : UInt8} (hc : c ∈ l) (h : hxv c.toNat < 0) : Ends16 l W1 (.returned (.tuple #[.int .u64 0, .iface 167 (.int .i64 2)])) W1 := ⟨.inr ⟨⟨c, hc, h⟩, rfl⟩, rfl⟩
set_option maxHeartbeats 4000000 in
set_option maxRecDepth 100000 in
theorem parse16 (t : ByteArray) (hne : t.size ≠ 0) (h7 : t.size ≤ 7) (w : World) :
  Calls Tryz.prog 117 #[.string t, .int .i64 16, .int .i64 64] w (Ends16 t.data.toList (Lib.bytesWorld w 5 t)) := by
 have hemp : t.toList.isEmpty = false := by
  rw [← decide_eq_emptyBytes]
  exact decide_eq_false (fun h => hne (by rw [h]; rfl))
 have hcv := Lib.run_convert_string_bytes (P := Tryz.prog) w 9 22 5 t (u := .string) Tryz.underlying9 Tryz.underlying22 Tryz.underlying5
 have hB : ∀ j, j < t.size → (Lib.bytesWorld w 5 t).cell? ⟨w.heap.size, j, none⟩ = some (.int .u8 (t.data.toList.getD j 0).toNat) := fun j hj => Lib.bytesWorld_cell w 5 t j hj
 obtain ⟨W1, hW1⟩ : ∃ W1, W1 = Lib.bytesWorld w 5 t := ⟨_, rfl⟩
 rw [← hW1] at hcv hB ⊢
 clear hW1
 obtain ⟨bs, hL⟩ : ∃ bs, bs = t.data.toList := ⟨_, rfl⟩
 have hLn : bs.length = t.size := by rw [hL, Lib.size_eq]
 rw [← hL] at hB ⊢
 clear hL
 have hmv : IntKind.u64.wrap (IntKind.u64.wrap 18446744073709551616 - 1) = 18446744073709551615 := by
  rw [IntKind.wrap_u64, IntKind.wrap_u64]
  decide
 go_enter Tryz.func117, Tryz.ntmps117
 go_wp2
 go_loop [12, 13, 101] (fun vu vn vi => ∃ (k : Nat) (a : Int), vu = .bool false ∧ vn = .int .u64 a ∧ vi = .int .i64 k ∧ k ≤ t.size ∧ Hid (Got bs k a)) (fun _ _ vi => t.size - (intOf vi).toNat)
 case atStart => exact ⟨0, 0, rfl, rfl, rfl, by omega, ⟨(fun c hc => by simp at hc), rfl⟩⟩
 case round =>
  obtain ⟨k, a, rfl, rfl, rfl, hk, hh⟩ := hrel
  obtain ⟨a0, a1⟩ := hh.out.bd (by omega)
  by_cases hkn : k < t.size
  ·have hc := hB k hkn
   have hkl : k < bs.length := by omega
   have hget : bs.getD k 0 = bs[k] := by simp [List.getD, List.getElem?_eq_getElem hkl]
   rw [hget] at hc
   have hst := fun h => hh.out.step hkl h
   have hmem : bs[k] ∈ bs := List.getElem_mem hkl
   generalize bs[k] = c at hc hst hmem
   have hc0 : 0 ≤ (c.toNat : Int) := by omega
   have hc1 : (c.toNat : Int) < 256 := by have := c.toNat_lt; omega
   have hdef : hxv (c.toNat : Int) = hxv c.toNat := rfl
   clear hB hget hh hdef
   by_cases hd1 : 48 ≤ (c.toNat : Int) ∧ (c.toNat : Int) ≤ 57
   ·have hx : hxv c.toNat = (c.toNat : Int) - 48 := by unfold hxv; rw [if_pos hd1]
    have HG := Lib.hid (hst (by omega))
    rw [hx] at HG
    obtain ⟨hd1, hd2⟩ := hd1
    clear hst hx hmem
    go_wp2
    refine ⟨⟨k + 1, a * 16 + ((c.toNat : Int) - 48), rfl, (by first | rfl | (congr 1; omega)), (by first | rfl | (congr 1; omega)), by omega, HG⟩, by simp [intOf]; omega⟩
   ·by_cases hd2 : 97 ≤ (c.toNat : Int) ∧ (c.toNat : Int) ≤ 102
    ·have hx : hxv c.toNat = (c.toNat : Int) - 87 := by unfold hxv; rw [if_neg hd1, if_neg (by omega), if_pos hd2]
     have HG := Lib.hid (hst (by omega))
     rw [hx] at HG
     have hlow := low_small _ hd2
     obtain ⟨hd2, hd3⟩ := hd2
     clear hst hx hmem
     go_wp2_with (go_at_call 139; refine (Tryz.internal_strconv_lower _ _).mono ?_; rintro e w' ⟨rfl, rfl⟩)
     refine ⟨⟨k + 1, a * 16 + ((c.toNat : Int) - 87), rfl, (by first | rfl | (congr 1; omega)), (by first | rfl | (congr 1; omega)), by omega, HG⟩, by simp [intOf]; omega⟩
    ·by_cases hd3 : 65 ≤ (c.toNat : Int) ∧ (c.toNat : Int) ≤ 70
     ·have hx : hxv c.toNat = (c.toNat : Int) - 55 := by unfold hxv; rw [if_neg hd1, if_pos hd3]
      have HG := Lib.hid (hst (by omega))
      rw [hx] at HG
      have hlow := low_great _ hd3
      obtain ⟨hd3, hd4⟩ := hd3
      clear hst hx hmem
      go_wp2_with (go_at_call 139; refine (Tryz.internal_strconv_lower _ _).mono ?_; rintro e w' ⟨rfl, rfl⟩)
      refine ⟨⟨k + 1, a * 16 + ((c.toNat : Int) - 55), rfl, (by first | rfl | (congr 1; omega)), (by first | rfl | (congr 1; omega)), by omega, HG⟩, by simp [intOf]; omega⟩
     ·have hx : hxv c.toNat < 0 := by unfold hxv; rw [if_neg hd1, if_neg hd3, if_neg hd2]; omega
      have hE := ends_bad (W1 := W1) hmem hx
      have hl := low_none _ ⟨hc0, hc1⟩ hd2 hd3
      have hl2 := low_bd c.toNat
      have hu : bits .or .u8 95 32 = 127 := by decide
      clear hst hx hmem
      go_wp2_with (go_at_call 139; refine (Tryz.internal_strconv_lower _ _).mono ?_; rintro e w' ⟨rfl, rfl⟩)
      all_goals go_ret2
      all_goals exact hE
  ·obtain rfl : k = t.size := by omega
   have hG := hh.out
   unfold Got at hG
   rw [← hLn, List.take_of_length_le (Nat.le_refl _)] at hG
   obtain ⟨g1, g2⟩ := hG
   subst g2
   clear hh
   go_wp2
   go_ret2
   exact ends_ok g1
end Go.Proofs.YtboeaeoefoabdaaGreatDoor
