/-
  Texts put together by program: VwE, AsH, AsD, AsE, WsD.
  Conditions: as each theorem says.
-/
import Derived.Lib.AtoiErrMem
import Derived.Lib.ConvBytes
import Derived.Maps.AppendAt
import Derived.Outline
import Derived.WalkMore
import Derived.Test.YtboeaeoefoabdaaGreatDoorAmam
import Derived.Test.YtboeaeoefoabdaaGreatDoorAmao
namespace Go.Proofs.YtboeaeoefoabdaaGreatDoor
open Go Go.RowKit Go.Shelf
attribute [local go_sem] Oper.semAt_some
theorem scope_in {n : Nat} {P : Program} {c : Go.Code} {Q : Exit → Act → World → Prop} {a : Act} {w : World} (h : c.wpIn Fence.wide n P (Exit.noGoto Q) a w) : (Go.Code.scope c).wpIn Fence.wide n P Q a w := wpIn_wide.2 (wp_scope_straight ((wpIn_wide (n := n)).1 h))
theorem emp_size (x : ByteArray) : x.toList.isEmpty = true ↔ x.size = 0 := by
 rw [ByteArray.toList_eq, List.isEmpty_iff]
 show _ ↔ x.data.size = 0
 rw [← Array.length_toList, List.length_eq_zero_iff]
theorem info9w : (Tryz.prog.info? 9).map (fun i => (i.zero, i.size, i.bytes)) = some (some (.string ⟨#[]⟩), 1, 16) := by kernel_rfl
def OwnPost (s : ByteArray) (w : World) (e : Ending) (W' : World) : Prop := ∃ v k, e = .returned v ∧ Good (told s.data.toList k) ∧ (wordB s.data.toList k).size = 0 ∧ W'.ownsRow w.heap.size 9 1 v k ((told s.data.toList k).map Value.string) ∧ (v = .slice none 0 0 ↔ k = 0) ∧ Below w.heap.size w W'
def BoxI (n₀ B : Nat) (w : World) (pre : List ByteArray) (W : World) : Prop := (∃ v, Boxed W B 46 v ∧ W.ownsRow n₀ 9 1 v pre.length (pre.map Value.string) ∧ ((v = .slice none 0 0 ↔ pre = []) ∧ Good pre)) ∧ Below n₀ w W
def BoxX (n₀ B : Nat) (w : World) (xs : List ByteArray) (W : World) : Prop := (∃ v, Boxed W B 46 v ∧ W.ownsRow n₀ 9 1 v xs.dropLast.length (xs.dropLast.map Value.string) ∧ ((v = .slice none 0 0 ↔ xs.dropLast = []) ∧ Good xs.dropLast ∧ ∃ x, xs.getLast? = some x ∧ x.size = 0)) ∧ Below n₀ w W
theorem grown_none {A B : World} (h : Below A.heap.size A B) : A.grownBy B none := ⟨h.os, h.tape, h.output, h.size, fun k hk _ => h.block k hk⟩
theorem row_keep {n₀ : Nat} {A B : World} {e : TypeId} {size : Nat} {v : Value} {k : Nat} {xs : List Value} (h : A.ownsRow n₀ e size v k xs) (hb : Below A.heap.size A B) : B.ownsRow n₀ e size v k xs := by
 refine h.kept (grown_none hb) ?_
 rcases h.2 with ⟨rfl, _⟩ | ⟨g, cap, cur, rfl, _, hgb, _⟩
 ·exact .inl rfl
 ·exact .inr (by simp [Value.ownBlock])
theorem BoxI_keep {n₀ B : Nat} {w : World} (pre : List ByteArray) (W1 W2 : World) (h : BoxI n₀ B w pre W1) (hn : n₀ ≤ W1.heap.size) (hb : Below W1.heap.size W1 W2) : BoxI n₀ B w pre W2 := by
 obtain ⟨⟨v, h1, h2, h3⟩, h4⟩ := h
 exact ⟨⟨v, h1.kept (grown_none hb) (by simp), row_keep h2 hb, h3⟩, h4.trans (hb.mono hn)⟩
theorem BoxX_keep {n₀ B : Nat} {w : World} (pre : List ByteArray) (W1 W2 : World) (h : BoxX n₀ B w pre W1) (hn : n₀ ≤ W1.heap.size) (hb : Below W1.heap.size W1 W2) : BoxX n₀ B w pre W2 := by
 obtain ⟨⟨v, h1, h2, h3⟩, h4⟩ := h
 exact ⟨⟨v, h1.kept (grown_none hb) (by simp), row_keep h2 hb, h3⟩, h4.trans (hb.mono hn)⟩
set_option maxRecDepth 100000 in
set_option maxHeartbeats 2000000 in
theorem words_in (s : ByteArray) (hs : s.size ≤ 1048576) (w : World) :
  CallsIn Fence.wide 3 Tryz.prog 53 #[.string s] w (OwnPost s w) := by
 obtain ⟨i0, hi, hz0, hz1, hz2⟩ := info_parts info9w
 refine callsIn_of_wp_marks Tryz.func53 rfl trivial ?_ rfl
 simp only [Tryz.ntmps53, List.size_toArray, List.length_cons, List.length_nil, Nat.reduceAdd, Nat.reduceSub, Array.replicate_succ, Array.replicate_zero, List.push_toArray, List.append_toArray, List.nil_append, List.cons_append]
 gi_wp2
 refine scope_in ?_
 gi_wp2_with (refine ⟨trivial, fun h => (by cases h), ?_⟩; refine (wordsOf_any _ _ _).mono ?_; rintro e w1 ⟨rfl, rfl⟩)
 have bO := Boxed.new w 46 (.slice none 0 0)
 have bN := Boxed.new (w.alloc (.cells #[.slice none 0 0] 46)) 9 (.string s)
 rw [World.size_alloc] at bN
 have hB0 : Below w.heap.size w ((w.alloc (.cells #[.slice none 0 0] 46)).alloc (.cells #[.string s] 9)) := ((Below.refl _ w).alloc (Nat.le_refl _) _).alloc (by simp) _
 have hsl : s.data.toList.length = s.size := by simp
 refine wpIn_label ?_
 gi_wp2_with (refine ⟨trivial, ?_⟩; refine (wordsOf_any _ _ _).mono ?_; rintro e w1 ⟨rfl, rfl⟩)
 have hT := words_tells 2 w.heap.size (w.heap.size + 1) s (by omega) ((w.alloc (.cells #[.slice none 0 0] 46)).alloc (.cells #[.string s] 9)) (by simp) bN.cell
 refine range_tells (gf := 115) (lb := #[.pointer (some ⟨w.heap.size + 1, 0, none⟩)]) (n₀ := w.heap.size) (id := 0) rfl (by omega) rfl trivial (enters_of Tryz.func115 (by kernel_rfl) rfl) rfl hT (by simp; omega) (Below.refl _ _)
  (BoxI w.heap.size w.heap.size w) (BoxX w.heap.size w.heap.size w) ?oI ?oX (fun pre W h => by obtain ⟨⟨v, _, _, _, h⟩, _⟩ := h; exact h) ?h0
  (fun x => { tmps := #[.string s, undef, .slice none 0 0, .pointer (some ⟨w.heap.size, 0, none⟩), .string x, .string s, .func (.func 115) #[] #[.pointer (some ⟨w.heap.size + 1, 0, none⟩)], .string x, undef, undef, undef, undef, undef, undef, undef, undef], defers := [] })
  (fun pre W1 W2 h hb => BoxI_keep pre W1 W2 h h.2.size hb) (fun pre W1 W2 h hb => BoxX_keep pre W1 W2 h h.2.size hb) ?assign ?body ?stop
 case oI => exact OwnFrom.and (Own.from (holdsRow_own w.heap.size w.heap.size 46 9 1 (fun pre => pre.length) (fun pre => pre.map Value.string) (fun pre v => (v = .slice none 0 0 ↔ pre = []) ∧ Good pre)) _) (ownFrom_below (Nat.le_refl _) (by simp; omega))
 case oX => exact OwnFrom.and (Own.from (holdsRow_own w.heap.size w.heap.size 46 9 1 (fun xs : List ByteArray => xs.dropLast.length) (fun xs => xs.dropLast.map Value.string) (fun xs v => (v = .slice none 0 0 ↔ xs.dropLast = []) ∧ Good xs.dropLast ∧ ∃ x : ByteArray, xs.getLast? = some x ∧ x.size = 0)) _) (ownFrom_below (Nat.le_refl _) (by simp; omega))
 case h0 => exact ⟨⟨_, bO.alloc _, World.ownsRow_nil _ _ _ _, by simp, by simp [Good]⟩, hB0⟩
 case assign =>
  intro l x W K hK
  gi_wp2
  exact hK
 case body =>
  rintro l pre x W ⟨⟨v, hv, hrow, hnil, hg⟩, hB⟩ hlt
  have hc := hv.cell
  gi_wp2_with (gi_at_builtin; refine wpListIn_append_own _ rfl _ _ 46 rfl w.heap.size 9 i0 (.string ⟨#[]⟩) 1 16 Tryz.underlying46 hi hz0 hz1 hz2 rfl (by decide) _ _ _ rfl (hrow.alloc _) ⟨W.heap.size, 0, none⟩ 1 1 [.string x] rfl rfl ?c1 ?c2 ?c3 ?c4 ?c5 ?_)
  case c1 =>
   intro j u hj
   match j, hj with
   | 0, hj => simp at hj; subst hj; simp [Addr.add]
  case c2 => intro u hu; simp at hu; subst hu; rfl
  case c3 => unfold maxLen; omega
  case c4 => omega
  case c5 => have := hB.size; simp; omega
  ·have he : x.toList.isEmpty = true := by assumption
   exact ⟨rfl, KeepsOthers.refl _, ⟨v, hv, by simpa using hrow, by simpa using hnil, by simpa using hg, x, by simp, (emp_size x).1 he⟩, hB⟩
  ·have he : x.toList.isEmpty = false := by assumption
   intro v' w1 hown' hgrow _
   obtain ⟨g', cap', rfl⟩ := ownsRow_succ hown'
   obtain ⟨hv1, hv2, hr2, hk2, hb2⟩ := hv.appended (by decide) hrow hB.size (Nat.le_refl _) hown' hgrow
   have hc1 := hv1.cell
   have hf1 := hv1.frozen
   gi_wp2
   exact ⟨hk2, hb2, ⟨_, hv2, by simpa using hr2, by simp, fun y hy => by
    rcases List.mem_append.1 hy with hy | hy
    ·exact hg y hy
    ·rw [List.mem_singleton] at hy; subst hy; intro h0; rw [(emp_size y).2 h0] at he; cases he⟩, hB.trans hb2⟩
 case stop =>
  rintro D pre W hD ⟨k, rfl⟩ ⟨⟨v, hv, hrow, hnil, hg, x, hx, hx0⟩, hB⟩ hK
  have hc := hv.cell
  refine wpIn_exit ?_
  gi_wp2
  rw [told_succ, List.dropLast_concat] at hrow hnil hg
  rw [told_succ, List.getLast?_concat] at hx
  obtain rfl := Option.some.inj hx
  refine ⟨by simp, .inl ⟨_, _, rfl, run_takeDeferred hK, ?_⟩⟩
  refine ⟨_, results_tmp rfl _ _ _, v, k, rfl, hg, hx0, ?_, ?_, hB.trans (belowK_b (w := w) (Nat.le_refl _) W D _ _ (by simp at hD; omega) hK rfl rfl)⟩
  ·have := ownsRow_putObj hrow (.deferred none) hK rfl
   simpa [told] using this
  ·rw [hnil]; simp [told]
end Go.Proofs.YtboeaeoefoabdaaGreatDoor
namespace Go.Proofs.YtboeaeoefoabdaaGreatDoor
open Go.RowKit
def WordsI (l : List UInt8) (w : World) (e : Ending) (w' : World) : Prop := ∃ (A : Option Addr) (k cap : Nat), e = .returned (.slice A k cap) ∧ Good (told l k) ∧ (wordB l k).size = 0 ∧ k ≤ cap ∧ (k = 0 ∨ ∃ g, A = some ⟨g, 0, none⟩ ∧ g < w'.heap.size ∧ ∀ j x, (told l k)[j]? = some x → w'.cell? ⟨g, 0 + j, none⟩ = some (.string x)) ∧ Below w.heap.size w w'
theorem impl_words (s : ByteArray) (hs : s.size ≤ 1048576) (w : World) : Calls Tryz.prog 53 #[.string s] w (WordsI s.data.toList w) := by
 refine ((callsIn_wide (n := 3)).1 (words_in s hs w)).mono ?_
 rintro e w' ⟨v, k, rfl, h1, h2, h3, _, h5⟩
 generalize s.data.toList = l at *
 rcases h3.2 with ⟨rfl, h0⟩ | ⟨g, cap, cur, rfl, _, hg, hcap, _⟩
 ·subst h0
  exact ⟨none, 0, 0, rfl, h1, h2, Nat.le_refl _, .inl rfl, h5⟩
 ·refine ⟨some ⟨g, 0, none⟩, k, cap, rfl, h1, h2, hcap, .inr ⟨g, rfl, (Array.getElem?_eq_some_iff.1 hg).1, fun j x hx => ?_⟩, h5⟩
  have := h3.cells (g := g) rfl j (.string x) (by rw [List.getElem?_map, hx]; rfl)
  rw [Nat.zero_add]
  cases j with
  | zero => simpa [Addr.add] using this
  | succ j => simpa [Addr.add] using this
theorem inter_join : ∀ ws : List (List UInt8), Lib.join ws [32] = joinB ws
 | [] => rfl
 | [v] => by simp [Lib.join, List.intercalate, joinB]
 | v :: u :: ws => by
  have ih := inter_join (u :: ws)
  unfold Lib.join at ih ⊢
  show _ = v ++ 32 :: joinB (u :: ws)
  rw [← ih]
  simp [List.intercalate]
theorem told_lists (l : List UInt8) (k : Nat) : (told l k).map (fun x => x.data.toList) = wordsL l k := by
 simp [told, wordsL, wordB]
theorem join_call (l : List UInt8) (hl : l.length ≤ 1048576) (A : Option Addr) (k cap : Nat) (hg : Good (told l k)) (hcap : k ≤ cap) (w : World) (hc : k = 0 ∨ ∃ g, A = some ⟨g, 0, none⟩ ∧ g < w.heap.size ∧ ∀ j x, (told l k)[j]? = some x → w.cell? ⟨g, 0 + j, none⟩ = some (.string x)) :
  Calls Tryz.prog 52 #[.slice A k cap, .string ⟨#[32]⟩] w fun e w' => e = .returned (.string ⟨(lineS l k).toArray⟩) ∧ Below w.heap.size w w' := by
 rcases hc with rfl | ⟨g, rfl, hgl, hcell⟩
 ·refine (Tryz.strings_Join_none A cap ⟨#[32]⟩ w).mono ?_
  rintro e w' ⟨rfl, rfl⟩
  exact ⟨rfl, Below.refl _ _⟩
 ·have hb := lineS_bound hg
  have h := Tryz.strings_Join g 0 cap (told l k) ⟨#[32]⟩ w hcell hgl (by rw [told_length]; have := told_bound l k hg; omega) (by rw [told_length]; exact hcap) (by
   rw [told_lists, show (⟨#[32]⟩ : ByteArray).data.toList = [32] from rfl, inter_join]
   show (lineS l k).length ≤ _
   omega)
  rw [told_lists, told_length, show (⟨#[32]⟩ : ByteArray).data.toList = [32] from rfl, inter_join] at h
  exact h
theorem set_ascii : ∀ (j : Nat) b, (⟨#[35, 36, 40, 41, 44, 88, 89]⟩ : ByteArray).data.toList[j]? = some b → b.toNat < 128 := by
 intro j b h
 have hm := List.mem_of_getElem? h
 have : ∀ c ∈ ([35, 36, 40, 41, 44, 88, 89] : List UInt8), c.toNat < 128 := by decide
 exact this b hm
theorem trim_call (l : List UInt8) (hl : l.length ≤ 1048576) (w : World) : Calls Tryz.prog 56 #[.string ⟨l.toArray⟩, .string ⟨#[35, 36, 40, 41, 44, 88, 89]⟩] w fun e w' => e = .returned (.string ⟨(trimT l).toArray⟩) ∧ Below w.heap.size w w' := by
 have h := Any.strings_Trim_laid Tryz.lays160 (by kernel_rfl) ⟨l.toArray⟩ ⟨#[35, 36, 40, 41, 44, 88, 89]⟩ w (by rw [bsize]; omega) (by decide) set_ascii
 rw [show (⟨l.toArray⟩ : ByteArray).data.toList = l by simp] at h
 exact h
end Go.Proofs.YtboeaeoefoabdaaGreatDoor
namespace Go.Proofs.YtboeaeoefoabdaaGreatDoor
open Go.RowKit
def upRow (l : List UInt8) (k j : Nat) : UInt8 := if j < k then up1 (l.getD j 0) else l.getD j 0
def UpAt (G : Nat) (l : List UInt8) (k : Nat) (w : World) : Prop := (∀ j, j < l.length → w.cell? ⟨G, j, none⟩ = some (.int .u8 ((upRow l k j).toNat : Int))) ∧ ∀ j, j < l.length → w.frozen? ⟨G, j, none⟩ = false
theorem upRow_all (l : List UInt8) (j : Nat) (h : j < l.length) : (upL l)[j]? = some (upRow l l.length j) := by
 unfold upRow upL
 rw [if_pos h]
 simp [List.getElem?_eq_getElem h, List.getD]
theorem UpAt.next {G : Nat} {l : List UInt8} {k : Nat} {w : World} (h : UpAt G l k w) (hk : k < l.length) (x : Int) (hx : x = ((up1 (l.getD k 0)).toNat : Int)) : UpAt G l (k + 1) (w.setCell ⟨G, k, none⟩ (.int .u8 x)) := by
 refine ⟨fun j hj => ?_, fun j hj => by rw [World.frozen?_setCell]; exact h.2 j hj⟩
 by_cases e : j = k
 ·subst e
  rw [World.cell?_setCell_same w ⟨G, j, none⟩ _ (h.1 j hj), hx]
  unfold upRow
  rw [if_pos (by omega)]
 ·rw [World.cell?_setCell_other w ⟨G, k, none⟩ ⟨G, j, none⟩ _ (fun q => e (congrArg Addr.off q).symm), h.1 j hj]
  unfold upRow
  by_cases hjk : j < k
  ·rw [if_pos hjk, if_pos (by omega)]
  ·rw [if_neg hjk, if_neg (by omega)]
theorem UpAt.same {G : Nat} {l : List UInt8} {k : Nat} {w : World} (h : UpAt G l k w) (e : up1 (l.getD k 0) = l.getD k 0) : UpAt G l (k + 1) w := by
 refine ⟨fun j hj => ?_, h.2⟩
 rw [h.1 j hj]
 unfold upRow
 by_cases hjk : j < k
 ·rw [if_pos hjk, if_pos (by omega)]
 ·by_cases q : j = k
  ·subst q; rw [if_neg hjk, if_pos (by omega), e]
  ·rw [if_neg hjk, if_neg (by omega)]
theorem upAt_new (w : World) (s : ByteArray) : UpAt w.heap.size s.data.toList 0 (Lib.bytesWorld w 5 s) := by
 refine ⟨fun j hj => ?_, fun j hj => ?_⟩
 ·rw [Lib.bytesWorld_cell w 5 s j (by simpa using hj)]; rfl
 ·have hs : (Lib.bytesCells w 5 s).size ≥ s.size := by unfold Lib.bytesCells; simp
  have hj2 : j < s.size := by simpa using hj
  unfold World.frozen?
  rw [Lib.bytesWorld_at_new]
  simp
  omega
theorem up1_yes {c : UInt8} (h : 97 ≤ (c.toNat : Int) ∧ (c.toNat : Int) ≤ 122) : ((up1 c).toNat : Int) = (c.toNat : Int) - 32 := by
 have h1 : 97 ≤ c.toNat := by omega
 have h2 : c.toNat ≤ 122 := by omega
 unfold up1
 rw [if_pos ⟨h1, h2⟩, UInt8.toNat_sub_of_le _ _ (by rw [UInt8.le_iff_toNat_le]; show 32 ≤ c.toNat; omega)]
 show ((c.toNat - 32 : Nat) : Int) = _
 omega
theorem up1_no {c : UInt8} (h : ¬ (97 ≤ (c.toNat : Int) ∧ (c.toNat : Int) ≤ 122)) : up1 c = c := by
 unfold up1
 rw [if_neg (by omega)]
set_option maxRecDepth 100000 in
set_option maxHeartbeats 4000000 in
theorem spec_upper (s : ByteArray) (hs : s.size ≤ 1048576) (w : World) : Calls Tryz.prog 64 #[.string s] w fun e w' => e = .returned (.string ⟨(upL s.data.toList).toArray⟩) ∧ Below w.heap.size w w' := by
 have hcv := Lib.run_convert_string_bytes (P := Tryz.prog) w 9 22 5 s (u := .string) Tryz.underlying9 Tryz.underlying22 Tryz.underlying5
 have hA := Lib.hid (upAt_new w s)
 have hB := Lib.hid (Lib.bytesWorld_below w 5 s)
 generalize Lib.bytesWorld w 5 s = W1 at hcv hA hB
 have hlen : s.data.toList.length = s.size := by simp
 generalize s.data.toList = l at *
 go_enter Tryz.func64, Tryz.ntmps64
 go_wp2
 go_loopw [4] (fun vi wr => ∃ k : Nat, k ≤ s.size ∧ vi = .int .i64 k ∧ Hid (UpAt w.heap.size l k wr) ∧ Hid (Below w.heap.size w wr)) (fun vi _ => s.size - (intOf vi).toNat)
 case atStart => exact ⟨0, by omega, rfl, hA, hB⟩
 case round =>
  obtain ⟨k, hk, rfl, hu, hb⟩ := hrel
  by_cases hlt : k < s.size
  ·have hc := hu.out.1 k (by omega)
   have hf := hu.out.2 k (by omega)
   have e0 : upRow l k k = l.getD k 0 := by unfold upRow; rw [if_neg (by omega)]
   rw [e0] at hc
   have hN := Lib.hid (fun x hx => hu.out.next (by omega) x hx)
   have hS := Lib.hid (fun e => hu.out.same e)
   generalize l.getD k 0 = c at hc hN hS
   have hc0 : 0 ≤ (c.toNat : Int) := by omega
   have hc1 : (c.toNat : Int) < 256 := by have := c.toNat_lt; omega
   clear e0
   by_cases hr : 97 ≤ (c.toNat : Int) ∧ (c.toNat : Int) ≤ 122
   ·have hy := up1_yes hr
    obtain ⟨r0, r1⟩ := hr
    have HI := Lib.hid (fun w => hx_in_yes (c.toNat : Int) 97 122 w r0 r1)
    have HY := Lib.hid hy
    clear hy
    go_wp2_with (go_at_call 82; (with_reducible refine (HI.out _).mono ?_); rintro e w1 ⟨rfl, rfl⟩)
    go_roundw
    case rel => exact ⟨k + 1, by omega, by go_num, Lib.hid (hN.out _ (by have := HY.out; omega)), Lib.hid (hb.out.setCell (Nat.le_refl _) _)⟩
    case measure => simp [intOf]; omega
   ·have hy := Lib.hid (hS.out (up1_no hr))
    have HI := Lib.hid (fun w => hx_in_no (c.toNat : Int) 97 122 w (by omega))
    clear hN hS hr
    go_wp2_with (go_at_call 82; (with_reducible refine (HI.out _).mono ?_); rintro e w1 ⟨rfl, rfl⟩)
    go_roundw
    case rel => exact ⟨k + 1, by omega, by go_num, hy, hb⟩
    case measure => simp [intOf]; omega
  ·obtain rfl : k = s.size := by omega
   have hcv := run_convert_bytes_back (P := Tryz.prog) wr 22 9 5 ⟨w.heap.size, 0, none⟩ (grownCap w s.size 0 5) (upL l) Tryz.underlying22 Tryz.underlying5 Tryz.underlying9 (fun j hj => by
    rw [upL_length, hlen] at hj
    have h1 := hu.out.1 j (by omega)
    have h2 := upRow_all l j (by omega)
    rw [← hlen] at h1
    have h3 := (List.getElem?_eq_some_iff.1 h2).2
    rw [addr_add, h1]
    simp [h3])
   rw [upL_length, hlen] at hcv
   clear hu
   go_wp2
   go_ret
   exact ⟨rfl, hb.out⟩
set_option maxRecDepth 100000 in
set_option maxHeartbeats 4000000 in
theorem impl_upper (s : ByteArray) (hs : s.size ≤ 1048576) (w : World) : Calls Tryz.prog 51 #[.string s] w fun e w' => e = .returned (.string ⟨(upL s.data.toList).toArray⟩) ∧ Below w.heap.size w w' := by
 have hcv := Lib.run_convert_string_bytes (P := Tryz.prog) w 9 22 5 s (u := .string) Tryz.underlying9 Tryz.underlying22 Tryz.underlying5
 have hA := Lib.hid (upAt_new w s)
 have hB := Lib.hid (Lib.bytesWorld_below w 5 s)
 generalize Lib.bytesWorld w 5 s = W1 at hcv hA hB
 have hlen : s.data.toList.length = s.size := by simp
 generalize s.data.toList = l at *
 go_enter Tryz.func51, Tryz.ntmps51
 go_wp2
 go_loopw [10] (fun vi wr => ∃ k : Nat, k ≤ s.size ∧ vi = .int .i64 k ∧ Hid (UpAt w.heap.size l k wr) ∧ Hid (Below w.heap.size w wr)) (fun vi _ => s.size - (intOf vi).toNat)
 case atStart => exact ⟨0, by omega, rfl, hA, hB⟩
 case round =>
  obtain ⟨k, hk, rfl, hu, hb⟩ := hrel
  by_cases hlt : k < s.size
  ·have hc := hu.out.1 k (by omega)
   have hf := hu.out.2 k (by omega)
   have e0 : upRow l k k = l.getD k 0 := by unfold upRow; rw [if_neg (by omega)]
   rw [e0] at hc
   have hN := Lib.hid (fun x hx => hu.out.next (by omega) x hx)
   have hS := Lib.hid (fun e => hu.out.same e)
   generalize l.getD k 0 = c at hc hN hS
   have hc0 : 0 ≤ (c.toNat : Int) := by omega
   have hc1 : (c.toNat : Int) < 256 := by have := c.toNat_lt; omega
   clear e0
   by_cases hr : 97 ≤ (c.toNat : Int) ∧ (c.toNat : Int) ≤ 122
   ·have hy := up1_yes hr
    obtain ⟨r0, r1⟩ := hr
    have HY := Lib.hid hy
    clear hy
    go_wp2
    go_roundw
    case rel => exact ⟨k + 1, by omega, by go_num, Lib.hid (hN.out _ (by have := HY.out; omega)), Lib.hid (hb.out.setCell (Nat.le_refl _) _)⟩
    case measure => simp [intOf]; omega
   ·have hy := Lib.hid (hS.out (up1_no hr))
    by_cases r0 : 97 ≤ (c.toNat : Int)
    ·have r1 : ¬ (c.toNat : Int) ≤ 122 := by omega
     clear hN hS hr
     go_wp2
     go_roundw
     case rel => exact ⟨k + 1, by omega, by go_num, hy, hb⟩
     case measure => simp [intOf]; omega
    ·clear hN hS hr
     go_wp2
     go_roundw
     case rel => exact ⟨k + 1, by omega, by go_num, hy, hb⟩
     case measure => simp [intOf]; omega
  ·obtain rfl : k = s.size := by omega
   have hcv := run_convert_bytes_back (P := Tryz.prog) wr 22 9 5 ⟨w.heap.size, 0, none⟩ (grownCap w s.size 0 5) (upL l) Tryz.underlying22 Tryz.underlying5 Tryz.underlying9 (fun j hj => by
    rw [upL_length, hlen] at hj
    have h1 := hu.out.1 j (by omega)
    have h2 := upRow_all l j (by omega)
    rw [← hlen] at h1
    have h3 := (List.getElem?_eq_some_iff.1 h2).2
    rw [addr_add, h1]
    simp [h3])
   rw [upL_length, hlen] at hcv
   clear hu
   go_wp2
   go_ret
   exact ⟨rfl, hb.out⟩
end Go.Proofs.YtboeaeoefoabdaaGreatDoor
namespace Go.Proofs.YtboeaeoefoabdaaGreatDoor
open Go.RowKit
theorem drop36 (Q r : List UInt8) (h : ∀ c ∈ Q, c ≠ 36) : (Q ++ 36 :: r).dropWhile (fun c => c != 36) = 36 :: r := by
 induction Q with
 | nil => simp
 | cons c Q ih =>
  have hc := h c (by simp)
  rw [List.cons_append, List.dropWhile_cons, if_pos (by simp [hc])]
  exact ih fun x hx => h x (by simp [hx])
theorem take_hx (A r : List UInt8) (hA : ∀ c ∈ A, isHx c = true) (hr : r = [] ∨ ∃ c r', r = c :: r' ∧ isHx c = false) : (A ++ r).takeWhile isHx = A := by
 have hq : r.takeWhile isHx = [] := by
  rcases hr with rfl | ⟨c, r', rfl, hc⟩
  ·rfl
  ·rw [List.takeWhile_cons, hc]; rfl
 rw [List.takeWhile_append_of_pos hA, hq, List.append_nil]
theorem ext_list (s : ByteArray) (a b : Nat) : (s.extract a b).data.toList = (s.data.toList.take b).drop a := by
 rw [ByteArray.data_extract, Array.toList_extract, List.extract_eq_take_drop, List.drop_take]
theorem num_found (S : List UInt8) (k e : Nat) (hk : k < S.length) (h0 : ∀ c ∈ S.take k, c ≠ 36) (h1 : S[k] = 36) (he : k + 1 ≤ e) (heS : e ≤ S.length) (hx : ∀ c ∈ (S.take e).drop (k + 1), isHx c = true) (hend : e = S.length ∨ ∃ h : e < S.length, isHx S[e] = false) :
  numN S = rh ((S.take e).drop (k + 1)) ∧ numD S = (e : Int) - k - 1 := by
 have hS : S = S.take k ++ 36 :: S.drop (k + 1) := by
  conv => lhs; rw [← List.take_append_drop k S, List.drop_eq_getElem_cons hk, h1]
 have hm : 36 ∈ S := by rw [hS]; simp
 have hb : behindS S = S.drop (k + 1) := by
  unfold behindS
  conv => lhs; rw [hS, drop36 _ _ h0]
  rfl
 have hsplit : S.drop (k + 1) = (S.take e).drop (k + 1) ++ S.drop e := by
  conv => lhs; rw [← List.take_append_drop e S]
  rw [List.drop_append_of_le_length (by simp; omega)]
 have hd : digsL S = (S.take e).drop (k + 1) := by
  unfold digsL
  rw [hb, hsplit]
  refine take_hx _ _ hx ?_
  rcases hend with h | ⟨h, h2⟩
  ·exact .inl (by rw [h]; simp)
  ·exact .inr ⟨S[e], S.drop (e + 1), List.drop_eq_getElem_cons h, h2⟩
 unfold numN numD
 rw [if_pos hm, if_pos hm, hd]
 refine ⟨rfl, ?_⟩
 rw [List.length_drop, List.length_take]
 omega
theorem num_none (S : List UInt8) (h : ∀ c ∈ S, c ≠ 36) : numN S = 0 ∧ numD S = 0 := by
 have hm : ¬ 36 ∈ S := fun hx => h 36 hx rfl
 unfold numN numD
 rw [if_neg hm, if_neg hm]
 exact ⟨rfl, rfl⟩
set_option maxRecDepth 100000 in
set_option maxHeartbeats 4000000 in
theorem spec_number (s : ByteArray) (hs : s.size ≤ 1048576) (w : World) : Calls Tryz.prog 65 #[.string s] w fun e w' => e = .returned (.tuple #[.int .i64 (numN s.data.toList), .int .i64 (numD s.data.toList)]) ∧ w = w' := by
 have hlen : s.data.toList.length = s.size := by simp
 have HL := Lib.hid hlen
 go_enter Tryz.func65, Tryz.ntmps65
 clear hlen
 go_wp2
 go_loopw [4] (fun v4 wr => ∃ k : Nat, k ≤ s.size ∧ v4 = .int .i64 k ∧ Hid (∀ c ∈ s.data.toList.take k, c ≠ 36) ∧ w = wr) (fun v4 _ => s.size - (intOf v4).toNat)
 case atStart => exact ⟨0, by omega, rfl, Lib.hid (fun c hc => by simp at hc), rfl⟩
 case round =>
  obtain ⟨k, hk, rfl, h0, rfl⟩ := hrel
  by_cases hlt : k < s.size
  ·have e1 := take_snoc s k hlt
   have hget : s.data.toList[k]'(by rw [HL.out]; exact hlt) = s[k] := rfl
   by_cases hc : s[k] = 36
   ·have HD := Lib.hid (num_found s.data.toList k · (by rw [HL.out]; exact hlt) h0.out (hget.trans hc))
    have hci : (s[k].toNat : Int) = 36 := by rw [hc]; rfl
    clear e1 hc hget h0
    go_wp2
    go_loopw [5] (fun v5 wr => ∃ e : Nat, k + 1 ≤ e ∧ e ≤ s.size ∧ v5 = .int .i64 e ∧ Hid (∀ c ∈ (s.data.toList.take e).drop (k + 1), isHx c = true) ∧ w = wr) (fun v5 _ => s.size - (intOf v5).toNat)
    case atStart => exact ⟨k + 1, by omega, by omega, by go_num, Lib.hid (fun c hc => by simp at hc), rfl⟩
    case round =>
     obtain ⟨e, he1, he2, rfl, hx, rfl⟩ := hrel
     by_cases hle : e < s.size
     ·have hb : 0 ≤ (s[e].toNat : Int) ∧ (s[e].toNat : Int) ≤ 255 := by have := s[e].toNat_lt; omega
      have hc := Lib.hid (spec_hxv (s[e].toNat : Int) hb)
      have hvb := hxv_bd s[e].toNat
      have hgete : s.data.toList[e]'(by rw [HL.out]; exact hle) = s[e] := rfl
      by_cases hv : 0 ≤ hxv s[e].toNat
      ·have hx2 : Hid (∀ c ∈ (s.data.toList.take (e + 1)).drop (k + 1), isHx c = true) := Lib.hid (by
        rw [take_snoc s e hle, List.drop_append_of_le_length (by rw [List.length_take, HL.out]; omega)]
        intro c hc
        rcases List.mem_append.1 hc with hc | hc
        ·exact hx.out c hc
        ·rw [List.mem_singleton.1 hc]; exact decide_eq_true hv)
       clear hx hgete
       go_wp2_with (go_at_call 100; refine (hc.out _).mono ?_; rintro e w1 ⟨rfl, rfl⟩)
       go_roundw
       case rel => exact ⟨e + 1, by omega, by omega, by go_num, hx2, trivial⟩
       case measure => simp [intOf]; omega
      ·have hnv : isHx s[e] = false := decide_eq_false hv
       obtain ⟨d1, d2⟩ := HD.out e he1 (by rw [HL.out]; exact he2) hx.out (.inr ⟨by rw [HL.out]; exact hle, hgete ▸ hnv⟩)
       have HR := fun w => spec_rh (s.extract (k + 1) e) (by unfold maxLen; simp; omega) w
       rw [ext_list, ← d1] at HR
       replace HR := Lib.hid HR
       have D2 := Lib.hid d2
       have z1 : (0 : Int) ≤ (k : Int) + 1 := by omega
       have z2 : (k : Int) + 1 ≤ (e : Int) := by omega
       have z3 : (e : Int) ≤ (s.size : Int) := by omega
       clear HD hx d1 d2
       clear hnv hgete hvb
       go_wp2_with (first | (go_at_call 100; refine (hc.out _).mono ?_; rintro e w1 ⟨rfl, rfl⟩) | (go_at_call 101; (with_reducible refine (HR.out _).mono ?_); rintro e w1 ⟨rfl, rfl⟩))
       go_ret2
       exact ⟨by rw [D2.out]; first | rfl | (congr 1; omega), rfl⟩
     ·obtain rfl : e = s.size := by omega
      obtain ⟨d1, d2⟩ := HD.out s.size he1 (by rw [HL.out]; exact he2) hx.out (.inl HL.out.symm)
      have HR := fun w => spec_rh (s.extract (k + 1) s.size) (by unfold maxLen; simp; omega) w
      rw [ext_list, ← d1] at HR
      replace HR := Lib.hid HR
      have D2 := Lib.hid d2
      have z1 : (0 : Int) ≤ (k : Int) + 1 := by omega
      have z2 : (k : Int) + 1 ≤ (s.size : Int) := by omega
      clear HD hx d1 d2
      go_wp2_with (go_at_call 101; (with_reducible refine (HR.out _).mono ?_); rintro e w1 ⟨rfl, rfl⟩)
      go_ret2
      exact ⟨by rw [D2.out]; first | rfl | (congr 1; omega), rfl⟩
   ·have hx2 : Hid (∀ c ∈ s.data.toList.take (k + 1), c ≠ 36) := Lib.hid (by
     rw [e1]
     intro c hcm
     rcases List.mem_append.1 hcm with hcm | hcm
     ·exact h0.out c hcm
     ·rw [List.mem_singleton.1 hcm]; exact hc)
    have hne : ¬ ((s[k].toNat : Int) = 36) := fun h => hc (UInt8.toNat_inj.mp (by show s[k].toNat = 36; omega))
    clear h0 e1 hget hc
    go_wp2
    go_roundw
    case rel => exact ⟨k + 1, by omega, by go_num, hx2, trivial⟩
    case measure => simp [intOf]; omega
  ·obtain rfl : k = s.size := by omega
   have h1 := h0.out
   rw [List.take_of_length_le (by rw [HL.out]; omega)] at h1
   have D := Lib.hid (num_none _ h1)
   clear h0 h1
   go_wp2
   go_ret2
   exact ⟨by rw [D.out.1, D.out.2]; rfl, rfl⟩
end Go.Proofs.YtboeaeoefoabdaaGreatDoor
namespace Go.Proofs.YtboeaeoefoabdaaGreatDoor
open Go.RowKit
def WordsG (l : List UInt8) (w : World) (e : Ending) (w' : World) : Prop := ∃ (A : Option Addr) (k cap : Nat), e = .returned (.slice A k cap) ∧ Good (told l k) ∧ (wordB l k).size = 0 ∧ (0 < k → ∃ g, A = some ⟨g, 0, none⟩ ∧ ∀ j, j < k → w'.cell? ⟨g, j, none⟩ = some (.string ⟨(wordL (behind l j)).toArray⟩)) ∧ Below w.heap.size w w'
theorem spec_wordsG (s : ByteArray) (hs : s.size ≤ 1048576) (w : World) : Calls Tryz.prog 41 #[.string s] w (WordsG s.data.toList w) := by
 refine (spec_words s hs w).mono ?_
 rintro e w' ⟨v, k, rfl, h1, h2, h3, h4, h5⟩
 generalize s.data.toList = l at *
 rcases h3.2 with ⟨rfl, h0⟩ | ⟨g, cap, cur, rfl, _⟩
 ·exact absurd rfl h4
 ·refine ⟨some ⟨g, 0, none⟩, k, cap, rfl, h1, h2, fun _ => ⟨g, rfl, fun j hj => ?_⟩, h5⟩
  have := h3.cells (g := g) rfl j (.string (wordB l j)) (by simp [told, hj])
  cases j with
  | zero => simpa [Addr.add, wordB] using this
  | succ j => simpa [Addr.add, wordB] using this
end Go.Proofs.YtboeaeoefoabdaaGreatDoor
