/-
  The walk of impl.Words: a new row of the words of a text, nil where there is none; old memory stays as it was.
  Conditions: the text has at most 1048576 bytes.
-/
import Derived.Test.YtboeaeoefoabdaaGreatDoorVwD
import Derived.Maps.AppendAt
import Derived.Outline
import Derived.WalkMore
import Derived.RangeFuncLeaves
namespace Go.Proofs.YtboeaeoefoabdaaGreatDoor
open Go Go.RowKit Go.Shelf
attribute [local go_sem] Oper.semAt_some
theorem scope_in {n : Nat} {P : Program} {c : Code} {Q : Exit → Act → World → Prop} {a : Act} {w : World} (h : c.wpIn Fence.wide n P (Exit.noGoto Q) a w) : (Code.scope c).wpIn Fence.wide n P Q a w := wpIn_wide.2 (wp_scope_straight ((wpIn_wide (n := n)).1 h))
theorem emp_size (x : ByteArray) : x.toList.isEmpty = true ↔ x.size = 0 := by
  rw [ByteArray.toList_eq, List.isEmpty_iff]
  show _ ↔ x.data.size = 0
  rw [← Array.length_toList, List.length_eq_zero_iff]
theorem info9w : (Tryz.prog.info? 9).map (fun i => (i.zero, i.size, i.bytes)) = some (some (.string ⟨#[]⟩), 1, 16) := by kernel_rfl
def OwnPost (s : ByteArray) (w : World) (e : Ending) (W' : World) : Prop := ∃ v k, e = .returned v ∧ Good (told s.data.toList k) ∧ (wordB s.data.toList k).size = 0 ∧ W'.ownsRow w.heap.size 9 1 v k ((told s.data.toList k).map Value.string) ∧ (v = .slice none 0 0 ↔ k = 0) ∧ Below w.heap.size w W'
def BoxI (n₀ B : Nat) (w : World) (pre : List ByteArray) (W : World) : Prop := (∃ v, Boxed W B 46 v ∧ W.ownsRow n₀ 9 1 v pre.length (pre.map Value.string) ∧ ((v = .slice none 0 0 ↔ pre = []) ∧ Good pre)) ∧ Below n₀ w W
def BoxX (n₀ B : Nat) (w : World) (xs : List ByteArray) (W : World) : Prop := (∃ v, Boxed W B 46 v ∧ W.ownsRow n₀ 9 1 v xs.dropLast.length (xs.dropLast.map Value.string) ∧ ((v = .slice none 0 0 ↔ xs.dropLast = []) ∧ Good xs.dropLast ∧ ∃ x, xs.getLast? = some x ∧ x.size = 0)) ∧ Below n₀ w W
theorem grown_none {A B : World} (h : Below A.heap.size A B) : A.grownBy B none := ⟨h.os, h.tape, h.output, h.size, fun k hk _ => h.block k hk⟩
theorem row_keep {n₀ : Nat} {A B : World} {e : TypeId} {size : Nat} {v : Value} {k : Nat} {xs : List Value} (h : A.ownsRow n₀ e size v k xs) (hb : Below A.heap.size A B) : B.ownsRow n₀ e size v k xs := by
  refine h.kept (grown_none hb) ?_
  rcases h.2 with ⟨rfl, _⟩ | ⟨g, cap, cur, rfl, _, hgb, _⟩
  · exact .inl rfl
  · exact .inr (by simp [Value.ownBlock])
theorem BoxI_keep {n₀ B : Nat} {w : World} (pre : List ByteArray) (W1 W2 : World) (h : BoxI n₀ B w pre W1) (hn : n₀ ≤ W1.heap.size) (hb : Below W1.heap.size W1 W2) : BoxI n₀ B w pre W2 := by
  obtain ⟨⟨v, h1, h2, h3⟩, h4⟩ := h
  exact ⟨⟨v, h1.kept (grown_none hb) (by simp), row_keep h2 hb, h3⟩, h4.trans (hb.mono hn)⟩
theorem BoxX_keep {n₀ B : Nat} {w : World} (pre : List ByteArray) (W1 W2 : World) (h : BoxX n₀ B w pre W1) (hn : n₀ ≤ W1.heap.size) (hb : Below W1.heap.size W1 W2) : BoxX n₀ B w pre W2 := by
  obtain ⟨⟨v, h1, h2, h3⟩, h4⟩ := h
  exact ⟨⟨v, h1.kept (grown_none hb) (by simp), row_keep h2 hb, h3⟩, h4.trans (hb.mono hn)⟩
set_option maxRecDepth 100000 in
set_option maxHeartbeats 2000000 in
theorem words_in (s : ByteArray) (hs : s.size ≤ 1048576) (w : World) :
    CallsIn Fence.wide 3 Tryz.prog 53 #[.string s] w (OwnPost s w) := by
  obtain ⟨i0, hi, hz0, hz1, hz2⟩ := info_parts info9w
  refine callsIn_of_wp_marks Tryz.func53 rfl trivial ?_ rfl
  simp only [Tryz.ntmps53, List.size_toArray, List.length_cons, List.length_nil, Nat.reduceAdd, Nat.reduceSub, Array.replicate_succ, Array.replicate_zero, List.push_toArray, List.append_toArray, List.nil_append, List.cons_append]
  gi_wp2
  refine scope_in ?_
  gi_wp2_with (refine ⟨trivial, fun h => (by cases h), ?_⟩; refine (wordsOf_any _ _ _).mono ?_; rintro e w1 ⟨rfl, rfl⟩)
  have bO := Boxed.new w 46 (.slice none 0 0)
  have bN := Boxed.new (w.alloc (.cells #[.slice none 0 0] 46)) 9 (.string s)
  rw [World.size_alloc] at bN
  have hB0 : Below w.heap.size w ((w.alloc (.cells #[.slice none 0 0] 46)).alloc (.cells #[.string s] 9)) := ((Below.refl _ w).alloc (Nat.le_refl _) _).alloc (by simp) _
  have hsl : s.data.toList.length = s.size := by simp
  refine wpIn_label ?_
  gi_wp2_with (refine ⟨trivial, ?_⟩; refine (wordsOf_any _ _ _).mono ?_; rintro e w1 ⟨rfl, rfl⟩)
  have hT := words_tells 2 w.heap.size (w.heap.size + 1) s (by omega) ((w.alloc (.cells #[.slice none 0 0] 46)).alloc (.cells #[.string s] 9)) (by simp) bN.cell
  refine range_tells (gf := 115) (lb := #[.pointer (some ⟨w.heap.size + 1, 0, none⟩)]) (n₀ := w.heap.size) (id := 0) rfl (by omega) rfl trivial (enters_of Tryz.func115 (by kernel_rfl) rfl) rfl hT (by simp; omega) (Below.refl _ _)
    (BoxI w.heap.size w.heap.size w) (BoxX w.heap.size w.heap.size w) ?oI ?oX (fun pre W h => by obtain ⟨⟨v, _, _, _, h⟩, _⟩ := h; exact h) ?h0
    (fun x => { tmps := #[.string s, undef, .slice none 0 0, .pointer (some ⟨w.heap.size, 0, none⟩), .string x, .string s, .func (.func 115) #[] #[.pointer (some ⟨w.heap.size + 1, 0, none⟩)], .string x, undef, undef, undef, undef, undef, undef, undef, undef], defers := [] })
    (fun pre W1 W2 h hb => BoxI_keep pre W1 W2 h h.2.size hb) (fun pre W1 W2 h hb => BoxX_keep pre W1 W2 h h.2.size hb) ?assign ?body ?stop
  case oI => exact OwnFrom.and (Own.from (holdsRow_own w.heap.size w.heap.size 46 9 1 (fun pre => pre.length) (fun pre => pre.map Value.string) (fun pre v => (v = .slice none 0 0 ↔ pre = []) ∧ Good pre)) _) (ownFrom_below (Nat.le_refl _) (by simp; omega))
  case oX => exact OwnFrom.and (Own.from (holdsRow_own w.heap.size w.heap.size 46 9 1 (fun xs : List ByteArray => xs.dropLast.length) (fun xs => xs.dropLast.map Value.string) (fun xs v => (v = .slice none 0 0 ↔ xs.dropLast = []) ∧ Good xs.dropLast ∧ ∃ x : ByteArray, xs.getLast? = some x ∧ x.size = 0)) _) (ownFrom_below (Nat.le_refl _) (by simp; omega))
  case h0 => exact ⟨⟨_, bO.alloc _, World.ownsRow_nil _ _ _ _, by simp, by simp [Good]⟩, hB0⟩
  case assign =>
    intro l x W K hK
    gi_wp2
    exact hK
  case body =>
    rintro l pre x W ⟨⟨v, hv, hrow, hnil, hg⟩, hB⟩ hlt
    have hc := hv.cell
    gi_wp2_with (gi_at_builtin; refine wpListIn_append_own _ rfl _ _ 46 rfl w.heap.size 9 i0 (.string ⟨#[]⟩) 1 16 Tryz.underlying46 hi hz0 hz1 hz2 rfl (by decide) _ _ _ rfl (hrow.alloc _) ⟨W.heap.size, 0, none⟩ 1 1 [.string x] rfl rfl ?c1 ?c2 ?c3 ?c4 ?c5 ?_)
    case c1 =>
      intro j u hj
      match j, hj with
      | 0, hj => simp at hj; subst hj; simp [Addr.add]
    case c2 => intro u hu; simp at hu; subst hu; rfl
    case c3 => unfold maxLen; omega
    case c4 => omega
    case c5 => have := hB.size; simp; omega
    · have he : x.toList.isEmpty = true := by assumption
      exact ⟨rfl, KeepsOthers.refl _, ⟨v, hv, by simpa using hrow, by simpa using hnil, by simpa using hg, x, by simp, (emp_size x).1 he⟩, hB⟩
    · have he : x.toList.isEmpty = false := by assumption
      intro v' w1 hown' hgrow _
      obtain ⟨g', cap', rfl⟩ := ownsRow_succ hown'
      obtain ⟨hv1, hv2, hr2, hk2, hb2⟩ := hv.appended (by decide) hrow hB.size (Nat.le_refl _) hown' hgrow
      have hc1 := hv1.cell
      have hf1 := hv1.frozen
      gi_wp2
      exact ⟨hk2, hb2, ⟨_, hv2, by simpa using hr2, by simp, fun y hy => by
        rcases List.mem_append.1 hy with hy | hy
        · exact hg y hy
        · rw [List.mem_singleton] at hy; subst hy; intro h0; rw [(emp_size y).2 h0] at he; cases he⟩, hB.trans hb2⟩
  case stop =>
    rintro D pre W hD ⟨k, rfl⟩ ⟨⟨v, hv, hrow, hnil, hg, x, hx, hx0⟩, hB⟩ hK
    have hc := hv.cell
    refine wpIn_exit ?_
    gi_wp2
    rw [told_succ, List.dropLast_concat] at hrow hnil hg
    rw [told_succ, List.getLast?_concat] at hx
    obtain rfl := Option.some.inj hx
    refine ⟨by simp, .inl ⟨_, _, rfl, run_takeDeferred hK, ?_⟩⟩
    refine ⟨_, results_tmp rfl _ _ _, v, k, rfl, hg, hx0, ?_, ?_, hB.trans (belowK_b (w := w) (Nat.le_refl _) W D _ _ (by simp at hD; omega) hK rfl rfl)⟩
    · have := ownsRow_putObj hrow (.deferred none) hK rfl
      simpa [told] using this
    · rw [hnil]; simp [told]
end Go.Proofs.YtboeaeoefoabdaaGreatDoor
