/-
  The walk of the law FnLines: lines with line ends between are the text; words with a blank behind each are those words; both are as the model's.
  Conditions: a variable of Go's library holds some int (internal/bytealg.MaxLen).
-/
import Derived.Test.YtmhlplaglnopfaaDoorLlA
import Derived.Test.YtmhlplaglnopfaaDoorLlB
namespace Go.Proofs.YtmhlplaglnopfaaDoor
open Go.RowKit
/-- The lines of a text. -/
theorem lines_of (s : ByteArray) (hs : s.size ≤ 1000) : ∃ L : List ByteArray, L.length ≤ 1001 ∧ fullJ L = s.data.toList ∧ (∀ w, Calls Tryd.prog 29 #[.string s] w fun e w' => ∃ v, e = .returned v ∧ StrsAt w' v L ∧ Below w.heap.size w w') ∧
    (∀ w, MaxLenIs w → Calls Tryd.prog 25 #[.string s] w fun e w' => ∃ v, e = .returned v ∧ StrsAt w' v L ∧ Below w.heap.size w w') := by
  by_cases h0 : s.size = 0
  · obtain rfl : s = ⟨#[]⟩ := by
      obtain ⟨⟨l⟩⟩ := s
      cases l with
      | nil => rfl
      | cons _ _ => simp [ByteArray.size] at h0
    refine ⟨[], by simp, rfl, fun w => (spec_lines_empty w).mono ?_, fun w _ => (impl_lines_empty w).mono ?_⟩
    · rintro e w' ⟨v, rfl, hv, hb⟩
      obtain ⟨g, cap, rfl, _, hk⟩ := hv.blk
      exact ⟨_, rfl, ⟨_, cap, rfl, .inl rfl⟩, hb⟩
    · rintro e w' ⟨rfl, rfl⟩
      exact ⟨_, rfl, ⟨none, 0, rfl, .inl rfl⟩, Below.refl _ _⟩
  · have hc := Lib.countB_le nl (by decide) s.size s (Nat.le_refl _)
    have hl := linesB_length s
    refine ⟨linesB s, by omega, fullJ_lines _ s (Nat.le_refl _), fun w => (spec_lines s h0 (by omega) w).mono ?_, fun w hm => (impl_lines s h0 (by omega) w hm).mono ?_⟩
    · rintro e w' ⟨v, rfl, hv, hb⟩
      rw [if_neg h0] at hv
      obtain ⟨g, cap, rfl, _, hk⟩ := hv.blk
      exact ⟨_, rfl, ⟨_, cap, rfl, .inr ⟨g, rfl, hk⟩⟩, hb⟩
    · rintro e w' ⟨v, rfl, hv, hb⟩
      obtain ⟨g, cap, rfl, _, hk⟩ := hv.blk
      exact ⟨_, rfl, ⟨_, cap, rfl, .inr ⟨g, rfl, hk⟩⟩, hb⟩
/-- What the first k lines are joined to. -/
def JoinAt (L : List ByteArray) (s : ByteArray) (k : Nat) (J : ByteArray) : Prop := (k = 0 ∧ J = ⟨#[]⟩) ∨ (0 < k ∧ J.data.toList ++ tailJ (L.drop k) = s.data.toList)
theorem JoinAt.first {L : List ByteArray} {s J : ByteArray} (h : JoinAt L s 0 J) (hj : fullJ L = s.data.toList) (hk : 0 < L.length) : JoinAt L s 1 (J ++ L[0]) := by
  rcases h with ⟨_, rfl⟩ | ⟨h, _⟩
  · right
    refine ⟨by omega, ?_⟩
    cases L with
    | nil => simp at hk
    | cons x l =>
      rw [← hj]
      simp [fullJ]
  · omega
theorem JoinAt.next {L : List ByteArray} {s J : ByteArray} {k : Nat} (h : JoinAt L s k J) (h0 : 0 < k) (hk : k < L.length) : JoinAt L s (k + 1) (J ++ ⟨#[10]⟩ ++ L[k]) := by
  rcases h with ⟨h, _⟩ | ⟨_, h⟩
  · omega
  · right
    refine ⟨by omega, ?_⟩
    rw [← h, List.drop_eq_getElem_cons hk]
    simp [tailJ]
theorem JoinAt.size {L : List ByteArray} {s J : ByteArray} {k : Nat} (h : JoinAt L s k J) : J.size ≤ s.size := by
  rcases h with ⟨_, rfl⟩ | ⟨_, h⟩
  · exact Nat.zero_le _
  · have := congrArg List.length h
    simp at this
    omega
theorem JoinAt.last {L : List ByteArray} {s J : ByteArray} (h : JoinAt L s L.length J) (hj : fullJ L = s.data.toList) : J = s := by
  apply ba_ext
  rcases h with ⟨h, rfl⟩ | ⟨_, h⟩
  · rw [← hj, List.eq_nil_of_length_eq_zero h]; rfl
  · rw [← h]; simp [tailJ]
theorem lineT_size (K : List ByteArray) (h : ∀ x ∈ K, x.size ≤ 1000) : (lineT K).size ≤ 1001 * K.length := by
  show (lineL K).toArray.size ≤ _
  rw [List.size_toArray]
  induction K with
  | nil => simp [lineL]
  | cons x K ih =>
    have h1 := h x (by simp)
    have h2 := ih (fun y hy => h y (by simp [hy]))
    have e : (lineL (x :: K)).length = x.size + 1 + (lineL K).length := by simp [lineL]; omega
    rw [e, List.length_cons]
    omega
set_option maxRecDepth 100000 in
set_option maxHeartbeats 2000000 in
theorem lines_law (A : Option Addr) (n c : Nat) (W : World) (hrow : RowB W A n) (hm : MaxLenIs W) :
    Calls Tryd.prog 5 #[.slice A n c] W fun e w' => e = .returned (.bool true) ∧ Below W.heap.size W w' := by
  have hml := hrow.1
  unfold maxLen at hml
  by_cases hbig : 1048576 < n
  · clear hrow hm
    go_enter Tryd.func5, Tryd.ntmps5
    go_wp2_with (go_in)
    go_ret
    exact ⟨rfl, Below.refl _ _⟩
  · obtain ⟨bs, hcode⟩ := (hrow.code (by omega)).is
    have hDl := drawLines_is W.heap.size n c A bs W (Nat.le_refl _) hcode
    have hDw := fun (w : World) (hb : Below W.heap.size W w) => drawWords_is W.heap.size n c A bs w hb.size (hcode.below (Nat.le_refl _) hb)
    obtain ⟨L, hLn, hLj, hLs, hLi⟩ := lines_of (drawTxt lineBits bs n) (by have := drawTxt_size lineBits (by decide) bs n; omega)
    obtain ⟨K, hKn, hKz, hKs, hKi, hKl⟩ := words_of (drawTxt wordBits bs n) (by have := drawTxt_size wordBits (by decide) bs n; omega)
    have hsz := drawTxt_size lineBits (by decide) bs n
    obtain ⟨s, hs⟩ : ∃ s, s = drawTxt lineBits bs n := ⟨_, rfl⟩
    obtain ⟨t, ht⟩ : ∃ t, t = drawTxt wordBits bs n := ⟨_, rfl⟩
    rw [← hs] at hDl hLs hLi hLj hsz
    rw [← ht] at hKs hKi
    simp only [← ht] at hDw
    have hKi2 := fun w => (hKi w).mono fun e w' => strsAt_impl
    have hKl2 := fun w hz => (hKl w hz).mono fun e w' => strsAt_impl
    have hKs2 := fun w => (hKs w).mono fun e w' => strsAt_spec
    clear hKi hKl hKs hcode hrow hs ht
    have HDw := Lib.hid hDw
    have HLs := Lib.hid hLs
    have HLi := Lib.hid hLi
    have HKi := Lib.hid hKi2
    have HKl := Lib.hid hKl2
    have HKs := Lib.hid hKs2
    have HLj := Lib.hid hLj
    have HKz := Lib.hid hKz
    clear hDw hLs hLi hKi2 hKl2 hKs2 hLj hKz
    go_enter Tryd.func5, Tryd.ntmps5
    go_wp2_with (first
      | (go_at_call 11; go_in)
      | (go_at_call 24; refine hDl.mono ?_; rintro e w1 ⟨rfl, hb1⟩; refine Hid.out ?_))
    have hm1 := hm.below hb1
    clear hDl hm
    refine Lib.hid ?_
    go_wp2_with (go_at_call 25; refine (HLi.out _ hm1).mono ?_; rintro e w2 ⟨v1, rfl, hv1, hb2⟩; refine Hid.out ?_)
    have hb2 := hb1.trans (hb2.mono hb1.size)
    clear hm1 hb1
    obtain ⟨A1, c1, rfl, hrow1⟩ := hv1
    refine Lib.hid ?_
    have hR1 : Hid (∀ i, (hi : i < L.length) → ∃ g, A1 = some ⟨g, 0, none⟩ ∧ w2.cell? ⟨g, i, none⟩ = some (.string L[i])) := by
      refine Lib.hid fun i hi => ?_
      rcases hrow1 with rfl | ⟨g, rfl, hg⟩
      · simp at hi
      · exact ⟨g, rfl, hg.cell i hi⟩
    have HV1 := Lib.hid (show StrsAt w2 (.slice A1 L.length c1) L from ⟨A1, c1, rfl, hrow1⟩)
    clear hrow1
    go_wp2
    go_loopw [5, 6] (fun v5 v6 wr => ∃ (k : Nat) (J : ByteArray), k ≤ L.length ∧ v6 = .int .i64 k ∧ v5 = .string J ∧ Hid (JoinAt L s k J) ∧ wr = w2) (fun _ v6 _ => L.length - (intOf v6).toNat)
    case atStart => exact ⟨0, ⟨#[]⟩, by omega, rfl, rfl, Lib.hid (.inl ⟨rfl, rfl⟩), rfl⟩
    case round =>
      obtain ⟨k, J, hk, rfl, rfl, hJ, rfl⟩ := hrel
      have hJz := hJ.out.size
      by_cases hlt : k < L.length
      · obtain ⟨g, rfl, hcell⟩ := hR1.out k hlt
        have i0 : (0 : Int) ≤ (k : Int) := by omega
        have i1 : (k : Int) < (L.length : Int) := by omega
        rcases Nat.eq_zero_or_pos k with h0 | h0
        · subst h0
          have hN := hJ.out.first HLj.out hlt
          have hNz := hN.size
          have hN := Lib.hid hN
          rw [ByteArray.size_append] at hNz
          go_wp2
          go_roundw
          case rel => exact ⟨1, _, by omega, rfl, rfl, hN, trivial⟩
          case measure => simp [intOf]; omega
        · have hN := hJ.out.next h0 hlt
          have hNz := hN.size
          have hN := Lib.hid hN
          rw [ByteArray.size_append] at hNz
          go_wp2
          go_roundw
          case rel => exact ⟨k + 1, _, by omega, by go_num, rfl, hN, trivial⟩
          case measure => simp [intOf]; omega
      · obtain rfl : k = L.length := by omega
        obtain rfl : J = s := hJ.out.last HLj.out
        clear hJ hJz hR1 HLj hlt hk
        go_wp2_with (go_at_call 27; refine (HDw.out _ hb2).mono ?_; rintro e w3 ⟨rfl, hb3⟩; refine Hid.out ?_)
        have HV1 := Lib.hid (HV1.out.below hb3)
        have hb3 := hb2.trans (hb3.mono hb2.size)
        clear hb2
        refine Lib.hid ?_
        go_wp2_with (go_at_call 26; refine (HKi.out _).mono ?_; rintro e w4 ⟨v2, rfl, hv2, hb4⟩; refine Hid.out ?_)
        have HV1 := Lib.hid (HV1.out.below hb4)
        have hb4 := hb3.trans (hb4.mono hb3.size)
        clear hb3
        obtain ⟨A2, c2, rfl, hrow2⟩ := hv2
        have hR2 : Hid (∀ i, (hi : i < K.length) → ∃ g, A2 = some ⟨g, 0, none⟩ ∧ w4.cell? ⟨g, i, none⟩ = some (.string K[i])) := by
          refine Lib.hid fun i hi => ?_
          rcases hrow2 with rfl | ⟨g, rfl, hg⟩
          · simp at hi
          · exact ⟨g, rfl, hg.cell i hi⟩
        have HV2 := Lib.hid (show StrsAt w4 (.slice A2 K.length c2) K from ⟨A2, c2, rfl, hrow2⟩)
        clear hrow2
        refine Lib.hid ?_
        have hLz := lineT_size K HKz.out
        have hTz : ∀ k, (lineT (K.take k)).size ≤ 1001 * K.length := fun k => by
          have h1 := lineT_size (K.take k) (fun x hx => HKz.out x (List.mem_of_mem_take hx))
          have h2 : (K.take k).length ≤ K.length := by rw [List.length_take]; omega
          exact Nat.le_trans h1 (Nat.mul_le_mul_left _ h2)
        go_wp2
        go_loopw [8, 9] (fun v8 v9 wr => ∃ k : Nat, k ≤ K.length ∧ v9 = .int .i64 k ∧ v8 = .string (lineT (K.take k)) ∧ wr = w4) (fun _ v9 _ => K.length - (intOf v9).toNat)
        case atStart => exact ⟨0, by omega, rfl, rfl, rfl⟩
        case round =>
          obtain ⟨k, hk, rfl, rfl, rfl⟩ := hrel
          have hTk := hTz k
          by_cases hlt : k < K.length
          · obtain ⟨g, rfl, hcell⟩ := hR2.out k hlt
            have hxz := HKz.out K[k] (List.getElem_mem hlt)
            have hN := Lib.hid (show lineT (K.take (k + 1)) = lineT (K.take k) ++ K[k] ++ ⟨#[32]⟩ by rw [← lineT_snoc, List.take_succ_eq_append_getElem hlt])
            have i0 : (0 : Int) ≤ (k : Int) := by omega
            have i1 : (k : Int) < (K.length : Int) := by omega
            clear hTz
            go_wp2
            go_roundw
            case rel => exact ⟨k + 1, by omega, by go_num, by rw [hN.out], trivial⟩
            case measure => simp [intOf]; omega
          · obtain rfl : k = K.length := by omega
            have hE : lineT (K.take K.length) = lineT K := by rw [List.take_length]
            rw [hE]
            clear hTk hR2 hTz hlt hk hE
            go_wp2_with (go_at_call 29; refine (HLs.out _).mono ?_; rintro e w5 ⟨v5, rfl, hv5, hb5⟩; refine Hid.out ?_)
            have hS1 := same_texts w5 _ _ L (by unfold maxLen; omega) (HV1.out.below hb5) hv5
            have HV2 := Lib.hid (HV2.out.below hb5)
            have hb5 := hb4.trans (hb5.mono hb4.size)
            clear hb4 HV1
            obtain ⟨A5, c5, rfl, _⟩ := hv5
            refine Lib.hid ?_
            go_wp2_with (go_at_call 28; refine hS1.mono ?_; rintro e w6 ⟨rfl, hb6⟩; refine Hid.out ?_)
            have HV2 := Lib.hid (HV2.out.below hb6)
            have hb6 := hb5.trans (hb6.mono hb5.size)
            clear hb5 hS1
            refine Lib.hid ?_
            go_wp2_with (go_at_call 26; refine (HKl.out _ (by omega)).mono ?_; rintro e w7 ⟨v7, rfl, hv7, hb7⟩; refine Hid.out ?_)
            have HV2 := Lib.hid (HV2.out.below hb7)
            have hS2 := same_texts w7 _ _ K (by unfold maxLen; omega) hv7 HV2.out
            have hb7 := hb6.trans (hb7.mono hb6.size)
            clear hb6
            obtain ⟨A7, c7, rfl, _⟩ := hv7
            refine Lib.hid ?_
            go_wp2_with (go_at_call 28; refine hS2.mono ?_; rintro e w8 ⟨rfl, hb8⟩; refine Hid.out ?_)
            have HV2 := Lib.hid (HV2.out.below hb8)
            have hb8 := hb7.trans (hb8.mono hb7.size)
            clear hb7 hS2
            refine Lib.hid ?_
            go_wp2_with (go_at_call 27; refine (HDw.out _ hb8).mono ?_; rintro e w9 ⟨rfl, hb9⟩; refine Hid.out ?_)
            have HV2 := Lib.hid (HV2.out.below hb9)
            have hb9 := hb8.trans (hb9.mono hb8.size)
            clear hb8
            refine Lib.hid ?_
            go_wp2_with (go_at_call 30; refine (HKs.out _).mono ?_; rintro e w10 ⟨v10, rfl, hv10, hb10⟩; refine Hid.out ?_)
            have hS3 := same_texts w10 _ _ K (by unfold maxLen; omega) (HV2.out.below hb10) hv10
            have hb10 := hb9.trans (hb10.mono hb9.size)
            clear hb9 HV2
            obtain ⟨A10, c10, rfl, _⟩ := hv10
            refine Lib.hid ?_
            go_wp2_with (go_at_call 28; refine hS3.mono ?_; rintro e w11 ⟨rfl, hb11⟩)
            go_ret
            exact ⟨rfl, hb10.trans (hb11.mono hb10.size)⟩
theorem lines_law_walk (A : Option Addr) (n c : Nat) (W : World) (hrow : RowB W A n) (hm : MaxLenIs W) :
    Calls Tryd.prog 5 #[.slice A n c] W fun e w' => e = .returned (.bool true) ∧ Below W.heap.size W w' := lines_law A n c W hrow hm
end Go.Proofs.YtmhlplaglnopfaaDoor
