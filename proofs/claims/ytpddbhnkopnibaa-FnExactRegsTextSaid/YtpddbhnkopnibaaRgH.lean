/-
  The walks of ReadFlags of both packages (chapter 3): both read the same number.
  Conditions: the text is no longer than any text may be.
-/
import Derived.Test.YtpddbhnkopnibaaRgG
import Derived.Test.YtpddbhnkopnibaaRgF
import Derived.Deep.QuietTactic
import Derived.BigQuiet
namespace Go.Proofs.Ytpddbhnkopnibaa
open Go.RowKit Go.Deep Go.WideShapes Go.ChangeShapes
set_option maxRecDepth 100000 in
set_option maxHeartbeats 1000000 in
theorem spec_readFlags (s : ByteArray) (w : World) : Calls Try.prog 19 #[.string s] w fun e w' => e = .returned (.int .i64 (rfl8 s.data.toList)) ∧ Below w.heap.size w w' := by
  have HT := Lib.hid spec_flagText
  go_enter Try.func19, Try.ntmps19
  go_wp2
  go_loopw [3] (fun v3 wr => ∃ k : Nat, k ≤ 256 ∧ v3 = .int .i64 k ∧ Hid (∀ q : Nat, q < k → ftl (q : Int) ≠ s.data.toList) ∧ Below w.heap.size w wr) (fun v3 _ => 256 - (intOf v3).toNat)
  case atStart => exact ⟨0, by omega, rfl, Lib.hid (fun q hq => by omega), Below.refl _ _⟩
  case round =>
    obtain ⟨k, hk, rfl, HN, hb⟩ := hrel
    by_cases hlt : k < 256
    · by_cases he : ftl (k : Int) = s.data.toList
      · have hs : s = ⟨(ftl (k : Int)).toArray⟩ := by rw [he]
        have HR : Hid (rfl8 s.data.toList = k) := Lib.hid (by rw [← he]; exact rfl8_ftl _ (by omega) (by omega))
        have hq : (ftl (k : Int) == s.toList) = true := by rw [ByteArray.toList_eq, he]; exact beq_self_eq_true _
        clear he HN
        go_wp2_with (go_at_call 17; refine (HT.out _ _).mono ?_; rintro e w1 ⟨rfl, hb1⟩)
        go_ret
        exact ⟨by rw [HR.out]; rfl, hb.trans (hb1.mono hb.size)⟩
      · have hq : (ftl (k : Int) == s.toList) = false := by
          rw [ByteArray.toList_eq, beq_eq_false_iff_ne]
          exact he
        have HN2 : Hid (∀ q : Nat, q < k + 1 → ftl (q : Int) ≠ s.data.toList) := Lib.hid (fun q hq => by
          by_cases h : q = k
          · subst h; exact he
          · exact HN.out q (by omega))
        clear he HN
        go_wp2_with (go_at_call 17; refine (HT.out _ _).mono ?_; rintro e w1 ⟨rfl, hb1⟩)
        go_roundw
        case rel => exact ⟨k + 1, by omega, by go_num, HN2, hb.trans (hb1.mono hb.size)⟩
        case measure => simp [intOf]; omega
    · obtain rfl : k = 256 := by omega
      have HR : Hid (rfl8 s.data.toList = -1) := Lib.hid (rfl8_none HN.out)
      clear HN
      go_wp2
      go_ret
      exact ⟨by rw [HR.out]; rfl, hb⟩
theorem below_drewN {B : Nat} {w w' : World} (h : Below B w w') (n : Nat) : Below B w (w'.drewN n) := ⟨h.os, h.tape, h.output, h.size, h.block⟩
theorem at_of (s : ByteArray) (k : Nat) (h : k < s.size) : s.data.toList.getD k 0 = s[k] := by
  have h2 : k < s.data.toList.length := by simpa using h
  show (s.data.toList[k]?).getD 0 = _
  rw [List.getElem?_eq_getElem h2]
  rfl
theorem sg8_at (s : ByteArray) (k : Nat) (h : k < s.size) : ((s[k].toNat : Int) == ((fLet k).toNat : Int)) = sg8 s.data.toList k := by
  unfold sg8
  rw [at_of s k h, Bool.eq_iff_iff, beq_iff_eq, beq_iff_eq, ← UInt8.toNat_inj]
  omega
theorem pt_at (s : ByteArray) (k : Nat) (h : k < s.size) : ((s[k].toNat : Int) != 46) = !(s.data.toList.getD k 0 == 46) := by
  rw [at_of s k h, Bool.eq_iff_iff, bne_iff_ne, Bool.not_eq_true', beq_eq_false_iff_ne, Ne, Ne, ← UInt8.toNat_inj, not_congr]
  show _ ↔ _ = 46
  omega
set_option maxRecDepth 100000 in
set_option maxHeartbeats 1000000 in
theorem impl_readFlags (s : ByteArray) (w : World) (hs : s.size ≤ maxLen) : Calls Try.prog 18 #[.string s] w fun e w' => e = .returned (.int .i64 (rfl8 s.data.toList)) ∧ Below w.heap.size w w' := by
  unfold maxLen at hs
  by_cases h8 : s.size = 8
  · have HF := Lib.hid flag_at
    have HW := Lib.hid with_flag
    have hq : ((s.size : Int) != 8) = false := by rw [h8]; rfl
    have H8 := Lib.hid h8
    have hL : s.size < 9 := by omega
    have hL2 : 7 < s.size := by omega
    clear h8
    go_enter Try.func18, Try.ntmps18
    go_wp2
    go_loopw [3, 11] (fun v3 v11 wr => ∃ k : Nat, k ≤ 8 ∧ v11 = .int .i64 k ∧ v3 = .int .u8 (rdN s.data.toList k) ∧ Hid (∀ q : Nat, q < k → okAt s.data.toList q = true) ∧ Below w.heap.size w wr) (fun _ v11 _ => 8 - (intOf v11).toNat)
    case atStart => exact ⟨0, by omega, rfl, rfl, Lib.hid (fun q hq => by omega), Below.refl _ _⟩
    case round =>
      obtain ⟨k, hk, rfl, rfl, HN, hb⟩ := hrel
      by_cases hlt : k < 8
      · have hx := fLets_at k hlt (by show _ < 8; omega)
        have hks : k < s.size := by omega
        have h0 : (0 : Int) ≤ (k : Int) := by omega
        have h1 : (k : Int) < 8 := by omega
        have h2 : (k : Int) < (s.size : Int) := by omega
        have hA := sg8_at s k hks
        have hB := pt_at s k hks
        have HS := rdN_succ s.data.toList k
        have HK : okAt s.data.toList k = (sg8 s.data.toList k || s.data.toList.getD k 0 == 46) := rfl
        cases hs8 : sg8 s.data.toList k
        · cases hp : s.data.toList.getD k 0 == 46
          · have HR : Hid (rfl8 s.data.toList = -1) := Lib.hid (rfl8_bad k hlt (by rw [HK, hs8, hp]; rfl))
            rw [hs8] at hA
            rw [hp] at hB
            simp only [Bool.not_false] at hB
            clear HS HK hs8 hp HN
            go_wp2
            go_quiet (fail)
            go_wp2
            go_ret
            exact ⟨by rw [HR.out]; rfl, by first | exact hb | exact below_drewN hb _⟩
          · have HN2 : Hid (∀ q : Nat, q < k + 1 → okAt s.data.toList q = true) := Lib.hid (fun q hq => by
              by_cases h : q = k
              · subst h; rw [HK, hs8, hp]; rfl
              · exact HN.out q (by omega))
            rw [hs8] at hA HS
            rw [hp] at hB
            simp only [Bool.not_true] at hB
            have HS2 := Lib.hid HS
            clear HS HK hs8 hp HN
            go_wp2
            go_quiet (fail)
            go_wp2_with (first
              | (go_at_call 38; refine (HF.out k hlt _).mono ?_; rintro e w' ⟨rfl, rfl⟩)
              | (go_at_call 37; refine (HW.out _ _ _ _).mono ?_; rintro e w' ⟨rfl, rfl⟩))
            go_roundw
            case rel => exact ⟨k + 1, by omega, by go_num, by rw [HS2.out], HN2, by first | exact hb | exact below_drewN hb _⟩
            case measure => simp [intOf]; omega
        · have HN2 : Hid (∀ q : Nat, q < k + 1 → okAt s.data.toList q = true) := Lib.hid (fun q hq => by
            by_cases h : q = k
            · subst h; rw [HK, hs8]; rfl
            · exact HN.out q (by omega))
          rw [hs8] at hA HS
          have HS2 := Lib.hid HS
          clear HS HK hs8 HN hB
          go_wp2
          go_quiet (fail)
          go_wp2_with (first
            | (go_at_call 38; refine (HF.out k hlt _).mono ?_; rintro e w' ⟨rfl, rfl⟩)
            | (go_at_call 37; refine (HW.out _ _ _ _).mono ?_; rintro e w' ⟨rfl, rfl⟩))
          go_roundw
          case rel => exact ⟨k + 1, by omega, by go_num, by rw [HS2.out], HN2, by first | exact hb | exact below_drewN hb _⟩
          case measure => simp [intOf]; omega
      · obtain rfl : k = 8 := by omega
        have hN := HN.out
        have HR : Hid (rfl8 s.data.toList = rdN s.data.toList 8) := Lib.hid (by unfold rfl8; rw [if_pos (okF_mk (by simpa using H8.out) hN)])
        have hbd := rdN_bd s.data.toList 8
        clear hN HN
        go_wp2
        go_ret
        exact ⟨by rw [HR.out]; rfl, hb⟩
  · have hq : ((s.size : Int) != 8) = true := by rw [bne_iff_ne]; omega
    have HR : Hid (rfl8 s.data.toList = -1) := Lib.hid (rfl8_len (by simpa using h8))
    clear h8
    go_enter Try.func18, Try.ntmps18
    go_wp2
    go_ret
    exact ⟨by rw [HR.out]; rfl, Below.refl _ _⟩
end Go.Proofs.Ytpddbhnkopnibaa
