/-
  The number of a line (chapter 13).
  Conditions: the text has at most 1048576 bytes.
-/
import Derived.Test.YtboeaeoefoabdaaGreatDoorAsP
import Derived.Test.YtboeaeoefoabdaaGreatDoorRhS
import Derived.Test.YtboeaeoefoabdaaGreatDoorAsD
namespace Go.Proofs.YtboeaeoefoabdaaGreatDoor
open Go.RowKit
theorem drop36 (Q r : List UInt8) (h : ∀ c ∈ Q, c ≠ 36) : (Q ++ 36 :: r).dropWhile (fun c => c != 36) = 36 :: r := by
  induction Q with
  | nil => simp
  | cons c Q ih =>
    have hc := h c (by simp)
    rw [List.cons_append, List.dropWhile_cons, if_pos (by simp [hc])]
    exact ih fun x hx => h x (by simp [hx])
theorem take_hx (A r : List UInt8) (hA : ∀ c ∈ A, isHx c = true) (hr : r = [] ∨ ∃ c r', r = c :: r' ∧ isHx c = false) : (A ++ r).takeWhile isHx = A := by
  have hq : r.takeWhile isHx = [] := by
    rcases hr with rfl | ⟨c, r', rfl, hc⟩
    · rfl
    · rw [List.takeWhile_cons, hc]; rfl
  rw [List.takeWhile_append_of_pos hA, hq, List.append_nil]
theorem ext_list (s : ByteArray) (a b : Nat) : (s.extract a b).data.toList = (s.data.toList.take b).drop a := by
  rw [ByteArray.data_extract, Array.toList_extract, List.extract_eq_take_drop, List.drop_take]
/-- What is found of a number, when the first $ stands at k and its digits go up to e. -/
theorem num_found (S : List UInt8) (k e : Nat) (hk : k < S.length) (h0 : ∀ c ∈ S.take k, c ≠ 36) (h1 : S[k] = 36) (he : k + 1 ≤ e) (heS : e ≤ S.length) (hx : ∀ c ∈ (S.take e).drop (k + 1), isHx c = true) (hend : e = S.length ∨ ∃ h : e < S.length, isHx S[e] = false) :
    numN S = rh ((S.take e).drop (k + 1)) ∧ numD S = (e : Int) - k - 1 := by
  have hS : S = S.take k ++ 36 :: S.drop (k + 1) := by
    conv => lhs; rw [← List.take_append_drop k S, List.drop_eq_getElem_cons hk, h1]
  have hm : 36 ∈ S := by rw [hS]; simp
  have hb : behindS S = S.drop (k + 1) := by
    unfold behindS
    conv => lhs; rw [hS, drop36 _ _ h0]
    rfl
  have hsplit : S.drop (k + 1) = (S.take e).drop (k + 1) ++ S.drop e := by
    conv => lhs; rw [← List.take_append_drop e S]
    rw [List.drop_append_of_le_length (by simp; omega)]
  have hd : digsL S = (S.take e).drop (k + 1) := by
    unfold digsL
    rw [hb, hsplit]
    refine take_hx _ _ hx ?_
    rcases hend with h | ⟨h, h2⟩
    · exact .inl (by rw [h]; simp)
    · exact .inr ⟨S[e], S.drop (e + 1), List.drop_eq_getElem_cons h, h2⟩
  unfold numN numD
  rw [if_pos hm, if_pos hm, hd]
  refine ⟨rfl, ?_⟩
  rw [List.length_drop, List.length_take]
  omega
theorem num_none (S : List UInt8) (h : ∀ c ∈ S, c ≠ 36) : numN S = 0 ∧ numD S = 0 := by
  have hm : ¬ 36 ∈ S := fun hx => h 36 hx rfl
  unfold numN numD
  rw [if_neg hm, if_neg hm]
  exact ⟨rfl, rfl⟩
set_option maxRecDepth 100000 in
set_option maxHeartbeats 4000000 in
theorem spec_number (s : ByteArray) (hs : s.size ≤ 1048576) (w : World) : Calls Tryz.prog 65 #[.string s] w fun e w' => e = .returned (.tuple #[.int .i64 (numN s.data.toList), .int .i64 (numD s.data.toList)]) ∧ w = w' := by
  have hlen : s.data.toList.length = s.size := by simp
  have HL := Lib.hid hlen
  go_enter Tryz.func65, Tryz.ntmps65
  clear hlen
  go_wp2
  go_loopw [4] (fun v4 wr => ∃ k : Nat, k ≤ s.size ∧ v4 = .int .i64 k ∧ Hid (∀ c ∈ s.data.toList.take k, c ≠ 36) ∧ w = wr) (fun v4 _ => s.size - (intOf v4).toNat)
  case atStart => exact ⟨0, by omega, rfl, Lib.hid (fun c hc => by simp at hc), rfl⟩
  case round =>
    obtain ⟨k, hk, rfl, h0, rfl⟩ := hrel
    by_cases hlt : k < s.size
    · have e1 := take_snoc s k hlt
      have hget : s.data.toList[k]'(by rw [HL.out]; exact hlt) = s[k] := rfl
      by_cases hc : s[k] = 36
      · have HD := Lib.hid (num_found s.data.toList k · (by rw [HL.out]; exact hlt) h0.out (hget.trans hc))
        have hci : (s[k].toNat : Int) = 36 := by rw [hc]; rfl
        clear e1 hc hget h0
        go_wp2
        go_loopw [5] (fun v5 wr => ∃ e : Nat, k + 1 ≤ e ∧ e ≤ s.size ∧ v5 = .int .i64 e ∧ Hid (∀ c ∈ (s.data.toList.take e).drop (k + 1), isHx c = true) ∧ w = wr) (fun v5 _ => s.size - (intOf v5).toNat)
        case atStart => exact ⟨k + 1, by omega, by omega, by go_num, Lib.hid (fun c hc => by simp at hc), rfl⟩
        case round =>
          obtain ⟨e, he1, he2, rfl, hx, rfl⟩ := hrel
          by_cases hle : e < s.size
          · have hb : 0 ≤ (s[e].toNat : Int) ∧ (s[e].toNat : Int) ≤ 255 := by have := s[e].toNat_lt; omega
            have hc := Lib.hid (spec_hxv (s[e].toNat : Int) hb)
            have hvb := hxv_bd s[e].toNat
            have hgete : s.data.toList[e]'(by rw [HL.out]; exact hle) = s[e] := rfl
            by_cases hv : 0 ≤ hxv s[e].toNat
            · have hx2 : Hid (∀ c ∈ (s.data.toList.take (e + 1)).drop (k + 1), isHx c = true) := Lib.hid (by
                rw [take_snoc s e hle, List.drop_append_of_le_length (by rw [List.length_take, HL.out]; omega)]
                intro c hc
                rcases List.mem_append.1 hc with hc | hc
                · exact hx.out c hc
                · rw [List.mem_singleton.1 hc]; exact decide_eq_true hv)
              clear hx hgete
              go_wp2_with (go_at_call 100; refine (hc.out _).mono ?_; rintro e w1 ⟨rfl, rfl⟩)
              go_roundw
              case rel => exact ⟨e + 1, by omega, by omega, by go_num, hx2, trivial⟩
              case measure => simp [intOf]; omega
            · have hnv : isHx s[e] = false := decide_eq_false hv
              obtain ⟨d1, d2⟩ := HD.out e he1 (by rw [HL.out]; exact he2) hx.out (.inr ⟨by rw [HL.out]; exact hle, hgete ▸ hnv⟩)
              have HR := fun w => spec_rh (s.extract (k + 1) e) (by unfold maxLen; simp; omega) w
              rw [ext_list, ← d1] at HR
              replace HR := Lib.hid HR
              have D2 := Lib.hid d2
              have z1 : (0 : Int) ≤ (k : Int) + 1 := by omega
              have z2 : (k : Int) + 1 ≤ (e : Int) := by omega
              have z3 : (e : Int) ≤ (s.size : Int) := by omega
              clear HD hx d1 d2
              clear hnv hgete hvb
              go_wp2_with (first | (go_at_call 100; refine (hc.out _).mono ?_; rintro e w1 ⟨rfl, rfl⟩) | (go_at_call 101; (with_reducible refine (HR.out _).mono ?_); rintro e w1 ⟨rfl, rfl⟩))
              go_ret2
              exact ⟨by rw [D2.out]; first | rfl | (congr 1; omega), rfl⟩
          · obtain rfl : e = s.size := by omega
            obtain ⟨d1, d2⟩ := HD.out s.size he1 (by rw [HL.out]; exact he2) hx.out (.inl HL.out.symm)
            have HR := fun w => spec_rh (s.extract (k + 1) s.size) (by unfold maxLen; simp; omega) w
            rw [ext_list, ← d1] at HR
            replace HR := Lib.hid HR
            have D2 := Lib.hid d2
            have z1 : (0 : Int) ≤ (k : Int) + 1 := by omega
            have z2 : (k : Int) + 1 ≤ (s.size : Int) := by omega
            clear HD hx d1 d2
            go_wp2_with (go_at_call 101; (with_reducible refine (HR.out _).mono ?_); rintro e w1 ⟨rfl, rfl⟩)
            go_ret2
            exact ⟨by rw [D2.out]; first | rfl | (congr 1; omega), rfl⟩
      · have hx2 : Hid (∀ c ∈ s.data.toList.take (k + 1), c ≠ 36) := Lib.hid (by
          rw [e1]
          intro c hcm
          rcases List.mem_append.1 hcm with hcm | hcm
          · exact h0.out c hcm
          · rw [List.mem_singleton.1 hcm]; exact hc)
        have hne : ¬ ((s[k].toNat : Int) = 36) := fun h => hc (UInt8.toNat_inj.mp (by show s[k].toNat = 36; omega))
        clear h0 e1 hget hc
        go_wp2
        go_roundw
        case rel => exact ⟨k + 1, by omega, by go_num, hx2, trivial⟩
        case measure => simp [intOf]; omega
    · obtain rfl : k = s.size := by omega
      have h1 := h0.out
      rw [List.take_of_length_le (by rw [HL.out]; omega)] at h1
      have D := Lib.hid (num_none _ h1)
      clear h0 h1
      go_wp2
      go_ret2
      exact ⟨by rw [D.out.1, D.out.2]; rfl, rfl⟩
end Go.Proofs.YtboeaeoefoabdaaGreatDoor
