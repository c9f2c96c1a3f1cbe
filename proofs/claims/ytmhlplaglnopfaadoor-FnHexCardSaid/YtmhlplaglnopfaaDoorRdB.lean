/-
  The walk of spec.ReadDec: it answers what 'rd' says of the text's bytes, and leaves the world as it was.
  Conditions: the text is no longer than an int counts.
-/
import Derived.Test.YtmhlplaglnopfaaDoorDcB
import Derived.Test.YtmhlplaglnopfaaDoorRdA
namespace Go.Proofs.YtmhlplaglnopfaaDoor
open Go.RowKit
theorem dig_yes (c : Int) (h : 48 ≤ c ∧ c ≤ 57) (w : World) : Calls Tryd.prog 41 #[.int .u8 c] w fun e w' => e = .returned (.bool true) ∧ w = w' := by
  obtain ⟨h1, h2⟩ := h
  go_enter Tryd.func41, Tryd.ntmps41
  go_wp2_with (go_in)
  go_ret
  exact ⟨rfl, rfl⟩
theorem dig_no (c : Int) (h0 : 0 ≤ c ∧ c ≤ 255) (h : ¬ (48 ≤ c ∧ c ≤ 57)) (w : World) : Calls Tryd.prog 41 #[.int .u8 c] w fun e w' => e = .returned (.bool false) ∧ w = w' := by
  obtain ⟨h1, h2⟩ := h0
  by_cases h3 : 48 ≤ c
  · have h4 : ¬ c ≤ 57 := by omega
    go_enter Tryd.func41, Tryd.ntmps41
    go_wp2_with (go_in)
    go_ret
    exact ⟨rfl, rfl⟩
  · go_enter Tryd.func41, Tryd.ntmps41
    go_wp2_with (go_in)
    go_ret
    exact ⟨rfl, rfl⟩
theorem take_snoc (s : ByteArray) (k : Nat) (h : k < s.size) : s.data.toList.take (k + 1) = s.data.toList.take k ++ [s[k]] := by
  rw [List.take_succ_eq_append_getElem (by simpa using h)]; rfl
theorem mem_byte (s : ByteArray) (k : Nat) (h : k < s.size) : s[k] ∈ s.data.toList := by
  have : s.data.toList[k]? = some s[k] := by simp [h]; rfl
  exact List.mem_of_getElem? this
def AllDig (l : List UInt8) : Prop := ∀ c ∈ l, isDig c = true
theorem isDig_iff (c : UInt8) : isDig c = true ↔ (48 ≤ (c.toNat : Int) ∧ (c.toNat : Int) ≤ 57) := by unfold isDig; simp; omega
set_option maxRecDepth 100000 in
set_option maxHeartbeats 400000 in
theorem spec_rd (s : ByteArray) (hs : s.size ≤ maxLen) (w : World) :
    Calls Tryd.prog 17 #[.string s] w fun e w' => e = .returned (.int .i64 (rd s.data.toList)) ∧ w = w' := by
  unfold maxLen at hs
  have hlen : s.data.toList.length = s.size := by simp
  go_enter Tryd.func17, Tryd.ntmps17
  go_wp2
  go_loop [3, 4] (fun v3 v4 => ∃ k : Nat, k ≤ s.size ∧ (k = 0 ∨ s.size ≤ 9) ∧ v4 = .int .i64 k ∧ AllDig (s.data.toList.take k) ∧ v3 = .int .i64 (decVal (s.data.toList.take k))) (fun _ v4 => s.size - (intOf v4).toNat)
  case atStart => exact ⟨0, by omega, .inl rfl, rfl, fun c hc => by simp at hc, rfl⟩
  case round =>
    obtain ⟨k, hk, h9, rfl, hd, rfl⟩ := hrel
    by_cases hlt : k < s.size
    · have H := Lib.hid hlen
      clear hlen
      have hb : 0 ≤ (s[k].toNat : Int) ∧ (s[k].toNat : Int) ≤ 255 := by have := s[k].toNat_lt; omega
      by_cases hdig : 48 ≤ (s[k].toNat : Int) ∧ (s[k].toNat : Int) ≤ 57
      · have hy := dig_yes (s[k].toNat : Int) hdig
        by_cases hl : s.size ≤ 9
        · have hd' : AllDig (s.data.toList.take (k + 1)) := by
            rw [take_snoc s k hlt]
            intro c hc
            simp only [List.mem_append, List.mem_singleton] at hc
            rcases hc with hc | rfl
            · exact hd c hc
            · exact (isDig_iff _).2 hdig
          have HV : Hid (decVal (s.data.toList.take (k + 1)) = decVal (s.data.toList.take k) * 10 + (s[k].toNat - 48)) := by rw [take_snoc s k hlt, decVal_snoc]; trivial
          have hv := decVal_lt _ hd
          have hv2 : decVal (s.data.toList.take k) < 1000000000 := Nat.lt_of_lt_of_le hv (pow10_le9 _ (by simp; omega))
          clear hv h9 hd
          go_wp2_with (go_at_call 41; refine (hy _).mono ?_; rintro e w' ⟨rfl, rfl⟩)
          go_round
          case rel =>
            refine ⟨k + 1, by omega, .inr hl, by go_num, hd', ?_⟩
            rw [HV.out]
            congr 1
            omega
          case measure => simp [intOf]; omega
        · have hr := rd_long s.data.toList (by rw [H.out]; omega)
          go_wp2_with (go_at_call 41; refine (hy _).mono ?_; rintro e w' ⟨rfl, rfl⟩)
          go_ret
          exact ⟨by rw [hr]; rfl, rfl⟩
      · have hr := rd_bad s.data.toList s[k] (mem_byte s k hlt) (by have := isDig_iff s[k]; cases h : isDig s[k]; rfl; exact absurd (this.1 h) hdig)
        have hn := dig_no (s[k].toNat : Int) hb hdig
        go_wp2_with (go_at_call 41; refine (hn _).mono ?_; rintro e w' ⟨rfl, rfl⟩)
        go_ret
        exact ⟨by rw [hr]; rfl, rfl⟩
    · obtain rfl : k = s.size := by omega
      have ht : s.data.toList.take s.size = s.data.toList := List.take_of_length_le (by omega)
      rw [ht] at hd
      rw [ht]
      have HT := Lib.hid ht
      have H := Lib.hid hlen
      clear ht hlen
      have hv0 := decVal_lt _ hd
      have hv1 : decVal s.data.toList < 1000000000 := Nat.lt_of_lt_of_le hv0 (pow10_le9 _ (by have := H.out; omega))
      have hsp := spec_dec (decVal s.data.toList : Int) (by omega) (by omega)
      have H9 : Hid (s.data.toList.length ≤ 9) := by have := H.out; show _ ≤ _; omega
      clear hv0 hlt hk h9 hd
      go_wp2_with (go_at_call 15; refine (hsp _).mono ?_; rintro e w' ⟨rfl, rfl⟩)
      · rename_i h0 _
        rw [ByteArray.toList_eq] at h0
        have hr : rd s.data.toList = -1 := by rw [h0]; exact rd_empty
        go_ret
        exact ⟨by rw [hr]; rfl, rfl⟩
      · rename_i h0 _ h1
        rw [ByteArray.toList_eq] at h0 h1
        have hr : rd s.data.toList = -1 := rd_end_no _ (by
          intro e
          rw [e] at h1
          simp at h1
          exact h0 (by rw [h1]))
        go_ret
        exact ⟨by rw [hr]; rfl, rfl⟩
      · rename_i _ _ h1
        rw [ByteArray.toList_eq] at h1
        have hr := rd_end_yes s.data.toList H9.out (by simpa using h1.2)
        go_ret
        exact ⟨by rw [hr]; rfl, rfl⟩
end Go.Proofs.YtmhlplaglnopfaaDoor
