/-
  The walk of spec.ReadHex: it answers what 'rh' says of the text's bytes, and leaves the world as it was.
  Conditions: the text is no longer than an int counts.
-/
import Derived.Test.YtboeaeoefoabdaaGreatDoorProg
import Derived.Test.YtboeaeoefoabdaaGreatDoorRhA
import Derived.Test.YtboeaeoefoabdaaGreatDoorHxS
import Derived.WalkKit
import Derived.ProofKit
import Derived.Handy
import Derived.Lib.Hide
import Derived.Lib.Strings
namespace Go.Proofs.YtboeaeoefoabdaaGreatDoor
open Go.RowKit
theorem dig_yes (c : Int) (h : 48 ≤ c ∧ c ≤ 57) (w : World) : Calls Tryz.prog 110 #[.int .u8 c] w fun e w' => e = .returned (.bool true) ∧ w = w' := by
  obtain ⟨h1, h2⟩ := h
  go_enter Tryz.func110, Tryz.ntmps110
  go_wp2_with (go_in)
  go_ret
  exact ⟨rfl, rfl⟩
theorem dig_no (c : Int) (h0 : 0 ≤ c ∧ c ≤ 255) (h : ¬ (48 ≤ c ∧ c ≤ 57)) (w : World) : Calls Tryz.prog 110 #[.int .u8 c] w fun e w' => e = .returned (.bool false) ∧ w = w' := by
  obtain ⟨h1, h2⟩ := h0
  by_cases h3 : 48 ≤ c
  · have h4 : ¬ c ≤ 57 := by omega
    go_enter Tryz.func110, Tryz.ntmps110
    go_wp2_with (go_in)
    go_ret
    exact ⟨rfl, rfl⟩
  · go_enter Tryz.func110, Tryz.ntmps110
    go_wp2_with (go_in)
    go_ret
    exact ⟨rfl, rfl⟩
theorem take_snoc (s : ByteArray) (k : Nat) (h : k < s.size) : s.data.toList.take (k + 1) = s.data.toList.take k ++ [s[k]] := by
  rw [List.take_succ_eq_append_getElem (by simpa using h)]; rfl
theorem mem_byte (s : ByteArray) (k : Nat) (h : k < s.size) : s[k] ∈ s.data.toList := by
  have : s.data.toList[k]? = some s[k] := by simp [h]; rfl
  exact List.mem_of_getElem? this
theorem spec_hxv (c : Int) (h0 : 0 ≤ c ∧ c ≤ 255) (w : World) : Calls Tryz.prog 100 #[.int .u8 c] w fun e w' => e = .returned (.int .i64 (hxv c)) ∧ w = w' := by
  by_cases h1 : 48 ≤ c ∧ c ≤ 57
  · have hx : hxv c = c - 48 := by unfold hxv; rw [if_pos h1]
    have hc := dig_yes c h1
    rw [hx]
    clear hx
    go_enter Tryz.func100, Tryz.ntmps100
    go_wp2_with (go_at_call 110; refine (hc _).mono ?_; rintro e w' ⟨rfl, rfl⟩)
    go_ret
    exact ⟨rfl, rfl⟩
  · have hc := dig_no c h0 h1
    by_cases h2 : 65 ≤ c ∧ c ≤ 70
    · have hx : hxv c = c - 55 := by unfold hxv; rw [if_neg h1, if_pos h2]
      rw [hx]
      have hy := fun w => hx_in_yes c 65 70 w h2.1 h2.2
      clear hx
      go_enter Tryz.func100, Tryz.ntmps100
      go_wp2_with (first
        | (go_at_call 110; refine (hc _).mono ?_; rintro e w' ⟨rfl, rfl⟩)
        | (go_at_call 82; refine (hy _).mono ?_; rintro e w' ⟨rfl, rfl⟩))
      go_ret
      exact ⟨rfl, rfl⟩
    · have hn := fun w => hx_in_no c 65 70 w (by omega)
      by_cases h3 : 97 ≤ c ∧ c ≤ 102
      · have hx : hxv c = c - 87 := by unfold hxv; rw [if_neg h1, if_neg h2, if_pos h3]
        rw [hx]
        have hy := fun w => hx_in_yes c 97 102 w h3.1 h3.2
        clear hx
        go_enter Tryz.func100, Tryz.ntmps100
        go_wp2_with (first
          | (go_at_call 110; refine (hc _).mono ?_; rintro e w' ⟨rfl, rfl⟩)
          | (go_at_call 82; (first | (with_reducible refine (hn _).mono ?_) | (with_reducible refine (hy _).mono ?_)); rintro e w' ⟨rfl, rfl⟩))
        go_ret
        exact ⟨rfl, rfl⟩
      · have hx : hxv c = -1 := by unfold hxv; rw [if_neg h1, if_neg h2, if_neg h3]
        rw [hx]
        have hy := fun w => hx_in_no c 97 102 w (by omega)
        clear hx
        go_enter Tryz.func100, Tryz.ntmps100
        go_wp2_with (first
          | (go_at_call 110; refine (hc _).mono ?_; rintro e w' ⟨rfl, rfl⟩)
          | (go_at_call 82; (first | (with_reducible refine (hn _).mono ?_) | (with_reducible refine (hy _).mono ?_)); rintro e w' ⟨rfl, rfl⟩))
        go_ret
        exact ⟨rfl, rfl⟩
set_option maxRecDepth 100000 in
set_option maxHeartbeats 400000 in
theorem spec_rh (s : ByteArray) (hs : s.size ≤ maxLen) (w : World) :
    Calls Tryz.prog 101 #[.string s] w fun e w' => e = .returned (.int .i64 (rh s.data.toList)) ∧ w = w' := by
  unfold maxLen at hs
  have hlen : s.data.toList.length = s.size := by simp
  have H := Lib.hid hlen
  clear hlen
  go_enter Tryz.func101, Tryz.ntmps101
  go_wp2
  go_loop [3, 4] (fun v3 v4 => ∃ k : Nat, k ≤ s.size ∧ k ≤ 8 ∧ v4 = .int .i64 k ∧ HexOk (s.data.toList.take k) ∧ v3 = .int .i64 (hexNum (s.data.toList.take k))) (fun _ v4 => 8 - (RowKit.intOf v4).toNat)
  case atStart => exact ⟨0, by omega, by omega, rfl, fun c hc => by simp at hc, rfl⟩
  case round =>
    obtain ⟨k, hk, h8, rfl, hd, rfl⟩ := hrel
    have hbd := hexNum_bd _ hd (by simp; omega)
    by_cases hlt : k < s.size ∧ k < 8
    · obtain ⟨hlt, hlt8⟩ := hlt
      have hb : 0 ≤ (s[k].toNat : Int) ∧ (s[k].toNat : Int) ≤ 255 := by have := s[k].toNat_lt; omega
      have hc := spec_hxv (s[k].toNat : Int) hb
      have hvb := hxv_bd s[k].toNat
      by_cases hv : 0 ≤ hxv s[k].toNat
      · have hd' : HexOk (s.data.toList.take (k + 1)) := by
          rw [take_snoc s k hlt]
          intro c hc
          simp only [List.mem_append, List.mem_singleton] at hc
          rcases hc with hc | rfl
          · exact hd c hc
          · exact hv
        have HV : Hid (hexNum (s.data.toList.take (k + 1)) = 16 * hexNum (s.data.toList.take k) + hxv s[k].toNat) := by rw [take_snoc s k hlt, hexNum_snoc]; trivial
        clear hd
        go_wp2_with (go_at_call 100; refine (hc _).mono ?_; rintro e w' ⟨rfl, rfl⟩)
        go_round
        case rel =>
          refine ⟨k + 1, by omega, by omega, by go_num, hd', ?_⟩
          rw [HV.out]
        case measure => simp [RowKit.intOf]; omega
      · have hr := rh_bad s.data.toList s[k] (mem_byte s k hlt) (by omega)
        go_wp2_with (go_at_call 100; refine (hc _).mono ?_; rintro e w' ⟨rfl, rfl⟩)
        go_ret
        exact ⟨by rw [hr]; rfl, rfl⟩
    · by_cases hl : 1 ≤ s.size ∧ s.size ≤ 7
      · obtain rfl : k = s.size := by omega
        have ht : s.data.toList.take s.size = s.data.toList := List.take_of_length_le (by rw [H.out]; omega)
        rw [ht] at hd hbd
        rw [ht]
        have hr := rh_yes _ hd (by rw [H.out]; omega) (by rw [H.out]; omega)
        have hy := fun w => hx_in_yes (s.size : Int) 1 7 w (by omega) (by omega)
        clear ht hlt
        go_wp2_with (go_at_call 82; refine (hy _).mono ?_; rintro e w' ⟨rfl, rfl⟩)
        go_ret
        exact ⟨by rw [hr]; rfl, rfl⟩
      · have hr := rh_len s.data.toList (by rw [H.out]; omega)
        have hy := fun w => hx_in_no (s.size : Int) 1 7 w (by omega)
        by_cases hk2 : k < s.size
        · obtain rfl : k = 8 := by omega
          clear hlt
          go_wp2_with (go_at_call 82; refine (hy _).mono ?_; rintro e w' ⟨rfl, rfl⟩)
          go_ret
          exact ⟨by rw [hr]; rfl, rfl⟩
        · clear hlt
          go_wp2_with (go_at_call 82; refine (hy _).mono ?_; rintro e w' ⟨rfl, rfl⟩)
          go_ret
          exact ⟨by rw [hr]; rfl, rfl⟩
end Go.Proofs.YtboeaeoefoabdaaGreatDoor
