/-
  The walk of spec.CodeOf: the byte that the table has for a name and a mode, -1 where it has none.
  Conditions: none; the walk leaves the world as it was.
-/
import Derived.Test.YtfkllcbjakhbdaaTbB
import Derived.Test.YtfkllcbjakhbdaaTbE
namespace Go.Proofs.Ytfkllcbjakhbdaa
open Go.RowKit
theorem rh_two (c : Nat) (h : c < 256) : rh (hexl (c : Int) 2) = c := by
  rw [rh_hexl _ 2 (by omega) (by omega), show (16 : Int) ^ 2 = 256 by decide]
  omega
set_option maxRecDepth 100000 in
set_option maxHeartbeats 400000 in
theorem spec_codeOf (a b : ByteArray) (w : World) :
    Calls Try.prog 43 #[.string a, .string b] w fun e w' => e = .returned (.int .i64 (codeOf a b)) ∧ w = w' := by
  have hs := tabS_size
  have ht := Lib.hid table_says
  have hx := Lib.hid tab_row
  have hl := Lib.hid rows_length
  have hc := Lib.hid (tab_cuts tabS hs)
  generalize tabS = T at *
  go_enter Try.func43, Try.ntmps43
  go_wp2_with (go_at_call 56; refine (ht.out _).mono ?_; rintro e w' ⟨rfl, rfl⟩)
  go_loopw [6] (fun v5 wr => ∃ i k : Nat, k ≤ 151 ∧ i = 11 * k ∧ v5 = .int .i64 (i : Int) ∧ Hid (∀ j (hj : j < opRows.length), j < k → ¬ (nmR opRows[j] = a ∧ mdR opRows[j] = b)) ∧ wr = w) (fun v5 _ => 1661 - (intOf v5).toNat)
  case atStart => exact ⟨0, 0, by omega, rfl, rfl, Lib.hid (fun j _ hj => absurd hj (Nat.not_lt_zero _)), rfl⟩
  case round =>
    obtain ⟨i, k, hk, hik, rfl, hp, rfl⟩ := hrel
    by_cases hlt : k < 151
    · have hkl : k < opRows.length := by rw [hl.out]; exact hlt
      obtain ⟨x1, x2, x3⟩ := hx.out k hkl
      rw [← hik] at x1 x2 x3
      obtain ⟨c1, c2, c3⟩ := hc.out i (by omega) _ _ _ x1 x2 x3
      have HI := Lib.hid hik
      have h0 : (0 : Int) ≤ (i : Int) := by omega
      have h1 : (i : Int) < (1661 : Int) := by omega
      have hr := rh_two opRows[k].1 (rows_ok _ (List.getElem_mem hkl)).1
      have hhit := codeOf_hit a b k hkl
      have hp2 : ∀ j (hj : j < k), ¬ (nmR opRows[j] = a ∧ mdR opRows[j] = b) := fun j hj => hp.out j (by omega) hj
      have hd : nmR opRows[k] = ⟨opRows[k].2.1.toArray⟩ ∧ mdR opRows[k] = ⟨opRows[k].2.2.toArray⟩ := ⟨rfl, rfl⟩
      rw [← hd.1] at c2
      rw [← hd.2] at c3
      have hrc := fun w => spec_rh ⟨(hexl (opRows[k].1 : Int) 2).toArray⟩ (by rw [bsize, hexl_length]; decide) w
      have hR : (⟨(hexl (opRows[k].1 : Int) 2).toArray⟩ : ByteArray).data.toList = hexl (opRows[k].1 : Int) 2 := List.toList_toArray
      rw [hR, hr] at hrc
      have HRC := Lib.hid hrc
      clear hrc hR hr
      generalize (⟨(hexl (opRows[k].1 : Int) 2).toArray⟩ : ByteArray) = R at *
      by_cases he : nmR opRows[k] = a
      · by_cases hf : mdR opRows[k] = b
        · have hH := Lib.hid (hhit he hf hp2)
          subst he
          subst hf
          clear hhit hp2 hd x1 x2 x3 hik hp
          go_wp2_with (go_at_call 57; refine (HRC.out _).mono ?_; rintro e w' ⟨rfl, rfl⟩)
          go_ret
          exact ⟨by rw [hH.out]; rfl, rfl⟩
        · have hne := eq_no hf
          have hp3 := Lib.hid (fun j (hj : j < opRows.length) (hjk : j < k + 1) => (by
            by_cases hj2 : j = k
            · subst hj2; exact fun h => hf h.2
            · exact hp.out j hj (by omega) : ¬ (nmR opRows[j] = a ∧ mdR opRows[j] = b)))
          subst he
          clear hhit hp2 hd x1 x2 x3 hik hp hf
          go_wp2
          go_roundw
          case rel => exact ⟨i + 11, k + 1, by omega, by have := HI.out; omega, by go_num, hp3, trivial⟩
          case measure => simp [intOf]; omega
      · have hne := eq_no he
        have hp3 := Lib.hid (fun j (hj : j < opRows.length) (hjk : j < k + 1) => (by
          by_cases hj2 : j = k
          · subst hj2; exact fun h => he h.1
          · exact hp.out j hj (by omega) : ¬ (nmR opRows[j] = a ∧ mdR opRows[j] = b)))
        clear hhit hp2 hd x1 x2 x3 hik hp he
        go_wp2
        go_roundw
        case rel => exact ⟨i + 11, k + 1, by omega, by have := HI.out; omega, by go_num, hp3, trivial⟩
        case measure => simp [intOf]; omega
    · obtain rfl : k = 151 := by omega
      have hm := Lib.hid (codeOf_miss a b (fun j hj => hp.out j hj (by have := hl.out; omega)))
      have h1 : ¬ (i : Int) < (1661 : Int) := by omega
      go_wp2
      go_ret
      exact ⟨by rw [hm.out]; rfl, rfl⟩
end Go.Proofs.Ytfkllcbjakhbdaa
