/-
  The walks of spec.OpOf and spec.CodeOf: what the table says.
  Conditions: none; each walk leaves old memory as it was.
-/
import Derived.Test.YtboeaeoefoabdaaGreatDoorProg
import Derived.Test.YtboeaeoefoabdaaGreatDoorTbA
import Derived.Test.YtboeaeoefoabdaaGreatDoorTwo
import Derived.Test.YtboeaeoefoabdaaGreatDoorRhS
import Derived.WalkKit
import Derived.ProofKit
import Derived.Handy
import Derived.Lib.Hide
import Derived.KernelRfl
import Derived.Test.YtboeaeoefoabdaaGreatDoorWsA
namespace Go.Proofs.YtboeaeoefoabdaaGreatDoor
open Go.RowKit
set_option maxRecDepth 100000 in
theorem table_says (w : World) :
    Calls Tryz.prog 66 #[] w fun e w' => e = .returned (.string tabS) ∧ w = w' := by
  go_enter Tryz.func66, Tryz.ntmps66
  go_wp2
  go_ret
  exact ⟨by kernel_rfl, rfl⟩
theorem bytes_eq (a b : ByteArray) : a.toList = b.toList ↔ a = b := by
  constructor
  · intro h
    rw [ByteArray.toList_eq, ByteArray.toList_eq] at h
    exact ByteArray.ext (Array.toList_inj.mp h)
  · rintro rfl; rfl
theorem tab_cuts (T : ByteArray) (hs : T.size = 1661) (i : Nat) (hi : i + 11 ≤ 1661) (a b c : ByteArray) (ha : T.extract i (i + 2) = a) (hb : T.extract (i + 3) (i + 6) = b) (hc : T.extract (i + 7) (i + 10) = c) :
    (∀ W, (Instr.slice 9 (.string T) (some (.int .i64 (i : Int))) (some (.int .i64 ((i : Int) + 2))) none).run Tryz.prog W = .ok (.string a) W) ∧
    (∀ W, (Instr.slice 9 (.string T) (some (.int .i64 ((i : Int) + 3))) (some (.int .i64 ((i : Int) + 6))) none).run Tryz.prog W = .ok (.string b) W) ∧
    (∀ W, (Instr.slice 9 (.string T) (some (.int .i64 ((i : Int) + 7))) (some (.int .i64 ((i : Int) + 10))) none).run Tryz.prog W = .ok (.string c) W) := by
  have key : ∀ (x y : Nat) (d : ByteArray) (_ : x ≤ y) (_ : y ≤ 1661) (xi yi : Int) (_ : xi = x) (_ : yi = y) (_ : T.extract x y = d) (W : World),
      (Instr.slice 9 (.string T) (some (.int .i64 xi)) (some (.int .i64 yi)) none).run Tryz.prog W = .ok (.string d) W := by
    rintro x y d h1 h2 _ _ rfl rfl rfl W
    have := run_slice_string (P := Tryz.prog) W 9 T .i64 .i64 (x : Int) (y : Int) Tryz.underlying9 (by omega) (by omega) (by omega)
    rw [Int.toNat_natCast, Int.toNat_natCast] at this
    exact this
  exact ⟨key i (i + 2) a (by omega) (by omega) _ _ rfl (by omega) ha, key (i + 3) (i + 6) b (by omega) (by omega) _ _ (by omega) (by omega) hb, key (i + 7) (i + 10) c (by omega) (by omega) _ _ (by omega) (by omega) hc⟩
set_option maxRecDepth 100000 in
set_option maxHeartbeats 400000 in
theorem spec_opOf (n : Int) (w : World) :
    Calls Tryz.prog 24 #[.int .i64 n] w fun e w' => e = .returned (.agg #[.string (opOf n).1, .string (opOf n).2]) ∧ Below w.heap.size w w' := by
  have hs := tabS_size
  have ht := Lib.hid table_says
  have hh := Lib.hid (spec_hex n 2 (by omega) (by omega))
  have hx := Lib.hid tab_row
  have hl := Lib.hid rows_length
  have hc := Lib.hid (tab_cuts tabS hs)
  generalize tabS = T at *
  obtain ⟨want, hw⟩ : ∃ want : ByteArray, want = ⟨(hexl n 2).toArray⟩ := ⟨_, rfl⟩
  rw [← hw] at hh
  have HW := Lib.hid hw
  clear hw
  go_enter Tryz.func24, Tryz.ntmps24
  go_wp2_with (first
    | (go_at_call 66; refine (ht.out _).mono ?_; rintro e w' ⟨rfl, rfl⟩)
    | (go_at_call 45; refine (hh.out _).mono ?_; rintro e w' ⟨rfl, hb⟩))
  have HB := Lib.hid hb
  clear hb
  go_loopw [5] (fun v5 wr => ∃ i k : Nat, k ≤ 151 ∧ i = 11 * k ∧ v5 = .int .i64 (i : Int) ∧ Hid (∀ j (hj : j < opRows.length), j < k → (opRows[j].1 : Int) ≠ n % 256) ∧ wr = w') (fun v5 _ => 1661 - (intOf v5).toNat)
  case atStart => exact ⟨0, 0, by omega, rfl, rfl, Lib.hid (fun j _ hj => absurd hj (Nat.not_lt_zero _)), rfl⟩
  case round =>
    obtain ⟨i, k, hk, hik, rfl, hp, rfl⟩ := hrel
    by_cases hlt : k < 151
    · have hkl : k < opRows.length := by rw [hl.out]; exact hlt
      obtain ⟨x1, x2, x3⟩ := hx.out k hkl
      rw [← hik] at x1 x2 x3
      obtain ⟨c1, c2, c3⟩ := hc.out i (by omega) _ _ _ x1 x2 x3
      have HI := Lib.hid hik
      have h0 : (0 : Int) ≤ (i : Int) := by omega
      have h1 : (i : Int) < (1661 : Int) := by omega
      have hr := hexl2_eq n opRows[k].1 (rows_ok _ (List.getElem_mem hkl)).1
      rw [← HW.out] at hr
      have hhit := opOf_hit n k hkl
      have hp2 : ∀ j (hj : j < k), (opRows[j].1 : Int) ≠ n % 256 := fun j hj => hp.out j (by omega) hj
      have hd : nmR opRows[k] = ⟨opRows[k].2.1.toArray⟩ ∧ mdR opRows[k] = ⟨opRows[k].2.2.toArray⟩ := ⟨rfl, rfl⟩
      rw [← hd.1] at c2
      rw [← hd.2] at c3
      generalize (⟨(hexl (opRows[k].1 : Int) 2).toArray⟩ : ByteArray) = R at *
      by_cases he : (opRows[k].1 : Int) = n % 256
      · have hH := Lib.hid (hhit he hp2)
        obtain rfl := hr.2 he
        clear hr hhit hp2 hd he x1 x2 x3 hik hp
        obtain ⟨k0, k1, f0, f1, hb⟩ := two_new HB.out
        go_wp2
        go_region
        all_goals go_wp2
        all_goals exact bodyPost_ret (v := .agg #[.string (nmR opRows[k]), .string (mdR opRows[k])]) (by simp [results, Tryz.results24, go_sem, k0, k1]) rfl ⟨by rw [hH.out], ((hb.setCell (Nat.le_refl _) _).setCell (Nat.le_refl _) _).drew⟩
      · have hne : (R.toList == want.toList) = false := by
          rw [beq_eq_false_iff_ne]
          exact fun h => he (hr.1 ((bytes_eq R want).1 h))
        have hp3 := Lib.hid (fun j (hj : j < opRows.length) (hjk : j < k + 1) => (by
          by_cases hj2 : j = k
          · subst hj2; exact he
          · exact hp.out j hj (by omega) : (opRows[j].1 : Int) ≠ n % 256))
        clear hr hhit hp2 hd he x1 x2 x3 hik hp
        go_wp2
        go_roundw
        case rel => exact ⟨i + 11, k + 1, by omega, by have := HI.out; omega, by go_num, hp3, trivial⟩
        case measure => simp [intOf]; omega
    · obtain rfl : k = 151 := by omega
      have hm := Lib.hid (opOf_miss n (fun j hj => hp.out j hj (by have := hl.out; omega)))
      have h1 : ¬ (i : Int) < (1661 : Int) := by omega
      obtain ⟨k0, k1, f0, f1, hb⟩ := two_new HB.out
      clear HB
      go_wp2
      exact bodyPost_ret (v := .agg #[.string jamN, .string impM]) (by simp [results, Tryz.results24, go_sem, k0, k1]; exact ⟨rfl, rfl⟩) rfl ⟨by rw [hm.out], (hb.setCell (Nat.le_refl _) _).setCell (Nat.le_refl _) _⟩
end Go.Proofs.YtboeaeoefoabdaaGreatDoor
