import Derived.Test.YtmhlplaglnopfaaDoorProg
import Derived.Test.YtmhlplaglnopfaaDoorDcA
import Derived.WalkKit
import Derived.ProofKit
import Derived.Handy
import Derived.Lib.Hide
namespace Go.Proofs.YtmhlplaglnopfaaDoor
open Go.RowKit
theorem digit_slice (m : Nat) (h : m < 10) (w : World) :
    (Instr.slice 9 (.string ⟨#[48, 49, 50, 51, 52, 53, 54, 55, 56, 57]⟩) (some (.int .i64 (m : Int))) (some (.int .i64 ((m : Int) + 1))) none).run Tryd.prog w = .ok (.string ⟨#[digB m]⟩) w := by
  obtain rfl | rfl | rfl | rfl | rfl | rfl | rfl | rfl | rfl | rfl : m = 0 ∨ m = 1 ∨ m = 2 ∨ m = 3 ∨ m = 4 ∨ m = 5 ∨ m = 6 ∨ m = 7 ∨ m = 8 ∨ m = 9 := by omega
  all_goals (clear h; kernel_rfl)
theorem digit_add (c : UInt8) (out : List UInt8) (h : out.length ≤ 20) (w : World) :
    (Op.stringOp .add ⟨#[c]⟩ ⟨out.toArray⟩).run Tryd.prog w = .ok (.string ⟨(c :: out).toArray⟩) w := by
  rw [run_string_add_sum w _ _ (by show (1 : Nat) + out.toArray.size ≤ _; simp; omega)]
  rw [ByteArray.mk_append_mk]; simp
set_option maxRecDepth 100000 in
set_option maxHeartbeats 400000 in
theorem spec_dec_pos (u : Nat) (h : 0 < u) (hu : u ≤ 9223372036854775807) (w : World) :
    Calls Tryd.prog 15 #[.int .i64 u] w fun e w' => e = .returned (.string ⟨(Lib.decDigits u).toArray⟩) ∧ w = w' := by
  have hl := decDigits_le20 u (by omega)
  have hn0 : ((u : Int) == 0) = false := by simp; omega
  go_enter Tryd.func15, Tryd.ntmps15
  go_wp2
  go_loop [3, 4, 5] (fun v3 v4 _ => ∃ (v : Nat) (out : List UInt8), v4 = .int .i64 v ∧ v3 = .string ⟨out.toArray⟩ ∧ v ≤ u ∧ Left10 v out (Lib.decDigits u)) (fun _ v4 _ => (intOf v4).toNat)
  case atStart => exact ⟨u, [], rfl, rfl, by omega, Left10.start u h⟩
  case round =>
    obtain ⟨v, out, rfl, rfl, hv, hL⟩ := hrel
    by_cases hv0 : 0 < v
    · have h1 := digit_slice (v % 10) (by omega) w
      have h2 := digit_add (digB (v % 10)) out (by have := hL.len; omega) w
      have hlen : out.length ≤ 20 := by have := hL.len; omega
      have e10 : ((v % 10 : Nat) : Int) = (v : Int) % 10 := by omega
      rw [e10] at h1
      clear e10
      have hd : decide ((v : Int) % 10 < 0) = false := by simp; omega
      have hS := hL.step hv0
      go_wp2
      go_round
      case rel => exact ⟨v / 10, _, by go_num, rfl, by omega, hS⟩
      case measure => simp [intOf]; omega
    · obtain rfl : v = 0 := by omega
      obtain rfl := hL.done
      go_wp2
      go_ret
      exact ⟨rfl, rfl⟩

set_option maxRecDepth 100000 in
set_option maxHeartbeats 400000 in
theorem spec_dec_neg (u : Nat) (h : 0 < u) (hu : u ≤ 9223372036854775808) (w : World) :
    Calls Tryd.prog 15 #[.int .i64 (-(u : Int))] w fun e w' => e = .returned (.string ⟨(45 :: Lib.decDigits u).toArray⟩) ∧ w = w' := by
  have hl := decDigits_le20 u (by omega)
  have hn0 : (-(u : Int) == 0) = false := by simp; omega
  go_enter Tryd.func15, Tryd.ntmps15
  go_wp2
  go_loop [3, 4, 5] (fun v3 v4 _ => ∃ (v : Nat) (out : List UInt8), v4 = .int .i64 (-(v : Int)) ∧ v3 = .string ⟨out.toArray⟩ ∧ v ≤ u ∧ Left10 v out (Lib.decDigits u)) (fun _ v4 _ => (- intOf v4).toNat)
  case atStart => exact ⟨u, [], rfl, rfl, by omega, Left10.start u h⟩
  case round =>
    obtain ⟨v, out, rfl, rfl, hv, hL⟩ := hrel
    by_cases hv0 : 0 < v
    · have h1 := digit_slice (v % 10) (by omega) w
      have h2 := digit_add (digB (v % 10)) out (by have := hL.len; omega) w
      have hlen : out.length ≤ 20 := by have := hL.len; omega
      have e10 : ((v % 10 : Nat) : Int) = (v : Int) % 10 := by omega
      rw [e10] at h1
      clear e10
      have ht := tmod10_neg v
      have hq := tdiv10_neg v
      have hS := hL.step hv0
      by_cases hm : 0 < (v : Int) % 10
      · have hd : decide (-((v : Int) % 10) < 0) = true := by simp; omega
        go_wp2
        go_round
        case rel => exact ⟨v / 10, _, by go_num, rfl, by omega, hS⟩
        case measure => simp [intOf]; omega
      · have hd : decide (-((v : Int) % 10) < 0) = false := by simp; omega
        have hz : v % 10 = 0 := by omega
        have h1' : (Instr.slice 9 (.string ⟨#[48, 49, 50, 51, 52, 53, 54, 55, 56, 57]⟩) (some (.int .i64 (-((v : Int) % 10)))) (some (.int .i64 (-((v : Int) % 10) + 1))) none).run Tryd.prog w = .ok (.string ⟨#[digB (v % 10)]⟩) w := by
          have e : -((v : Int) % 10) = ((0 : Nat) : Int) := by omega
          rw [e, hz]
          exact digit_slice 0 (by omega) w
        have HZ := Lib.hid hz
        clear h1 hz
        go_wp2
        go_round
        case rel => exact ⟨v / 10, _, by go_num, rfl, by omega, hS⟩
        case measure => simp [intOf]; omega
    · obtain rfl : v = 0 := by omega
      obtain rfl := hL.done
      have h3 := digit_add 45 (Lib.decDigits u) hl w
      go_wp2
      go_ret
      exact ⟨rfl, rfl⟩

theorem spec_dec (n : Int) (h0 : -9223372036854775808 ≤ n) (h1 : n ≤ 9223372036854775807) (w : World) :
    Calls Tryd.prog 15 #[.int .i64 n] w fun e w' => e = .returned (.string ⟨(Lib.itoa n).toArray⟩) ∧ w = w' := by
  by_cases hz : n = 0
  · subst hz
    go_enter Tryd.func15, Tryd.ntmps15
    go_wp2
    go_ret
    exact ⟨by rw [Lib.itoa, if_neg (by decide), Lib.decDigits]; rfl, rfl⟩
  · by_cases hn : n < 0
    · obtain ⟨u, rfl⟩ : ∃ u : Nat, n = -(u : Int) := ⟨n.natAbs, by omega⟩
      have := spec_dec_neg u (by omega) (by omega) w
      rw [Lib.itoa, if_pos hn]
      have e : (-(u : Int)).natAbs = u := by omega
      rw [e]; exact this
    · obtain ⟨u, rfl⟩ : ∃ u : Nat, n = (u : Int) := ⟨n.natAbs, by omega⟩
      have := spec_dec_pos u (by omega) (by omega) w
      rw [Lib.itoa, if_neg hn]
      exact this
end Go.Proofs.YtmhlplaglnopfaaDoor
