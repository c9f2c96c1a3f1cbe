/-
  The walk of the laws' own reading of a byte of the draw.
  Conditions: the draw has at most 1048576 bytes.
-/
import Derived.Test.YtboeaeoefoabdaaDrA
namespace Go.Proofs.Ytboeaeoefoabdaa
open Go.RowKit
theorem at_any (B n c : Nat) (A : Option Addr) (w : World) (hcode : Code w B A n) (i : Nat) (hi : i ≤ 1000) :
    Calls Try.prog 6 #[.slice A n c, .int .i64 i] w fun e w' => ∃ v : Int, e = .returned (.int .i64 v) ∧ 0 ≤ v ∧ v ≤ 255 ∧ w = w' := by
  have hn := hcode.1
  by_cases h : i < n
  · obtain ⟨b, off, v, rfl, hb, v0, v1, hv⟩ := hcode.at_ h
    have i0 : (0 : Int) ≤ (i : Int) := by omega
    have i1 : (i : Int) < (n : Int) := by omega
    clear hcode
    go_enter Try.func6, Try.ntmps6
    go_wp2
    go_ret
    exact ⟨v, rfl, v0, v1, rfl⟩
  · have i1 : ¬ (i : Int) < (n : Int) := by omega
    clear hcode
    go_enter Try.func6, Try.ntmps6
    go_wp2
    go_ret
    exact ⟨_, rfl, by omega, by omega, rfl⟩
theorem at_lit {B n c : Nat} {A : Option Addr} {w : World} (hcode : Code w B A n) (i : Nat) (k : Int) (hk : k = i) (hi : i ≤ 1000) :
    Calls Try.prog 6 #[.slice A n c, .int .i64 k] w fun e w' => ∃ v : Int, e = .returned (.int .i64 v) ∧ 0 ≤ v ∧ v ≤ 255 ∧ w = w' := by
  subst hk
  exact at_any B n c A w hcode i hi
end Go.Proofs.Ytboeaeoefoabdaa
