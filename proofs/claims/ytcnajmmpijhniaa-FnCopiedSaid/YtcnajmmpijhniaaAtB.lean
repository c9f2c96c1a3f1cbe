/-
  The walk of the laws' own reading of a byte of the draw: the same byte in each later world.
  Conditions: the draw has at most 1048576 bytes.
-/
import Derived.Test.YtcnajmmpijhniaaAtA
import Derived.Test.YtcnajmmpijhniaaBel
namespace Go.Proofs.Ytcnajmmpijhniaa
open Go.RowKit
theorem at_fix {n c : Nat} {A : Option Addr} {W : World} (hcode : Code W W.heap.size A n) (i : Nat) (k : Int) (hk : k = i) (hi : i ≤ 1000) :
    ∃ v : Int, 0 ≤ v ∧ v ≤ 255 ∧ ∀ w : World, Below W.heap.size W w → Calls Try.prog 25 #[.slice A n c, .int .i64 k] w fun e w' => e = .returned (.int .i64 v) ∧ w = w' := by
  subst hk
  have hn := hcode.1
  by_cases h : i < n
  · obtain ⟨b, off, v, rfl, hb, v0, v1, hv⟩ := hcode.at_ h
    refine ⟨v, v0, v1, fun w hw => ?_⟩
    have hv := (hw.cell (p := ⟨b, off + i, none⟩) hb).trans hv
    have i0 : (0 : Int) ≤ (i : Int) := by omega
    have i1 : (i : Int) < (n : Int) := by omega
    clear hcode hw
    go_enter Try.func25, Try.ntmps25
    go_wp2
    go_ret
    exact ⟨rfl, rfl⟩
  · refine ⟨((i : Int) * 7 + n) % 256, by omega, by omega, fun w _ => ?_⟩
    have i1 : ¬ (i : Int) < (n : Int) := by omega
    clear hcode
    go_enter Try.func25, Try.ntmps25
    go_wp2
    go_ret
    exact ⟨rfl, rfl⟩
end Go.Proofs.Ytcnajmmpijhniaa
