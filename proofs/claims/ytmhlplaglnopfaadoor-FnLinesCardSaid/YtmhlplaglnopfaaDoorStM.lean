/-
  The walk of markText of the laws: the letter m and the decimal digits of a number; it leaves old memory as it was.
  Conditions: the number is 1 or more and an int holds it.
-/
import Derived.Test.YtmhlplaglnopfaaDoorProg
import Derived.Test.YtmhlplaglnopfaaDoorDcA
import Derived.WalkKit
import Derived.ProofKit
import Derived.Handy
import Derived.Lib.Hide
namespace Go.Proofs.YtmhlplaglnopfaaDoor
open Go.RowKit
/-- The text of the mark k. -/
def mtx (k : Nat) : ByteArray := ⟨(109 :: Lib.decDigits k).toArray⟩
theorem str_add (c : List UInt8) (out : List UInt8) (h : c.length + out.length ≤ 100) (w : World) :
    (Op.stringOp .add ⟨c.toArray⟩ ⟨out.toArray⟩).run Tryd.prog w = .ok (.string ⟨(c ++ out).toArray⟩) w := by
  rw [run_string_add_sum w _ _ (by show c.toArray.size + out.toArray.size ≤ _; simp; omega)]
  rw [ByteArray.mk_append_mk]
theorem digB_int (m : Nat) (h : m < 10) : ((digB m).toNat : Int) = 48 + (m : Int) := by
  unfold digB; simp [UInt8.toNat_ofNat']; omega
set_option maxRecDepth 100000 in
set_option maxHeartbeats 400000 in
theorem mark_text (k : Nat) (h1 : 1 ≤ k) (hk : k ≤ 9223372036854775807) (w : World) :
    Calls Tryd.prog 50 #[.int .i64 k] w fun e w' => e = .returned (.string (mtx k)) ∧ Below w.heap.size w w' := by
  have hl := decDigits_le20 k (by omega)
  go_enter Tryd.func50, Tryd.ntmps50
  go_wp2
  go_loopw [0, 3] (fun v0 v3 wr => ∃ (v : Nat) (out : List UInt8), v0 = .int .i64 v ∧ v3 = .string ⟨out.toArray⟩ ∧ v ≤ k ∧ Left10 v out (Lib.decDigits k) ∧ Below w.heap.size w wr) (fun v0 _ _ => (intOf v0).toNat)
  case atStart => exact ⟨k, [], rfl, rfl, by omega, Left10.start k h1, Below.refl _ _⟩
  case round =>
    obtain ⟨v, out, rfl, rfl, hv, hL, hb⟩ := hrel
    by_cases hv0 : 0 < v
    · have hlen : out.length ≤ 20 := by have := hL.len; omega
      have hS := hL.step hv0
      have hc := run_convert_bytes_back (P := Tryd.prog) (wr.alloc (.cells #[.int .u8 (48 + (v : Int) % 10)] 5)) 22 9 5 ⟨wr.heap.size, 0, none⟩ 1 [digB (v % 10)] Tryd.underlying22 Tryd.underlying5 Tryd.underlying9 (fun j hj => by
        have hj0 : j = 0 := by simp at hj; omega
        subst hj0
        have := digB_int (v % 10) (by omega)
        simp [Addr.add, this])
      have ha := str_add [digB (v % 10)] out (by simp; omega)
      simp only [List.length_singleton] at hc
      clear hL
      go_wp2
      go_roundw
      case rel => exact ⟨v / 10, _, by go_num, rfl, by omega, hS, hb.alloc hb.size _⟩
      case measure => simp [intOf]; omega
    · obtain rfl : v = 0 := by omega
      obtain rfl := hL.done
      have h3 := str_add [109] (Lib.decDigits k) (by simp; omega)
      go_wp2
      go_ret
      exact ⟨rfl, hb⟩
end Go.Proofs.YtmhlplaglnopfaaDoor
