/-
  The walk of impl.HexText: for 1 to 8 digits the list of digits that the model gives; for another number of digits the empty text.
  Conditions: none; each walk leaves old memory as it was.
-/
import Derived.Test.YtboeaeoefoabdaaGreatDoorProg
import Derived.Test.YtboeaeoefoabdaaGreatDoorHxA
import Derived.Test.YtboeaeoefoabdaaGreatDoorHxS
import Derived.WalkKit
import Derived.ProofKit
import Derived.Deep.OwnRows
import Derived.Handy
namespace Go.Proofs.YtboeaeoefoabdaaGreatDoor
open Go.RowKit Go.Deep Go.WideShapes Go.ChangeShapes
theorem impl_hex (n : Int) (d : Nat) (h1 : 1 ≤ d) (h8 : d ≤ 8) (w : World) :
    Calls Tryz.prog 112 #[.int .i64 n, .int .i64 (d : Int)] w fun e w' => e = .returned (.string ⟨(hexl n d).toArray⟩) ∧ Below w.heap.size w w' := by
  have hmk := run_make_row' (P := Tryz.prog) 22 5 (.int .u8 0) 1 Tryz.underlying22 infoU8 rfl .i64 .i64 d (by omega) (by omega)
  have hbt := i64_and15
  have hd1 : decide ((d : Int) < 1) = false := by simp; omega
  have hd2 : decide (8 < (d : Int)) = false := by simp; omega
  go_enter Tryz.func112, Tryz.ntmps112
  go_wp2
  go_loopw [0, 17] (fun v0 v17 wr => ∃ k : Nat, k ≤ d ∧ v17 = .int .i64 k ∧ v0 = .int .i64 (n / 16 ^ k) ∧ wr.rowIs w.heap.size 5 d (hexRow n d k) ∧ Below w.heap.size w wr) (fun _ v17 _ => d - (intOf v17).toNat)
  case atStart =>
    exact ⟨0, by omega, rfl, by simp, (World.rowIs_made w _ d 5).congr (hexRow_zero n d), (Below.refl _ _).alloc (Nat.le_refl _) _⟩
  case round =>
    obtain ⟨k, hk, rfl, rfl, hrow, hb⟩ := hrel
    by_cases hlt : k < d
    · have hc : wr.cell? ⟨w.heap.size, d - 1 - k, none⟩ = some (hexRow n d k (d - 1 - k)) := hrow.cell (by omega)
      have hf : wr.frozen? ⟨w.heap.size, d - 1 - k, none⟩ = false := hrow.frozen _
      go_wp2
      rename_i h0
      have hx := hexTab_at _ h0 (by show _ < 16; omega)
      go_roundw
      case rel =>
        refine ⟨k + 1, by omega, by go_num, by rw [div16], ?_, hb.setCell (Nat.le_refl _) _⟩
        rw [hx]
        exact (hrow.set _ _).congr (hexRow_succ n d k hlt)
      case measure => simp [intOf]; omega
    · obtain rfl : k = d := by omega
      have hcv := run_convert_bytes_back (P := Tryz.prog) wr 22 9 5 ⟨w.heap.size, 0, none⟩ k (hexl n k) Tryz.underlying22 Tryz.underlying5 Tryz.underlying9 (fun j hj => by
        rw [hexl_length] at hj
        have := hrow.cell hj
        rw [hexRow_all n k j hj, List.getElem?_eq_getElem (by rw [hexl_length]; exact hj)] at this
        rcases Nat.eq_zero_or_pos j with rfl | hpos
        · simpa [Addr.add] using this
        · simpa [Addr.add, Nat.ne_of_gt hpos] using this)
      rw [hexl_length] at hcv
      go_wp2
      go_ret
      exact ⟨rfl, hb⟩

theorem impl_hex_no (n d : Int) (h : d < 1 ∨ 8 < d) (w : World) :
    Calls Tryz.prog 112 #[.int .i64 n, .int .i64 d] w fun e w' => e = .returned (.string ⟨#[]⟩) ∧ w = w' := by
  rcases h with h | h
  · go_enter Tryz.func112, Tryz.ntmps112
    go_wp2
    go_ret
    exact ⟨rfl, rfl⟩
  · have h' : ¬ d < 1 := by omega
    go_enter Tryz.func112, Tryz.ntmps112
    go_wp2
    go_ret
    exact ⟨rfl, rfl⟩
end Go.Proofs.YtboeaeoefoabdaaGreatDoor
