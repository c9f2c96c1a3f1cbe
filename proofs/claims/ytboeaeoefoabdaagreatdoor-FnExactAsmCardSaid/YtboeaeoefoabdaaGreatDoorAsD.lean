/-
  Great letters, of both packages (chapter 13).
  Conditions: the text has at most 1048576 bytes.
-/
import Derived.Test.YtboeaeoefoabdaaGreatDoorUpA
import Derived.Test.YtboeaeoefoabdaaGreatDoorHxB
import Derived.Test.YtboeaeoefoabdaaGreatDoorBel
import Derived.Lib.ConvBytes
import Derived.Lib.AtoiErrMem
import Derived.Lib.Hide
namespace Go.Proofs.YtboeaeoefoabdaaGreatDoor
open Go.RowKit
/-- The first k bytes are great letters, the others as they were. -/
def upRow (l : List UInt8) (k j : Nat) : UInt8 := if j < k then up1 (l.getD j 0) else l.getD j 0
def UpAt (G : Nat) (l : List UInt8) (k : Nat) (w : World) : Prop := (∀ j, j < l.length → w.cell? ⟨G, j, none⟩ = some (.int .u8 ((upRow l k j).toNat : Int))) ∧ ∀ j, j < l.length → w.frozen? ⟨G, j, none⟩ = false
theorem upRow_all (l : List UInt8) (j : Nat) (h : j < l.length) : (upL l)[j]? = some (upRow l l.length j) := by
  unfold upRow upL
  rw [if_pos h]
  simp [List.getElem?_eq_getElem h, List.getD]
theorem UpAt.next {G : Nat} {l : List UInt8} {k : Nat} {w : World} (h : UpAt G l k w) (hk : k < l.length) (x : Int) (hx : x = ((up1 (l.getD k 0)).toNat : Int)) : UpAt G l (k + 1) (w.setCell ⟨G, k, none⟩ (.int .u8 x)) := by
  refine ⟨fun j hj => ?_, fun j hj => by rw [World.frozen?_setCell]; exact h.2 j hj⟩
  by_cases e : j = k
  · subst e
    rw [World.cell?_setCell_same w ⟨G, j, none⟩ _ (h.1 j hj), hx]
    unfold upRow
    rw [if_pos (by omega)]
  · rw [World.cell?_setCell_other w ⟨G, k, none⟩ ⟨G, j, none⟩ _ (fun q => e (congrArg Addr.off q).symm), h.1 j hj]
    unfold upRow
    by_cases hjk : j < k
    · rw [if_pos hjk, if_pos (by omega)]
    · rw [if_neg hjk, if_neg (by omega)]
theorem UpAt.same {G : Nat} {l : List UInt8} {k : Nat} {w : World} (h : UpAt G l k w) (e : up1 (l.getD k 0) = l.getD k 0) : UpAt G l (k + 1) w := by
  refine ⟨fun j hj => ?_, h.2⟩
  rw [h.1 j hj]
  unfold upRow
  by_cases hjk : j < k
  · rw [if_pos hjk, if_pos (by omega)]
  · by_cases q : j = k
    · subst q; rw [if_neg hjk, if_pos (by omega), e]
    · rw [if_neg hjk, if_neg (by omega)]
theorem upAt_new (w : World) (s : ByteArray) : UpAt w.heap.size s.data.toList 0 (Lib.bytesWorld w 5 s) := by
  refine ⟨fun j hj => ?_, fun j hj => ?_⟩
  · rw [Lib.bytesWorld_cell w 5 s j (by simpa using hj)]; rfl
  · have hs : (Lib.bytesCells w 5 s).size ≥ s.size := by unfold Lib.bytesCells; simp
    have hj2 : j < s.size := by simpa using hj
    unfold World.frozen?
    rw [Lib.bytesWorld_at_new]
    simp
    omega
theorem up1_yes {c : UInt8} (h : 97 ≤ (c.toNat : Int) ∧ (c.toNat : Int) ≤ 122) : ((up1 c).toNat : Int) = (c.toNat : Int) - 32 := by
  have h1 : 97 ≤ c.toNat := by omega
  have h2 : c.toNat ≤ 122 := by omega
  unfold up1
  rw [if_pos ⟨h1, h2⟩, UInt8.toNat_sub_of_le _ _ (by rw [UInt8.le_iff_toNat_le]; show 32 ≤ c.toNat; omega)]
  show ((c.toNat - 32 : Nat) : Int) = _
  omega
theorem up1_no {c : UInt8} (h : ¬ (97 ≤ (c.toNat : Int) ∧ (c.toNat : Int) ≤ 122)) : up1 c = c := by
  unfold up1
  rw [if_neg (by omega)]
set_option maxRecDepth 100000 in
set_option maxHeartbeats 4000000 in
theorem spec_upper (s : ByteArray) (hs : s.size ≤ 1048576) (w : World) : Calls Tryz.prog 64 #[.string s] w fun e w' => e = .returned (.string ⟨(upL s.data.toList).toArray⟩) ∧ Below w.heap.size w w' := by
  have hcv := Lib.run_convert_string_bytes (P := Tryz.prog) w 9 22 5 s (u := .string) Tryz.underlying9 Tryz.underlying22 Tryz.underlying5
  have hA := Lib.hid (upAt_new w s)
  have hB := Lib.hid (Lib.bytesWorld_below w 5 s)
  generalize Lib.bytesWorld w 5 s = W1 at hcv hA hB
  have hlen : s.data.toList.length = s.size := by simp
  generalize s.data.toList = l at *
  go_enter Tryz.func64, Tryz.ntmps64
  go_wp2
  go_loopw [4] (fun vi wr => ∃ k : Nat, k ≤ s.size ∧ vi = .int .i64 k ∧ Hid (UpAt w.heap.size l k wr) ∧ Hid (Below w.heap.size w wr)) (fun vi _ => s.size - (intOf vi).toNat)
  case atStart => exact ⟨0, by omega, rfl, hA, hB⟩
  case round =>
    obtain ⟨k, hk, rfl, hu, hb⟩ := hrel
    by_cases hlt : k < s.size
    · have hc := hu.out.1 k (by omega)
      have hf := hu.out.2 k (by omega)
      have e0 : upRow l k k = l.getD k 0 := by unfold upRow; rw [if_neg (by omega)]
      rw [e0] at hc
      have hN := Lib.hid (fun x hx => hu.out.next (by omega) x hx)
      have hS := Lib.hid (fun e => hu.out.same e)
      generalize l.getD k 0 = c at hc hN hS
      have hc0 : 0 ≤ (c.toNat : Int) := by omega
      have hc1 : (c.toNat : Int) < 256 := by have := c.toNat_lt; omega
      clear e0
      by_cases hr : 97 ≤ (c.toNat : Int) ∧ (c.toNat : Int) ≤ 122
      · have hy := up1_yes hr
        obtain ⟨r0, r1⟩ := hr
        have HI := Lib.hid (fun w => hx_in_yes (c.toNat : Int) 97 122 w r0 r1)
        have HY := Lib.hid hy
        clear hy
        go_wp2_with (go_at_call 82; (with_reducible refine (HI.out _).mono ?_); rintro e w1 ⟨rfl, rfl⟩)
        go_roundw
        case rel => exact ⟨k + 1, by omega, by go_num, Lib.hid (hN.out _ (by have := HY.out; omega)), Lib.hid (hb.out.setCell (Nat.le_refl _) _)⟩
        case measure => simp [intOf]; omega
      · have hy := Lib.hid (hS.out (up1_no hr))
        have HI := Lib.hid (fun w => hx_in_no (c.toNat : Int) 97 122 w (by omega))
        clear hN hS hr
        go_wp2_with (go_at_call 82; (with_reducible refine (HI.out _).mono ?_); rintro e w1 ⟨rfl, rfl⟩)
        go_roundw
        case rel => exact ⟨k + 1, by omega, by go_num, hy, hb⟩
        case measure => simp [intOf]; omega
    · obtain rfl : k = s.size := by omega
      have hcv := run_convert_bytes_back (P := Tryz.prog) wr 22 9 5 ⟨w.heap.size, 0, none⟩ (grownCap w s.size 0 5) (upL l) Tryz.underlying22 Tryz.underlying5 Tryz.underlying9 (fun j hj => by
        rw [upL_length, hlen] at hj
        have h1 := hu.out.1 j (by omega)
        have h2 := upRow_all l j (by omega)
        rw [← hlen] at h1
        have h3 := (List.getElem?_eq_some_iff.1 h2).2
        rw [addr_add, h1]
        simp [h3])
      rw [upL_length, hlen] at hcv
      clear hu
      go_wp2
      go_ret
      exact ⟨rfl, hb.out⟩
set_option maxRecDepth 100000 in
set_option maxHeartbeats 4000000 in
theorem impl_upper (s : ByteArray) (hs : s.size ≤ 1048576) (w : World) : Calls Tryz.prog 51 #[.string s] w fun e w' => e = .returned (.string ⟨(upL s.data.toList).toArray⟩) ∧ Below w.heap.size w w' := by
  have hcv := Lib.run_convert_string_bytes (P := Tryz.prog) w 9 22 5 s (u := .string) Tryz.underlying9 Tryz.underlying22 Tryz.underlying5
  have hA := Lib.hid (upAt_new w s)
  have hB := Lib.hid (Lib.bytesWorld_below w 5 s)
  generalize Lib.bytesWorld w 5 s = W1 at hcv hA hB
  have hlen : s.data.toList.length = s.size := by simp
  generalize s.data.toList = l at *
  go_enter Tryz.func51, Tryz.ntmps51
  go_wp2
  go_loopw [10] (fun vi wr => ∃ k : Nat, k ≤ s.size ∧ vi = .int .i64 k ∧ Hid (UpAt w.heap.size l k wr) ∧ Hid (Below w.heap.size w wr)) (fun vi _ => s.size - (intOf vi).toNat)
  case atStart => exact ⟨0, by omega, rfl, hA, hB⟩
  case round =>
    obtain ⟨k, hk, rfl, hu, hb⟩ := hrel
    by_cases hlt : k < s.size
    · have hc := hu.out.1 k (by omega)
      have hf := hu.out.2 k (by omega)
      have e0 : upRow l k k = l.getD k 0 := by unfold upRow; rw [if_neg (by omega)]
      rw [e0] at hc
      have hN := Lib.hid (fun x hx => hu.out.next (by omega) x hx)
      have hS := Lib.hid (fun e => hu.out.same e)
      generalize l.getD k 0 = c at hc hN hS
      have hc0 : 0 ≤ (c.toNat : Int) := by omega
      have hc1 : (c.toNat : Int) < 256 := by have := c.toNat_lt; omega
      clear e0
      by_cases hr : 97 ≤ (c.toNat : Int) ∧ (c.toNat : Int) ≤ 122
      · have hy := up1_yes hr
        obtain ⟨r0, r1⟩ := hr
        have HY := Lib.hid hy
        clear hy
        go_wp2
        go_roundw
        case rel => exact ⟨k + 1, by omega, by go_num, Lib.hid (hN.out _ (by have := HY.out; omega)), Lib.hid (hb.out.setCell (Nat.le_refl _) _)⟩
        case measure => simp [intOf]; omega
      · have hy := Lib.hid (hS.out (up1_no hr))
        by_cases r0 : 97 ≤ (c.toNat : Int)
        · have r1 : ¬ (c.toNat : Int) ≤ 122 := by omega
          clear hN hS hr
          go_wp2
          go_roundw
          case rel => exact ⟨k + 1, by omega, by go_num, hy, hb⟩
          case measure => simp [intOf]; omega
        · clear hN hS hr
          go_wp2
          go_roundw
          case rel => exact ⟨k + 1, by omega, by go_num, hy, hb⟩
          case measure => simp [intOf]; omega
    · obtain rfl : k = s.size := by omega
      have hcv := run_convert_bytes_back (P := Tryz.prog) wr 22 9 5 ⟨w.heap.size, 0, none⟩ (grownCap w s.size 0 5) (upL l) Tryz.underlying22 Tryz.underlying5 Tryz.underlying9 (fun j hj => by
        rw [upL_length, hlen] at hj
        have h1 := hu.out.1 j (by omega)
        have h2 := upRow_all l j (by omega)
        rw [← hlen] at h1
        have h3 := (List.getElem?_eq_some_iff.1 h2).2
        rw [addr_add, h1]
        simp [h3])
      rw [upL_length, hlen] at hcv
      clear hu
      go_wp2
      go_ret
      exact ⟨rfl, hb.out⟩
end Go.Proofs.YtboeaeoefoabdaaGreatDoor
