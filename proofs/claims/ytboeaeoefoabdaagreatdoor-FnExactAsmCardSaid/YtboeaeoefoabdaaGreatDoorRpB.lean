/-
  The walk of Go's own internal/strconv.ParseUint at the base 16 and 64 bits over a text of 1 to 7 bytes: its number, or the error 'invalid syntax'.
  Conditions: as told.
-/
import Derived.Test.YtboeaeoefoabdaaGreatDoorProg
import Derived.Test.YtboeaeoefoabdaaGreatDoorRhA
import Derived.Test.YtboeaeoefoabdaaGreatDoorShl
import Derived.Lib.ConvBytes
import Derived.Lib.Strings
import Derived.Lib.AtoiErrMem
import Derived.Lib.Hide
namespace Go.Proofs.YtboeaeoefoabdaaGreatDoor
open Go.RowKit
/-- The value of the digit is what the walk reckons of the byte. -/
def Got (bs : List UInt8) (k : Nat) (a : Int) : Prop := HexOk (bs.take k) ∧ a = hexNum (bs.take k)
theorem Got.step {bs : List UInt8} {k : Nat} {a : Int} (h : Got bs k a) (hk : k < bs.length) (hv : 0 ≤ hxv bs[k].toNat) : Got bs (k + 1) (a * 16 + hxv bs[k].toNat) := by
  obtain ⟨h1, rfl⟩ := h
  have e : bs.take (k + 1) = bs.take k ++ [bs[k]] := List.take_succ_eq_append_getElem hk
  refine ⟨?_, by rw [e, hexNum_snoc]; omega⟩
  rw [e]
  intro c hc
  simp only [List.mem_append, List.mem_singleton] at hc
  rcases hc with hc | rfl
  · exact h1 c hc
  · exact hv
theorem Got.bd {bs : List UInt8} {k : Nat} {a : Int} (h : Got bs k a) (h7 : bs.length ≤ 7) : 0 ≤ a ∧ a < 4294967296 := by
  obtain ⟨h1, rfl⟩ := h
  exact hexNum_bd _ h1 (by simp; omega)
/-- How the reading ends: with the number, or, at a byte that is no digit, with the error. -/
def Ends16 (l : List UInt8) (W1 : World) (e : Ending) (w' : World) : Prop :=
  ((HexOk l ∧ e = .returned (.tuple #[.int .u64 (hexNum l), .nilIface])) ∨ ((∃ c ∈ l, hxv c.toNat < 0) ∧ e = .returned (.tuple #[.int .u64 0, .iface 167 (.int .i64 2)]))) ∧ w' = W1
theorem ends_ok {l : List UInt8} {W1 : World} (h : HexOk l) : Ends16 l W1 (.returned (.tuple #[.int .u64 (hexNum l), .nilIface])) W1 := ⟨.inl ⟨h, rfl⟩, rfl⟩
theorem ends_bad {l : List UInt8} {W1 : World} {c : UInt8} (hc : c ∈ l) (h : hxv c.toNat < 0) : Ends16 l W1 (.returned (.tuple #[.int .u64 0, .iface 167 (.int .i64 2)])) W1 := ⟨.inr ⟨⟨c, hc, h⟩, rfl⟩, rfl⟩
set_option maxHeartbeats 4000000 in
set_option maxRecDepth 100000 in
theorem parse16 (t : ByteArray) (hne : t.size ≠ 0) (h7 : t.size ≤ 7) (w : World) :
    Calls Tryz.prog 117 #[.string t, .int .i64 16, .int .i64 64] w (Ends16 t.data.toList (Lib.bytesWorld w 5 t)) := by
  have hemp : t.toList.isEmpty = false := by
    rw [← decide_eq_emptyBytes]
    exact decide_eq_false (fun h => hne (by rw [h]; rfl))
  have hcv := Lib.run_convert_string_bytes (P := Tryz.prog) w 9 22 5 t (u := .string) Tryz.underlying9 Tryz.underlying22 Tryz.underlying5
  have hB : ∀ j, j < t.size → (Lib.bytesWorld w 5 t).cell? ⟨w.heap.size, j, none⟩ = some (.int .u8 (t.data.toList.getD j 0).toNat) := fun j hj => Lib.bytesWorld_cell w 5 t j hj
  obtain ⟨W1, hW1⟩ : ∃ W1, W1 = Lib.bytesWorld w 5 t := ⟨_, rfl⟩
  rw [← hW1] at hcv hB ⊢
  clear hW1
  obtain ⟨bs, hL⟩ : ∃ bs, bs = t.data.toList := ⟨_, rfl⟩
  have hLn : bs.length = t.size := by rw [hL, Lib.size_eq]
  rw [← hL] at hB ⊢
  clear hL
  have hmv : IntKind.u64.wrap (IntKind.u64.wrap 18446744073709551616 - 1) = 18446744073709551615 := by
    rw [IntKind.wrap_u64, IntKind.wrap_u64]
    decide
  go_enter Tryz.func117, Tryz.ntmps117
  go_wp2
  go_loop [12, 13, 101] (fun vu vn vi => ∃ (k : Nat) (a : Int), vu = .bool false ∧ vn = .int .u64 a ∧ vi = .int .i64 k ∧ k ≤ t.size ∧ Hid (Got bs k a)) (fun _ _ vi => t.size - (intOf vi).toNat)
  case atStart => exact ⟨0, 0, rfl, rfl, rfl, by omega, ⟨(fun c hc => by simp at hc), rfl⟩⟩
  case round =>
    obtain ⟨k, a, rfl, rfl, rfl, hk, hh⟩ := hrel
    obtain ⟨a0, a1⟩ := hh.out.bd (by omega)
    by_cases hkn : k < t.size
    · have hc := hB k hkn
      have hkl : k < bs.length := by omega
      have hget : bs.getD k 0 = bs[k] := by simp [List.getD, List.getElem?_eq_getElem hkl]
      rw [hget] at hc
      have hst := fun h => hh.out.step hkl h
      have hmem : bs[k] ∈ bs := List.getElem_mem hkl
      generalize bs[k] = c at hc hst hmem
      have hc0 : 0 ≤ (c.toNat : Int) := by omega
      have hc1 : (c.toNat : Int) < 256 := by have := c.toNat_lt; omega
      have hdef : hxv (c.toNat : Int) = hxv c.toNat := rfl
      clear hB hget hh hdef
      by_cases hd1 : 48 ≤ (c.toNat : Int) ∧ (c.toNat : Int) ≤ 57
      · have hx : hxv c.toNat = (c.toNat : Int) - 48 := by unfold hxv; rw [if_pos hd1]
        have HG := Lib.hid (hst (by omega))
        rw [hx] at HG
        obtain ⟨hd1, hd2⟩ := hd1
        clear hst hx hmem
        go_wp2
        refine ⟨⟨k + 1, a * 16 + ((c.toNat : Int) - 48), rfl, (by first | rfl | (congr 1; omega)), (by first | rfl | (congr 1; omega)), by omega, HG⟩, by simp [intOf]; omega⟩
      · by_cases hd2 : 97 ≤ (c.toNat : Int) ∧ (c.toNat : Int) ≤ 102
        · have hx : hxv c.toNat = (c.toNat : Int) - 87 := by unfold hxv; rw [if_neg hd1, if_neg (by omega), if_pos hd2]
          have HG := Lib.hid (hst (by omega))
          rw [hx] at HG
          have hlow := low_small _ hd2
          obtain ⟨hd2, hd3⟩ := hd2
          clear hst hx hmem
          go_wp2_with (go_at_call 139; refine (Tryz.internal_strconv_lower _ _).mono ?_; rintro e w' ⟨rfl, rfl⟩)
          refine ⟨⟨k + 1, a * 16 + ((c.toNat : Int) - 87), rfl, (by first | rfl | (congr 1; omega)), (by first | rfl | (congr 1; omega)), by omega, HG⟩, by simp [intOf]; omega⟩
        · by_cases hd3 : 65 ≤ (c.toNat : Int) ∧ (c.toNat : Int) ≤ 70
          · have hx : hxv c.toNat = (c.toNat : Int) - 55 := by unfold hxv; rw [if_neg hd1, if_pos hd3]
            have HG := Lib.hid (hst (by omega))
            rw [hx] at HG
            have hlow := low_great _ hd3
            obtain ⟨hd3, hd4⟩ := hd3
            clear hst hx hmem
            go_wp2_with (go_at_call 139; refine (Tryz.internal_strconv_lower _ _).mono ?_; rintro e w' ⟨rfl, rfl⟩)
            refine ⟨⟨k + 1, a * 16 + ((c.toNat : Int) - 55), rfl, (by first | rfl | (congr 1; omega)), (by first | rfl | (congr 1; omega)), by omega, HG⟩, by simp [intOf]; omega⟩
          · have hx : hxv c.toNat < 0 := by unfold hxv; rw [if_neg hd1, if_neg hd3, if_neg hd2]; omega
            have hE := ends_bad (W1 := W1) hmem hx
            have hl := low_none _ ⟨hc0, hc1⟩ hd2 hd3
            have hl2 := low_bd c.toNat
            have hu : bits .or .u8 95 32 = 127 := by decide
            clear hst hx hmem
            go_wp2_with (go_at_call 139; refine (Tryz.internal_strconv_lower _ _).mono ?_; rintro e w' ⟨rfl, rfl⟩)
            all_goals go_ret2
            all_goals exact hE
    · obtain rfl : k = t.size := by omega
      have hG := hh.out
      unfold Got at hG
      rw [← hLn, List.take_of_length_le (Nat.le_refl _)] at hG
      obtain ⟨g1, g2⟩ := hG
      subst g2
      clear hh
      go_wp2
      go_ret2
      exact ends_ok g1
end Go.Proofs.YtboeaeoefoabdaaGreatDoor
