/-
  Texts put together by program: RhS, HxB, AsD.
  Conditions: as each theorem says.
-/
import Derived.Lib.AtoiErrMem
import Derived.Lib.ConvBytes
import Derived.Test.YtboeaeoefoabdaaGreatDoorPmah
namespace Go.Proofs.YtboeaeoefoabdaaGreatDoor
open Go.RowKit
theorem dig_yes (c : Int) (h : 48 ≤ c ∧ c ≤ 57) (w : World) : Calls Tryz.prog 110 #[.int .u8 c] w fun e w' => e = .returned (.bool true) ∧ w = w' := by
 obtain ⟨h1, h2⟩ := h
 go_enter Tryz.func110, Tryz.ntmps110
 go_wp2_with (go_in)
 go_ret
 exact ⟨rfl, rfl⟩
theorem dig_no (c : Int) (h0 : 0 ≤ c ∧ c ≤ 255) (h : ¬ (48 ≤ c ∧ c ≤ 57)) (w : World) : Calls Tryz.prog 110 #[.int .u8 c] w fun e w' => e = .returned (.bool false) ∧ w = w' := by
 obtain ⟨h1, h2⟩ := h0
 by_cases h3 : 48 ≤ c
 ·have h4 : ¬ c ≤ 57 := by omega
  go_enter Tryz.func110, Tryz.ntmps110
  go_wp2_with (go_in)
  go_ret
  exact ⟨rfl, rfl⟩
 ·go_enter Tryz.func110, Tryz.ntmps110
  go_wp2_with (go_in)
  go_ret
  exact ⟨rfl, rfl⟩
theorem take_snoc (s : ByteArray) (k : Nat) (h : k < s.size) : s.data.toList.take (k + 1) = s.data.toList.take k ++ [s[k]] := by
 rw [List.take_succ_eq_append_getElem (by simpa using h)]; rfl
theorem mem_byte (s : ByteArray) (k : Nat) (h : k < s.size) : s[k] ∈ s.data.toList := by
 have : s.data.toList[k]? = some s[k] := by simp [h]; rfl
 exact List.mem_of_getElem? this
theorem spec_hxv (c : Int) (h0 : 0 ≤ c ∧ c ≤ 255) (w : World) : Calls Tryz.prog 100 #[.int .u8 c] w fun e w' => e = .returned (.int .i64 (hxv c)) ∧ w = w' := by
 by_cases h1 : 48 ≤ c ∧ c ≤ 57
 ·have hx : hxv c = c - 48 := by unfold hxv; rw [if_pos h1]
  have hc := dig_yes c h1
  rw [hx]
  clear hx
  go_enter Tryz.func100, Tryz.ntmps100
  go_wp2_with (go_at_call 110; refine (hc _).mono ?_; rintro e w' ⟨rfl, rfl⟩)
  go_ret
  exact ⟨rfl, rfl⟩
 ·have hc := dig_no c h0 h1
  by_cases h2 : 65 ≤ c ∧ c ≤ 70
  ·have hx : hxv c = c - 55 := by unfold hxv; rw [if_neg h1, if_pos h2]
   rw [hx]
   have hy := fun w => hx_in_yes c 65 70 w h2.1 h2.2
   clear hx
   go_enter Tryz.func100, Tryz.ntmps100
   go_wp2_with (first
    | (go_at_call 110; refine (hc _).mono ?_; rintro e w' ⟨rfl, rfl⟩)
    | (go_at_call 82; refine (hy _).mono ?_; rintro e w' ⟨rfl, rfl⟩))
   go_ret
   exact ⟨rfl, rfl⟩
  ·have hn := fun w => hx_in_no c 65 70 w (by omega)
   by_cases h3 : 97 ≤ c ∧ c ≤ 102
   ·have hx : hxv c = c - 87 := by unfold hxv; rw [if_neg h1, if_neg h2, if_pos h3]
    rw [hx]
    have hy := fun w => hx_in_yes c 97 102 w h3.1 h3.2
    clear hx
    go_enter Tryz.func100, Tryz.ntmps100
    go_wp2_with (first
     | (go_at_call 110; refine (hc _).mono ?_; rintro e w' ⟨rfl, rfl⟩)
     | (go_at_call 82; (first | (with_reducible refine (hn _).mono ?_) | (with_reducible refine (hy _).mono ?_)); rintro e w' ⟨rfl, rfl⟩))
    go_ret
    exact ⟨rfl, rfl⟩
   ·have hx : hxv c = -1 := by unfold hxv; rw [if_neg h1, if_neg h2, if_neg h3]
    rw [hx]
    have hy := fun w => hx_in_no c 97 102 w (by omega)
    clear hx
    go_enter Tryz.func100, Tryz.ntmps100
    go_wp2_with (first
     | (go_at_call 110; refine (hc _).mono ?_; rintro e w' ⟨rfl, rfl⟩)
     | (go_at_call 82; (first | (with_reducible refine (hn _).mono ?_) | (with_reducible refine (hy _).mono ?_)); rintro e w' ⟨rfl, rfl⟩))
    go_ret
    exact ⟨rfl, rfl⟩
set_option maxRecDepth 100000 in
set_option maxHeartbeats 400000 in
theorem spec_rh (s : ByteArray) (hs : s.size ≤ maxLen) (w : World) :
  Calls Tryz.prog 101 #[.string s] w fun e w' => e = .returned (.int .i64 (rh s.data.toList)) ∧ w = w' := by
 unfold maxLen at hs
 have hlen : s.data.toList.length = s.size := by simp
 have H := Lib.hid hlen
 clear hlen
 go_enter Tryz.func101, Tryz.ntmps101
 go_wp2
 go_loop [3, 4] (fun v3 v4 => ∃ k : Nat, k ≤ s.size ∧ k ≤ 8 ∧ v4 = .int .i64 k ∧ HexOk (s.data.toList.take k) ∧ v3 = .int .i64 (hexNum (s.data.toList.take k))) (fun _ v4 => 8 - (RowKit.intOf v4).toNat)
 case atStart => exact ⟨0, by omega, by omega, rfl, fun c hc => by simp at hc, rfl⟩
 case round =>
  obtain ⟨k, hk, h8, rfl, hd, rfl⟩ := hrel
  have hbd := hexNum_bd _ hd (by simp; omega)
  by_cases hlt : k < s.size ∧ k < 8
  ·obtain ⟨hlt, hlt8⟩ := hlt
   have hb : 0 ≤ (s[k].toNat : Int) ∧ (s[k].toNat : Int) ≤ 255 := by have := s[k].toNat_lt; omega
   have hc := spec_hxv (s[k].toNat : Int) hb
   have hvb := hxv_bd s[k].toNat
   by_cases hv : 0 ≤ hxv s[k].toNat
   ·have hd' : HexOk (s.data.toList.take (k + 1)) := by
     rw [take_snoc s k hlt]
     intro c hc
     simp only [List.mem_append, List.mem_singleton] at hc
     rcases hc with hc | rfl
     ·exact hd c hc
     ·exact hv
    have HV : Hid (hexNum (s.data.toList.take (k + 1)) = 16 * hexNum (s.data.toList.take k) + hxv s[k].toNat) := by rw [take_snoc s k hlt, hexNum_snoc]; trivial
    clear hd
    go_wp2_with (go_at_call 100; refine (hc _).mono ?_; rintro e w' ⟨rfl, rfl⟩)
    go_round
    case rel =>
     refine ⟨k + 1, by omega, by omega, by go_num, hd', ?_⟩
     rw [HV.out]
    case measure => simp [RowKit.intOf]; omega
   ·have hr := rh_bad s.data.toList s[k] (mem_byte s k hlt) (by omega)
    go_wp2_with (go_at_call 100; refine (hc _).mono ?_; rintro e w' ⟨rfl, rfl⟩)
    go_ret
    exact ⟨by rw [hr]; rfl, rfl⟩
  ·by_cases hl : 1 ≤ s.size ∧ s.size ≤ 7
   ·obtain rfl : k = s.size := by omega
    have ht : s.data.toList.take s.size = s.data.toList := List.take_of_length_le (by rw [H.out]; omega)
    rw [ht] at hd hbd
    rw [ht]
    have hr := rh_yes _ hd (by rw [H.out]; omega) (by rw [H.out]; omega)
    have hy := fun w => hx_in_yes (s.size : Int) 1 7 w (by omega) (by omega)
    clear ht hlt
    go_wp2_with (go_at_call 82; refine (hy _).mono ?_; rintro e w' ⟨rfl, rfl⟩)
    go_ret
    exact ⟨by rw [hr]; rfl, rfl⟩
   ·have hr := rh_len s.data.toList (by rw [H.out]; omega)
    have hy := fun w => hx_in_no (s.size : Int) 1 7 w (by omega)
    by_cases hk2 : k < s.size
    ·obtain rfl : k = 8 := by omega
     clear hlt
     go_wp2_with (go_at_call 82; refine (hy _).mono ?_; rintro e w' ⟨rfl, rfl⟩)
     go_ret
     exact ⟨by rw [hr]; rfl, rfl⟩
    ·clear hlt
     go_wp2_with (go_at_call 82; refine (hy _).mono ?_; rintro e w' ⟨rfl, rfl⟩)
     go_ret
     exact ⟨by rw [hr]; rfl, rfl⟩
end Go.Proofs.YtboeaeoefoabdaaGreatDoor
namespace Go.Proofs.YtboeaeoefoabdaaGreatDoor
open Go.RowKit Go.Deep Go.WideShapes Go.ChangeShapes
theorem impl_hex (n : Int) (d : Nat) (h1 : 1 ≤ d) (h8 : d ≤ 8) (w : World) :
  Calls Tryz.prog 112 #[.int .i64 n, .int .i64 (d : Int)] w fun e w' => e = .returned (.string ⟨(hexl n d).toArray⟩) ∧ Below w.heap.size w w' := by
 have hmk := run_make_row' (P := Tryz.prog) 22 5 (.int .u8 0) 1 Tryz.underlying22 infoU8 rfl .i64 .i64 d (by omega) (by omega)
 have hbt := i64_and15
 have hd1 : decide ((d : Int) < 1) = false := by simp; omega
 have hd2 : decide (8 < (d : Int)) = false := by simp; omega
 go_enter Tryz.func112, Tryz.ntmps112
 go_wp2
 go_loopw [0, 17] (fun v0 v17 wr => ∃ k : Nat, k ≤ d ∧ v17 = .int .i64 k ∧ v0 = .int .i64 (n / 16 ^ k) ∧ wr.rowIs w.heap.size 5 d (hexRow n d k) ∧ Below w.heap.size w wr) (fun _ v17 _ => d - (intOf v17).toNat)
 case atStart =>
  exact ⟨0, by omega, rfl, by simp, (World.rowIs_made w _ d 5).congr (hexRow_zero n d), (Below.refl _ _).alloc (Nat.le_refl _) _⟩
 case round =>
  obtain ⟨k, hk, rfl, rfl, hrow, hb⟩ := hrel
  by_cases hlt : k < d
  ·have hc : wr.cell? ⟨w.heap.size, d - 1 - k, none⟩ = some (hexRow n d k (d - 1 - k)) := hrow.cell (by omega)
   have hf : wr.frozen? ⟨w.heap.size, d - 1 - k, none⟩ = false := hrow.frozen _
   go_wp2
   rename_i h0
   have hx := hexTab_at _ h0 (by show _ < 16; omega)
   go_roundw
   case rel =>
    refine ⟨k + 1, by omega, by go_num, by rw [div16], ?_, hb.setCell (Nat.le_refl _) _⟩
    rw [hx]
    exact (hrow.set _ _).congr (hexRow_succ n d k hlt)
   case measure => simp [intOf]; omega
  ·obtain rfl : k = d := by omega
   have hcv := run_convert_bytes_back (P := Tryz.prog) wr 22 9 5 ⟨w.heap.size, 0, none⟩ k (hexl n k) Tryz.underlying22 Tryz.underlying5 Tryz.underlying9 (fun j hj => by
    rw [hexl_length] at hj
    have := hrow.cell hj
    rw [hexRow_all n k j hj, List.getElem?_eq_getElem (by rw [hexl_length]; exact hj)] at this
    rcases Nat.eq_zero_or_pos j with rfl | hpos
    ·simpa [Addr.add] using this
    ·simpa [Addr.add, Nat.ne_of_gt hpos] using this)
   rw [hexl_length] at hcv
   go_wp2
   go_ret
   exact ⟨rfl, hb⟩
end Go.Proofs.YtboeaeoefoabdaaGreatDoor
namespace Go.Proofs.YtboeaeoefoabdaaGreatDoor
open Go.RowKit
def upRow (l : List UInt8) (k j : Nat) : UInt8 := if j < k then up1 (l.getD j 0) else l.getD j 0
def UpAt (G : Nat) (l : List UInt8) (k : Nat) (w : World) : Prop := (∀ j, j < l.length → w.cell? ⟨G, j, none⟩ = some (.int .u8 ((upRow l k j).toNat : Int))) ∧ ∀ j, j < l.length → w.frozen? ⟨G, j, none⟩ = false
theorem upRow_all (l : List UInt8) (j : Nat) (h : j < l.length) : (upL l)[j]? = some (upRow l l.length j) := by
 unfold upRow upL
 rw [if_pos h]
 simp [List.getElem?_eq_getElem h, List.getD]
theorem UpAt.next {G : Nat} {l : List UInt8} {k : Nat} {w : World} (h : UpAt G l k w) (hk : k < l.length) (x : Int) (hx : x = ((up1 (l.getD k 0)).toNat : Int)) : UpAt G l (k + 1) (w.setCell ⟨G, k, none⟩ (.int .u8 x)) := by
 refine ⟨fun j hj => ?_, fun j hj => by rw [World.frozen?_setCell]; exact h.2 j hj⟩
 by_cases e : j = k
 ·subst e
  rw [World.cell?_setCell_same w ⟨G, j, none⟩ _ (h.1 j hj), hx]
  unfold upRow
  rw [if_pos (by omega)]
 ·rw [World.cell?_setCell_other w ⟨G, k, none⟩ ⟨G, j, none⟩ _ (fun q => e (congrArg Addr.off q).symm), h.1 j hj]
  unfold upRow
  by_cases hjk : j < k
  ·rw [if_pos hjk, if_pos (by omega)]
  ·rw [if_neg hjk, if_neg (by omega)]
theorem UpAt.same {G : Nat} {l : List UInt8} {k : Nat} {w : World} (h : UpAt G l k w) (e : up1 (l.getD k 0) = l.getD k 0) : UpAt G l (k + 1) w := by
 refine ⟨fun j hj => ?_, h.2⟩
 rw [h.1 j hj]
 unfold upRow
 by_cases hjk : j < k
 ·rw [if_pos hjk, if_pos (by omega)]
 ·by_cases q : j = k
  ·subst q; rw [if_neg hjk, if_pos (by omega), e]
  ·rw [if_neg hjk, if_neg (by omega)]
theorem upAt_new (w : World) (s : ByteArray) : UpAt w.heap.size s.data.toList 0 (Lib.bytesWorld w 5 s) := by
 refine ⟨fun j hj => ?_, fun j hj => ?_⟩
 ·rw [Lib.bytesWorld_cell w 5 s j (by simpa using hj)]; rfl
 ·have hs : (Lib.bytesCells w 5 s).size ≥ s.size := by unfold Lib.bytesCells; simp
  have hj2 : j < s.size := by simpa using hj
  unfold World.frozen?
  rw [Lib.bytesWorld_at_new]
  simp
  omega
theorem up1_yes {c : UInt8} (h : 97 ≤ (c.toNat : Int) ∧ (c.toNat : Int) ≤ 122) : ((up1 c).toNat : Int) = (c.toNat : Int) - 32 := by
 have h1 : 97 ≤ c.toNat := by omega
 have h2 : c.toNat ≤ 122 := by omega
 unfold up1
 rw [if_pos ⟨h1, h2⟩, UInt8.toNat_sub_of_le _ _ (by rw [UInt8.le_iff_toNat_le]; show 32 ≤ c.toNat; omega)]
 show ((c.toNat - 32 : Nat) : Int) = _
 omega
theorem up1_no {c : UInt8} (h : ¬ (97 ≤ (c.toNat : Int) ∧ (c.toNat : Int) ≤ 122)) : up1 c = c := by
 unfold up1
 rw [if_neg (by omega)]
set_option maxRecDepth 100000 in
set_option maxHeartbeats 4000000 in
theorem spec_upper (s : ByteArray) (hs : s.size ≤ 1048576) (w : World) : Calls Tryz.prog 64 #[.string s] w fun e w' => e = .returned (.string ⟨(upL s.data.toList).toArray⟩) ∧ Below w.heap.size w w' := by
 have hcv := Lib.run_convert_string_bytes (P := Tryz.prog) w 9 22 5 s (u := .string) Tryz.underlying9 Tryz.underlying22 Tryz.underlying5
 have hA := Lib.hid (upAt_new w s)
 have hB := Lib.hid (Lib.bytesWorld_below w 5 s)
 generalize Lib.bytesWorld w 5 s = W1 at hcv hA hB
 have hlen : s.data.toList.length = s.size := by simp
 generalize s.data.toList = l at *
 go_enter Tryz.func64, Tryz.ntmps64
 go_wp2
 go_loopw [4] (fun vi wr => ∃ k : Nat, k ≤ s.size ∧ vi = .int .i64 k ∧ Hid (UpAt w.heap.size l k wr) ∧ Hid (Below w.heap.size w wr)) (fun vi _ => s.size - (intOf vi).toNat)
 case atStart => exact ⟨0, by omega, rfl, hA, hB⟩
 case round =>
  obtain ⟨k, hk, rfl, hu, hb⟩ := hrel
  by_cases hlt : k < s.size
  ·have hc := hu.out.1 k (by omega)
   have hf := hu.out.2 k (by omega)
   have e0 : upRow l k k = l.getD k 0 := by unfold upRow; rw [if_neg (by omega)]
   rw [e0] at hc
   have hN := Lib.hid (fun x hx => hu.out.next (by omega) x hx)
   have hS := Lib.hid (fun e => hu.out.same e)
   generalize l.getD k 0 = c at hc hN hS
   have hc0 : 0 ≤ (c.toNat : Int) := by omega
   have hc1 : (c.toNat : Int) < 256 := by have := c.toNat_lt; omega
   clear e0
   by_cases hr : 97 ≤ (c.toNat : Int) ∧ (c.toNat : Int) ≤ 122
   ·have hy := up1_yes hr
    obtain ⟨r0, r1⟩ := hr
    have HI := Lib.hid (fun w => hx_in_yes (c.toNat : Int) 97 122 w r0 r1)
    have HY := Lib.hid hy
    clear hy
    go_wp2_with (go_at_call 82; (with_reducible refine (HI.out _).mono ?_); rintro e w1 ⟨rfl, rfl⟩)
    go_roundw
    case rel => exact ⟨k + 1, by omega, by go_num, Lib.hid (hN.out _ (by have := HY.out; omega)), Lib.hid (hb.out.setCell (Nat.le_refl _) _)⟩
    case measure => simp [intOf]; omega
   ·have hy := Lib.hid (hS.out (up1_no hr))
    have HI := Lib.hid (fun w => hx_in_no (c.toNat : Int) 97 122 w (by omega))
    clear hN hS hr
    go_wp2_with (go_at_call 82; (with_reducible refine (HI.out _).mono ?_); rintro e w1 ⟨rfl, rfl⟩)
    go_roundw
    case rel => exact ⟨k + 1, by omega, by go_num, hy, hb⟩
    case measure => simp [intOf]; omega
  ·obtain rfl : k = s.size := by omega
   have hcv := run_convert_bytes_back (P := Tryz.prog) wr 22 9 5 ⟨w.heap.size, 0, none⟩ (grownCap w s.size 0 5) (upL l) Tryz.underlying22 Tryz.underlying5 Tryz.underlying9 (fun j hj => by
    rw [upL_length, hlen] at hj
    have h1 := hu.out.1 j (by omega)
    have h2 := upRow_all l j (by omega)
    rw [← hlen] at h1
    have h3 := (List.getElem?_eq_some_iff.1 h2).2
    rw [addr_add, h1]
    simp [h3])
   rw [upL_length, hlen] at hcv
   clear hu
   go_wp2
   go_ret
   exact ⟨rfl, hb.out⟩
set_option maxRecDepth 100000 in
set_option maxHeartbeats 4000000 in
theorem impl_upper (s : ByteArray) (hs : s.size ≤ 1048576) (w : World) : Calls Tryz.prog 51 #[.string s] w fun e w' => e = .returned (.string ⟨(upL s.data.toList).toArray⟩) ∧ Below w.heap.size w w' := by
 have hcv := Lib.run_convert_string_bytes (P := Tryz.prog) w 9 22 5 s (u := .string) Tryz.underlying9 Tryz.underlying22 Tryz.underlying5
 have hA := Lib.hid (upAt_new w s)
 have hB := Lib.hid (Lib.bytesWorld_below w 5 s)
 generalize Lib.bytesWorld w 5 s = W1 at hcv hA hB
 have hlen : s.data.toList.length = s.size := by simp
 generalize s.data.toList = l at *
 go_enter Tryz.func51, Tryz.ntmps51
 go_wp2
 go_loopw [10] (fun vi wr => ∃ k : Nat, k ≤ s.size ∧ vi = .int .i64 k ∧ Hid (UpAt w.heap.size l k wr) ∧ Hid (Below w.heap.size w wr)) (fun vi _ => s.size - (intOf vi).toNat)
 case atStart => exact ⟨0, by omega, rfl, hA, hB⟩
 case round =>
  obtain ⟨k, hk, rfl, hu, hb⟩ := hrel
  by_cases hlt : k < s.size
  ·have hc := hu.out.1 k (by omega)
   have hf := hu.out.2 k (by omega)
   have e0 : upRow l k k = l.getD k 0 := by unfold upRow; rw [if_neg (by omega)]
   rw [e0] at hc
   have hN := Lib.hid (fun x hx => hu.out.next (by omega) x hx)
   have hS := Lib.hid (fun e => hu.out.same e)
   generalize l.getD k 0 = c at hc hN hS
   have hc0 : 0 ≤ (c.toNat : Int) := by omega
   have hc1 : (c.toNat : Int) < 256 := by have := c.toNat_lt; omega
   clear e0
   by_cases hr : 97 ≤ (c.toNat : Int) ∧ (c.toNat : Int) ≤ 122
   ·have hy := up1_yes hr
    obtain ⟨r0, r1⟩ := hr
    have HY := Lib.hid hy
    clear hy
    go_wp2
    go_roundw
    case rel => exact ⟨k + 1, by omega, by go_num, Lib.hid (hN.out _ (by have := HY.out; omega)), Lib.hid (hb.out.setCell (Nat.le_refl _) _)⟩
    case measure => simp [intOf]; omega
   ·have hy := Lib.hid (hS.out (up1_no hr))
    by_cases r0 : 97 ≤ (c.toNat : Int)
    ·have r1 : ¬ (c.toNat : Int) ≤ 122 := by omega
     clear hN hS hr
     go_wp2
     go_roundw
     case rel => exact ⟨k + 1, by omega, by go_num, hy, hb⟩
     case measure => simp [intOf]; omega
    ·clear hN hS hr
     go_wp2
     go_roundw
     case rel => exact ⟨k + 1, by omega, by go_num, hy, hb⟩
     case measure => simp [intOf]; omega
  ·obtain rfl : k = s.size := by omega
   have hcv := run_convert_bytes_back (P := Tryz.prog) wr 22 9 5 ⟨w.heap.size, 0, none⟩ (grownCap w s.size 0 5) (upL l) Tryz.underlying22 Tryz.underlying5 Tryz.underlying9 (fun j hj => by
    rw [upL_length, hlen] at hj
    have h1 := hu.out.1 j (by omega)
    have h2 := upRow_all l j (by omega)
    rw [← hlen] at h1
    have h3 := (List.getElem?_eq_some_iff.1 h2).2
    rw [addr_add, h1]
    simp [h3])
   rw [upL_length, hlen] at hcv
   clear hu
   go_wp2
   go_ret
   exact ⟨rfl, hb.out⟩
end Go.Proofs.YtboeaeoefoabdaaGreatDoor
