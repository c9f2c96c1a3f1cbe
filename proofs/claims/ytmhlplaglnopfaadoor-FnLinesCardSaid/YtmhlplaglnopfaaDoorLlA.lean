/-
  The draws of lines and words, exactly.
  Conditions: the draw has at most 1048576 bytes.
-/
import Derived.Test.YtmhlplaglnopfaaDoorDrE
import Derived.Test.YtmhlplaglnopfaaDoorDrB
namespace Go.Proofs.YtmhlplaglnopfaaDoor
open Go.RowKit
def rI (n i0 : Nat) : Nat → Nat
  | 0 => i0
  | k + 1 => nextI n (rI n i0 k)
def rH (h0 : Int) : Nat → Int
  | 0 => h0
  | k + 1 => nextH (rH h0 k)
def rTxt (cs : List ByteArray) (bs : Nat → Int) (n i0 : Nat) (h0 : Int) : Nat → ByteArray
  | 0 => ⟨#[]⟩
  | k + 1 => rTxt cs bs n i0 h0 k ++ pickAt cs bs n (rI n i0 k) (rH h0 k)
theorem pickAt_size (cs : List ByteArray) (m : Nat) (hm : ∀ x ∈ cs, x.size ≤ m) (bs : Nat → Int) (n i : Nat) (h : Int) : (pickAt cs bs n i h).size ≤ m := by
  unfold pickAt
  rw [List.getD_eq_getElem?_getD]
  cases hx : cs[(byteAt bs n i h % cs.length).toNat]? with
  | none => exact Nat.zero_le _
  | some x => exact hm x (List.mem_of_getElem? hx)
theorem rTxt_size (cs : List ByteArray) (m : Nat) (hm : ∀ x ∈ cs, x.size ≤ m) (bs : Nat → Int) (n i0 : Nat) (h0 : Int) (k : Nat) : (rTxt cs bs n i0 h0 k).size ≤ m * k := by
  induction k with
  | zero => exact Nat.zero_le _
  | succ k ih =>
    have := pickAt_size cs m hm bs n (rI n i0 k) (rH h0 k)
    show (_ ++ _ : ByteArray).size ≤ _
    rw [ByteArray.size_append, Nat.mul_succ]
    omega
def rounds (bs : Nat → Int) (n : Nat) : Nat := (byteAt bs n 0 (seed0 bs n) % 7).toNat
def drawTxt (cs : List ByteArray) (bs : Nat → Int) (n : Nat) : ByteArray := rTxt cs bs n (nextI n 0) (nextH (seed0 bs n)) (rounds bs n)
theorem drawTxt_size (cs : List ByteArray) (hm : ∀ x ∈ cs, x.size ≤ 2) (bs : Nat → Int) (n : Nat) : (drawTxt cs bs n).size ≤ 12 := by
  have h := rTxt_size cs 2 hm bs n (nextI n 0) (nextH (seed0 bs n)) (rounds bs n)
  have : rounds bs n ≤ 6 := by unfold rounds; omega
  unfold drawTxt
  omega
def wordBits : List ByteArray := [⟨#[97]⟩, ⟨#[32]⟩, ⟨#[98, 99]⟩, ⟨#[9]⟩, ⟨#[]⟩, ⟨#[10]⟩]
def lineBits : List ByteArray := [⟨#[97]⟩, ⟨#[10]⟩, ⟨#[98, 99]⟩, ⟨#[]⟩, ⟨#[10, 10]⟩]
set_option maxHeartbeats 1000000 in
theorem drawWords_is (B n c : Nat) (A : Option Addr) (bs : Nat → Int) (w : World) (hB : B ≤ w.heap.size) (hcode : CodeIs w B A n bs) :
    Calls Tryd.prog 27 #[.slice A n c] w fun e w' => e = .returned (.string (drawTxt wordBits bs n)) ∧ Below w.heap.size w w' := by
  have hN := l01New_is B n c A bs w hcode
  unfold NewIs at hN
  have HC := Lib.hid hcode
  clear hcode
  go_enter Tryd.func27, Tryd.ntmps27
  go_wp2_with (go_at_call 34; refine hN.mono ?_; rintro e w1 ⟨rfl, hc, hb⟩; refine Hid.out ?_)
  have hD : DrawnIs B w.heap.size n c A bs 0 (seed0 bs n) w1 := ⟨Nat.le_trans hB hb.size, hB, HC.out.below hB hb, by omega, hc⟩
  have hy := l01Below_is hD 7 (by omega) (by omega)
  unfold IsPost at hy
  obtain ⟨N, hNN⟩ : ∃ N : Nat, byteAt bs n 0 (seed0 bs n) % 7 = N := ⟨_, (Int.toNat_of_nonneg (Int.emod_nonneg _ (by omega))).symm⟩
  have hN7 : N < 7 := by omega
  have HR := Lib.hid (show rounds bs n = N by unfold rounds; rw [hNN]; rfl)
  rw [hNN] at hy
  clear hNN
  have HD := Lib.hid hD
  clear hN hD hc
  refine Lib.hid ?_
  go_wp2_with (go_at_call 39; refine hy.mono ?_; rintro e w2 ⟨rfl, hc, hg⟩; refine Hid.out ?_)
  have HD2 := Lib.hid (HD.out.next (nextI_le (by omega)) hc hg)
  have hb2 := hb.grown hg hb.size (fun k hk => by cases hk; exact Nat.le_refl _)
  obtain ⟨i0, hi0⟩ : ∃ i0, i0 = nextI n 0 := ⟨_, rfl⟩
  obtain ⟨h0, hh0⟩ : ∃ h0, h0 = nextH (seed0 bs n) := ⟨_, rfl⟩
  have HT := Lib.hid (show drawTxt wordBits bs n = rTxt wordBits bs n i0 h0 N by unfold drawTxt; rw [HR.out, ← hi0, ← hh0])
  rw [← hi0, ← hh0] at HD2
  clear hy HD hc hg hb HR hi0 hh0
  refine Lib.hid ?_
  go_wp2
  go_loopw [4, 6] (fun v4 v6 wr => ∃ k : Nat, k ≤ N ∧ v6 = .int .i64 k ∧ v4 = .string (rTxt wordBits bs n i0 h0 k) ∧ Hid (DrawnIs B w.heap.size n c A bs (rI n i0 k) (rH h0 k) wr) ∧ Below w.heap.size w wr) (fun _ v6 _ => N - (intOf v6).toNat)
  case atStart => exact ⟨0, by omega, rfl, rfl, HD2, hb2⟩
  case round =>
    obtain ⟨k, hk, rfl, rfl, hD, hbr⟩ := hrel
    by_cases hlt : k < N
    · have hP := pick_is hD.out wordBits 6 rfl #[.string ⟨#[97]⟩, .string ⟨#[32]⟩, .string ⟨#[98, 99]⟩, .string ⟨#[9]⟩, .string ⟨#[]⟩, .string ⟨#[10]⟩] rfl (by omega) (by omega)
      unfold IsPost at hP
      have hs := rTxt_size wordBits 2 (by decide) bs n i0 h0 k
      have hp := pickAt_size wordBits 2 (by decide) bs n (rI n i0 k) (rH h0 k)
      have hnx := Lib.hid (show rTxt wordBits bs n i0 h0 (k + 1) = rTxt wordBits bs n i0 h0 k ++ pickAt wordBits bs n (rI n i0 k) (rH h0 k) from rfl)
      go_wp2_with (go_at_call 38; refine hP.mono ?_; rintro e w3 ⟨rfl, hc3, hg3⟩)
      go_roundw
      case rel => exact ⟨k + 1, by omega, by go_num, by rw [hnx.out], Lib.hid (hD.out.next (nextI_le hD.out.hi) hc3 hg3), hbr.grown hg3 hbr.size (fun k hk => by cases hk; exact Nat.le_refl _)⟩
      case measure => simp [intOf]; omega
    · obtain rfl : k = N := by omega
      go_wp2
      go_ret
      exact ⟨by rw [HT.out]; rfl, hbr⟩
set_option maxHeartbeats 1000000 in
theorem drawLines_is (B n c : Nat) (A : Option Addr) (bs : Nat → Int) (w : World) (hB : B ≤ w.heap.size) (hcode : CodeIs w B A n bs) :
    Calls Tryd.prog 24 #[.slice A n c] w fun e w' => e = .returned (.string (drawTxt lineBits bs n)) ∧ Below w.heap.size w w' := by
  have hN := l01New_is B n c A bs w hcode
  unfold NewIs at hN
  have HC := Lib.hid hcode
  clear hcode
  go_enter Tryd.func24, Tryd.ntmps24
  go_wp2_with (go_at_call 34; refine hN.mono ?_; rintro e w1 ⟨rfl, hc, hb⟩; refine Hid.out ?_)
  have hD : DrawnIs B w.heap.size n c A bs 0 (seed0 bs n) w1 := ⟨Nat.le_trans hB hb.size, hB, HC.out.below hB hb, by omega, hc⟩
  have hy := l01Below_is hD 7 (by omega) (by omega)
  unfold IsPost at hy
  obtain ⟨N, hNN⟩ : ∃ N : Nat, byteAt bs n 0 (seed0 bs n) % 7 = N := ⟨_, (Int.toNat_of_nonneg (Int.emod_nonneg _ (by omega))).symm⟩
  have hN7 : N < 7 := by omega
  have HR := Lib.hid (show rounds bs n = N by unfold rounds; rw [hNN]; rfl)
  rw [hNN] at hy
  clear hNN
  have HD := Lib.hid hD
  clear hN hD hc
  refine Lib.hid ?_
  go_wp2_with (go_at_call 39; refine hy.mono ?_; rintro e w2 ⟨rfl, hc, hg⟩; refine Hid.out ?_)
  have HD2 := Lib.hid (HD.out.next (nextI_le (by omega)) hc hg)
  have hb2 := hb.grown hg hb.size (fun k hk => by cases hk; exact Nat.le_refl _)
  obtain ⟨i0, hi0⟩ : ∃ i0, i0 = nextI n 0 := ⟨_, rfl⟩
  obtain ⟨h0, hh0⟩ : ∃ h0, h0 = nextH (seed0 bs n) := ⟨_, rfl⟩
  have HT := Lib.hid (show drawTxt lineBits bs n = rTxt lineBits bs n i0 h0 N by unfold drawTxt; rw [HR.out, ← hi0, ← hh0])
  rw [← hi0, ← hh0] at HD2
  clear hy HD hc hg hb HR hi0 hh0
  refine Lib.hid ?_
  go_wp2
  go_loopw [4, 6] (fun v4 v6 wr => ∃ k : Nat, k ≤ N ∧ v6 = .int .i64 k ∧ v4 = .string (rTxt lineBits bs n i0 h0 k) ∧ Hid (DrawnIs B w.heap.size n c A bs (rI n i0 k) (rH h0 k) wr) ∧ Below w.heap.size w wr) (fun _ v6 _ => N - (intOf v6).toNat)
  case atStart => exact ⟨0, by omega, rfl, rfl, HD2, hb2⟩
  case round =>
    obtain ⟨k, hk, rfl, rfl, hD, hbr⟩ := hrel
    by_cases hlt : k < N
    · have hP := pick_is hD.out lineBits 5 rfl #[.string ⟨#[97]⟩, .string ⟨#[10]⟩, .string ⟨#[98, 99]⟩, .string ⟨#[]⟩, .string ⟨#[10, 10]⟩] rfl (by omega) (by omega)
      unfold IsPost at hP
      have hs := rTxt_size lineBits 2 (by decide) bs n i0 h0 k
      have hp := pickAt_size lineBits 2 (by decide) bs n (rI n i0 k) (rH h0 k)
      have hnx := Lib.hid (show rTxt lineBits bs n i0 h0 (k + 1) = rTxt lineBits bs n i0 h0 k ++ pickAt lineBits bs n (rI n i0 k) (rH h0 k) from rfl)
      go_wp2_with (go_at_call 38; refine hP.mono ?_; rintro e w3 ⟨rfl, hc3, hg3⟩)
      go_roundw
      case rel => exact ⟨k + 1, by omega, by go_num, by rw [hnx.out], Lib.hid (hD.out.next (nextI_le hD.out.hi) hc3 hg3), hbr.grown hg3 hbr.size (fun k hk => by cases hk; exact Nat.le_refl _)⟩
      case measure => simp [intOf]; omega
    · obtain rfl : k = N := by omega
      go_wp2
      go_ret
      exact ⟨by rw [HT.out]; rfl, hbr⟩
end Go.Proofs.YtmhlplaglnopfaaDoor
