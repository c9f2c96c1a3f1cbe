/-
  Texts put together by program: DrI, BvA, BvB, DsA, DrP, Blk, DrC, AsW, CuA.
  Conditions: as each theorem says.
-/
import Derived.Deep.RegionWith
import Derived.IntWalk
import Derived.Test.YtboeaeoefoabdaaGreatDoorAmah
import Derived.Test.YtboeaeoefoabdaaGreatDoorAmai
namespace Go.Proofs.YtboeaeoefoabdaaGreatDoor
open Go.RowKit
set_option maxHeartbeats 1000000 in
theorem l01Int_any {B g n c : Nat} {A : Option Addr} {w : World} (h : Drawn B g n c A w) :
  Calls Tryz.prog 84 #[.pointer (some ⟨g, 0, none⟩)] w (DrawPost (-9223372036854775808) 9223372036854775807 g A n c w) := by
 have hy := l01Below_any h 100000 (by omega) (by omega)
 have H := Lib.hid h
 clear h
 go_enter Tryz.func84, Tryz.ntmps84
 go_wp2_with (go_at_call 46; refine hy.mono ?_; rintro e w1 ⟨x, rfl, h0, h1, hc, hg⟩; refine Hid.out ?_)
 have hP := pickInt_new (H.out.next hc hg) [.int .i64 0, .int .i64 1, .int .i64 (-1), .int .i64 255, .int .i64 256, .int .i64 65535, .int .i64 65536, .int .i64 999999999, .int .i64 9223372036854775807, .int .i64 (-9223372036854775808), .int .i64 x] (k := 11) rfl (by omega) (by omega)
  (by repeat (first | exact allI_nil | refine allI_cons ⟨by omega, by omega⟩ ?_))
 clear hy hc
 refine Lib.hid ?_
 go_wp2_with (go_at_call 44; refine hP.mono ?_; rintro e w2 ⟨y, rfl, y0, y1, hc2, hg2⟩)
 go_ret
 exact ⟨y, rfl, y0, y1, hc2, grown_trans hg hg2⟩
theorem new_drawn {B n c : Nat} {A : Option Addr} {w w1 : World} (hB : B ≤ w.heap.size) (hcode : Code w B A n) (hc : Cur w1 w.heap.size A n c) (hb : Below w.heap.size w w1) : Drawn B w.heap.size n c A w1 :=
 ⟨Nat.le_trans hB hb.size, hB, hcode.below hB hb, hc⟩
end Go.Proofs.YtboeaeoefoabdaaGreatDoor
namespace Go.Proofs.YtboeaeoefoabdaaGreatDoor
def B8 (x : Int) : BitVec 8 := BitVec.ofInt 8 x
def bop (op : BinOp) (a b : BitVec 8) : BitVec 8 :=
 match op with
 | .and => a &&& b
 | .or => a ||| b
 | .xor => a ^^^ b
 | _ => a &&& ~~~b
theorem B8_nat (x : Int) : ((B8 x).toNat : Int) = x % 256 := by
 unfold B8
 rw [BitVec.toNat_ofInt]
 have : ((2 ^ 8 : Nat) : Int) = 256 := by decide
 rw [this]
 omega
theorem B8_eq {x y : Int} (h : x % 256 = y % 256) : B8 x = B8 y := by
 apply BitVec.eq_of_toNat_eq
 have h1 := B8_nat x
 have h2 := B8_nat y
 omega
theorem B8_wrap (k : IntKind) (n : Int) : B8 (k.wrap n) = B8 n := by
 apply B8_eq
 cases k <;> simp [IntKind.wrap, IntKind.bits, IntKind.signed] <;> (try split) <;> omega
theorem bits_ge (k : IntKind) : 8 ≤ k.bits := by cases k <;> decide
theorem B8_wide {w : Nat} (hw : 8 ≤ w) (x : Int) : (BitVec.ofInt w x).setWidth 8 = B8 x := by
 apply BitVec.eq_of_toNat_eq
 have h1 := B8_nat x
 rw [BitVec.toNat_setWidth, BitVec.toNat_ofInt]
 obtain ⟨d, rfl⟩ : ∃ d, w = 8 + d := ⟨w - 8, by omega⟩
 have hd : (2 ^ 8 : Nat) ∣ 2 ^ (8 + d) := Nat.pow_dvd_pow 2 (by omega)
 have hz : ((2 ^ 8 : Nat) : Int) ∣ ((2 ^ (8 + d) : Nat) : Int) := Int.natCast_dvd_natCast.2 hd
 have h2 : (x % ((2 ^ (8 + d) : Nat) : Int)) % ((2 ^ 8 : Nat) : Int) = x % ((2 ^ 8 : Nat) : Int) := Int.emod_emod_of_dvd x hz
 have h3 : 0 ≤ x % ((2 ^ (8 + d) : Nat) : Int) := Int.emod_nonneg _ (by have := Nat.two_pow_pos (8 + d); omega)
 have e : ((2 ^ 8 : Nat) : Int) = 256 := by decide
 rw [e] at h2
 have e2 : (2 ^ 8 : Nat) = 256 := by decide
 rw [e2]
 generalize x % ((2 ^ (8 + d) : Nat) : Int) = y at h2 h3 ⊢
 omega
theorem B8_bits (op : BinOp) (k : IntKind) (x y : Int) : B8 (bits op k x y) = bop op (B8 x) (B8 y) := by
 unfold bits
 simp only []
 rw [B8_wrap]
 have hk := bits_ge k
 unfold B8
 rw [BitVec.ofInt_natCast, BitVec.ofNat_toNat]
 have hx := B8_wide hk x
 have hy := B8_wide hk y
 unfold B8 at hx hy
 unfold bop
 cases op <;> simp only [BitVec.setWidth_and, BitVec.setWidth_or, BitVec.setWidth_xor, BitVec.setWidth_not hk, hx, hy]
theorem B8_val (x : Int) (h0 : 0 ≤ x) (h1 : x < 256) : x = ((B8 x).toNat : Int) := by rw [B8_nat]; omega
theorem and_small (x m : Int) (hm : 0 ≤ m ∧ m < 256) : 0 ≤ bits .and .i64 x m ∧ bits .and .i64 x m < 256 := by
 obtain ⟨n, rfl⟩ : ∃ n : Nat, m = n := ⟨m.toNat, by omega⟩
 have hn : n < 256 := by omega
 unfold bits
 simp only [IntKind.wrap_i64]
 have h : (BitVec.ofInt IntKind.i64.bits x &&& BitVec.ofInt IntKind.i64.bits (n : Int)).toNat ≤ n := by
  rw [BitVec.ofInt_natCast, BitVec.toNat_and, BitVec.toNat_ofNat]
  exact Nat.le_trans Nat.and_le_right (Nat.mod_le _ _)
 generalize (BitVec.ofInt IntKind.i64.bits x &&& BitVec.ofInt IntKind.i64.bits (n : Int)).toNat = z at h
 omega
theorem and_val (x m : Int) (hm : 0 ≤ m ∧ m < 256) : bits .and .i64 x m = ((B8 x &&& B8 m).toNat : Int) := by
 have h := and_small x m hm
 rw [B8_val _ h.1 h.2, B8_bits]
 rfl
def w8 (p f : BitVec 8) (on : Bool) : BitVec 8 := if on then p ||| f else p &&& ~~~f
def cI (p : Int) : Int := ((B8 p &&& 1).toNat : Int)
theorem and_255 (a : Int) : bits .and .i64 a 255 = a % 256 := by
 rw [and_val a 255 (by omega), show B8 255 = BitVec.allOnes 8 by decide, BitVec.and_allOnes, B8_nat]
end Go.Proofs.YtboeaeoefoabdaaGreatDoor
namespace Go.Proofs.YtboeaeoefoabdaaGreatDoor
def lowI (l : Int) : Int := if 9 < l then (l + 6) % 16 + 16 else l
def sI (p a b : Int) : Int := a % 256 / 16 * 16 + b % 256 / 16 * 16 + lowI (a % 16 + b % 16 + cI p)
end Go.Proofs.YtboeaeoefoabdaaGreatDoor
namespace Go.Proofs.YtboeaeoefoabdaaGreatDoor
open Go.RowKit
set_option maxHeartbeats 1000000 in
theorem l02Byte_any {B g n c : Nat} {A : Option Addr} {w : World} (h : Drawn B g n c A w) :
  Calls Tryz.prog 68 #[.pointer (some ⟨g, 0, none⟩)] w (DrawPost (-9223372036854775808) 9223372036854775807 g A n c w) := by
 have hy := l01Below_any h 256 (by omega) (by omega)
 have H := Lib.hid h
 clear h
 go_enter Tryz.func68, Tryz.ntmps68
 go_wp2_with (go_at_call 46; refine hy.mono ?_; rintro e w1 ⟨x, rfl, h0, h1, hc, hg⟩; refine Hid.out ?_)
 have hP := pickInt_new (H.out.next hc hg) [.int .i64 0, .int .i64 1, .int .i64 9, .int .i64 10, .int .i64 15, .int .i64 16, .int .i64 127, .int .i64 128, .int .i64 153, .int .i64 154, .int .i64 255, .int .i64 x] (k := 12) rfl (by omega) (by omega)
  (by repeat (first | exact allI_nil | refine allI_cons ⟨by omega, by omega⟩ ?_))
 clear hy hc
 refine Lib.hid ?_
 go_wp2_with (go_at_call 44; refine hP.mono ?_; rintro e w2 ⟨y, rfl, y0, y1, hc2, hg2⟩)
 go_ret
 exact ⟨y, rfl, y0, y1, hc2, grown_trans hg hg2⟩
theorem l02Odd_any {B g n c : Nat} {A : Option Addr} {w : World} (h : Drawn B g n c A w) :
  Calls Tryz.prog 47 #[.pointer (some ⟨g, 0, none⟩)] w (DrawPost (-9223372036854775808) 9223372036854775807 g A n c w) := by
 have hy := l01Once_any h 12 (by omega) (by omega)
 have H := Lib.hid h
 clear h
 go_enter Tryz.func47, Tryz.ntmps47
 go_wp2_with (go_at_call 34; refine hy.mono ?_; rintro e w1 ⟨x, rfl, hc, hg⟩; refine Hid.out ?_)
 have hD := H.out.next hc hg
 have hI := l01Int_any hD
 have hB := l02Byte_any hD
 clear hy hc hD
 cases x
 ·refine Lib.hid ?_
  go_wp2_with (go_at_call 68; refine hB.mono ?_; rintro e w2 ⟨y, rfl, y0, y1, hc2, hg2⟩)
  go_ret
  exact ⟨y, rfl, y0, y1, hc2, grown_trans hg hg2⟩
 ·refine Lib.hid ?_
  go_wp2_with (go_at_call 84; refine hI.mono ?_; rintro e w2 ⟨y, rfl, y0, y1, hc2, hg2⟩)
  go_ret
  exact ⟨y, rfl, y0, y1, hc2, grown_trans hg hg2⟩
end Go.Proofs.YtboeaeoefoabdaaGreatDoor
namespace Go.Proofs.YtboeaeoefoabdaaGreatDoor
open Go.RowKit
set_option maxHeartbeats 1000000 in
theorem l01Pick_any {B g n c r k cap : Nat} {A : Option Addr} {w : World} (h : Drawn B g n c A w) (hk : 1 ≤ k) (hk2 : k ≤ 1000) (hne : r ≠ g) (hr : r < w.heap.size)
  (hrow : ∀ i, i < k → ∃ s : ByteArray, s.size ≤ 100 ∧ w.cell? ⟨r, i, none⟩ = some (.string s)) :
  Calls Tryz.prog 36 #[.pointer (some ⟨g, 0, none⟩), .slice (some ⟨r, 0, none⟩) k cap] w (PickPost g A n c w) := by
 have hy := l01Below_any h (k : Int) (by omega) (by omega)
 have HR := Lib.hid hrow
 clear h hrow
 go_enter Tryz.func36, Tryz.ntmps36
 go_wp2_with (go_at_call 46; refine hy.mono ?_; rintro e w1 ⟨x, rfl, h0, h1, hc, hg⟩; refine Hid.out ?_)
 obtain ⟨X, rfl⟩ : ∃ X : Nat, x = X := ⟨x.toNat, by omega⟩
 have hX : X < k := by omega
 obtain ⟨v, hv, hcv⟩ := HR.out X hX
 have hc1 : w1.cell? ⟨r, X, none⟩ = some (.string v) := (World.cell?_of_block (hg.block r hr (by simp [hne]))).trans hcv
 clear hcv hy
 refine Lib.hid ?_
 go_wp2
 go_ret
 exact ⟨_, rfl, hv, hc, hg⟩
def AllS (l : List Value) : Prop := ∀ i, i < l.length → ∃ s : ByteArray, s.size ≤ 100 ∧ l[i]? = some (.string s)
theorem allS_nil : AllS [] := fun _ hi => absurd hi (Nat.not_lt_zero _)
theorem allS_cons {s : ByteArray} {l : List Value} (h : s.size ≤ 100) (hl : AllS l) : AllS (.string s :: l) := by
 intro i hi
 cases i with
 | zero => exact ⟨s, h, rfl⟩
 | succ i => simpa using hl i (by simpa using hi)
theorem pick_new {B g n c k : Nat} {A : Option Addr} {w : World} (h : Drawn B g n c A w) (cs : List Value) (hs : cs.length = k) (hk : 1 ≤ k) (hk2 : k ≤ 1000) (hall : AllS cs) :
  Calls Tryz.prog 36 #[.pointer (some ⟨g, 0, none⟩), .slice (some ⟨w.heap.size, 0, none⟩) k k] (w.alloc (.cells cs.toArray 9)) (PickPost g A n c w) := by
 have hb : Below w.heap.size w (w.alloc (.cells cs.toArray 9)) := (Below.refl _ _).alloc (Nat.le_refl _) _
 refine (l01Pick_any (h.below hb) hk hk2 (by have := h.cur.lt; omega) (by simp) (fun i hi => ?_)).mono ?_
 ·obtain ⟨v, hv, e⟩ := hall i (by omega)
  exact ⟨v, hv, by rw [new_row]; simpa using e⟩
 ·rintro e w' ⟨x, rfl, h0, hc, hg⟩
  exact ⟨x, rfl, h0, hc, grown_trans (grown_of_below hb) hg⟩
end Go.Proofs.YtboeaeoefoabdaaGreatDoor
namespace Go.Proofs.YtboeaeoefoabdaaGreatDoor
open Go.RowKit
theorem grown_drew {a b : World} {g : Nat} (h : a.drew.grownBy b (some g)) : a.grownBy b (some g) := ⟨h.os, h.tape, h.output, h.size, h.block⟩
theorem Drawn.drew {B g n c : Nat} {A : Option Addr} {w : World} (h : Drawn B g n c A w) : Drawn B g n c A w.drew := ⟨h.hB, h.hBg, h.code, h.cur⟩
end Go.Proofs.YtboeaeoefoabdaaGreatDoor
namespace Go.Proofs.YtboeaeoefoabdaaGreatDoor
open Go.RowKit
def BentPost (m g : Nat) (A : Option Addr) (n c : Nat) (w : World) (e : Ending) (w' : World) : Prop :=
 ∃ s : ByteArray, e = .returned (.string s) ∧ s.size ≤ m ∧ Cur w' g A n c ∧ w.grownBy w' (some g)
set_option maxRecDepth 100000 in
set_option maxHeartbeats 4000000 in
theorem l01Bent_any {B g n c : Nat} {A : Option Addr} {w : World} (h : Drawn B g n c A w) (s : ByteArray) (hs : s.size ≤ 1000) :
  Calls Tryz.prog 37 #[.pointer (some ⟨g, 0, none⟩), .string s] w (BentPost 1100 g A n c w) := by
 have hy := l01Below_any h ((s.size : Int) + 1) (by omega) (by omega)
 have H := Lib.hid h
 clear h
 go_enter Tryz.func37, Tryz.ntmps37
 go_wp2_with (go_at_call 46; refine hy.mono ?_; rintro e w1 ⟨i, rfl, i0, i1, hc, hg⟩; refine Hid.out ?_)
 obtain ⟨I, rfl⟩ : ∃ I : Nat, i = I := ⟨i.toNat, by omega⟩
 have hI : I ≤ s.size := by omega
 have H1 := Lib.hid (H.out.next hc hg)
 have hz := l01Below_any H1.out 10 (by omega) (by omega)
 clear hy hc i1 i0
 refine Lib.hid ?_
 go_wp2_with (go_at_call 46; refine hz.mono ?_; rintro e w2 ⟨k, rfl, k0, k1, hc2, hg2⟩; refine Hid.out ?_)
 have H2 := Lib.hid (H1.out.next hc2 hg2)
 have hgg := grown_trans hg hg2
 clear hz hg hg2
 by_cases hk0 : k = 0
 ·subst hk0
  refine Lib.hid ?_
  go_wp2
  go_ret
  refine ⟨_, rfl, ?_, hc2, hgg⟩
  simp; omega
 ·by_cases hk1 : k = 1
  ·subst hk1
   have hP : Calls Tryz.prog 36 #[.pointer (some ⟨g, 0, none⟩), .slice (some ⟨w2.heap.size, 0, none⟩) 7 7] ((w2.alloc (.cells #[.string ⟨#[48]⟩, .string ⟨#[32]⟩, .string ⟨#[255]⟩, .string ⟨#[10]⟩, .string ⟨#[97]⟩, .string ⟨#[36]⟩, .string ⟨#[35]⟩] 9)).drew) (PickPost g A n c w2.drew) :=
    pick_new H2.out.drew [.string ⟨#[48]⟩, .string ⟨#[32]⟩, .string ⟨#[255]⟩, .string ⟨#[10]⟩, .string ⟨#[97]⟩, .string ⟨#[36]⟩, .string ⟨#[35]⟩] (k := 7) rfl (by omega) (by omega)
     (by repeat (first | exact allS_nil | refine allS_cons (by decide) ?_))
   refine Lib.hid ?_
   go_wp2
   go_region_with (go_at_call 36; refine hP.mono ?_; rintro e w3 ⟨p, rfl, hp, hc3, hg3⟩)
   all_goals
    go_wp2
    go_ret
    refine ⟨_, rfl, ?_, hc3, grown_trans hgg (grown_drew hg3)⟩
    simp; omega
  ·by_cases hk2 : k = 2
   ·subst hk2
    by_cases hlt : I < s.size
    ·have hP : Calls Tryz.prog 36 #[.pointer (some ⟨g, 0, none⟩), .slice (some ⟨w2.heap.size, 0, none⟩) 6 6] ((w2.alloc (.cells #[.string ⟨#[48]⟩, .string ⟨#[65]⟩, .string ⟨#[0]⟩, .string ⟨#[57]⟩, .string ⟨#[122]⟩, .string ⟨#[44]⟩] 9)).drew) (PickPost g A n c w2.drew) :=
      pick_new H2.out.drew [.string ⟨#[48]⟩, .string ⟨#[65]⟩, .string ⟨#[0]⟩, .string ⟨#[57]⟩, .string ⟨#[122]⟩, .string ⟨#[44]⟩] (k := 6) rfl (by omega) (by omega)
       (by repeat (first | exact allS_nil | refine allS_cons (by decide) ?_))
     have hi0 : (0 : Int) ≤ (I : Int) + 1 := by omega
     have hi1 : (I : Int) + 1 ≤ (s.size : Int) := by omega
     have hsl : ∀ W : World, (Instr.slice 9 (.string s) (some (.int .i64 ((I : Int) + 1))) none none).run Tryz.prog W = .ok (.string (s.extract (I + 1) s.size)) W := fun W => by
      have e : ((I : Int) + 1).toNat = I + 1 := by omega
      have := run_slice_string_l (P := Tryz.prog) (w := W) (t := 9) (s := s) Tryz.underlying9 .i64 ((I : Int) + 1) hi0 hi1
      rw [e] at this
      exact this
     have hwr : IntKind.i64.wrap ((I : Int) + 1) = (I : Int) + 1 := IntWalk.i64_in _ (by omega)
     refine Lib.hid ?_
     go_wp2
     go_region_with (go_at_call 36; refine hP.mono ?_; rintro e w3 ⟨p, rfl, hp, hc3, hg3⟩)
     all_goals
      go_wp2
      go_ret
      refine ⟨_, rfl, ?_, hc3, grown_trans hgg (grown_drew hg3)⟩
      simp; omega
    ·refine Lib.hid ?_
     go_wp2
     go_ret
     exact ⟨s, rfl, by omega, hc2, hgg⟩
   ·have t0 : (k == 0) = false := by simpa using hk0
    have t1 : (k == 1) = false := by simpa using hk1
    have t2 : (k == 2) = false := by simpa using hk2
    clear hk0 hk1 hk2
    refine Lib.hid ?_
    go_wp2
    go_ret
    exact ⟨s, rfl, by omega, hc2, hgg⟩
end Go.Proofs.YtboeaeoefoabdaaGreatDoor
namespace Go.Proofs.YtboeaeoefoabdaaGreatDoor
open Go.RowKit
def TriPost (w : World) (e : Ending) (w' : World) : Prop := ∃ n x y : Int, e = .returned (.tuple #[.int .i64 n, .int .i64 x, .int .i64 y]) ∧ 0 ≤ n ∧ n < 256 ∧ I64 x ∧ I64 y ∧ Below w.heap.size w w'
set_option maxRecDepth 100000 in
set_option maxHeartbeats 4000000 in
theorem drawOpText_any (B n c : Nat) (A : Option Addr) (w : World) (hB : B ≤ w.heap.size) (hcode : Code w B A n) :
  Calls Tryz.prog 18 #[.slice A n c] w (TriPost w) := by
 have hN := l01New_any B n c A w hcode
 have HD := fun (w1 : World) hc hb => new_drawn (c := c) (w1 := w1) hB hcode hc hb
 clear hcode
 unfold NewPost at hN
 unfold TriPost
 go_enter Tryz.func18, Tryz.ntmps18
 go_wp2_with (go_at_call 33; refine hN.mono ?_; rintro e w1 ⟨rfl, hc, hb⟩; refine Hid.out ?_)
 have hD := Lib.hid (HD w1 hc hb)
 have hb := Lib.hid hb
 have hy := l01Below_any hD.out 256 (by omega) (by omega)
 clear hN HD hc
 refine Lib.hid ?_
 go_wp2_with (go_at_call 46; refine hy.mono ?_; rintro e w2 ⟨z, rfl, z0, z1, hc2, hg2⟩; refine Hid.out ?_)
 have D2 := Lib.hid (hD.out.next hc2 hg2)
 have G2 := Lib.hid hg2
 have hy := l02Odd_any D2.out
 clear hc2 hg2 hD
 refine Lib.hid ?_
 go_wp2_with (go_at_call 47; refine hy.mono ?_; rintro e w3 ⟨x, rfl, x0, x1, hc3, hg3⟩; refine Hid.out ?_)
 have D3 := Lib.hid (D2.out.next hc3 hg3)
 have G3 := Lib.hid (grown_trans G2.out hg3)
 have hy := l02Odd_any D3.out
 clear hc3 hg3 D2 G2
 refine Lib.hid ?_
 go_wp2_with (go_at_call 47; refine hy.mono ?_; rintro e w4 ⟨y, rfl, y0, y1, hc4, hg4⟩)
 go_ret3
 exact ⟨z, x, y, rfl, z0, by omega, ⟨x0, x1⟩, ⟨y0, y1⟩, hb.out.grown (grown_trans G3.out hg4) hb.out.size (fun k hk => by cases hk; exact Nat.le_refl _)⟩
set_option maxRecDepth 100000 in
set_option maxHeartbeats 4000000 in
theorem l13Line_any {B g n c : Nat} {A : Option Addr} {w : World} (h : Drawn B g n c A w) :
  Calls Tryz.prog 50 #[.pointer (some ⟨g, 0, none⟩)] w (BentPost 1100 g A n c w) := by
 have hy := l01Below_any h 256 (by omega) (by omega)
 have D0 := Lib.hid h
 clear h
 unfold BentPost
 go_enter Tryz.func50, Tryz.ntmps50
 go_wp2_with (go_at_call 46; refine hy.mono ?_; rintro e w1 ⟨z, rfl, z0, z1, hc, hg⟩; refine Hid.out ?_)
 have D1 := Lib.hid (D0.out.next hc hg)
 have G1 := Lib.hid hg
 have hy := l02Byte_any D1.out
 clear hc hg D0
 refine Lib.hid ?_
 go_wp2_with (go_at_call 68; refine hy.mono ?_; rintro e w2 ⟨x, rfl, x0, x1, hc, hg⟩; refine Hid.out ?_)
 have D2 := Lib.hid (D1.out.next hc hg)
 have G2 := Lib.hid (grown_trans G1.out hg)
 have hy := l02Byte_any D2.out
 clear hc hg D1 G1
 refine Lib.hid ?_
 go_wp2_with (go_at_call 68; refine hy.mono ?_; rintro e w3 ⟨y, rfl, y0, y1, hc, hg⟩; refine Hid.out ?_)
 have D3 := Lib.hid (D2.out.next hc hg)
 have G3 := Lib.hid (grown_trans G2.out hg)
 have hs := fun w => spec_OpText z x y w
 have hl := opT_length (opOf z).1 (opOf z).2 x y (op_size3 z).1
 have hz : (⟨(opT (opOf z).1 (opOf z).2 x y).toArray⟩ : ByteArray).size ≤ 1000 := by rw [bsize]; omega
 generalize (⟨(opT (opOf z).1 (opOf z).2 x y).toArray⟩ : ByteArray) = T at *
 replace hs := Lib.hid hs
 clear hc hg D2 G2 hl hy z0 z1 x0 x1 y0 y1
 refine Lib.hid ?_
 go_wp2_with (go_at_call 23; (with_reducible refine (hs.out _).mono ?_); rintro e w4 ⟨rfl, hb4⟩; refine Hid.out ?_)
 have D4 := Lib.hid (D3.out.below hb4)
 have G4 := Lib.hid (grown_below G3.out hb4)
 have hy := l01Below_any D4.out 8 (by omega) (by omega)
 clear hs hb4 D3 G3
 refine Lib.hid ?_
 go_wp2_with (go_at_call 46; refine hy.mono ?_; rintro e w5 ⟨k, rfl, k0, k1, hc, hg⟩; refine Hid.out ?_)
 have D5 := Lib.hid (D4.out.next hc hg)
 have G5 := Lib.hid (grown_trans G4.out hg)
 clear hc hg D4 G4 hy
 by_cases c0 : k = 0
 ·subst c0
  have hy := pick_new D5.out [.string ⟨#[108, 100, 97, 32, 35, 36, 48, 97]⟩, .string ⟨#[32, 76, 68, 65, 32, 32, 36, 49, 48, 32]⟩, .string ⟨#[76, 68, 65, 32, 36, 49]⟩, .string ⟨#[76, 68, 65, 32, 36, 48, 48, 49, 48]⟩, .string ⟨#[76, 68, 65, 32, 35, 49, 48]⟩, .string ⟨#[65, 83, 76]⟩, .string ⟨#[74, 65, 77]⟩, .string ⟨#[78, 79, 80, 32, 65]⟩, .string ⟨#[74, 77, 80, 32, 40, 36, 49, 50, 51, 52, 41]⟩, .string ⟨#[108, 100, 97, 32, 40, 36, 49, 48, 41, 44, 121]⟩, .string ⟨#[76, 68, 65, 32, 40, 36, 49, 48, 44, 89, 41]⟩, .string ⟨#[59, 32, 110, 111, 116, 101]⟩, .string ⟨#[]⟩, .string ⟨#[66, 78, 69, 32, 36, 70, 69]⟩, .string ⟨#[83, 84, 65, 32, 35, 36, 48, 49]⟩, .string ⟨#[76, 68, 88, 32, 36, 49, 48, 44, 88]⟩, .string ⟨#[76, 68, 65, 32, 36, 49, 48, 44, 89]⟩] (k := 17) rfl (by omega) (by omega)
   (by repeat (first | exact allS_nil | refine allS_cons (by decide) ?_))
  refine Lib.hid ?_
  go_wp2_with (go_at_call 36; refine hy.mono ?_; rintro e w6 ⟨s, rfl, hs3, hc3, hg3⟩)
  go_ret
  exact ⟨s, rfl, by omega, hc3, grown_trans G5.out hg3⟩
 ·by_cases c1 : k = 1
  ·subst c1
   have hy := l01Bent_any D5.out T hz
   unfold BentPost at hy
   refine Lib.hid ?_
   go_wp2_with (go_at_call 37; refine hy.mono ?_; rintro e w6 ⟨s, rfl, hs5, hc5, hg5⟩)
   go_ret
   exact ⟨s, rfl, hs5, hc5, grown_trans G5.out hg5⟩
  ·refine Lib.hid ?_
   go_wp2
   go_ret
   exact ⟨T, rfl, by omega, D5.out.cur, G5.out⟩
def AsmDrawn (w : World) (e : Ending) (w' : World) : Prop := ∃ s : ByteArray, e = .returned (.string s) ∧ s.size ≤ 1100 ∧ Below w.heap.size w w'
set_option maxRecDepth 100000 in
set_option maxHeartbeats 4000000 in
theorem drawAsm_any (B n c : Nat) (A : Option Addr) (w : World) (hB : B ≤ w.heap.size) (hcode : Code w B A n) :
  Calls Tryz.prog 20 #[.slice A n c] w (AsmDrawn w) := by
 have hN := l01New_any B n c A w hcode
 have HD := fun (w1 : World) hc hb => new_drawn (c := c) (w1 := w1) hB hcode hc hb
 clear hcode
 unfold NewPost at hN
 unfold AsmDrawn
 go_enter Tryz.func20, Tryz.ntmps20
 go_wp2_with (go_at_call 33; refine hN.mono ?_; rintro e w1 ⟨rfl, hc, hb⟩; refine Hid.out ?_)
 have hy := l13Line_any (HD w1 hc hb)
 have hb := Lib.hid hb
 unfold BentPost at hy
 clear hN HD hc
 refine Lib.hid ?_
 go_wp2_with (go_at_call 50; refine hy.mono ?_; rintro e w2 ⟨s, rfl, hs, hc, hg⟩)
 go_ret
 exact ⟨s, rfl, hs, hb.out.grown hg hb.out.size (fun k hk => by cases hk; exact Nat.le_refl _)⟩
end Go.Proofs.YtboeaeoefoabdaaGreatDoor
namespace Go.Proofs.YtboeaeoefoabdaaGreatDoor
open Go.RowKit
def nameL (S : List UInt8) : List UInt8 := S.takeWhile (fun c => c != 32)
def restB (S : List UInt8) : List UInt8 := (S.dropWhile (fun c => c != 32)).drop 1
def NoS (N : List UInt8) : Prop := ∀ c ∈ N, c ≠ 32
theorem cut_at (N r : List UInt8) (h : NoS N) : nameL (N ++ 32 :: r) = N ∧ restB (N ++ 32 :: r) = r := by
 unfold nameL restB
 induction N with
 | nil => simp
 | cons c N ih =>
  have hc := h c (by simp)
  have ih := ih fun x hx => h x (by simp [hx])
  rw [List.cons_append, List.dropWhile_cons, List.takeWhile_cons, if_pos (by simp [hc]), if_pos (by simp [hc])]
  exact ⟨by rw [ih.1], ih.2⟩
theorem cut_nil (N : List UInt8) (h : NoS N) : nameL N = N ∧ restB N = [] := by
 unfold nameL restB
 induction N with
 | nil => simp
 | cons c N ih =>
  have hc := h c (by simp)
  have ih := ih fun x hx => h x (by simp [hx])
  rw [List.dropWhile_cons, List.takeWhile_cons, if_pos (by simp [hc]), if_pos (by simp [hc])]
  exact ⟨by rw [ih.1], ih.2⟩
end Go.Proofs.YtboeaeoefoabdaaGreatDoor
