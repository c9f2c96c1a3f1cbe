/-
  Texts put together by program: DrA, BvA, BvB, AlA, AlH, BvC, ShB2, WoB, AlB, AlC, AlD, AlE, AlF, AlG.
  Conditions: as each theorem says.
-/
import Derived.Test.YthklebkpoccblaaGreatRqbw
namespace Go.Proofs.YthklebkpoccblaaGreat
open Go.RowKit
theorem rowB_mk {W : World} {a : Addr} {n : Nat} {zs : List Int} (hm : n ≤ maxLen) (hz : n ≤ zs.length) (hc : ∀ i, i < zs.length → W.cell? (a.add i) = some (.int .u8 (zs.getD i 0))) (hw : ∀ z ∈ zs, (Lit.int .u8 z).wf = true) : RowB W (some a) n := by
 refine ⟨hm, ?_⟩
 rcases Nat.eq_zero_or_pos n with h0 | h0
 ·exact .inl h0
 ·right
  obtain ⟨b, off, rfl, hcc⟩ := ints_at hc (by omega)
  refine ⟨b, off, rfl, World.block_lt_of_cell? _ _ (hcc 0 (by omega)), fun i hi => ⟨zs.getD i 0, ?_, ?_, hcc i (by omega)⟩⟩
  ·have := (range_u8 hw i).1
   simpa [List.getD] using this
  ·have := (range_u8 hw i).2
   simpa [List.getD] using this
end Go.Proofs.YthklebkpoccblaaGreat
namespace Go.Proofs.YthklebkpoccblaaGreat
theorem wrap_small (k : IntKind) (hk : k ≠ .i8) (n : Int) (h : 0 ≤ n ∧ n < 256) : k.wrap n = n := by
 cases k <;> first | exact absurd rfl hk | (simp [IntKind.wrap, IntKind.bits, IntKind.signed] <;> (try split) <;> omega)
theorem and_small_k (k : IntKind) (hk : k ≠ .i8) (x m : Int) (hm : 0 ≤ m ∧ m < 256) : 0 ≤ bits .and k x m ∧ bits .and k x m < 256 := by
 obtain ⟨n, rfl⟩ : ∃ n : Nat, m = n := ⟨m.toNat, by omega⟩
 have hn : n < 256 := by omega
 unfold bits
 simp only []
 have h : (BitVec.ofInt k.bits x &&& BitVec.ofInt k.bits (n : Int)).toNat ≤ n := by
  rw [BitVec.ofInt_natCast, BitVec.toNat_and, BitVec.toNat_ofNat]
  exact Nat.le_trans Nat.and_le_right (Nat.mod_le _ _)
 generalize (BitVec.ofInt k.bits x &&& BitVec.ofInt k.bits (n : Int)).toNat = z at h
 rw [wrap_small k hk z (by omega)]
 omega
theorem and_val_k (k : IntKind) (hk : k ≠ .i8) (x m : Int) (hm : 0 ≤ m ∧ m < 256) : bits .and k x m = ((B8 x &&& B8 m).toNat : Int) := by
 have h := and_small_k k hk x m hm
 rw [B8_val _ h.1 h.2, B8_bits]
 rfl
theorem tst_255 (v : Int) : tst v 255 = (v % 256 != 0) := by
 unfold tst
 rw [show B8 255 = BitVec.allOnes 8 by decide, BitVec.and_allOnes]
 have h := B8_nat v
 rw [Bool.eq_iff_iff, bne_iff_ne, bne_iff_ne, Ne, Ne, not_congr]
 constructor
 ·intro h1; rw [h1] at h; simp at h; omega
 ·intro h1; apply BitVec.eq_of_toNat_eq; have : (B8 v).toNat = 0 := by omega
  rw [this]; rfl
theorem byte_0 (v : Int) (h : 0 ≤ v ∧ v < 256) : (v == 0) = (!tst v 255) := by
 rw [tst_255, Int.emod_eq_of_lt h.1 h.2]
 unfold bne
 rw [Bool.not_not]
theorem cI_tst (p : Int) : cI p = if tst p 1 then 1 else 0 := by
 have h := cI_bd p
 have e : (tst p 1 = true) ↔ cI p ≠ 0 := by
  unfold tst cI
  rw [bne_iff_ne, show B8 1 = 1 by decide, Ne, Ne, not_congr]
  constructor
  ·intro h; rw [h]; rfl
  ·intro h; apply BitVec.eq_of_toNat_eq; have : (B8 p &&& 1).toNat = 0 := by omega
   rw [this]; rfl
 split
 ·rename_i h1; have := e.1 h1; omega
 ·rename_i h1; have : ¬ cI p ≠ 0 := fun h2 => h1 (e.2 h2)
  omega
theorem u8_and (a m : Int) : bits .and .u8 a m = ((B8 a &&& B8 m).toNat : Int) := bits_u8_val .and a m
theorem u8_15 (a : Int) : bits .and .u8 a 15 = a % 16 := by rw [u8_and]; exact B8_15 a
theorem u8_240 (a : Int) : bits .and .u8 a 240 = a % 256 / 16 * 16 := by rw [u8_and]; exact B8_240 a
theorem k_15 (k : IntKind) (hk : k ≠ .i8) (a : Int) : bits .and k a 15 = a % 16 := by rw [and_val_k k hk a 15 (by omega)]; exact B8_15 a
end Go.Proofs.YthklebkpoccblaaGreat
namespace Go.Proofs.YthklebkpoccblaaGreat
theorem cI_mod (p : Int) : cI (p % 256) = cI p := by unfold cI; rw [B8_mod]
theorem nzI_bd (p v : Int) : 0 ≤ nzI p v ∧ nzI p v < 256 := wI_bd _ _ _
theorem nzI_mod (p v : Int) : nzI (p % 256) v = nzI p v := by unfold nzI; rw [wI_mod]
theorem nzI_congr (p : Int) {v v' : Int} (h : v % 256 = v' % 256) : nzI p v = nzI p v' := by rw [← nzI_mod', h, nzI_mod']
theorem sg_mod' (a b r : Int) : sg a b (r % 256) = sg a b r := by unfold sg; rw [B8_mod]
theorem sg_u8 (a b r : Int) : tst (bits .and .u8 (bits .xor .u8 a r) (bits .xor .u8 b r)) 128 = sg a b r := by
 unfold tst; rw [B8_bits, B8_bits, B8_bits]; rfl
theorem rI_mod (p a b : Int) : rI (p % 256) (a % 256) (b % 256) = rI p a b := by unfold rI; rw [cI_mod]; omega
theorem sI_mod (p a b : Int) : sI (p % 256) (a % 256) (b % 256) = sI p a b := by
 unfold sI; rw [cI_mod, show a % 256 % 16 = a % 16 by omega, show b % 256 % 16 = b % 16 by omega, Int.emod_emod, Int.emod_emod]
theorem binN_mod (p a b : Int) : binN (p % 256) (a % 256) (b % 256) = binN p a b := by unfold binN; rw [rI_mod, nzI_mod, sg_mod]
theorem tenN_mod (p a b : Int) : tenN (p % 256) (a % 256) (b % 256) = tenN p a b := by unfold tenN; rw [rI_mod, sI_mod, nzI_mod, sg_mod]
theorem addN_bd (p a b : Int) : 0 ≤ addN p a b ∧ addN p a b < 256 := by unfold addN tenN binN; split <;> exact wI_bd _ _ _
theorem w8_same (p f : BitVec 8) (a b : Bool) : w8 (w8 p f a) f b = w8 p f b := by
 apply BitVec.eq_of_getLsbD_eq
 intro i hi
 rw [w8_bit _ _ _ _ hi, w8_bit _ _ _ _ hi, w8_bit _ _ _ _ hi]
 split <;> rfl
theorem ten_over (p : Int) (b1 b2 b3 b4 b5 : Bool) :
  wI (wI (wI (wI (wI p 64 b1) 1 b2) 128 b3) 64 b4) 1 b5 = wI (wI (wI p 128 b3) 64 b4) 1 b5 := by
 apply wI_eq
 simp only [wI_B8, show B8 64 = 64 by decide, show B8 1 = 1 by decide, show B8 128 = 128 by decide]
 generalize B8 p = P
 rw [w8_swap (w8 P 64 b1) 1 128 b2 b3 (by decide), w8_swap P 64 128 b1 b3 (by decide), w8_swap (w8 (w8 P 128 b3) 64 b1) 1 64 b2 b4 (by decide), w8_same _ 64, w8_same _ 1]
theorem bin_close (p a b : Int) (ha : 0 ≤ a ∧ a < 256) (hb : 0 ≤ b ∧ b < 256) :
  wI (wI (nzI p ((a + b + cI p) % 256)) 64 (sg a b ((a + b + cI p) % 256))) 1 (decide (255 < a + b + cI p)) = binN p a b ∧ (a + b + cI p) % 256 = rI p a b % 256 := by
 unfold binN rI
 rw [Int.emod_eq_of_lt ha.1 ha.2, Int.emod_eq_of_lt hb.1 hb.2, nzI_mod', sg_mod']
 exact ⟨rfl, rfl⟩
theorem ten_close2 (p a b s u : Int) (hs : sI p a b = s) (hu : upI s = u) :
  wI (wI (wI (binN p a b) 128 (tst (s % 256) 128)) 64 (sg a b (s % 256))) 1 (decide (255 < u)) = tenN p a b ∧ u % 256 = upI (sI p a b) % 256 := by
 subst hs hu
 refine ⟨?_, rfl⟩
 rw [tst_mod, sg_mod']
 unfold binN
 rw [ten_over]
 unfold tenN
 rw [show (decide (255 < upI (sI p a b))) = decide (256 ≤ upI (sI p a b)) from decide_eq_decide.2 (by omega)]
end Go.Proofs.YthklebkpoccblaaGreat
namespace Go.Proofs.YthklebkpoccblaaGreat
open Go.RowKit
theorem carry_of (p : Int) (w : World) :
  Calls Tryz.prog 212 #[.int .u8 p] w fun e w' => e = .returned (.int .u8 (cI p)) ∧ w = w' := by
 have hs := is_set p 1
 have H := Lib.hid (cI_tst p)
 go_enter Tryz.func212, Tryz.ntmps212
 go_wp2_with (go_at_call 198; refine (hs _).mono ?_; rintro e w' ⟨rfl, rfl⟩)
 all_goals go_ret
 all_goals (rename_i ht; rw [ht] at H; exact ⟨by rw [H.out]; rfl, rfl⟩)
theorem is_high (v : Int) (w : World) :
  Calls Tryz.prog 204 #[.int .u8 v] w fun e w' => e = .returned (.bool (tst v 128)) ∧ w = w' := by
 have H := Lib.hid (tst_u8 v 128)
 go_enter Tryz.func204, Tryz.ntmps204
 go_wp2
 go_ret
 exact ⟨by rw [← H.out]; rfl, rfl⟩
theorem with_nz (p v : Int) (hv : 0 ≤ v ∧ v < 256) (w : World) :
  Calls Tryz.prog 197 #[.int .u8 p, .int .u8 v] w fun e w' => e = .returned (.int .u8 (nzI p v)) ∧ w = w' := by
 have hw := with_flag
 have hs := is_high v
 have H := Lib.hid (byte_0 v hv)
 have HW := Lib.hid hw
 clear hw
 go_enter Tryz.func197, Tryz.ntmps197
 go_wp2_with (first
  | (go_at_call 204; refine (hs _).mono ?_; rintro e w' ⟨rfl, rfl⟩)
  | (go_at_call 126; refine (HW.out _ _ _ _).mono ?_; rintro e w' ⟨rfl, rfl⟩))
 go_ret
 exact ⟨by unfold nzI; rw [← H.out]; rfl, rfl⟩
end Go.Proofs.YthklebkpoccblaaGreat
namespace Go.Proofs.YthklebkpoccblaaGreat
open Go.RowKit
theorem impl_nz (p v : Int) (w : World) :
  Calls Tryz.prog 185 #[.int .i64 p, .int .i64 v] w fun e w' => e = .returned (.int .i64 (nzI p v)) ∧ w = w' := by
 have HW := Lib.hid with_nz
 have hb := nzI_bd p v
 go_enter Tryz.func185, Tryz.ntmps185
 go_wp2_with (go_at_call 197; refine (HW.out _ _ (by omega) _).mono ?_; rintro e w' ⟨rfl, rfl⟩; rw [nzI_mod, nzI_mod'])
 go_ret
 exact ⟨rfl, rfl⟩
end Go.Proofs.YthklebkpoccblaaGreat
namespace Go.Proofs.YthklebkpoccblaaGreat
theorem B8_flip (b c : Int) (h : c % 256 = 255 - b % 256) : B8 c = ~~~B8 b := by
 apply BitVec.eq_of_toNat_eq
 have h1 := B8_nat c
 have h2 := B8_nat b
 rw [BitVec.toNat_not]
 have := (B8 b).isLt
 omega
theorem flip_sign (x y r : BitVec 8) : (x ^^^ r) &&& (~~~y ^^^ r) = (x ^^^ y) &&& (x ^^^ r) := by
 apply BitVec.eq_of_getLsbD_eq
 intro i hi
 simp only [BitVec.getLsbD_and, BitVec.getLsbD_xor, BitVec.getLsbD_not, hi, decide_true, Bool.true_and]
 cases x.getLsbD i <;> cases y.getLsbD i <;> cases r.getLsbD i <;> rfl
theorem sub_bin (p a b c : Int) (h : c % 256 = 255 - b % 256) : binN p a c = subN p a b ∧ rI p a c % 256 = dI p a b % 256 := by
 have hr : rI p a c = dI p a b + 256 := by unfold rI dI; omega
 unfold binN subN
 rw [hr]
 refine ⟨?_, by omega⟩
 have e1 : nzI p (dI p a b + 256) = nzI p (dI p a b) := nzI_congr p (by omega)
 have e2 : sg a c (dI p a b + 256) = sgs a b (dI p a b) := by
  unfold sg sgs
  rw [B8_flip b c h, show B8 (dI p a b + 256) = B8 (dI p a b) from B8_eq (by omega), flip_sign]
 have e3 : decide (255 < dI p a b + 256) = decide (0 ≤ dI p a b) := decide_eq_decide.2 (by omega)
 rw [e1, e2, e3]
 apply wI_eq
 rw [wI_B8, wI_B8]
 exact w8_swap _ _ _ _ _ (by decide)
theorem dI_mod (p a b : Int) : dI (p % 256) (a % 256) (b % 256) = dI p a b := by unfold dI; rw [cI_mod]; omega
theorem tI_mod (p a b : Int) : tI (p % 256) (a % 256) (b % 256) = tI p a b := by
 unfold tI; rw [cI_mod, show a % 256 % 16 = a % 16 by omega, show b % 256 % 16 = b % 16 by omega, Int.emod_emod, Int.emod_emod]
theorem subN_mod (p a b : Int) : subN (p % 256) (a % 256) (b % 256) = subN p a b := by unfold subN; rw [dI_mod, nzI_mod, sgs_mod]
theorem subN_bd (p a b : Int) : 0 ≤ subN p a b ∧ subN p a b < 256 := wI_bd _ _ _
theorem cmpN_bd (p a b : Int) : 0 ≤ cmpN p a b ∧ cmpN p a b < 256 := wI_bd _ _ _
theorem flip_u8 (y : Int) : bits .xor .u8 IntKind.u8.max y % 256 = 255 - y % 256 := by
 rw [bits_u8_val, show IntKind.u8.max = 255 from rfl]
 unfold bop
 simp only []
 rw [show B8 255 = BitVec.allOnes 8 by decide, BitVec.allOnes_xor, BitVec.toNat_not]
 have h1 := B8_nat y
 have := (B8 y).isLt
 omega
theorem tI_alt (p a b : Int) (ha : 0 ≤ a ∧ a < 256) (hb : 0 ≤ b ∧ b < 256) : tI p a b = a / 16 * 16 - b / 16 * 16 + lowS (a % 16 - b % 16 - 1 + cI p) := by
 unfold tI
 rw [Int.emod_eq_of_lt ha.1 ha.2, Int.emod_eq_of_lt hb.1 hb.2, show a % 16 - b % 16 - 1 + cI p = a % 16 - b % 16 + (cI p - 1) by omega]
end Go.Proofs.YthklebkpoccblaaGreat
namespace Go.Proofs.YthklebkpoccblaaGreat
open Go.RowKit
def ShPostB (kind p v : Int) (w : World) (e : Ending) (w' : World) : Prop := e = .returned (.tuple #[.int .i64 (shN kind p v), .int .i64 (shR kind p v)]) ∧ Below w.heap.size w w'
def TwoPost (a b : Int) (w : World) (e : Ending) (w' : World) : Prop := e = .returned (.tuple #[.int .u8 a, .int .u8 b]) ∧ w = w'
theorem rotateLeft_0 (v : Int) (h : 0 ≤ v ∧ v < 256) (w : World) : Calls Tryz.prog 210 #[.int .u8 v, .int .u8 0] w (TwoPost (v * 2 % 256) (v / 128) w) := by
 have ho := or1 v h
 have ho1 := ho.2.2.1
 have ho2 := ho.2.2.2.1
 have ho3 := ho.2.2.2.2.1
 have ho4 := ho.2.2.2.2.2
 have hh := (hi_bit v h).2.2
 clear ho
 go_enter Tryz.func210, Tryz.ntmps210
 go_wp2
 go_ret2
 exact ⟨rfl, rfl⟩
theorem rotateLeft_1 (v : Int) (h : 0 ≤ v ∧ v < 256) (w : World) : Calls Tryz.prog 210 #[.int .u8 v, .int .u8 1] w (TwoPost (v * 2 % 256 + 1) (v / 128) w) := by
 have ho := or1 v h
 have ho1 := ho.2.2.1
 have ho2 := ho.2.2.2.1
 have ho3 := ho.2.2.2.2.1
 have ho4 := ho.2.2.2.2.2
 have hh := (hi_bit v h).2.2
 clear ho
 go_enter Tryz.func210, Tryz.ntmps210
 go_wp2
 go_ret2
 exact ⟨rfl, rfl⟩
theorem rotateRight_0 (v : Int) (h : 0 ≤ v ∧ v < 256) (w : World) : Calls Tryz.prog 211 #[.int .u8 v, .int .u8 0] w (TwoPost (v / 2) (v % 2) w) := by
 have ho := or1 v h
 have ho1 := ho.2.2.1
 have ho2 := ho.2.2.2.1
 have ho3 := ho.2.2.2.2.1
 have ho4 := ho.2.2.2.2.2
 have hh := (hi_bit v h).2.2
 clear ho
 go_enter Tryz.func211, Tryz.ntmps211
 go_wp2
 go_ret2
 exact ⟨rfl, rfl⟩
theorem rotateRight_1 (v : Int) (h : 0 ≤ v ∧ v < 256) (w : World) : Calls Tryz.prog 211 #[.int .u8 v, .int .u8 1] w (TwoPost (v / 2 + 128) (v % 2) w) := by
 have ho := or1 v h
 have ho1 := ho.2.2.1
 have ho2 := ho.2.2.2.1
 have ho3 := ho.2.2.2.2.1
 have ho4 := ho.2.2.2.2.2
 have hh := (hi_bit v h).2.2
 clear ho
 go_enter Tryz.func211, Tryz.ntmps211
 go_wp2
 go_ret2
 exact ⟨rfl, rfl⟩
theorem shiftLeft_any (v c : Int) (h : 0 ≤ v ∧ v < 256) (w : World) : Calls Tryz.prog 208 #[.int .u8 v, .int .u8 c] w (TwoPost (v * 2 % 256) (v / 128) w) := by
 have hr := rotateLeft_0 v h w
 go_enter Tryz.func208, Tryz.ntmps208
 go_wp2_with (go_at_call 210; refine hr.mono ?_; rintro e w' ⟨rfl, rfl⟩)
 go_ret2
 exact ⟨rfl, rfl⟩
theorem shiftRight_any (v c : Int) (h : 0 ≤ v ∧ v < 256) (w : World) : Calls Tryz.prog 209 #[.int .u8 v, .int .u8 c] w (TwoPost (v / 2) (v % 2) w) := by
 have hr := rotateRight_0 v h w
 go_enter Tryz.func209, Tryz.ntmps209
 go_wp2_with (go_at_call 211; refine hr.mono ?_; rintro e w' ⟨rfl, rfl⟩)
 go_ret2
 exact ⟨rfl, rfl⟩
theorem below_new (w : World) (o : Obj) : Below w.heap.size w (w.alloc o) := (Below.refl w.heap.size w).alloc (Nat.le_refl _) o
theorem below_new_drew (w : World) (o : Obj) (n : Nat) : Below w.heap.size w ((w.alloc o).drewN n) := by
 have h := (Below.refl w.heap.size w).alloc (Nat.le_refl _) o
 exact ⟨h.os, h.tape, h.output, h.size, h.block⟩
set_option maxHeartbeats 1000000 in
theorem impl_shift_0 (p v : Int) (w : World) : Calls Tryz.prog 203 #[.int .i64 p, .int .i64 0, .int .i64 v] w (ShPostB 0 p v w) := by
 have hr : shR 0 p v = v % 256 * 2 % 256 := by unfold shR; simp
 have hn : shN 0 p v = wI (nzI p (v % 256 * 2 % 256)) 1 (v % 256 / 128 != 0) := by
  rw [shN_yes 0 p v (by omega), hr]
  unfold shG
  congr 1
  rw [Bool.eq_iff_iff]
  simp
  omega
 have H := Lib.hid (And.intro hn hr)
 clear hn hr
 have hC := fun w => carry_of (p % 256) w
 rw [cI_mod] at hC
 have HC := Lib.hid hC
 have HN := Lib.hid with_nz
 have HW := Lib.hid with_flag
 have HX := Lib.hid (fun w => shiftLeft_any (v % 256) (cI p) (by omega) w)
 have b1 := wI_bd (nzI p (v % 256 * 2 % 256)) 1 (v % 256 / 128 != 0)
 clear hC
 go_enter Tryz.func203, Tryz.ntmps203
 go_wp2
 go_quiet (first
  | exact (HC.out _).mono fun _ _ ⟨he, hw⟩ => ⟨he, _, hw.symm⟩
  | exact (HX.out _).mono fun _ _ ⟨he, hw⟩ => ⟨he, _, hw.symm⟩)
 go_wp2_with (first
  | (go_at_call 197; refine (HN.out _ _ (by omega) _).mono ?_; rintro e w' ⟨rfl, rfl⟩; rw [nzI_mod])
  | (go_at_call 126; refine (HW.out _ _ _ _).mono ?_; rintro e w' ⟨rfl, rfl⟩))
 go_ret2
 exact ⟨by rw [H.out.1, H.out.2]; rfl, below_new_drew w _ nq⟩
set_option maxHeartbeats 1000000 in
theorem impl_shift_1 (p v : Int) (w : World) : Calls Tryz.prog 203 #[.int .i64 p, .int .i64 1, .int .i64 v] w (ShPostB 1 p v w) := by
 have hr : shR 1 p v = v % 256 / 2 := by unfold shR; simp
 have hn : shN 1 p v = wI (nzI p (v % 256 / 2)) 1 (v % 2 != 0) := by
  rw [shN_yes 1 p v (by omega), hr]
  unfold shG
  congr 1
  rw [Bool.eq_iff_iff]
  simp
  try omega
 have H := Lib.hid (And.intro hn hr)
 clear hn hr
 have hC := fun w => carry_of (p % 256) w
 rw [cI_mod] at hC
 have HC := Lib.hid hC
 have HN := Lib.hid with_nz
 have HW := Lib.hid with_flag
 have HX := Lib.hid (fun w => shiftRight_any (v % 256) (cI p) (by omega) w)
 have b1 := wI_bd (nzI p (v % 256 / 2)) 1 (v % 2 != 0)
 clear hC
 go_enter Tryz.func203, Tryz.ntmps203
 go_wp2
 go_quiet (first
  | exact (HC.out _).mono fun _ _ ⟨he, hw⟩ => ⟨he, _, hw.symm⟩
  | exact (HX.out _).mono fun _ _ ⟨he, hw⟩ => ⟨he, _, hw.symm⟩)
 go_wp2_with (first
  | (go_at_call 197; refine (HN.out _ _ (by omega) _).mono ?_; rintro e w' ⟨rfl, rfl⟩; rw [nzI_mod])
  | (go_at_call 126; refine (HW.out _ _ _ _).mono ?_; rintro e w' ⟨rfl, rfl⟩))
 go_ret2
 exact ⟨by rw [H.out.1, H.out.2]; rfl, below_new_drew w _ nq⟩
set_option maxHeartbeats 1000000 in
theorem impl_shift_2_0 (p v : Int) (hc : cI p = 0) (w : World) : Calls Tryz.prog 203 #[.int .i64 p, .int .i64 2, .int .i64 v] w (ShPostB 2 p v w) := by
 have hr : shR 2 p v = v % 256 * 2 % 256 := by unfold shR; simp [hc]
 have hn : shN 2 p v = wI (nzI p (v % 256 * 2 % 256)) 1 (v % 256 / 128 != 0) := by
  rw [shN_yes 2 p v (by omega), hr]
  unfold shG
  congr 1
  rw [Bool.eq_iff_iff]
  simp
  omega
 have H := Lib.hid (And.intro hn hr)
 clear hn hr
 have hC := fun w => carry_of (p % 256) w
 rw [cI_mod, hc] at hC
 have HC := Lib.hid hC
 have HN := Lib.hid with_nz
 have HW := Lib.hid with_flag
 have HX := Lib.hid (fun w => rotateLeft_0 (v % 256) (by omega) w)
 have b1 := wI_bd (nzI p (v % 256 * 2 % 256)) 1 (v % 256 / 128 != 0)
 clear hC
 go_enter Tryz.func203, Tryz.ntmps203
 go_wp2
 go_quiet (first
  | exact (HC.out _).mono fun _ _ ⟨he, hw⟩ => ⟨he, _, hw.symm⟩
  | exact (HX.out _).mono fun _ _ ⟨he, hw⟩ => ⟨he, _, hw.symm⟩)
 go_wp2_with (first
  | (go_at_call 197; refine (HN.out _ _ (by omega) _).mono ?_; rintro e w' ⟨rfl, rfl⟩; rw [nzI_mod])
  | (go_at_call 126; refine (HW.out _ _ _ _).mono ?_; rintro e w' ⟨rfl, rfl⟩))
 go_ret2
 exact ⟨by rw [H.out.1, H.out.2]; rfl, below_new_drew w _ nq⟩
set_option maxHeartbeats 1000000 in
theorem impl_shift_2_1 (p v : Int) (hc : cI p = 1) (w : World) : Calls Tryz.prog 203 #[.int .i64 p, .int .i64 2, .int .i64 v] w (ShPostB 2 p v w) := by
 have hr : shR 2 p v = v % 256 * 2 % 256 + 1 := by unfold shR; simp [hc]
 have hn : shN 2 p v = wI (nzI p (v % 256 * 2 % 256 + 1)) 1 (v % 256 / 128 != 0) := by
  rw [shN_yes 2 p v (by omega), hr]
  unfold shG
  congr 1
  rw [Bool.eq_iff_iff]
  simp
  omega
 have H := Lib.hid (And.intro hn hr)
 clear hn hr
 have hC := fun w => carry_of (p % 256) w
 rw [cI_mod, hc] at hC
 have HC := Lib.hid hC
 have HN := Lib.hid with_nz
 have HW := Lib.hid with_flag
 have HX := Lib.hid (fun w => rotateLeft_1 (v % 256) (by omega) w)
 have b1 := wI_bd (nzI p (v % 256 * 2 % 256 + 1)) 1 (v % 256 / 128 != 0)
 clear hC
 go_enter Tryz.func203, Tryz.ntmps203
 go_wp2
 go_quiet (first
  | exact (HC.out _).mono fun _ _ ⟨he, hw⟩ => ⟨he, _, hw.symm⟩
  | exact (HX.out _).mono fun _ _ ⟨he, hw⟩ => ⟨he, _, hw.symm⟩)
 go_wp2_with (first
  | (go_at_call 197; refine (HN.out _ _ (by omega) _).mono ?_; rintro e w' ⟨rfl, rfl⟩; rw [nzI_mod])
  | (go_at_call 126; refine (HW.out _ _ _ _).mono ?_; rintro e w' ⟨rfl, rfl⟩))
 go_ret2
 exact ⟨by rw [H.out.1, H.out.2]; rfl, below_new_drew w _ nq⟩
set_option maxHeartbeats 1000000 in
theorem impl_shift_3_0 (p v : Int) (hc : cI p = 0) (w : World) : Calls Tryz.prog 203 #[.int .i64 p, .int .i64 3, .int .i64 v] w (ShPostB 3 p v w) := by
 have hr : shR 3 p v = v % 256 / 2 := by unfold shR; simp [hc]
 have hn : shN 3 p v = wI (nzI p (v % 256 / 2)) 1 (v % 2 != 0) := by
  rw [shN_yes 3 p v (by omega), hr]
  unfold shG
  congr 1
  rw [Bool.eq_iff_iff]
  simp
  try omega
 have H := Lib.hid (And.intro hn hr)
 clear hn hr
 have hC := fun w => carry_of (p % 256) w
 rw [cI_mod, hc] at hC
 have HC := Lib.hid hC
 have HN := Lib.hid with_nz
 have HW := Lib.hid with_flag
 have HX := Lib.hid (fun w => rotateRight_0 (v % 256) (by omega) w)
 have b1 := wI_bd (nzI p (v % 256 / 2)) 1 (v % 2 != 0)
 clear hC
 go_enter Tryz.func203, Tryz.ntmps203
 go_wp2
 go_quiet (first
  | exact (HC.out _).mono fun _ _ ⟨he, hw⟩ => ⟨he, _, hw.symm⟩
  | exact (HX.out _).mono fun _ _ ⟨he, hw⟩ => ⟨he, _, hw.symm⟩)
 go_wp2_with (first
  | (go_at_call 197; refine (HN.out _ _ (by omega) _).mono ?_; rintro e w' ⟨rfl, rfl⟩; rw [nzI_mod])
  | (go_at_call 126; refine (HW.out _ _ _ _).mono ?_; rintro e w' ⟨rfl, rfl⟩))
 go_ret2
 exact ⟨by rw [H.out.1, H.out.2]; rfl, below_new_drew w _ nq⟩
set_option maxHeartbeats 1000000 in
theorem impl_shift_3_1 (p v : Int) (hc : cI p = 1) (w : World) : Calls Tryz.prog 203 #[.int .i64 p, .int .i64 3, .int .i64 v] w (ShPostB 3 p v w) := by
 have hr : shR 3 p v = v % 256 / 2 + 128 := by unfold shR; simp [hc]
 have hn : shN 3 p v = wI (nzI p (v % 256 / 2 + 128)) 1 (v % 2 != 0) := by
  rw [shN_yes 3 p v (by omega), hr]
  unfold shG
  congr 1
  rw [Bool.eq_iff_iff]
  simp
  try omega
 have H := Lib.hid (And.intro hn hr)
 clear hn hr
 have hC := fun w => carry_of (p % 256) w
 rw [cI_mod, hc] at hC
 have HC := Lib.hid hC
 have HN := Lib.hid with_nz
 have HW := Lib.hid with_flag
 have HX := Lib.hid (fun w => rotateRight_1 (v % 256) (by omega) w)
 have b1 := wI_bd (nzI p (v % 256 / 2 + 128)) 1 (v % 2 != 0)
 clear hC
 go_enter Tryz.func203, Tryz.ntmps203
 go_wp2
 go_quiet (first
  | exact (HC.out _).mono fun _ _ ⟨he, hw⟩ => ⟨he, _, hw.symm⟩
  | exact (HX.out _).mono fun _ _ ⟨he, hw⟩ => ⟨he, _, hw.symm⟩)
 go_wp2_with (first
  | (go_at_call 197; refine (HN.out _ _ (by omega) _).mono ?_; rintro e w' ⟨rfl, rfl⟩; rw [nzI_mod])
  | (go_at_call 126; refine (HW.out _ _ _ _).mono ?_; rintro e w' ⟨rfl, rfl⟩))
 go_ret2
 exact ⟨by rw [H.out.1, H.out.2]; rfl, below_new_drew w _ nq⟩
theorem impl_shift_no (kind p v : Int) (h : ¬ (0 ≤ kind ∧ kind ≤ 3)) (w : World) : Calls Tryz.prog 203 #[.int .i64 p, .int .i64 kind, .int .i64 v] w (ShPostB kind p v w) := by
 have H := Lib.hid (shN_no kind p v h)
 by_cases h0 : kind < 0
 ·clear h
  go_enter Tryz.func203, Tryz.ntmps203
  go_wp2
  go_ret2
  exact ⟨by rw [H.out.1, H.out.2]; rfl, below_new w _⟩
 ·have h4 : 4 ≤ kind := by omega
  clear h
  go_enter Tryz.func203, Tryz.ntmps203
  go_wp2
  go_ret2
  exact ⟨by rw [H.out.1, H.out.2]; rfl, below_new w _⟩
theorem impl_shift (p kind v : Int) (w : World) : Calls Tryz.prog 203 #[.int .i64 p, .int .i64 kind, .int .i64 v] w (ShPostB kind p v w) := by
 by_cases h : 0 ≤ kind ∧ kind ≤ 3
 ·have hc : cI p = 0 ∨ cI p = 1 := by have := cI_bd p; omega
  obtain rfl | rfl | rfl | rfl : kind = 0 ∨ kind = 1 ∨ kind = 2 ∨ kind = 3 := by omega
  ·exact impl_shift_0 p v w
  ·exact impl_shift_1 p v w
  ·exact hc.elim (fun h => impl_shift_2_0 p v h w) (fun h => impl_shift_2_1 p v h w)
  ·exact hc.elim (fun h => impl_shift_3_0 p v h w) (fun h => impl_shift_3_1 p v h w)
 ·exact impl_shift_no kind p v h w
end Go.Proofs.YthklebkpoccblaaGreat
namespace Go.Proofs.YthklebkpoccblaaGreat
open Go.RowKit
theorem set_two (p v : Int) (w : World) : Calls Tryz.prog 165 #[.int .i64 p, .int .i64 v] w fun e w' => e = .returned (.tuple #[.int .i64 (v % 256), .int .i64 (nzI p (v % 256))]) ∧ w = w' := by
 have HN := Lib.hid (fun u w => impl_nz p u w)
 go_enter Tryz.func165, Tryz.ntmps165
 go_wp2_with (go_at_call 185; refine (HN.out _ _).mono ?_; rintro e w' ⟨rfl, rfl⟩)
 go_ret2
 exact ⟨rfl, rfl⟩
set_option maxRecDepth 100000 in
set_option maxHeartbeats 1000000 in
theorem with_flag9_CLC (p : Int) (w : World) : Calls Tryz.prog 194 #[.int .i64 p, .string ⟨#[67, 76, 67]⟩] w fun e w' => e = .returned (.int .i64 (flagI p ⟨#[67, 76, 67]⟩)) ∧ w = w' := by
 have HV := Lib.hid (show flagI p ⟨#[67, 76, 67]⟩ = wI p 1 false from rfl)
 have HS := Lib.hid (fun w => impl_with p 1 false w)
 go_enter Tryz.func194, Tryz.ntmps194
 go_wp2_with (go_at_call 160; refine (HS.out _).mono ?_; rintro e w' ⟨rfl, rfl⟩)
 go_ret
 exact ⟨by rw [HV.out]; rfl, rfl⟩
set_option maxRecDepth 100000 in
set_option maxHeartbeats 1000000 in
theorem with_flag9_SEC (p : Int) (w : World) : Calls Tryz.prog 194 #[.int .i64 p, .string ⟨#[83, 69, 67]⟩] w fun e w' => e = .returned (.int .i64 (flagI p ⟨#[83, 69, 67]⟩)) ∧ w = w' := by
 have HV := Lib.hid (show flagI p ⟨#[83, 69, 67]⟩ = wI p 1 true from rfl)
 have HS := Lib.hid (fun w => impl_with p 1 true w)
 go_enter Tryz.func194, Tryz.ntmps194
 go_wp2_with (go_at_call 160; refine (HS.out _).mono ?_; rintro e w' ⟨rfl, rfl⟩)
 go_ret
 exact ⟨by rw [HV.out]; rfl, rfl⟩
set_option maxRecDepth 100000 in
set_option maxHeartbeats 1000000 in
theorem with_flag9_CLI (p : Int) (w : World) : Calls Tryz.prog 194 #[.int .i64 p, .string ⟨#[67, 76, 73]⟩] w fun e w' => e = .returned (.int .i64 (flagI p ⟨#[67, 76, 73]⟩)) ∧ w = w' := by
 have HV := Lib.hid (show flagI p ⟨#[67, 76, 73]⟩ = wI p 4 false from rfl)
 have HS := Lib.hid (fun w => impl_with p 4 false w)
 go_enter Tryz.func194, Tryz.ntmps194
 go_wp2_with (go_at_call 160; refine (HS.out _).mono ?_; rintro e w' ⟨rfl, rfl⟩)
 go_ret
 exact ⟨by rw [HV.out]; rfl, rfl⟩
set_option maxRecDepth 100000 in
set_option maxHeartbeats 1000000 in
theorem with_flag9_SEI (p : Int) (w : World) : Calls Tryz.prog 194 #[.int .i64 p, .string ⟨#[83, 69, 73]⟩] w fun e w' => e = .returned (.int .i64 (flagI p ⟨#[83, 69, 73]⟩)) ∧ w = w' := by
 have HV := Lib.hid (show flagI p ⟨#[83, 69, 73]⟩ = wI p 4 true from rfl)
 have HS := Lib.hid (fun w => impl_with p 4 true w)
 go_enter Tryz.func194, Tryz.ntmps194
 go_wp2_with (go_at_call 160; refine (HS.out _).mono ?_; rintro e w' ⟨rfl, rfl⟩)
 go_ret
 exact ⟨by rw [HV.out]; rfl, rfl⟩
set_option maxRecDepth 100000 in
set_option maxHeartbeats 1000000 in
theorem with_flag9_CLV (p : Int) (w : World) : Calls Tryz.prog 194 #[.int .i64 p, .string ⟨#[67, 76, 86]⟩] w fun e w' => e = .returned (.int .i64 (flagI p ⟨#[67, 76, 86]⟩)) ∧ w = w' := by
 have HV := Lib.hid (show flagI p ⟨#[67, 76, 86]⟩ = wI p 64 false from rfl)
 have HS := Lib.hid (fun w => impl_with p 64 false w)
 go_enter Tryz.func194, Tryz.ntmps194
 go_wp2_with (go_at_call 160; refine (HS.out _).mono ?_; rintro e w' ⟨rfl, rfl⟩)
 go_ret
 exact ⟨by rw [HV.out]; rfl, rfl⟩
set_option maxRecDepth 100000 in
set_option maxHeartbeats 1000000 in
theorem with_flag9_CLD (p : Int) (w : World) : Calls Tryz.prog 194 #[.int .i64 p, .string ⟨#[67, 76, 68]⟩] w fun e w' => e = .returned (.int .i64 (flagI p ⟨#[67, 76, 68]⟩)) ∧ w = w' := by
 have HV := Lib.hid (show flagI p ⟨#[67, 76, 68]⟩ = wI p 8 false from rfl)
 have HS := Lib.hid (fun w => impl_with p 8 false w)
 go_enter Tryz.func194, Tryz.ntmps194
 go_wp2_with (go_at_call 160; refine (HS.out _).mono ?_; rintro e w' ⟨rfl, rfl⟩)
 go_ret
 exact ⟨by rw [HV.out]; rfl, rfl⟩
set_option maxRecDepth 100000 in
set_option maxHeartbeats 1000000 in
theorem with_flag9_SED (p : Int) (w : World) : Calls Tryz.prog 194 #[.int .i64 p, .string ⟨#[83, 69, 68]⟩] w fun e w' => e = .returned (.int .i64 (flagI p ⟨#[83, 69, 68]⟩)) ∧ w = w' := by
 have HV := Lib.hid (show flagI p ⟨#[83, 69, 68]⟩ = wI p 8 true from rfl)
 have HS := Lib.hid (fun w => impl_with p 8 true w)
 go_enter Tryz.func194, Tryz.ntmps194
 go_wp2_with (go_at_call 160; refine (HS.out _).mono ?_; rintro e w' ⟨rfl, rfl⟩)
 go_ret
 exact ⟨by rw [HV.out]; rfl, rfl⟩
set_option maxRecDepth 100000 in
set_option maxHeartbeats 2000000 in
theorem with_flag9_other (p : Int) (n : ByteArray) (hCLC : ¬ n = ⟨#[67, 76, 67]⟩) (hSEC : ¬ n = ⟨#[83, 69, 67]⟩) (hCLI : ¬ n = ⟨#[67, 76, 73]⟩) (hSEI : ¬ n = ⟨#[83, 69, 73]⟩) (hCLV : ¬ n = ⟨#[67, 76, 86]⟩) (hCLD : ¬ n = ⟨#[67, 76, 68]⟩) (hSED : ¬ n = ⟨#[83, 69, 68]⟩) (w : World) : Calls Tryz.prog 194 #[.int .i64 p, .string n] w fun e w' => e = .returned (.int .i64 (flagI p n)) ∧ w = w' := by
 have HV := Lib.hid (show flagI p n = p from by unfold flagI; rw [if_neg hCLC, if_neg hSEC, if_neg hCLI, if_neg hSEI, if_neg hCLV, if_neg hCLD, if_neg hSED])
 have nCLC := ne_list [67, 76, 67] hCLC
 have nSEC := ne_list [83, 69, 67] hSEC
 have nCLI := ne_list [67, 76, 73] hCLI
 have nSEI := ne_list [83, 69, 73] hSEI
 have nCLV := ne_list [67, 76, 86] hCLV
 have nCLD := ne_list [67, 76, 68] hCLD
 have nSED := ne_list [83, 69, 68] hSED
 clear hCLC hSEC hCLI hSEI hCLV hCLD hSED
 go_enter Tryz.func194, Tryz.ntmps194
 go_wp2
 go_ret
 exact ⟨by rw [HV.out]; rfl, rfl⟩
theorem with_flag9 (p : Int) (n : ByteArray) (w : World) : Calls Tryz.prog 194 #[.int .i64 p, .string n] w fun e w' => e = .returned (.int .i64 (flagI p n)) ∧ w = w' := by
 by_cases hCLC : n = ⟨#[67, 76, 67]⟩
 ·subst hCLC; exact with_flag9_CLC p w
 by_cases hSEC : n = ⟨#[83, 69, 67]⟩
 ·subst hSEC; exact with_flag9_SEC p w
 by_cases hCLI : n = ⟨#[67, 76, 73]⟩
 ·subst hCLI; exact with_flag9_CLI p w
 by_cases hSEI : n = ⟨#[83, 69, 73]⟩
 ·subst hSEI; exact with_flag9_SEI p w
 by_cases hCLV : n = ⟨#[67, 76, 86]⟩
 ·subst hCLV; exact with_flag9_CLV p w
 by_cases hCLD : n = ⟨#[67, 76, 68]⟩
 ·subst hCLD; exact with_flag9_CLD p w
 by_cases hSED : n = ⟨#[83, 69, 68]⟩
 ·subst hSED; exact with_flag9_SED p w
 exact with_flag9_other p n hCLC hSEC hCLI hSEI hCLV hCLD hSED w
set_option maxRecDepth 100000 in
set_option maxHeartbeats 1000000 in
theorem with_change_ASL (p v : Int) (hv : 0 ≤ v ∧ v < 256) (w : World) : Calls Tryz.prog 195 #[.int .i64 p, .string ⟨#[65, 83, 76]⟩, .int .i64 v] w fun e w' => e = .returned (.tuple #[.int .i64 (changeI p ⟨#[65, 83, 76]⟩ v).1, .int .i64 (changeI p ⟨#[65, 83, 76]⟩ v).2]) ∧ Below w.heap.size w w' := by
 have _ := hv
 clear hv
 have HV := Lib.hid (show changeI p ⟨#[65, 83, 76]⟩ v = (shN 0 p v, shR 0 p v) from rfl)
 have HS := Lib.hid (fun w => impl_shift p 0 v w)
 unfold ShPostB at HS
 go_enter Tryz.func195, Tryz.ntmps195
 go_wp2_with (go_at_call 203; refine (HS.out _).mono ?_; rintro e w1 ⟨rfl, hb⟩)
 go_ret2
 exact ⟨by rw [HV.out]; rfl, hb⟩
set_option maxRecDepth 100000 in
set_option maxHeartbeats 1000000 in
theorem with_change_LSR (p v : Int) (hv : 0 ≤ v ∧ v < 256) (w : World) : Calls Tryz.prog 195 #[.int .i64 p, .string ⟨#[76, 83, 82]⟩, .int .i64 v] w fun e w' => e = .returned (.tuple #[.int .i64 (changeI p ⟨#[76, 83, 82]⟩ v).1, .int .i64 (changeI p ⟨#[76, 83, 82]⟩ v).2]) ∧ Below w.heap.size w w' := by
 have _ := hv
 clear hv
 have HV := Lib.hid (show changeI p ⟨#[76, 83, 82]⟩ v = (shN 1 p v, shR 1 p v) from rfl)
 have HS := Lib.hid (fun w => impl_shift p 1 v w)
 unfold ShPostB at HS
 go_enter Tryz.func195, Tryz.ntmps195
 go_wp2_with (go_at_call 203; refine (HS.out _).mono ?_; rintro e w1 ⟨rfl, hb⟩)
 go_ret2
 exact ⟨by rw [HV.out]; rfl, hb⟩
set_option maxRecDepth 100000 in
set_option maxHeartbeats 1000000 in
theorem with_change_ROL (p v : Int) (hv : 0 ≤ v ∧ v < 256) (w : World) : Calls Tryz.prog 195 #[.int .i64 p, .string ⟨#[82, 79, 76]⟩, .int .i64 v] w fun e w' => e = .returned (.tuple #[.int .i64 (changeI p ⟨#[82, 79, 76]⟩ v).1, .int .i64 (changeI p ⟨#[82, 79, 76]⟩ v).2]) ∧ Below w.heap.size w w' := by
 have _ := hv
 clear hv
 have HV := Lib.hid (show changeI p ⟨#[82, 79, 76]⟩ v = (shN 2 p v, shR 2 p v) from rfl)
 have HS := Lib.hid (fun w => impl_shift p 2 v w)
 unfold ShPostB at HS
 go_enter Tryz.func195, Tryz.ntmps195
 go_wp2_with (go_at_call 203; refine (HS.out _).mono ?_; rintro e w1 ⟨rfl, hb⟩)
 go_ret2
 exact ⟨by rw [HV.out]; rfl, hb⟩
set_option maxRecDepth 100000 in
set_option maxHeartbeats 1000000 in
theorem with_change_ROR (p v : Int) (hv : 0 ≤ v ∧ v < 256) (w : World) : Calls Tryz.prog 195 #[.int .i64 p, .string ⟨#[82, 79, 82]⟩, .int .i64 v] w fun e w' => e = .returned (.tuple #[.int .i64 (changeI p ⟨#[82, 79, 82]⟩ v).1, .int .i64 (changeI p ⟨#[82, 79, 82]⟩ v).2]) ∧ Below w.heap.size w w' := by
 have _ := hv
 clear hv
 have HV := Lib.hid (show changeI p ⟨#[82, 79, 82]⟩ v = (shN 3 p v, shR 3 p v) from rfl)
 have HS := Lib.hid (fun w => impl_shift p 3 v w)
 unfold ShPostB at HS
 go_enter Tryz.func195, Tryz.ntmps195
 go_wp2_with (go_at_call 203; refine (HS.out _).mono ?_; rintro e w1 ⟨rfl, hb⟩)
 go_ret2
 exact ⟨by rw [HV.out]; rfl, hb⟩
set_option maxRecDepth 100000 in
set_option maxHeartbeats 1000000 in
theorem with_change_INC (p v : Int) (hv : 0 ≤ v ∧ v < 256) (w : World) : Calls Tryz.prog 195 #[.int .i64 p, .string ⟨#[73, 78, 67]⟩, .int .i64 v] w fun e w' => e = .returned (.tuple #[.int .i64 (changeI p ⟨#[73, 78, 67]⟩ v).1, .int .i64 (changeI p ⟨#[73, 78, 67]⟩ v).2]) ∧ Below w.heap.size w w' := by
 have HV := Lib.hid (show changeI p ⟨#[73, 78, 67]⟩ v = (nzI p ((v + 1) % 256), (v + 1) % 256) from rfl)
 have HS := Lib.hid (fun u w => set_two p u w)
 go_enter Tryz.func195, Tryz.ntmps195
 go_wp2_with (go_at_call 165; refine (HS.out _ _).mono ?_; rintro e w' ⟨rfl, rfl⟩)
 go_ret2
 exact ⟨by rw [HV.out]; simp [*], Below.refl _ _⟩
set_option maxRecDepth 100000 in
set_option maxHeartbeats 1000000 in
theorem with_change_DEC (p v : Int) (hv : 0 ≤ v ∧ v < 256) (w : World) : Calls Tryz.prog 195 #[.int .i64 p, .string ⟨#[68, 69, 67]⟩, .int .i64 v] w fun e w' => e = .returned (.tuple #[.int .i64 (changeI p ⟨#[68, 69, 67]⟩ v).1, .int .i64 (changeI p ⟨#[68, 69, 67]⟩ v).2]) ∧ Below w.heap.size w w' := by
 have HV := Lib.hid (show changeI p ⟨#[68, 69, 67]⟩ v = (nzI p ((v - 1) % 256), (v - 1) % 256) from rfl)
 have HS := Lib.hid (fun u w => set_two p u w)
 go_enter Tryz.func195, Tryz.ntmps195
 go_wp2_with (go_at_call 165; refine (HS.out _ _).mono ?_; rintro e w' ⟨rfl, rfl⟩)
 go_ret2
 exact ⟨by rw [HV.out]; simp [*], Below.refl _ _⟩
set_option maxRecDepth 100000 in
set_option maxHeartbeats 2000000 in
theorem with_change_other (p v : Int) (hv : 0 ≤ v ∧ v < 256) (n : ByteArray) (hASL : ¬ n = ⟨#[65, 83, 76]⟩) (hLSR : ¬ n = ⟨#[76, 83, 82]⟩) (hROL : ¬ n = ⟨#[82, 79, 76]⟩) (hROR : ¬ n = ⟨#[82, 79, 82]⟩) (hINC : ¬ n = ⟨#[73, 78, 67]⟩) (hDEC : ¬ n = ⟨#[68, 69, 67]⟩) (w : World) : Calls Tryz.prog 195 #[.int .i64 p, .string n, .int .i64 v] w fun e w' => e = .returned (.tuple #[.int .i64 (changeI p n v).1, .int .i64 (changeI p n v).2]) ∧ Below w.heap.size w w' := by
 have _ := hv
 clear hv
 have HV := Lib.hid (show changeI p n v = (p, v) from by unfold changeI; rw [if_neg hASL, if_neg hLSR, if_neg hROL, if_neg hROR, if_neg hINC, if_neg hDEC])
 have nASL := ne_list [65, 83, 76] hASL
 have nLSR := ne_list [76, 83, 82] hLSR
 have nROL := ne_list [82, 79, 76] hROL
 have nROR := ne_list [82, 79, 82] hROR
 have nINC := ne_list [73, 78, 67] hINC
 have nDEC := ne_list [68, 69, 67] hDEC
 clear hASL hLSR hROL hROR hINC hDEC
 go_enter Tryz.func195, Tryz.ntmps195
 go_wp2
 go_ret2
 exact ⟨by rw [HV.out]; rfl, Below.refl _ _⟩
theorem with_change (p v : Int) (hv : 0 ≤ v ∧ v < 256) (n : ByteArray) (w : World) : Calls Tryz.prog 195 #[.int .i64 p, .string n, .int .i64 v] w fun e w' => e = .returned (.tuple #[.int .i64 (changeI p n v).1, .int .i64 (changeI p n v).2]) ∧ Below w.heap.size w w' := by
 by_cases hASL : n = ⟨#[65, 83, 76]⟩
 ·subst hASL; exact with_change_ASL p v hv w
 by_cases hLSR : n = ⟨#[76, 83, 82]⟩
 ·subst hLSR; exact with_change_LSR p v hv w
 by_cases hROL : n = ⟨#[82, 79, 76]⟩
 ·subst hROL; exact with_change_ROL p v hv w
 by_cases hROR : n = ⟨#[82, 79, 82]⟩
 ·subst hROR; exact with_change_ROR p v hv w
 by_cases hINC : n = ⟨#[73, 78, 67]⟩
 ·subst hINC; exact with_change_INC p v hv w
 by_cases hDEC : n = ⟨#[68, 69, 67]⟩
 ·subst hDEC; exact with_change_DEC p v hv w
 exact with_change_other p v hv n hASL hLSR hROL hROR hINC hDEC w
end Go.Proofs.YthklebkpoccblaaGreat
namespace Go.Proofs.YthklebkpoccblaaGreat
open Go.RowKit
theorem sign_changes (a b s : Int) (w : World) :
  Calls Tryz.prog 213 #[.int .u8 a, .int .u8 b, .int .u8 s] w fun e w' => e = .returned (.bool (sg a b s)) ∧ w = w' := by
 have HS := Lib.hid is_high
 have H := sg_u8 a b s
 go_enter Tryz.func213, Tryz.ntmps213
 go_wp2_with (go_at_call 204; refine (HS.out _ _).mono ?_; rintro e w' ⟨rfl, rfl⟩)
 go_ret
 exact ⟨by rw [← H]; rfl, rfl⟩
theorem add_binary (p a b : Int) (ha : 0 ≤ a ∧ a < 256) (hb : 0 ≤ b ∧ b < 256) (w : World) :
  Calls Tryz.prog 205 #[.int .u8 p, .int .u8 a, .int .u8 b] w (AddPost .u8 (binN p a b) (rI p a b % 256) w) := by
 have HW := Lib.hid with_flag
 have HN := Lib.hid with_nz
 have HC := Lib.hid carry_of
 have HS := Lib.hid sign_changes
 have h0 := cI_bd p
 go_enter Tryz.func205, Tryz.ntmps205
 go_wp2_with (first
  | (go_at_call 212; refine (HC.out _ _).mono ?_; rintro e w' ⟨rfl, rfl⟩)
  | (go_at_call 197; refine (HN.out _ _ (by omega) _).mono ?_; rintro e w' ⟨rfl, rfl⟩)
  | (go_at_call 213; refine (HS.out _ _ _ _).mono ?_; rintro e w' ⟨rfl, rfl⟩)
  | (go_at_call 126; refine (HW.out _ _ _ _).mono ?_; rintro e w' ⟨rfl, rfl⟩))
 go_ret2
 have H := bin_close p a b ha hb
 exact ⟨by rw [← H.1, ← H.2]; rfl, rfl⟩
end Go.Proofs.YthklebkpoccblaaGreat
namespace Go.Proofs.YthklebkpoccblaaGreat
open Go.RowKit
theorem add_tens (p a b : Int) (ha : 0 ≤ a ∧ a < 256) (hb : 0 ≤ b ∧ b < 256) (w : World) :
  Calls Tryz.prog 206 #[.int .u8 p, .int .u8 a, .int .u8 b] w (AddPost .u8 (tenN p a b) (upI (sI p a b) % 256) w) := by
 have HW := Lib.hid with_flag
 have HB := Lib.hid add_binary
 have HC := Lib.hid carry_of
 have HT := Lib.hid is_high
 have HS := Lib.hid sign_changes
 have h0 := cI_bd p
 have hA1 := u8_15 a
 have hB1 := u8_15 b
 have hA2 := u8_240 a
 have hB2 := u8_240 b
 rw [Int.emod_eq_of_lt ha.1 ha.2] at hA2
 rw [Int.emod_eq_of_lt hb.1 hb.2] at hB2
 have hsI : sI p a b = a / 16 * 16 + b / 16 * 16 + lowI (a % 16 + b % 16 + cI p) := by unfold sI; rw [Int.emod_eq_of_lt ha.1 ha.2, Int.emod_eq_of_lt hb.1 hb.2]
 by_cases h9 : 9 < a % 16 + b % 16 + cI p
 ·have hl := k_15 .u16 (by decide) (a % 16 + b % 16 + cI p + 6)
  have hs : sI p a b = a / 16 * 16 + b / 16 * 16 + (16 + (a % 16 + b % 16 + cI p + 6) % 16) := by rw [hsI]; unfold lowI; rw [if_pos h9]; omega
  clear hsI
  by_cases h160 : 160 ≤ a / 16 * 16 + b / 16 * 16 + (16 + (a % 16 + b % 16 + cI p + 6) % 16)
  ·have HX := Lib.hid (ten_close2 p a b _ (a / 16 * 16 + b / 16 * 16 + (16 + (a % 16 + b % 16 + cI p + 6) % 16) + 96) hs (by unfold upI; rw [if_pos h160]))
   clear hs
   go_enter Tryz.func206, Tryz.ntmps206
   go_wp2_with (first
    | (go_at_call 212; refine (HC.out _ _).mono ?_; rintro e w' ⟨rfl, rfl⟩)
    | (go_at_call 205; refine (HB.out _ _ _ ha hb _).mono ?_; rintro e w' ⟨rfl, rfl⟩)
    | (go_at_call 204; refine (HT.out _ _).mono ?_; rintro e w' ⟨rfl, rfl⟩)
    | (go_at_call 213; refine (HS.out _ _ _ _).mono ?_; rintro e w' ⟨rfl, rfl⟩)
    | (go_at_call 126; refine (HW.out _ _ _ _).mono ?_; rintro e w' ⟨rfl, rfl⟩))
   go_ret2
   exact ⟨by rw [← HX.out.1, ← HX.out.2]; rfl, rfl⟩
  ·have hX := ten_close2 p a b _ (a / 16 * 16 + b / 16 * 16 + (16 + (a % 16 + b % 16 + cI p + 6) % 16)) hs (by unfold upI; rw [if_neg h160])
   rw [Int.emod_eq_of_lt (a := (a / 16 * 16 + b / 16 * 16 + (16 + (a % 16 + b % 16 + cI p + 6) % 16))) (b := 256) (by omega) (by omega)] at hX
   have HX := Lib.hid hX
   clear hX
   clear hs
   go_enter Tryz.func206, Tryz.ntmps206
   go_wp2_with (first
    | (go_at_call 212; refine (HC.out _ _).mono ?_; rintro e w' ⟨rfl, rfl⟩)
    | (go_at_call 205; refine (HB.out _ _ _ ha hb _).mono ?_; rintro e w' ⟨rfl, rfl⟩)
    | (go_at_call 204; refine (HT.out _ _).mono ?_; rintro e w' ⟨rfl, rfl⟩)
    | (go_at_call 213; refine (HS.out _ _ _ _).mono ?_; rintro e w' ⟨rfl, rfl⟩)
    | (go_at_call 126; refine (HW.out _ _ _ _).mono ?_; rintro e w' ⟨rfl, rfl⟩))
   go_ret2
   exact ⟨by rw [← HX.out.1, ← HX.out.2]; rfl, rfl⟩
 ·have hs : sI p a b = a / 16 * 16 + b / 16 * 16 + (a % 16 + b % 16 + cI p) := by rw [hsI]; unfold lowI; rw [if_neg h9]
  clear hsI
  by_cases h160 : 160 ≤ a / 16 * 16 + b / 16 * 16 + (a % 16 + b % 16 + cI p)
  ·have HX := Lib.hid (ten_close2 p a b _ (a / 16 * 16 + b / 16 * 16 + (a % 16 + b % 16 + cI p) + 96) hs (by unfold upI; rw [if_pos h160]))
   clear hs
   go_enter Tryz.func206, Tryz.ntmps206
   go_wp2_with (first
    | (go_at_call 212; refine (HC.out _ _).mono ?_; rintro e w' ⟨rfl, rfl⟩)
    | (go_at_call 205; refine (HB.out _ _ _ ha hb _).mono ?_; rintro e w' ⟨rfl, rfl⟩)
    | (go_at_call 204; refine (HT.out _ _).mono ?_; rintro e w' ⟨rfl, rfl⟩)
    | (go_at_call 213; refine (HS.out _ _ _ _).mono ?_; rintro e w' ⟨rfl, rfl⟩)
    | (go_at_call 126; refine (HW.out _ _ _ _).mono ?_; rintro e w' ⟨rfl, rfl⟩))
   go_ret2
   exact ⟨by rw [← HX.out.1, ← HX.out.2]; rfl, rfl⟩
  ·have hX := ten_close2 p a b _ (a / 16 * 16 + b / 16 * 16 + (a % 16 + b % 16 + cI p)) hs (by unfold upI; rw [if_neg h160])
   rw [Int.emod_eq_of_lt (a := (a / 16 * 16 + b / 16 * 16 + (a % 16 + b % 16 + cI p))) (b := 256) (by omega) (by omega)] at hX
   have HX := Lib.hid hX
   clear hX
   clear hs
   go_enter Tryz.func206, Tryz.ntmps206
   go_wp2_with (first
    | (go_at_call 212; refine (HC.out _ _).mono ?_; rintro e w' ⟨rfl, rfl⟩)
    | (go_at_call 205; refine (HB.out _ _ _ ha hb _).mono ?_; rintro e w' ⟨rfl, rfl⟩)
    | (go_at_call 204; refine (HT.out _ _).mono ?_; rintro e w' ⟨rfl, rfl⟩)
    | (go_at_call 213; refine (HS.out _ _ _ _).mono ?_; rintro e w' ⟨rfl, rfl⟩)
    | (go_at_call 126; refine (HW.out _ _ _ _).mono ?_; rintro e w' ⟨rfl, rfl⟩))
   go_ret2
   exact ⟨by rw [← HX.out.1, ← HX.out.2]; rfl, rfl⟩
end Go.Proofs.YthklebkpoccblaaGreat
namespace Go.Proofs.YthklebkpoccblaaGreat
open Go.RowKit
theorem impl_add (p a b : Int) (w : World) :
  Calls Tryz.prog 199 #[.int .i64 p, .int .i64 a, .int .i64 b] w (AddPost .i64 (addN p a b) (addR p a b) w) := by
 have hB := add_binary (p % 256) (a % 256) (b % 256) (by omega) (by omega) w
 have hT := add_tens (p % 256) (a % 256) (b % 256) (by omega) (by omega) w
 rw [binN_mod, rI_mod] at hB
 rw [tenN_mod, sI_mod] at hT
 have hs := is_set (p % 256) 8 w
 rw [tst_mod] at hs
 have n1 := addN_bd p a b
 unfold AddPost
 cases ht : tst p 8
 ·rw [ht] at hs
  have e1 : addN p a b = binN p a b := by unfold addN; rw [ht]; rfl
  have e2 : addR p a b = rI p a b % 256 := by unfold addR; rw [ht]; rfl
  rw [e1] at n1
  rw [e1, e2]
  have HB := Lib.hid hB
  clear hB hT e1 e2
  go_enter Tryz.func199, Tryz.ntmps199
  go_wp2_with (first
   | (go_at_call 198; refine hs.mono ?_; rintro e w' ⟨rfl, rfl⟩)
   | (go_at_call 205; refine HB.out.mono ?_; rintro e w' ⟨rfl, rfl⟩))
  go_ret2
  exact ⟨rfl, rfl⟩
 ·rw [ht] at hs
  have e1 : addN p a b = tenN p a b := by unfold addN; rw [ht]; rfl
  have e2 : addR p a b = upI (sI p a b) % 256 := by unfold addR; rw [ht]; rfl
  rw [e1] at n1
  rw [e1, e2]
  have HB := Lib.hid hT
  clear hB hT e1 e2
  go_enter Tryz.func199, Tryz.ntmps199
  go_wp2_with (first
   | (go_at_call 198; refine hs.mono ?_; rintro e w' ⟨rfl, rfl⟩)
   | (go_at_call 206; refine HB.out.mono ?_; rintro e w' ⟨rfl, rfl⟩))
  go_ret2
  exact ⟨rfl, rfl⟩
end Go.Proofs.YthklebkpoccblaaGreat
namespace Go.Proofs.YthklebkpoccblaaGreat
open Go.RowKit
theorem impl_compare (p a b : Int) (w : World) :
  Calls Tryz.prog 201 #[.int .i64 p, .int .i64 a, .int .i64 b] w fun e w' => e = .returned (.int .i64 (cmpN p a b)) ∧ w = w' := by
 have HW := Lib.hid with_flag
 have HN := Lib.hid with_nz
 have hb := cmpN_bd p a b
 unfold cmpN at hb ⊢
 go_enter Tryz.func201, Tryz.ntmps201
 go_wp2_with (first
  | (go_at_call 197; refine (HN.out _ _ (by omega) _).mono ?_; rintro e w' ⟨rfl, rfl⟩; rw [nzI_mod, nzI_congr p (show ((a - b) % 256) % 256 = (a % 256 - b % 256) % 256 by omega)])
  | (go_at_call 126; refine (HW.out _ _ _ _).mono ?_; rintro e w' ⟨rfl, rfl⟩))
 go_ret
 exact ⟨rfl, rfl⟩
end Go.Proofs.YthklebkpoccblaaGreat
namespace Go.Proofs.YthklebkpoccblaaGreat
open Go.RowKit
theorem sub_tens (p a b : Int) (ha : 0 ≤ a ∧ a < 256) (hb : 0 ≤ b ∧ b < 256) (w : World) :
  Calls Tryz.prog 207 #[.int .u8 p, .int .u8 a, .int .u8 b] w fun e w' => e = .returned (.int .u8 (dnI (tI p a b) % 256)) ∧ w = w' := by
 have HC := Lib.hid carry_of
 have h0 := cI_bd p
 have hA1 := u8_15 a
 have hB1 := u8_15 b
 have hA2 := u8_240 a
 have hB2 := u8_240 b
 rw [Int.emod_eq_of_lt ha.1 ha.2] at hA2
 rw [Int.emod_eq_of_lt hb.1 hb.2] at hB2
 have hT := tI_alt p a b ha hb
 by_cases h9 : a % 16 - b % 16 - 1 + cI p < 0
 ·have hl := k_15 .i16 (by decide) (a % 16 - b % 16 - 1 + cI p - 6)
  have hs : tI p a b = a / 16 * 16 - b / 16 * 16 + ((a % 16 - b % 16 - 1 + cI p - 6) % 16 - 16) := by rw [hT]; unfold lowS; rw [if_pos h9]
  clear hT
  by_cases h0s : a / 16 * 16 - b / 16 * 16 + ((a % 16 - b % 16 - 1 + cI p - 6) % 16 - 16) < 0
  ·have HX : Hid (dnI (tI p a b) = (a / 16 * 16 - b / 16 * 16 + ((a % 16 - b % 16 - 1 + cI p - 6) % 16 - 16) - 96)) := Lib.hid (by unfold dnI; rw [hs, if_pos h0s])
   clear hs
   go_enter Tryz.func207, Tryz.ntmps207
   go_wp2_with (go_at_call 212; refine (HC.out _ _).mono ?_; rintro e w' ⟨rfl, rfl⟩)
   go_ret
   exact ⟨by rw [HX.out]; rfl, rfl⟩
  ·have HX : Hid (dnI (tI p a b) = (a / 16 * 16 - b / 16 * 16 + ((a % 16 - b % 16 - 1 + cI p - 6) % 16 - 16))) := Lib.hid (by unfold dnI; rw [hs, if_neg h0s])
   clear hs
   go_enter Tryz.func207, Tryz.ntmps207
   go_wp2_with (go_at_call 212; refine (HC.out _ _).mono ?_; rintro e w' ⟨rfl, rfl⟩)
   go_ret
   exact ⟨by rw [HX.out, Int.emod_eq_of_lt (a := (a / 16 * 16 - b / 16 * 16 + ((a % 16 - b % 16 - 1 + cI p - 6) % 16 - 16))) (b := 256) (by omega) (by omega)]; rfl, rfl⟩
 ·skip
  have hs : tI p a b = a / 16 * 16 - b / 16 * 16 + (a % 16 - b % 16 - 1 + cI p) := by rw [hT]; unfold lowS; rw [if_neg h9]
  clear hT
  by_cases h0s : a / 16 * 16 - b / 16 * 16 + (a % 16 - b % 16 - 1 + cI p) < 0
  ·have HX : Hid (dnI (tI p a b) = (a / 16 * 16 - b / 16 * 16 + (a % 16 - b % 16 - 1 + cI p) - 96)) := Lib.hid (by unfold dnI; rw [hs, if_pos h0s])
   clear hs
   go_enter Tryz.func207, Tryz.ntmps207
   go_wp2_with (go_at_call 212; refine (HC.out _ _).mono ?_; rintro e w' ⟨rfl, rfl⟩)
   go_ret
   exact ⟨by rw [HX.out]; rfl, rfl⟩
  ·have HX : Hid (dnI (tI p a b) = (a / 16 * 16 - b / 16 * 16 + (a % 16 - b % 16 - 1 + cI p))) := Lib.hid (by unfold dnI; rw [hs, if_neg h0s])
   clear hs
   go_enter Tryz.func207, Tryz.ntmps207
   go_wp2_with (go_at_call 212; refine (HC.out _ _).mono ?_; rintro e w' ⟨rfl, rfl⟩)
   go_ret
   exact ⟨by rw [HX.out, Int.emod_eq_of_lt (a := (a / 16 * 16 - b / 16 * 16 + (a % 16 - b % 16 - 1 + cI p))) (b := 256) (by omega) (by omega)]; rfl, rfl⟩
theorem impl_sub (p a b : Int) (w : World) :
  Calls Tryz.prog 200 #[.int .i64 p, .int .i64 a, .int .i64 b] w (AddPost .i64 (subN p a b) (subR p a b) w) := by
 have hc : 0 ≤ bits .xor .u8 IntKind.u8.max (b % 256) ∧ bits .xor .u8 IntKind.u8.max (b % 256) < 256 := ⟨bits_lo_u8 _ _ _, by have := bits_hi_u8 .xor IntKind.u8.max (b % 256); omega⟩
 have hB := add_binary (p % 256) (a % 256) (bits .xor .u8 IntKind.u8.max (b % 256)) (by omega) hc w
 have hb := sub_bin (p % 256) (a % 256) (b % 256) _ (flip_u8 (b % 256))
 rw [subN_mod, dI_mod] at hb
 rw [hb.1, hb.2] at hB
 have HB := Lib.hid hB
 have hT := sub_tens (p % 256) (a % 256) (b % 256) (by omega) (by omega) w
 rw [tI_mod] at hT
 have HT := Lib.hid hT
 clear hB hb hT
 have hs := is_set (p % 256) 8 w
 rw [tst_mod] at hs
 have n1 := subN_bd p a b
 unfold AddPost
 cases ht : tst p 8
 ·rw [ht] at hs
  have e2 : subR p a b = dI p a b % 256 := by unfold subR; rw [ht]; rfl
  rw [e2]
  clear e2
  go_enter Tryz.func200, Tryz.ntmps200
  go_wp2_with (first
   | (go_at_call 198; refine hs.mono ?_; rintro e w' ⟨rfl, rfl⟩)
   | (go_at_call 205; refine HB.out.mono ?_; rintro e w' ⟨rfl, rfl⟩)
   | (go_at_call 207; refine HT.out.mono ?_; rintro e w' ⟨rfl, rfl⟩))
  go_ret2
  exact ⟨rfl, rfl⟩
 ·rw [ht] at hs
  have e2 : subR p a b = dnI (tI p a b) % 256 := by unfold subR; rw [ht]; rfl
  rw [e2]
  clear e2
  go_enter Tryz.func200, Tryz.ntmps200
  go_wp2_with (first
   | (go_at_call 198; refine hs.mono ?_; rintro e w' ⟨rfl, rfl⟩)
   | (go_at_call 205; refine HB.out.mono ?_; rintro e w' ⟨rfl, rfl⟩)
   | (go_at_call 207; refine HT.out.mono ?_; rintro e w' ⟨rfl, rfl⟩))
  go_ret2
  exact ⟨rfl, rfl⟩
end Go.Proofs.YthklebkpoccblaaGreat
namespace Go.Proofs.YthklebkpoccblaaGreat
open Go.RowKit
theorem bitN_bd (p a v : Int) : 0 ≤ bitN p a v ∧ bitN p a v < 256 := wI_bd _ _ _
theorem both_u8 (a v : Int) : (bits .and .u8 a v == 0) = !tst a v := by
 have h := tst_u8 a v
 unfold bne at h
 rw [← Bool.not_not (bits .and .u8 a v == 0), h]
theorem tst_mod' (a v : Int) : tst (a % 256) (v % 256) = tst a v := by unfold tst; rw [B8_mod, B8_mod]
theorem impl_bit (p a v : Int) (w : World) : Calls Tryz.prog 202 #[.int .i64 p, .int .i64 a, .int .i64 v] w fun e w' => e = .returned (.int .i64 (bitN p a v)) ∧ w = w' := by
 have HW := Lib.hid with_flag
 have HS := Lib.hid is_set
 have h3 := both_u8 (a % 256) (v % 256)
 rw [tst_mod'] at h3
 have hb := bitN_bd p a v
 unfold bitN at hb
 go_enter Tryz.func202, Tryz.ntmps202
 go_wp2_with (first
  | (go_at_call 198; refine (HS.out _ _ _).mono ?_; rintro e w' ⟨rfl, rfl⟩; rw [tst_mod])
  | (go_at_call 126; refine (HW.out _ _ _ _).mono ?_; rintro e w' ⟨rfl, rfl⟩; try rw [wI_mod]))
 go_ret
 exact ⟨rfl, rfl⟩
end Go.Proofs.YthklebkpoccblaaGreat
