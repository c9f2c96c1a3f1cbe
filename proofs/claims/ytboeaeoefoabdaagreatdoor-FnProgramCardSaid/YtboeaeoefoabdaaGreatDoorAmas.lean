/-
  Texts put together by program: AsR, TiA, AsO.
  Conditions: as each theorem says.
-/
import Derived.HandedShaped
import Derived.Shelf.Vars
import Derived.Stop.LaidErr
import Derived.Test.YtboeaeoefoabdaaGreatDoorRows
import Derived.Test.YtboeaeoefoabdaaGreatDoorAmar
namespace Go.Proofs.YtboeaeoefoabdaaGreatDoor
open Go.RowKit Go.Deep Go.WideShapes Go.ChangeShapes
theorem jam_listR : jamN.toList = [74, 65, 77] := by rw [ByteArray.toList_eq]; rfl
theorem big_noR (n c : Nat) (A : Option Addr) (h : n ≤ 1048576) (w : World) : Calls Tryz.prog 9 #[.slice A n c] w fun e w' => e = .returned (.bool false) ∧ w = w' := by
 have h2 : ¬ (1048576 : Int) < (n : Int) := by omega
 go_enter Tryz.func9, Tryz.ntmps9
 go_wp2
 go_ret
 exact ⟨rfl, rfl⟩
def Own (a : ByteArray) (z lo hi sz : Int) (out : List UInt8) (ok : Bool) : Prop := (a = jamN ∧ ok = false ∧ out = []) ∨ (a ≠ jamN ∧ ok = true ∧ out = [UInt8.ofNat z.toNat, UInt8.ofNat (lo % 256).toNat, UInt8.ofNat (hi % 256).toNat].take sz.toNat)
theorem own_pad {z lo hi : Int} (z0 : 0 ≤ z) (z1 : z < 256) {k : Nat} {out : List UInt8} {ok : Bool} (h1 : Good (told (32 :: 32 :: (opT (opOf z).1 (opOf z).2 lo hi ++ [9])) k)) (h2 : (wordB (32 :: 32 :: (opT (opOf z).1 (opOf z).2 lo hi ++ [9])) k).size = 0) (h3 : AsmOk (upL (lineS (32 :: 32 :: (opT (opOf z).1 (opOf z).2 lo hi ++ [9])) k)) out ok) : Own (opOf z).1 z lo hi (modeSz (opOf z).2) out ok := by
 obtain ⟨k2, g1, g2, g3⟩ := pad_text z lo hi z0 z1
 obtain rfl := told_one h1 h2 g1 g2
 rw [g3] at h3
 exact asm_own z0 z1 h3
set_option maxRecDepth 100000 in
set_option maxHeartbeats 4000000 in
theorem asm_law (A : Option Addr) (n c : Nat) (W : World) (hrow : RowB W A n) (m : Int) (hm : W.cell? ⟨1, 0, none⟩ = some (.int .i64 m)) (x : Value) (hx : W.cell? ⟨2, 0, none⟩ = some (.iface 188 x)) :
  Calls Tryz.prog 4 #[.slice A n c] W fun e w' => e = .returned (.bool true) ∧ Below W.heap.size W w' := by
 have hml := hrow.1
 unfold maxLen at hml
 by_cases hbig : 1048576 < n
 ·clear hrow
  go_enter Tryz.func4, Tryz.ntmps4
  go_wp2_with (go_in)
  go_ret
  exact ⟨rfl, Below.refl _ _⟩
 have hcode := hrow.code (by omega)
 have HC := Lib.hid hcode
 have HBig := Lib.hid (big_noR n c A (by omega) W)
 have hD := drawOpText_any W.heap.size n c A W (Nat.le_refl _) hcode
 unfold TriPost at hD
 have hm := Lib.hid hm
 have hx := Lib.hid hx
 clear hrow hcode hml hbig
 go_enter Tryz.func4, Tryz.ntmps4
 go_wp2_with (first
  | (go_at_call 9; refine HBig.out.mono ?_; rintro e w1 ⟨rfl, rfl⟩)
  | (go_at_call 18; refine hD.mono ?_; rintro e w1 ⟨z, lo, hi, rfl, z0, z1, l0, h0, hb1⟩; refine Hid.out ?_))
 have hD := drawAsm_any W.heap.size n c A
 unfold AsmDrawn at hD
 have HD := Lib.hid hD
 have HI := Lib.hid (fun w => impl_OpText z lo hi w)
 have HS := Lib.hid (fun w => spec_OpText z lo hi w)
 have HO := Lib.hid (fun w => spec_opOf z w)
 have HM := Lib.hid (fun w => spec_modeSize (opOf z).2 w)
 have HP := Lib.hid (fun k out ok => @own_pad z lo hi z0 z1 k out ok)
 have hl := opT_length (opOf z).1 (opOf z).2 lo hi (op_size3 z).1
 have hz3 := mode_sz (op_kind z z0 z1).2.1
 have hb1 := Lib.hid hb1
 generalize opT (opOf z).1 (opOf z).2 lo hi = l at *
 generalize (opOf z).1 = a at *
 generalize (opOf z).2 = md at *
 generalize modeSz md = sz at *
 have hl := Lib.hid hl
 have hz3 := Lib.hid hz3
 clear hD HBig
 refine Lib.hid ?_
 go_wp2_with (go_at_call 19; (with_reducible refine (HI.out _).mono ?_); rintro e w2 ⟨rfl, hb2⟩; refine Hid.out ?_)
 have B2 := Lib.hid (below_then hb1.out hb2)
 have hD := HD.out w2 B2.out.size (HC.out.below (Nat.le_refl _) B2.out)
 clear HI hb1 hb2 HD HC
 refine Lib.hid ?_
 go_wp2_with (go_at_call 20; refine hD.mono ?_; rintro e w3 ⟨s, rfl, hs, hb3⟩; refine Hid.out ?_)
 have B3 := Lib.hid (below_then B2.out hb3)
 have hA := impl_asm s (by omega) w3 m ((B3.out.cell (p := ⟨_, 0, none⟩) (World.block_lt_of_cell? _ _ hm.out)).trans hm.out) x ((B3.out.cell (p := ⟨_, 0, none⟩) (World.block_lt_of_cell? _ _ hx.out)).trans hx.out)
 have HA := Lib.hid (fun w => spec_asm s (by omega) w)
 unfold AsmPost at hA
 clear hD B2 hb3 hs
 refine Lib.hid ?_
 go_wp2_with (go_at_call 21; refine hA.mono ?_; rintro e w4 ⟨k, out, ok, hg, hz, rfl, hok, hb4⟩; refine Hid.out ?_)
 have B4 := Lib.hid (below_then B3.out hb4)
 have hok := Lib.hid hok
 have hg := Lib.hid hg
 have hz := Lib.hid hz
 clear hA hb4 B3
 refine Lib.hid ?_
 go_wp2_with (go_at_call 22; (with_reducible refine (HA.out _).mono ?_); rintro e w5 ⟨k2, out2, ok2, hg2, hz2, rfl, hok2, hb5⟩; refine Hid.out ?_)
 obtain rfl := told_one hg.out hz.out hg2 hz2
 obtain ⟨rfl, rfl⟩ := asm_one hok.out hok2
 have B5 := Lib.hid (below_then B4.out hb5)
 clear hg hz hok hok2 hg2 hz2 hb5 B4 HA
 refine Lib.hid ?_
 go_wp2_with (go_at_call 23; (with_reducible refine (HS.out _).mono ?_); rintro e w6 ⟨rfl, hb6⟩; refine Hid.out ?_)
 have B6 := Lib.hid (below_then B5.out hb6)
 have a1 : ∀ w, (Op.stringOp .add ⟨#[32, 32]⟩ ⟨l.toArray⟩).run Tryz.prog w = .ok (.string ⟨([32, 32] ++ l).toArray⟩) w := fun w => cat_big [32, 32] l (by have := hl.out; simp; omega) w
 have a2 : ∀ w, (Op.stringOp .add ⟨([32, 32] ++ l).toArray⟩ ⟨#[9]⟩).run Tryz.prog w = .ok (.string ⟨([32, 32] ++ l ++ [9]).toArray⟩) w := fun w => cat_big ([32, 32] ++ l) [9] (by have := hl.out; simp; omega) w
 have hQ : ([32, 32] ++ l ++ [9] : List UInt8) = 32 :: 32 :: (l ++ [9]) := by simp
 rw [hQ] at a2
 have hq : (32 :: 32 :: (l ++ [9])).length ≤ 1000 := by have := hl.out; simp; omega
 generalize (32 :: 32 :: (l ++ [9]) : List UInt8) = Q at *
 generalize ([32, 32] ++ l : List UInt8) = P1 at *
 have hA := impl_asm ⟨Q.toArray⟩ (by rw [bsize]; omega) w6 m ((B6.out.cell (p := ⟨_, 0, none⟩) (World.block_lt_of_cell? _ _ hm.out)).trans hm.out) x ((B6.out.cell (p := ⟨_, 0, none⟩) (World.block_lt_of_cell? _ _ hx.out)).trans hx.out)
 rw [show (⟨Q.toArray⟩ : ByteArray).data.toList = Q by simp] at hA
 unfold AsmPost at hA
 generalize (⟨Q.toArray⟩ : ByteArray) = QB at *
 generalize (⟨P1.toArray⟩ : ByteArray) = PB at *
 generalize (⟨l.toArray⟩ : ByteArray) = LB at *
 clear hQ hq hb6 B5 HS hm hx hl
 refine Lib.hid ?_
 go_wp2_with (first
  | (go_at_call 21; refine hA.mono ?_; rintro e w7 ⟨k3, o3, ok3, hg3, hz3', rfl, hok3, hb7⟩; refine Hid.out ?_))
 have HW := HP.out k3 o3 ok3 hg3 hz3' hok3
 have B7 := Lib.hid (below_then B6.out hb7)
 clear hA HP hg3 hz3' hok3 hb7 B6 a1 a2
 unfold Own at HW
 rcases HW with ⟨rfl, rfl, rfl⟩ | ⟨hj, rfl, ho⟩
 ·have hj := jam_listR
  refine Lib.hid ?_
  go_wp2_with (go_at_call 24; (with_reducible refine (HO.out _).mono ?_); rintro e w8 ⟨rfl, hb8⟩)
  go_ret
  exact ⟨rfl, below_alloc (below_then B7.out hb8) _⟩
 ·have hk := eq_no hj
  rw [jam_listR] at hk
  obtain ⟨X, hX⟩ : ∃ X : ByteArray, X = ⟨[UInt8.ofNat z.toNat, UInt8.ofNat (lo % 256).toNat, UInt8.ofNat (hi % 256).toNat].toArray⟩ := ⟨_, rfl⟩
  have hcv := fun W => three_back z (lo % 256) (hi % 256) ⟨z0, z1⟩ (by omega) (by omega) W
  rw [← hX] at hcv
  have hXs : (X.size : Int) = 3 := by rw [hX]; rfl
  have hs3 := hz3.out
  have hzX : sz ≤ (X.size : Int) := by omega
  have hz0 : 0 ≤ sz := by omega
  have hOut : X.extract 0 sz.toNat = ⟨o3.toArray⟩ := by rw [hX, ext_take, ho]
  generalize (⟨o3.toArray⟩ : ByteArray) = O at *
  subst hOut
  have hXs := Lib.hid hXs
  clear hj ho hX hs3 hz3
  refine Lib.hid ?_
  go_wp2_with (first
   | (go_at_call 24; (with_reducible refine (HO.out _).mono ?_); rintro e w8 ⟨rfl, hb8⟩)
   | (go_at_call 25; (with_reducible refine (HM.out _).mono ?_); rintro e w9 ⟨rfl, hb9⟩))
  go_ret
  exact ⟨rfl, below_alloc (below_then (below_alloc (below_then B7.out hb8) (.cells #[.string a, .string md] 41)) hb9) (.cells #[.int .u8 z, .int .u8 (lo % 256), .int .u8 (hi % 256)] 5)⟩
end Go.Proofs.YtboeaeoefoabdaaGreatDoor
namespace Go.Proofs.YtboeaeoefoabdaaGreatDoor
open Go.RowKit Go.Lib
theorem gESt : (Tryz.prog.globals[2]?).map (·.type) = some 60 := by kernel_rfl
theorem cells_err : Tryz.prog.cellsOf 190 = 1 := by kernel_rfl
theorem cells_str : Tryz.prog.cellsOf 9 = 1 := by kernel_rfl
theorem star_err : "*" ++ "errors.errorString" = "*errors.errorString" := by decide
theorem row_err (u : TypeId) (h : Tryz.prog.typeName? 3 u = some "*errors.errorString") : u = 188 :=
 typeName_ptr_named (nm := "errors.errorString") (by rw [star_err]; kernel_rfl) (by kernel_rfl) (by decide) u (by rw [star_err]; exact h)
theorem syntax_laid {r : List (String × DataW Unit)} {W : World} (h : laidMet Tryz.prog (("strconv.ErrSyntax", Rows.laid_strconv_ErrSyntax) :: r) W) : ∃ x, W.cell? ⟨2, 0, none⟩ = some (.iface 188 x) := by
 obtain ⟨_, _, hv1, -, -, -⟩ := laid_sentinel h gES gESt Tryz.underlying60 row_err Tryz.underlying188 Tryz.underlying190 rfl rfl Tryz.underlying9 cells_err cells_str
 exact ⟨_, err_cell hv1⟩
theorem maxlen_shaped {W : World} (h : W.ShapedOpen Tryz.prog) : ∃ m : Int, W.cell? ⟨1, 0, none⟩ = some (.int .i64 m) :=
 cell_of_shapedOpen_int (zero := #[.int .i64 0]) (t := 3) h (of_decide_eq_true (by kernel_rfl)) (by kernel_rfl) rfl (by kernel_rfl) (by kernel_rfl) Tryz.underlying3
end Go.Proofs.YtboeaeoefoabdaaGreatDoor
namespace Go.Proofs.YtboeaeoefoabdaaGreatDoor
open Go.RowKit Go.Lib
theorem asm_lawC {a b c d e f : String × DataW Unit} (A : Option Addr) (n cp : Nat) (W : World) (hrow : RowB W A n) (hL : laidMet Tryz.prog [a, b, c, d, e, ("strconv.ErrSyntax", Rows.laid_strconv_ErrSyntax), f] W) (hsh : W.ShapedOpen Tryz.prog) :
  Calls Tryz.prog 4 #[.slice A n cp] W fun e w' => e = .returned (.bool true) ∧ Below W.heap.size W w' := by
 obtain ⟨m, hm⟩ := maxlen_shaped hsh
 obtain ⟨x, hx⟩ := syntax_laid hL.tail.tail.tail.tail.tail
 exact asm_law A n cp W hrow m hm x hx
end Go.Proofs.YtboeaeoefoabdaaGreatDoor
