/-
  Texts put together by program: PrC, TiA, PrX.
  Conditions: as each theorem says.
-/
import Derived.HandedShaped
import Derived.Shelf.Vars
import Derived.Stop.LaidErr
import Derived.Test.YtboeaeoefoabdaaGreatDoorRows
import Derived.Test.YtboeaeoefoabdaaGreatDoorPmat
namespace Go.Proofs.YtboeaeoefoabdaaGreatDoor
open Go.RowKit
theorem texts_of_own {w : World} {B : Nat} {v : Value} {xs : List ByteArray} (h : w.ownsRow B 9 1 v xs.length (xs.map Value.string)) : ∃ (A : Option Addr) (cap : Nat), v = .slice A xs.length cap ∧ TextsAt w A xs := by
 rcases h.2 with ⟨rfl, h0⟩ | ⟨g, cap, cur, rfl, _, hg, _⟩
 ·obtain rfl : xs = [] := List.eq_nil_of_length_eq_zero h0
  exact ⟨none, 0, rfl, .inl rfl⟩
 ·refine ⟨some ⟨g, 0, none⟩, cap, rfl, .inr ⟨g, rfl, (Array.getElem?_eq_some_iff.1 hg).1, fun i hi => ?_⟩⟩
  have := h.cells (g := g) rfl i (.string xs[i]) (by simp [hi])
  cases i with
  | zero => simpa [Addr.add] using this
  | succ j => simpa [Addr.add] using this
theorem flatB_snoc (xs : List ByteArray) (x : ByteArray) : flatB (xs ++ [x]) = flatB xs ++ x.data.toList := by simp [flatB]
set_option maxRecDepth 100000 in
set_option maxHeartbeats 4000000 in
theorem impl_program (s : ByteArray) (hs : s.size ≤ 1048576) (w : World) (m : Int) (hm : w.cell? ⟨1, 0, none⟩ = some (.int .i64 m)) (x : Value) (hx : w.cell? ⟨2, 0, none⟩ = some (.iface 188 x)) : Calls Tryz.prog 27 #[.string s] w (ProgPost s w) := by
 obtain ⟨i0, hi, hz0, hz1, hz2⟩ := info_parts info9l
 have HL := Lib.hid (impl_linesA s hs w m hm)
 obtain ⟨hn, hsm⟩ := lineBs_small s
 have hsm : ∀ x ∈ lineBs s, x.size ≤ 1048576 := fun x hx => Nat.le_trans (hsm x hx) hs
 have hn : (lineBs s).length ≤ 1048577 := by omega
 have fin := Lib.hid (fun out bad w' => @prog_post s w out bad w')
 generalize lineBs s = Ls at *
 obtain ⟨Lm, hLm⟩ : ∃ Lm, Ls.map (fun x : ByteArray => x.data.toList) = Lm := ⟨_, rfl⟩
 rw [hLm] at fin
 have hll : Lm.length = Ls.length := by rw [← hLm]; simp
 have hat : ∀ i (h : i < Ls.length) (h2 : i < Lm.length), Lm[i] = Ls[i].data.toList := fun i h h2 => by subst hLm; simp
 have HAT := Lib.hid hat
 have HSM := Lib.hid hsm
 have HLL := Lib.hid hll
 have hm := Lib.hid hm
 have hx := Lib.hid hx
 clear hs hsm hLm hat hll
 go_enter Tryz.func27, Tryz.ntmps27
 go_wp2_with (go_at_call 29; (with_reducible refine HL.out.mono ?_); rintro e w1 ⟨A, cap, rfl, hA, hb1⟩; refine Hid.out ?_)
 have HA := Lib.hid hA
 have B1 := Lib.hid hb1
 have hm1 := Lib.hid ((hb1.cell (p := ⟨_, 0, none⟩) (World.block_lt_of_cell? _ _ hm.out)).trans hm.out)
 have hx1 := Lib.hid ((hb1.cell (p := ⟨_, 0, none⟩) (World.block_lt_of_cell? _ _ hx.out)).trans hx.out)
 clear HL hA hb1 hm hx
 refine Lib.hid ?_
 go_wp2
 go_loopw [4, 12] (fun v4 v12 wr => ∃ (i : Nat) (xs : List ByteArray), i ≤ Ls.length ∧ v12 = .int .i64 i ∧ wr.ownsRow w1.heap.size 9 1 v4 xs.length (xs.map Value.string) ∧ xs.length ≤ i ∧ Hid (ProgPre Lm i (flatB xs)) ∧ Below w1.heap.size w1 wr) (fun _ v12 _ => Ls.length - (intOf v12).toNat)
 case atStart => exact ⟨0, [], by omega, rfl, ⟨rfl, .inl ⟨rfl, rfl⟩⟩, Nat.le_refl _, Lib.hid (pre_zero _), Below.refl _ _⟩
 case round =>
  obtain ⟨i, xs, hil, rfl, hown, hxl, hp, hb⟩ := hrel
  by_cases hlt : i < Ls.length
  ·rcases HA.out with rfl | ⟨g, rfl, hcell⟩
   ·exact absurd hlt (Nat.not_lt_zero _)
   have ci := (hb.cell (p := ⟨g, i, none⟩) (World.block_lt_of_cell? _ _ (hcell i hlt))).trans (hcell i hlt)
   have hsz := HSM.out Ls[i] (List.getElem_mem hlt)
   have hli : i < Lm.length := by rw [HLL.out]; exact hlt
   have ha := HAT.out i hlt hli
   have nxt := Lib.hid (fun p (h : LineR (Lm[i]'hli) (some p)) => pre_succ hp.out hli h)
   have bad := Lib.hid (fun (h : LineR (Lm[i]'hli) none) => prog_bad hli hp.out h)
   rw [ha] at nxt bad
   generalize hT : Ls[i] = t at *
   have HHs := Lib.hid (fun w => impl_hasI t hsz w)
   have HAs := Lib.hid (fun w hm hx => impl_asm t hsz w m hm x hx)
   have hown := Lib.hid hown
   have hb := Lib.hid hb
   clear hcell hT ha hli
   go_wp2_with (go_at_call 69; (with_reducible refine (HHs.out _).mono ?_); rintro e w2 ⟨b, rfl, hbi, hb2⟩; refine Hid.out ?_)
   have hB2 := Lib.hid (below_then hb.out hb2)
   have hown2 := Lib.hid (row_keep hown.out hb2)
   clear ci HHs hb2 hown hb
   generalize t.data.toList = l at *
   cases b
   ·have hx2 := Lib.hid (nxt.out [] (.inl ⟨fun h => (by have q := hbi.2 h; cases q), rfl⟩))
    rw [List.append_nil] at hx2
    clear nxt bad hbi
    refine Lib.hid ?_
    go_wp2
    go_roundw
    case rel => exact ⟨i + 1, xs, by omega, by go_num, hown2.out, by omega, hx2, hB2.out⟩
    case measure => simp [intOf]; omega
   ·have hI := Lib.hid (hbi.1 rfl)
    have hm2 := Lib.hid ((hB2.out.cell (p := ⟨_, 0, none⟩) (World.block_lt_of_cell? _ _ hm1.out)).trans hm1.out)
    have hx2 := Lib.hid ((hB2.out.cell (p := ⟨_, 0, none⟩) (World.block_lt_of_cell? _ _ hx1.out)).trans hx1.out)
    clear hbi
    refine Lib.hid ?_
    go_wp2_with (go_at_call 21; refine (HAs.out _ hm2.out hx2.out).mono ?_; rintro e w3 ⟨k2, out, ok, hg2, hz2, rfl, hok, hb3⟩; refine Hid.out ?_)
    have hB3 := Lib.hid (below_then hB2.out hb3)
    have hown3 := Lib.hid (row_keep hown2.out hb3)
    have hR := Lib.hid (.inr ⟨hI.out, k2, out, ok, hg2, hz2, hok, rfl⟩ : LineR l (if ok = true then some out else none))
    clear hb3 hg2 hz2 hok HAs hB2 hI hm2 hx2 hown2
    cases ok
    ·have hx := Lib.hid (fin.out [] (i : Int) w3 (bad.out hR.out) (below_then B1.out hB3.out))
     clear nxt bad hR fin
     refine Lib.hid ?_
     go_wp2
     go_ret2
     exact hx.out
    ·have hx3 := nxt.out out hR.out
     obtain ⟨X, hX⟩ : ∃ X : ByteArray, (⟨out.toArray⟩ : ByteArray) = X := ⟨_, rfl⟩
     have hXd : X.data.toList = out := by rw [← hX]
     rw [← hXd, ← flatB_snoc] at hx3
     replace hx3 := Lib.hid hx3
     rw [hX]
     have hown := hown3.out
     have hb := hB3.out
     clear nxt bad hR hX hXd hown3 hB3
     refine Lib.hid ?_
     go_wp2_with (at_builtin; refine wpList_append_own _ rfl _ _ 46 rfl w1.heap.size 9 i0 (.string ⟨#[]⟩) 1 16 Tryz.underlying46 hi hz0 hz1 hz2 rfl (by decide) _ _ _ rfl (hown.alloc _) ⟨w3.heap.size, 0, none⟩ 1 1 [.string X] rfl rfl ?c1 ?c2 ?c3 ?c4 ?c5 ?_)
     case c1 =>
      intro j u hj
      match j, hj with
      | 0, hj => simp at hj; subst hj; simp [Addr.add]
     case c2 => intro u hu; simp at hu; subst hu; rfl
     case c3 => unfold maxLen; omega
     case c4 => omega
     case c5 => have := hb.size; simp; omega
     intro v' w4 hown' hgrow hnil'
     have hown4 : w4.ownsRow w1.heap.size 9 1 v' (xs ++ [X]).length ((xs ++ [X]).map Value.string) := by simpa using hown'
     have hb4 : Below w1.heap.size w1 w4 := (hb.alloc hb.size _).grown hgrow (by have := hb.size; simp; omega) (fun g hg => (hown.lt g hg).1)
     have hown4 := Lib.hid hown4
     have hb4 := Lib.hid hb4
     clear hgrow hb hown hown' hnil'
     go_wp2
     go_roundw
     case rel => exact ⟨i + 1, xs ++ [X], by omega, by go_num, hown4.out, by simp; omega, hx3, hb4.out⟩
     case measure => simp [intOf]; omega
  ·obtain rfl : i = Ls.length := by omega
   obtain ⟨A2, cap2, rfl, hTA⟩ := texts_of_own hown
   have hol := pre_len (by rw [HLL.out]; exact Nat.le_refl _) hp.out
   have HJ := Lib.hid (impl_joined xs A2 cap2 (by omega) (by omega) wr hTA)
   have hx3 := Lib.hid (fun w2 (h : Below wr.heap.size wr w2) => fin.out (flatB xs) (-1) w2 (prog_all (by rw [HLL.out]; exact hp.out)) (below_then (below_then B1.out hb) h))
   clear hp hol hTA hown hb
   go_wp2_with (go_at_call 70; (with_reducible refine HJ.out.mono ?_); rintro e w5 ⟨rfl, hb5⟩)
   go_ret2
   exact hx3.out w5 hb5
end Go.Proofs.YtboeaeoefoabdaaGreatDoor
namespace Go.Proofs.YtboeaeoefoabdaaGreatDoor
open Go.RowKit Go.Lib
theorem gESt : (Tryz.prog.globals[2]?).map (·.type) = some 60 := by kernel_rfl
theorem cells_err : Tryz.prog.cellsOf 190 = 1 := by kernel_rfl
theorem cells_str : Tryz.prog.cellsOf 9 = 1 := by kernel_rfl
theorem star_err : "*" ++ "errors.errorString" = "*errors.errorString" := by decide
theorem row_err (u : TypeId) (h : Tryz.prog.typeName? 3 u = some "*errors.errorString") : u = 188 :=
 typeName_ptr_named (nm := "errors.errorString") (by rw [star_err]; kernel_rfl) (by kernel_rfl) (by decide) u (by rw [star_err]; exact h)
theorem syntax_laid {r : List (String × DataW Unit)} {W : World} (h : laidMet Tryz.prog (("strconv.ErrSyntax", Rows.laid_strconv_ErrSyntax) :: r) W) : ∃ x, W.cell? ⟨2, 0, none⟩ = some (.iface 188 x) := by
 obtain ⟨_, _, hv1, -, -, -⟩ := laid_sentinel h gES gESt Tryz.underlying60 row_err Tryz.underlying188 Tryz.underlying190 rfl rfl Tryz.underlying9 cells_err cells_str
 exact ⟨_, err_cell hv1⟩
theorem maxlen_shaped {W : World} (h : W.ShapedOpen Tryz.prog) : ∃ m : Int, W.cell? ⟨1, 0, none⟩ = some (.int .i64 m) :=
 cell_of_shapedOpen_int (zero := #[.int .i64 0]) (t := 3) h (of_decide_eq_true (by kernel_rfl)) (by kernel_rfl) rfl (by kernel_rfl) (by kernel_rfl) Tryz.underlying3
end Go.Proofs.YtboeaeoefoabdaaGreatDoor
namespace Go.Proofs.YtboeaeoefoabdaaGreatDoor
open Go.RowKit
set_option maxRecDepth 100000 in
set_option maxHeartbeats 4000000 in
theorem exact_program (s : ByteArray) (_hs : s.size ≤ maxLen) (W : World) (m : Int) (hm : W.cell? ⟨1, 0, none⟩ = some (.int .i64 m)) (x : Value) (hx : W.cell? ⟨2, 0, none⟩ = some (.iface 188 x)) :
  Calls Tryz.prog 8 #[.string s] W fun e w' => e = .returned (.bool true) ∧ Below W.heap.size W w' := by
 by_cases h20 : 1048576 < s.size
 ·have h2 : (1048576 : Int) < (s.size : Int) := by omega
  go_enter Tryz.func8, Tryz.ntmps8
  go_wp2
  go_ret
  exact ⟨rfl, Below.refl _ _⟩
 ·have h2 : ¬ (1048576 : Int) < (s.size : Int) := by omega
  have HS := Lib.hid (fun w => spec_program s (by omega) w)
  have HI := Lib.hid (fun w hm hx => impl_program s (by omega) w m hm x hx)
  have hm := Lib.hid hm
  have hx := Lib.hid hx
  clear h20 _hs
  go_enter Tryz.func8, Tryz.ntmps8
  go_wp2_with (go_at_call 28; (with_reducible refine (HS.out _).mono ?_); rintro e w1 ⟨out, bad, rfl, hok, hb1⟩; refine Hid.out ?_)
  have hm1 := Lib.hid ((hb1.cell (p := ⟨_, 0, none⟩) (World.block_lt_of_cell? _ _ hm.out)).trans hm.out)
  have hx1 := Lib.hid ((hb1.cell (p := ⟨_, 0, none⟩) (World.block_lt_of_cell? _ _ hx.out)).trans hx.out)
  have hok := Lib.hid hok
  have hb1 := Lib.hid hb1
  clear HS h2 hm hx
  refine Lib.hid ?_
  go_wp2_with (go_at_call 27; refine (HI.out _ hm1.out hx1.out).mono ?_; rintro e w2 ⟨out2, bad2, rfl, hok2, hb2⟩; refine Hid.out ?_)
  obtain ⟨rfl, rfl⟩ := prog_one hok.out hok2
  have B2 := Lib.hid (below_then hb1.out hb2)
  clear hok hok2 hb1 hb2 HI hm1 hx1
  refine Lib.hid ?_
  go_wp2
  go_ret
  exact ⟨rfl, B2.out⟩
theorem program_card {a b c d e f : String × DataW Unit} (s : ByteArray) (hs : s.size ≤ maxLen) (W : World) (hL : laidMet Tryz.prog [a, b, c, d, e, ("strconv.ErrSyntax", Rows.laid_strconv_ErrSyntax), f] W) (hsh : W.ShapedOpen Tryz.prog) :
  Calls Tryz.prog 8 #[.string s] W fun e w' => e = .returned (.bool true) ∧ Below W.heap.size W w' := by
 obtain ⟨m, hm⟩ := maxlen_shaped hsh
 obtain ⟨x, hx⟩ := syntax_laid hL.tail.tail.tail.tail.tail
 exact exact_program s hs W m hm x hx
end Go.Proofs.YtboeaeoefoabdaaGreatDoor
