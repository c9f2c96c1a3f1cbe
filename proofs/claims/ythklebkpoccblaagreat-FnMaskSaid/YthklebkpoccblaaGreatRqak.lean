/-
  Texts put together by program: MmE.
  Conditions: as each theorem says.
-/
import Derived.Test.YthklebkpoccblaaGreatRqah
import Derived.Test.YthklebkpoccblaaGreatRqaj
namespace Go.Proofs.YthklebkpoccblaaGreat
open Go.RowKit
def MemPost (g : Nat) (A : Option Addr) (n c : Nat) (w : World) (e : Ending) (w' : World) : Prop :=
 ∃ r o : ByteArray, e = .returned (.agg #[.string r, .string o]) ∧ r.size ≤ 2000 ∧ o.size ≤ 2000 ∧ Cur w' g A n c ∧ w.grownBy w' (some g)
def zeroM : Obj := .cells #[.string ⟨#[]⟩, .string ⟨#[]⟩] 80
theorem loadN_size (r o : ByteArray) (a : Int) (s : ByteArray) (k : Nat) (hr : r.size ≤ 2000) : (loadN r o a s k).size ≤ 2000 := by
 induction k with
 | zero => exact hr
 | succ k ih =>
  show (pokeR _ _ _ _).size ≤ 2000
  unfold pokeR
  split
  ·rename_i h; rw [pokeB_size _ _ _ h.1.1]; omega
  ·exact ih
theorem loadR_size (r o : ByteArray) (a : Int) (s : ByteArray) (hr : r.size ≤ 2000) : (loadR r o a s).size ≤ 2000 := by
 unfold loadR
 split
 ·exact hr
 ·exact loadN_size _ _ _ _ _ hr
theorem make_one {B g n c V D : Nat} {A : Option Addr} {w w5 w6 : World} {cs ds : Array Value} {t u : TypeId} {x : Int} (H : Drawn B g n c A w5) (HV : w5.heap[V]? = some (.cells cs t (0, 0))) (HR : w5.heap[D]? = some (.cells ds u (0, 0))) (G : w.grownBy w5 (some g))
  (hV : V ≠ g) (hD : D ≠ g) (x0 : 0 ≤ x) (hc : Cur w6 g A n c) (hg : w5.drew.grownBy w6 (some g)) :
  ∃ X : Nat, x = X ∧ Drawn B g n c A w6 ∧ w6.heap[V]? = some (.cells cs t (0, 0)) ∧ w6.heap[D]? = some (.cells ds u (0, 0)) ∧ w.grownBy w6 (some g) :=
 ⟨x.toNat, by omega, H.next hc (grown_drew hg), blk_grown HV (grown_drew hg) hV, blk_grown HR (grown_drew hg) hD, grown_trans G (grown_drew hg)⟩
theorem make_put {B g n c V D : Nat} {A : Option Addr} {w w7 w8 : World} {a b : ByteArray} {ds : Array Value} {t u : TypeId} (p q : ByteArray) (HV : w7.heap[V]? = some (.cells #[.string a, .string b] t (0, 0))) (HR : w7.heap[D]? = some (.cells ds u (0, 0)))
  (H : Drawn B g n c A w7) (G : w.grownBy w7 (some g)) (hb : Below w7.heap.size w7 w8) (hV : V ≠ g) (hD : D < V) (hw : w.heap.size ≤ V) :
  ((w8.setCell ⟨V, 0, none⟩ (.string p)).setCell ⟨V, 1, none⟩ (.string q)).heap[V]? = some (.cells #[.string p, .string q] t (0, 0)) ∧
  ((w8.setCell ⟨V, 0, none⟩ (.string p)).setCell ⟨V, 1, none⟩ (.string q)).heap[D]? = some (.cells ds u (0, 0)) ∧
  Cur ((w8.setCell ⟨V, 0, none⟩ (.string p)).setCell ⟨V, 1, none⟩ (.string q)) g A n c ∧
  w.grownBy ((w8.setCell ⟨V, 0, none⟩ (.string p)).setCell ⟨V, 1, none⟩ (.string q)) (some g) := by
 have G8 := grown_below G hb
 refine ⟨two_put (blk_below HV hb) _ _, (put_other (by omega) _ _).trans (blk_below HR hb), (H.below hb).cur.keep (put_other (Ne.symm hV) _ _), ⟨G8.os, G8.tape, G8.output, by simpa [World.setCell] using G8.size, fun k hk hn => (put_other (by omega) _ _).trans (G8.block k hk hn)⟩⟩
set_option maxRecDepth 100000 in
set_option maxHeartbeats 4000000 in
theorem l05Make_any {B g n c : Nat} {A : Option Addr} {w : World} (h : Drawn B g n c A w) :
  Calls Tryz.prog 109 #[.pointer (some ⟨g, 0, none⟩)] w (MemPost g A n c w) := by
 have hb0 : Below w.heap.size w (w.alloc zeroM) := (Below.refl _ _).alloc (Nat.le_refl _) _
 have H0 := Lib.hid (h.below hb0)
 have K0 := Lib.hid (blk_new w zeroM)
 have G0 := Lib.hid (grown_of_below (g := g) hb0)
 have hne : w.heap.size ≠ g := by have := h.cur.lt; omega
 have hgl : g < w.heap.size := h.cur.lt
 have hy := l01Below_any H0.out 40 (by omega) (by omega)
 unfold zeroM at hy
 clear h hb0
 go_enter Tryz.func109, Tryz.ntmps109
 go_wp2_with (go_at_call 55; refine hy.mono ?_; rintro e w1 ⟨x, rfl, x0, x1, hc, hg⟩; refine Hid.out ?_)
 obtain ⟨x, rfl⟩ : ∃ k : Nat, x = k := ⟨x.toNat, by omega⟩
 have H1 := Lib.hid (H0.out.next hc hg)
 have K1 := Lib.hid (blk_grown K0.out hg hne)
 have G1 := Lib.hid (grown_trans G0.out hg)
 have hy := l01Text_any H1.out x (by omega)
 clear H0 K0 G0 hc hg
 refine Lib.hid ?_
 go_wp2_with (go_at_call 127; refine hy.mono ?_; rintro e w2 ⟨r, rfl, hr, hc, hg⟩; refine Hid.out ?_)
 have hr : r.size ≤ 2000 := by omega
 have H2 := Lib.hid (H1.out.next hc hg)
 have K2 := Lib.hid (blk_grown K1.out hg hne)
 have G2 := Lib.hid (grown_trans G1.out hg)
 have hy := l01Below_any H2.out 40 (by omega) (by omega)
 clear H1 K1 G1 hc hg x0 x1
 refine Lib.hid ?_
 go_wp2_with (go_at_call 55; refine hy.mono ?_; rintro e w3 ⟨x, rfl, x0, x1, hc, hg⟩; refine Hid.out ?_)
 obtain ⟨x, rfl⟩ : ∃ k : Nat, x = k := ⟨x.toNat, by omega⟩
 have H3 := Lib.hid (H2.out.next hc hg)
 have K3 := Lib.hid (blk_grown K2.out hg hne)
 have G3 := Lib.hid (grown_trans G2.out hg)
 have hy := l01Text_any H3.out x (by omega)
 clear H2 K2 G2 hc hg
 refine Lib.hid ?_
 go_wp2_with (go_at_call 127; refine hy.mono ?_; rintro e w4 ⟨o, rfl, ho, hc, hg⟩; refine Hid.out ?_)
 have ho : o.size ≤ 2000 := by omega
 have H4 := H3.out.next hc hg
 have K4 := blk_grown K3.out hg hne
 have G4 := grown_trans G3.out hg
 have hz : w.heap.size < w4.heap.size := (Array.getElem?_eq_some_iff.1 K4).1
 have hbV : Below w4.heap.size w4 (w4.alloc (.cells #[.string r, .string o] 80)) := (Below.refl _ _).alloc (Nat.le_refl _) _
 have hy := l01Once_any (H4.below hbV) 2 (by omega) (by omega)
 have HV := Lib.hid (blk_new w4 (.cells #[.string r, .string o] 80))
 have HR := Lib.hid (blk_below K4 hbV)
 have H5 := Lib.hid (H4.below hbV)
 have G5 := Lib.hid (grown_below G4 hbV)
 clear H3 K3 G3 hc hg x0 x1 H4 K4 G4 hbV
 refine Lib.hid ?_
 go_wp2_with (go_at_call 58; refine hy.mono ?_; rintro e w5 ⟨yes, rfl, hc, hg⟩; refine Hid.out ?_)
 have H6 := Lib.hid (H5.out.next hc hg)
 have HV := Lib.hid (blk_grown HV.out hg (by omega))
 have HR := Lib.hid (blk_grown HR.out hg hne)
 have G6 := Lib.hid (grown_trans G5.out hg)
 have hst : (Tryz.prog.info? 80).map (·.size) = some 2 := mem_size
 clear H5 G5 hg hc hy
 cases yes
 ·refine Lib.hid ?_
  go_wp2_with (first
   | (refine wpList_load_row rfl 80 (.tmp 3) rfl w4.heap.size ?c1 80 #[.string r, .string o] (0, 0) _ ?c2 Tryz.underlying80 rfl ?c3 ?_)
   | (refine wpList_store_row rfl 80 (.tmp 2) (.tmp 21) rfl w.heap.size #[.string r, .string o] ?c4 ?c5 80 #[.string ⟨#[]⟩, .string ⟨#[]⟩] ?c6 ?c7 ?c8 ?c9 ?_))
  try (case c1 => rfl)
  case c2 => exact HV.out
  case c3 => exact hst
  try (case c4 => rfl)
  try (case c5 => rfl)
  case c6 => exact HR.out
  case c7 => exact hst
  case c8 => rfl
  case c9 => simp [Value.oneCell']
  have hend := row_end HR.out H6.out.cur G6.out hne #[.string r, .string o]
  exact bodyPost_ret (v := .agg #[.string r, .string o]) (results_cell_row rfl _ _ w.heap.size _ _ _ _ rfl hend.1 Tryz.underlying80 rfl mem_size) rfl ⟨r, o, rfl, hr, ho, hend.2.1, hend.2.2⟩
 ·have hy := l01Below_any H6.out.drew 30 (by omega) (by omega)
  have c0 := cell_of_blk (i := 0) HV.out rfl
  have c1 := cell_of_blk (i := 1) HV.out rfl
  have hVg : w4.heap.size ≠ g := by omega
  refine Lib.hid ?_
  go_wp2_with (fail)
  go_region_with (first
   | (go_at_call 55; refine hy.mono ?_; rintro e w6 ⟨x, rfl, x0, x1, hc, hg⟩; obtain ⟨X, rfl, H7, V7, R7, G7⟩ := make_one H6.out HV.out HR.out G6.out hVg hne x0 hc hg; have hy7 := l01Text_any H7 X (by omega); have d0 := cell_of_blk (i := 0) V7 rfl; have d1 := cell_of_blk (i := 1) V7 rfl)
   | (go_at_call 127; refine hy7.mono ?_; rintro e w7 ⟨s, rfl, hs, hc2, hg2⟩; obtain ⟨H8, V8, R8, G8⟩ := make_two H7 V7 R7 G7 hVg hne hc2 hg2; have e0 := cell_of_blk (i := 0) V8 rfl; have e1 := cell_of_blk (i := 1) V8 rfl; have hyL := spec_load r o 512 s (by unfold maxLen; omega) w7; unfold memV at hyL)
   | (go_at_call 110; refine hyL.mono ?_; rintro e w8 ⟨rfl, hb8⟩; obtain ⟨q0, q1, f0, f1⟩ := two_keep V8 hb8))
  all_goals
   obtain ⟨V9, R9, C9, G9⟩ := make_put (loadR r o 512 s) o V8 R8 H8 G8 hb8 hVg hz (by omega)
   have HV9 := Lib.hid V9
   have HR9 := Lib.hid R9
   clear V9 R9 q0 q1 f0 f1 e0 e1 d0 d1 c0 c1
   go_wp2_with (first
    | (refine wpList_load_row rfl 80 (.tmp 3) rfl w4.heap.size rfl 80 #[.string (loadR r o 512 s), .string o] (0, 0) _ HV9.out Tryz.underlying80 rfl hst ?_)
    | (refine wpList_store_row rfl 80 (.tmp 2) (.tmp 21) rfl w.heap.size #[.string (loadR r o 512 s), .string o] rfl rfl 80 #[.string ⟨#[]⟩, .string ⟨#[]⟩] HR9.out hst rfl (by simp [Value.oneCell']) ?_))
   have hend := row_end HR9.out C9 G9 hne #[.string (loadR r o 512 s), .string o]
   exact bodyPost_ret (v := .agg #[.string (loadR r o 512 s), .string o]) (results_cell_row rfl _ _ w.heap.size _ _ _ _ rfl hend.1 Tryz.underlying80 rfl mem_size) rfl ⟨_, o, rfl, loadR_size r o 512 s hr, ho, hend.2.1, hend.2.2⟩
end Go.Proofs.YthklebkpoccblaaGreat
