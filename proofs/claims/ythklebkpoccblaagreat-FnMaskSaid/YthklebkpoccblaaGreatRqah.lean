/-
  Texts put together by program: DrI, DsA, Kee, RgB, WrB.
  Conditions: as each theorem says.
-/
import Derived.Deep.RegionHeld3
import Derived.Outline
import Derived.Test.YthklebkpoccblaaGreatRqag
namespace Go.Proofs.YthklebkpoccblaaGreat
open Go.RowKit
theorem new_drawn {B n c : Nat} {A : Option Addr} {w w1 : World} (hB : B ≤ w.heap.size) (hcode : Code w B A n) (hc : Cur w1 w.heap.size A n c) (hb : Below w.heap.size w w1) : Drawn B w.heap.size n c A w1 :=
 ⟨Nat.le_trans hB hb.size, hB, hcode.below hB hb, hc⟩
end Go.Proofs.YthklebkpoccblaaGreat
namespace Go.Proofs.YthklebkpoccblaaGreat
open Go.RowKit
set_option maxHeartbeats 1000000 in
theorem l02Byte_any {B g n c : Nat} {A : Option Addr} {w : World} (h : Drawn B g n c A w) :
  Calls Tryz.prog 60 #[.pointer (some ⟨g, 0, none⟩)] w (DrawPost (-9223372036854775808) 9223372036854775807 g A n c w) := by
 have hy := l01Below_any h 256 (by omega) (by omega)
 have H := Lib.hid h
 clear h
 go_enter Tryz.func60, Tryz.ntmps60
 go_wp2_with (go_at_call 55; refine hy.mono ?_; rintro e w1 ⟨x, rfl, h0, h1, hc, hg⟩; refine Hid.out ?_)
 have hP := pickInt_new (H.out.next hc hg) [.int .i64 0, .int .i64 1, .int .i64 9, .int .i64 10, .int .i64 15, .int .i64 16, .int .i64 127, .int .i64 128, .int .i64 153, .int .i64 154, .int .i64 255, .int .i64 x] (k := 12) rfl (by omega) (by omega)
  (by repeat (first | exact allI_nil | refine allI_cons ⟨by omega, by omega⟩ ?_))
 clear hy hc
 refine Lib.hid ?_
 go_wp2_with (go_at_call 57; refine hP.mono ?_; rintro e w2 ⟨y, rfl, y0, y1, hc2, hg2⟩)
 go_ret
 exact ⟨y, rfl, y0, y1, hc2, grown_trans hg hg2⟩
end Go.Proofs.YthklebkpoccblaaGreat
namespace Go.Proofs.YthklebkpoccblaaGreat
open Go.RowKit
theorem make_two {B g n c V D : Nat} {A : Option Addr} {w w5 w6 : World} {cs ds : Array Value} {t u : TypeId} (H : Drawn B g n c A w5) (HV : w5.heap[V]? = some (.cells cs t (0, 0))) (HR : w5.heap[D]? = some (.cells ds u (0, 0))) (G : w.grownBy w5 (some g))
  (hV : V ≠ g) (hD : D ≠ g) (hc : Cur w6 g A n c) (hg : w5.grownBy w6 (some g)) :
  Drawn B g n c A w6 ∧ w6.heap[V]? = some (.cells cs t (0, 0)) ∧ w6.heap[D]? = some (.cells ds u (0, 0)) ∧ w.grownBy w6 (some g) :=
 ⟨H.next hc hg, blk_grown HV hg hV, blk_grown HR hg hD, grown_trans G hg⟩
end Go.Proofs.YthklebkpoccblaaGreat
namespace Go.Proofs.YthklebkpoccblaaGreat
open Go.RowKit
theorem is_byte (n : Int) (w : World) : Calls Tryz.prog 40 #[.int .i64 n] w fun e w' => e = .returned (.bool (isB n)) ∧ w = w' := by
 cases h : isB n
 ·have h' := isB_no h
  by_cases h0 : 0 ≤ n
  ·have h1 : ¬ n ≤ 255 := by omega
   clear h h'
   go_enter Tryz.func40, Tryz.ntmps40
   go_wp2
   go_ret
   exact ⟨rfl, rfl⟩
  ·clear h h'
   go_enter Tryz.func40, Tryz.ntmps40
   go_wp2
   go_ret
   exact ⟨rfl, rfl⟩
 ·obtain ⟨h0, h1⟩ := isB_yes h
  clear h
  go_enter Tryz.func40, Tryz.ntmps40
  go_wp2
  go_ret
  exact ⟨rfl, rfl⟩
theorem is_addr (n : Int) (w : World) : Calls Tryz.prog 78 #[.int .i64 n] w fun e w' => e = .returned (.bool (isAd n)) ∧ w = w' := by
 cases h : isAd n
 ·have h' := isAd_no h
  by_cases h0 : 0 ≤ n
  ·have h1 : ¬ n ≤ 65535 := by omega
   clear h h'
   go_enter Tryz.func78, Tryz.ntmps78
   go_wp2
   go_ret
   exact ⟨rfl, rfl⟩
  ·clear h h'
   go_enter Tryz.func78, Tryz.ntmps78
   go_wp2
   go_ret
   exact ⟨rfl, rfl⟩
 ·obtain ⟨h0, h1⟩ := isAd_yes h
  clear h
  go_enter Tryz.func78, Tryz.ntmps78
  go_wp2
  go_ret
  exact ⟨rfl, rfl⟩
theorem kept_any (p : Int) (w : World) : Calls Tryz.prog 108 #[.int .u8 p] w fun e w' => e = .returned (.int .u8 (keptI p)) ∧ w = w' := by
 have HW := Lib.hid with_flag
 go_enter Tryz.func108, Tryz.ntmps108
 go_wp2_with (go_at_call 126; refine (HW.out _ _ _ _).mono ?_; rintro e w' ⟨rfl, rfl⟩)
 go_ret
 exact ⟨rfl, rfl⟩
theorem are_kept (p : Int) (h0 : 0 ≤ p) (h1 : p < 256) (w : World) : Calls Tryz.prog 77 #[.int .u8 p] w fun e w' => e = .returned (.bool (keptB p)) ∧ w = w' := by
 have HK := Lib.hid kept_any
 have H := Lib.hid (kept_same p h0 h1)
 go_enter Tryz.func77, Tryz.ntmps77
 go_wp2_with (go_at_call 108; refine (HK.out _ _).mono ?_; rintro e w' ⟨rfl, rfl⟩)
 go_ret
 exact ⟨by rw [← H.out]; rfl, rfl⟩
def pushI (p : Int) (b : Bool) : Int := wI (wI p 32 true) 16 b
theorem spec_pushed (p : Int) (b : Bool) (w : World) : Calls Tryz.prog 80 #[.int .i64 p, .bool b] w fun e w' => e = .returned (.int .i64 (pushI p b)) ∧ w = w' := by
 have HW := Lib.hid spec_with
 go_enter Tryz.func80, Tryz.ntmps80
 go_wp2_with (go_at_call 53; refine (HW.out _ _ _ _).mono ?_; rintro e w' ⟨rfl, rfl⟩)
 go_ret
 exact ⟨rfl, rfl⟩
theorem spec_pulled (p : Int) (w : World) : Calls Tryz.prog 26 #[.int .i64 p] w fun e w' => e = .returned (.int .i64 (keptI p)) ∧ w = w' := by
 have HW := Lib.hid spec_with
 go_enter Tryz.func26, Tryz.ntmps26
 go_wp2_with (go_at_call 53; refine (HW.out _ _ _ _).mono ?_; rintro e w' ⟨rfl, rfl⟩)
 go_ret
 exact ⟨rfl, rfl⟩
theorem impl_pushed (p : Int) (b : Bool) (w : World) : Calls Tryz.prog 157 #[.int .i64 p, .bool b] w fun e w' => e = .returned (.int .i64 (pushI p b)) ∧ w = w' := by
 have HW := Lib.hid with_flag
 have hb := wI_bd (wI p 32 true) 16 b
 go_enter Tryz.func157, Tryz.ntmps157
 go_wp2_with (go_at_call 126; refine (HW.out _ _ _ _).mono ?_; rintro e w' ⟨rfl, rfl⟩; try rw [wI_mod])
 go_ret
 exact ⟨rfl, rfl⟩
end Go.Proofs.YthklebkpoccblaaGreat
namespace Go.Proofs.YthklebkpoccblaaGreat
open Go.RowKit
def AllIn (lo hi : Int) (l : List Value) : Prop := ∀ i, i < l.length → ∃ v : Int, (lo ≤ v ∧ v ≤ hi) ∧ l[i]? = some (.int .i64 v)
theorem allIn_nil {lo hi : Int} : AllIn lo hi [] := fun _ hi => absurd hi (Nat.not_lt_zero _)
theorem allIn_cons {lo hi x : Int} {l : List Value} (h : lo ≤ x ∧ x ≤ hi) (hl : AllIn lo hi l) : AllIn lo hi (.int .i64 x :: l) := by
 intro i hi
 cases i with
 | zero => exact ⟨x, h, rfl⟩
 | succ i => simpa using hl i (by simpa using hi)
set_option maxHeartbeats 1000000 in
theorem l01PickInt_in {lo hi : Int} {B g n c r k cap : Nat} {A : Option Addr} {w : World} (h : Drawn B g n c A w) (hk : 1 ≤ k) (hk2 : k ≤ 1000) (hne : r ≠ g) (hr : r < w.heap.size)
  (hrow : ∀ i, i < k → ∃ v : Int, (lo ≤ v ∧ v ≤ hi) ∧ w.cell? ⟨r, i, none⟩ = some (.int .i64 v)) :
  Calls Tryz.prog 57 #[.pointer (some ⟨g, 0, none⟩), .slice (some ⟨r, 0, none⟩) k cap] w (DrawPost lo hi g A n c w) := by
 have hy := l01Below_any h (k : Int) (by omega) (by omega)
 have HR := Lib.hid hrow
 clear h hrow
 go_enter Tryz.func57, Tryz.ntmps57
 go_wp2_with (go_at_call 55; refine hy.mono ?_; rintro e w1 ⟨x, rfl, h0, h1, hc, hg⟩; refine Hid.out ?_)
 obtain ⟨X, rfl⟩ : ∃ X : Nat, x = X := ⟨x.toNat, by omega⟩
 have hX : X < k := by omega
 obtain ⟨v, hv, hcv⟩ := HR.out X hX
 have hc1 : w1.cell? ⟨r, X, none⟩ = some (.int .i64 v) := (World.cell?_of_block (hg.block r hr (by simp [hne]))).trans hcv
 obtain ⟨hv0, hv1⟩ := hv
 have hv0 := Lib.hid hv0
 have hv1 := Lib.hid hv1
 clear hcv hy
 refine Lib.hid ?_
 go_wp2
 go_ret
 exact ⟨_, rfl, hv0.out, hv1.out, hc, hg⟩
theorem pickInt_in {lo hi : Int} {B g n c k : Nat} {A : Option Addr} {w : World} (h : Drawn B g n c A w) (cs : List Value) (hs : cs.length = k) (hk : 1 ≤ k) (hk2 : k ≤ 1000) (hall : AllIn lo hi cs) :
  Calls Tryz.prog 57 #[.pointer (some ⟨g, 0, none⟩), .slice (some ⟨w.heap.size, 0, none⟩) k k] (w.alloc (.cells cs.toArray 3)) (DrawPost lo hi g A n c w) := by
 have hb : Below w.heap.size w (w.alloc (.cells cs.toArray 3)) := (Below.refl _ _).alloc (Nat.le_refl _) _
 refine (l01PickInt_in (lo := lo) (hi := hi) (h.below hb) hk hk2 (by have := h.cur.lt; omega) (by simp) (fun i hi => ?_)).mono ?_
 ·obtain ⟨v, hv, e⟩ := hall i (by omega)
  exact ⟨v, hv, by rw [new_row]; simpa using e⟩
 ·rintro e w' ⟨x, rfl, h0, h1, hc, hg⟩
  exact ⟨x, rfl, h0, h1, hc, grown_trans (grown_of_below hb) hg⟩
set_option maxHeartbeats 1000000 in
theorem l02Byte_in {B g n c : Nat} {A : Option Addr} {w : World} (h : Drawn B g n c A w) :
  Calls Tryz.prog 60 #[.pointer (some ⟨g, 0, none⟩)] w (DrawPost 0 255 g A n c w) := by
 have hy := l01Below_any h 256 (by omega) (by omega)
 have H := Lib.hid h
 clear h
 go_enter Tryz.func60, Tryz.ntmps60
 go_wp2_with (go_at_call 55; refine hy.mono ?_; rintro e w1 ⟨x, rfl, h0, h1, hc, hg⟩; refine Hid.out ?_)
 have hP := pickInt_in (lo := 0) (hi := 255) (H.out.next hc hg) [.int .i64 0, .int .i64 1, .int .i64 9, .int .i64 10, .int .i64 15, .int .i64 16, .int .i64 127, .int .i64 128, .int .i64 153, .int .i64 154, .int .i64 255, .int .i64 x] (k := 12) rfl (by omega) (by omega)
  (by repeat (first | exact allIn_nil | refine allIn_cons ⟨by omega, by omega⟩ ?_))
 clear hy hc
 refine Lib.hid ?_
 go_wp2_with (go_at_call 57; refine hP.mono ?_; rintro e w2 ⟨y, rfl, y0, y1, hc2, hg2⟩)
 go_ret
 exact ⟨y, rfl, y0, y1, hc2, grown_trans hg hg2⟩
def RegOkPost (g : Nat) (A : Option Addr) (n c : Nat) (w : World) (e : Ending) (w' : World) : Prop :=
 ∃ k : RegI, e = .returned (regI k) ∧ k.ok ∧ Cur w' g A n c ∧ w.grownBy w' (some g)
set_option maxRecDepth 100000 in
set_option maxHeartbeats 4000000 in
theorem l03Make_ok {B g n c : Nat} {A : Option Addr} {w : World} (h : Drawn B g n c A w) :
  Calls Tryz.prog 88 #[.pointer (some ⟨g, 0, none⟩)] w (RegOkPost g A n c w) := by
 have hb0 : Below w.heap.size w (w.alloc zero6) := (Below.refl _ _).alloc (Nat.le_refl _) _
 have H0 := Lib.hid (h.below hb0)
 have K0 := Lib.hid (blk_new w zero6)
 have G0 := Lib.hid (grown_of_below (g := g) hb0)
 have hne : w.heap.size ≠ g := by have := h.cur.lt; omega
 have hy := l02Byte_in H0.out
 unfold zero6 at hy
 clear h hb0
 go_enter Tryz.func88, Tryz.ntmps88
 go_wp2_with (go_at_call 60; refine hy.mono ?_; rintro e w1 ⟨a, rfl, b0, d0, hc, hg⟩; refine Hid.out ?_)
 have b0 := Lib.hid b0
 have d0 := Lib.hid d0
 have H1 := Lib.hid (H0.out.next hc hg)
 have K1 := Lib.hid (blk_grown K0.out hg hne)
 have G1 := Lib.hid (grown_trans G0.out hg)
 have hy := l02Byte_in H1.out
 clear H0 K0 G0 hc hg
 refine Lib.hid ?_
 go_wp2_with (go_at_call 60; refine hy.mono ?_; rintro e w2 ⟨x, rfl, b1, d1, hc, hg⟩; refine Hid.out ?_)
 have b1 := Lib.hid b1
 have d1 := Lib.hid d1
 have H2 := Lib.hid (H1.out.next hc hg)
 have K2 := Lib.hid (blk_grown K1.out hg hne)
 have G2 := Lib.hid (grown_trans G1.out hg)
 have hy := l02Byte_in H2.out
 clear H1 K1 G1 hc hg
 refine Lib.hid ?_
 go_wp2_with (go_at_call 60; refine hy.mono ?_; rintro e w3 ⟨y, rfl, b2, d2, hc, hg⟩; refine Hid.out ?_)
 have b2 := Lib.hid b2
 have d2 := Lib.hid d2
 have H3 := Lib.hid (H2.out.next hc hg)
 have K3 := Lib.hid (blk_grown K2.out hg hne)
 have G3 := Lib.hid (grown_trans G2.out hg)
 have hy := l02Byte_in H3.out
 clear H2 K2 G2 hc hg
 refine Lib.hid ?_
 go_wp2_with (go_at_call 60; refine hy.mono ?_; rintro e w4 ⟨s, rfl, b3, d3, hc, hg⟩; refine Hid.out ?_)
 have b3 := Lib.hid b3
 have d3 := Lib.hid d3
 have H4 := Lib.hid (H3.out.next hc hg)
 have K4 := Lib.hid (blk_grown K3.out hg hne)
 have G4 := Lib.hid (grown_trans G3.out hg)
 have hy := l02Byte_in H4.out
 clear H3 K3 G3 hc hg
 refine Lib.hid ?_
 go_wp2_with (go_at_call 60; refine hy.mono ?_; rintro e w5 ⟨p, rfl, b4, d4, hc, hg⟩; refine Hid.out ?_)
 have b4 := Lib.hid b4
 have d4 := Lib.hid d4
 have H5 := Lib.hid (H4.out.next hc hg)
 have K5 := Lib.hid (blk_grown K4.out hg hne)
 have G5 := Lib.hid (grown_trans G4.out hg)
 have hy := l01Below_any H5.out 65536 (by omega) (by omega)
 have hU := fun w => spec_pulled p w
 clear H4 K4 G4 hc hg
 refine Lib.hid ?_
 go_wp2_with (first
  | (go_at_call 26; refine (hU _).mono ?_; rintro e w' ⟨rfl, rfl⟩)
  | (go_at_call 55; refine hy.mono ?_; rintro e w6 ⟨q, rfl, q0, q1, hc, hg⟩; refine Hid.out ?_))
 have H6 := Lib.hid (H5.out.next hc hg)
 have K6 := Lib.hid (blk_grown K5.out hg hne)
 have G6 := Lib.hid (grown_trans G5.out hg)
 have hP := pickInt_in (lo := 0) (hi := 65535) H6.out [.int .i64 512, .int .i64 512, .int .i64 61440, .int .i64 511, .int .i64 2047, .int .i64 q] (k := 6) rfl (by omega) (by omega)
  (by repeat (first | exact allIn_nil | refine allIn_cons ⟨by omega, by omega⟩ ?_))
 clear H5 K5 G5 hc hg
 refine Lib.hid ?_
 go_wp2_with (go_at_call 57; refine hP.mono ?_; rintro e w7 ⟨pc, rfl, pc0, pc1, hc, hg⟩; refine Hid.out ?_)
 have k7 := blk_grown K6.out hg hne
 unfold zero6 at k7
 have G7 := Lib.hid (grown_trans G6.out hg)
 clear H6 K6 G6 hg
 have hst : (Tryz.prog.info? 25).map (·.size) = some 6 := reg_size
 refine Lib.hid ?_
 go_wp2_with (refine wpList_store_row rfl 25 (.tmp 2) (.tmp 19) rfl w.heap.size #[.int .i64 a, .int .i64 x, .int .i64 y, .int .i64 s, .int .i64 (keptI p), .int .i64 pc] ?c1 ?c2 25 #[.int .i64 0, .int .i64 0, .int .i64 0, .int .i64 0, .int .i64 0, .int .i64 0] ?c3 ?c4 ?c5 ?c6 ?_)
 case c1 => rfl
 case c2 => rfl
 case c3 => exact k7
 case c4 => exact hst
 case c5 => rfl
 case c6 => simp [Value.oneCell']
 have hend := row_end k7 hc G7.out hne #[.int .i64 a, .int .i64 x, .int .i64 y, .int .i64 s, .int .i64 (keptI p), .int .i64 pc]
 have hkb : 0 ≤ keptI p ∧ keptI p < 256 := wI_bd _ 16 false
 exact bodyPost_ret (v := regI ⟨a, x, y, s, keptI p, pc⟩) (results_cell_row rfl _ _ w.heap.size _ _ _ _ rfl hend.1 Tryz.underlying25 rfl reg_size) rfl ⟨⟨a, x, y, s, keptI p, pc⟩, rfl, ⟨⟨b0.out, d0.out⟩, ⟨b1.out, d1.out⟩, ⟨b2.out, d2.out⟩, ⟨b3.out, d3.out⟩, hkb, keptB_keptI p, ⟨pc0, pc1⟩⟩, hend.2.1, hend.2.2⟩
theorem op_name (a b : ByteArray) (W : World) : (Instr.field 55 (.agg #[.string a, .string b]) 0).run Tryz.prog W = .ok (.string a) W := by kernel_rfl
end Go.Proofs.YthklebkpoccblaaGreat
