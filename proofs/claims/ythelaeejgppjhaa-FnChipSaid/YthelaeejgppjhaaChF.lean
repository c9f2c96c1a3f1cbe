/-
  The walks of the draws of chapter 6: a word, a chip, a chip a part of which may be out of its bounds, a register's number; old memory stays as it was.
  Conditions: the draw has at most 1048576 bytes.
-/
import Derived.Test.YthelaeejgppjhaaDsA
import Derived.Test.YthelaeejgppjhaaDrC
import Derived.Test.YthelaeejgppjhaaChC
import Derived.Test.YthelaeejgppjhaaBlk
namespace Go.Proofs.Ythelaeejgppjhaa
open Go.RowKit
def AnyPost (g : Nat) (A : Option Addr) (n c : Nat) (w : World) : Ending → World → Prop := DrawPost (-9223372036854775808) 9223372036854775807 g A n c w
def ChipPost (g : Nat) (A : Option Addr) (n c : Nat) (w : World) (e : Ending) (w' : World) : Prop :=
  ∃ x : ChipI, x.fits ∧ e = .returned (chipV x) ∧ Cur w' g A n c ∧ w.grownBy w' (some g)
def zero11 : Obj := .cells #[.int .i64 0, .int .i64 0, .bool false, .bool false, .int .i64 0, .int .i64 0, .bool false, .int .i64 0, .int .i64 0, .int .i64 0, .int .i64 0] 25
set_option maxRecDepth 100000 in
theorem l06Word1_any {B g n c : Nat} {A : Option Addr} {w : World} (h : Drawn B g n c A w) :
    Calls Try.prog 40 #[.pointer (some ⟨g, 0, none⟩)] w (AnyPost g A n c w) := by
  have hy := l01Below_any h 65536 (by omega) (by omega)
  have H := Lib.hid h
  clear h
  go_enter Try.func40, Try.ntmps40
  go_wp2_with (go_at_call 37; refine hy.mono ?_; rintro e w1 ⟨q, rfl, q0, q1, hc, hg⟩; refine Hid.out ?_)
  have hP := pickInt_new (H.out.next hc hg) [.int .i64 0, .int .i64 0, .int .i64 1, .int .i64 2, .int .i64 5, .int .i64 255, .int .i64 256, .int .i64 65535, .int .i64 q] (k := 9) rfl (by omega) (by omega)
    (by repeat (first | exact allI_nil | refine allI_cons ⟨by omega, by omega⟩ ?_))
  have G := Lib.hid hg
  clear H hy hc hg
  refine Lib.hid ?_
  go_wp2_with (go_at_call 38; refine hP.mono ?_; rintro e w2 ⟨x, rfl, x0, x1, hc, hg⟩)
  go_ret
  exact ⟨x, rfl, x0, x1, hc, grown_trans G.out hg⟩
set_option maxRecDepth 100000 in
set_option maxHeartbeats 8000000 in
theorem l06Make_any {B g n c : Nat} {A : Option Addr} {w : World} (h : Drawn B g n c A w) :
    Calls Try.prog 36 #[.pointer (some ⟨g, 0, none⟩)] w (ChipPost g A n c w) := by
  have hi := Lib.hid chip_size
  have hb0 : Below w.heap.size w (w.alloc zero11) := (Below.refl _ _).alloc (Nat.le_refl _) _
  have H := Lib.hid (h.below hb0)
  have K := Lib.hid (blk_new w zero11)
  have G := Lib.hid (grown_of_below (g := g) hb0)
  have hne : w.heap.size ≠ g := by have := h.cur.lt; omega
  clear h hb0
  have hy := l06Word1_any H.out
  unfold zero11 at hy
  go_enter Try.func36, Try.ntmps36
  go_wp2_with (go_at_call 40; refine hy.mono ?_; rintro e w1 ⟨c1, rfl, c10, c11, hc, hg⟩; refine Hid.out ?_)
  have bc1 := Lib.hid (show i64I c1 from ⟨c10, c11⟩)
  clear c10 c11
  have H := Lib.hid (H.out.next hc hg)
  have K := Lib.hid (blk_grown K.out hg hne)
  have G := Lib.hid (grown_trans G.out hg)
  clear hc hg hy
  have hy := l06Word1_any H.out
  refine Lib.hid ?_
  go_wp2_with (go_at_call 40; refine hy.mono ?_; rintro e w2 ⟨l1, rfl, l10, l11, hc, hg⟩; refine Hid.out ?_)
  have bl1 := Lib.hid (show i64I l1 from ⟨l10, l11⟩)
  clear l10 l11
  have H := Lib.hid (H.out.next hc hg)
  have K := Lib.hid (blk_grown K.out hg hne)
  have G := Lib.hid (grown_trans G.out hg)
  clear hc hg hy
  have hy := l01Once_any H.out 2 (by omega) (by omega)
  refine Lib.hid ?_
  go_wp2_with (go_at_call 41; refine hy.mono ?_; rintro e w3 ⟨v1, rfl, hc, hg⟩; refine Hid.out ?_)
  have H := Lib.hid (H.out.next hc hg)
  have K := Lib.hid (blk_grown K.out hg hne)
  have G := Lib.hid (grown_trans G.out hg)
  clear hc hg hy
  have hy := l01Once_any H.out 2 (by omega) (by omega)
  refine Lib.hid ?_
  go_wp2_with (go_at_call 41; refine hy.mono ?_; rintro e w4 ⟨ag, rfl, hc, hg⟩; refine Hid.out ?_)
  have H := Lib.hid (H.out.next hc hg)
  have K := Lib.hid (blk_grown K.out hg hne)
  have G := Lib.hid (grown_trans G.out hg)
  clear hc hg hy
  have hy := l06Word1_any H.out
  refine Lib.hid ?_
  go_wp2_with (go_at_call 40; refine hy.mono ?_; rintro e w5 ⟨c2, rfl, c20, c21, hc, hg⟩; refine Hid.out ?_)
  have bc2 := Lib.hid (show i64I c2 from ⟨c20, c21⟩)
  clear c20 c21
  have H := Lib.hid (H.out.next hc hg)
  have K := Lib.hid (blk_grown K.out hg hne)
  have G := Lib.hid (grown_trans G.out hg)
  clear hc hg hy
  have hy := l02Byte_any H.out
  refine Lib.hid ?_
  go_wp2_with (go_at_call 42; refine hy.mono ?_; rintro e w6 ⟨o2, rfl, o20, o21, hc, hg⟩; refine Hid.out ?_)
  have bo2 := Lib.hid (show i64I o2 from ⟨o20, o21⟩)
  clear o20 o21
  have H := Lib.hid (H.out.next hc hg)
  have K := Lib.hid (blk_grown K.out hg hne)
  have G := Lib.hid (grown_trans G.out hg)
  clear hc hg hy
  have hy := l01Once_any H.out 2 (by omega) (by omega)
  refine Lib.hid ?_
  go_wp2_with (go_at_call 41; refine hy.mono ?_; rintro e w7 ⟨v2, rfl, hc, hg⟩; refine Hid.out ?_)
  have H := Lib.hid (H.out.next hc hg)
  have K := Lib.hid (blk_grown K.out hg hne)
  have G := Lib.hid (grown_trans G.out hg)
  clear hc hg hy
  have hy := l02Byte_any H.out
  refine Lib.hid ?_
  go_wp2_with (go_at_call 42; refine hy.mono ?_; rintro e w8 ⟨pt, rfl, pt0, pt1, hc, hg⟩; refine Hid.out ?_)
  have bpt := Lib.hid (show i64I pt from ⟨pt0, pt1⟩)
  clear pt0 pt1
  have H := Lib.hid (H.out.next hc hg)
  have K := Lib.hid (blk_grown K.out hg hne)
  have G := Lib.hid (grown_trans G.out hg)
  clear hc hg hy
  have hy := l02Byte_any H.out
  refine Lib.hid ?_
  go_wp2_with (go_at_call 42; refine hy.mono ?_; rintro e w9 ⟨dr, rfl, dr0, dr1, hc, hg⟩; refine Hid.out ?_)
  have bdr := Lib.hid (show i64I dr from ⟨dr0, dr1⟩)
  clear dr0 dr1
  have H := Lib.hid (H.out.next hc hg)
  have K := Lib.hid (blk_grown K.out hg hne)
  have G := Lib.hid (grown_trans G.out hg)
  clear hc hg hy
  have hy := pickInt_new H.out [.int .i64 0, .int .i64 32, .int .i64 64, .int .i64 96] (k := 4) rfl (by omega) (by omega)
    (by repeat (first | exact allI_nil | refine allI_cons ⟨by omega, by omega⟩ ?_))
  refine Lib.hid ?_
  go_wp2_with (go_at_call 38; refine hy.mono ?_; rintro e w10 ⟨fl, rfl, fl0, fl1, hc, hg⟩; refine Hid.out ?_)
  have bfl := Lib.hid (show i64I fl from ⟨fl0, fl1⟩)
  clear fl0 fl1
  have H := Lib.hid (H.out.next hc hg)
  have K := Lib.hid (blk_grown K.out hg hne)
  have G := Lib.hid (grown_trans G.out hg)
  clear hc hg hy
  have hy := pickInt_new H.out [.int .i64 0, .int .i64 32, .int .i64 64, .int .i64 96] (k := 4) rfl (by omega) (by omega)
    (by repeat (first | exact allI_nil | refine allI_cons ⟨by omega, by omega⟩ ?_))
  refine Lib.hid ?_
  go_wp2_with (go_at_call 38; refine hy.mono ?_; rintro e w11 ⟨ms, rfl, ms0, ms1, hc, hg⟩; refine Hid.out ?_)
  have bms := Lib.hid (show i64I ms from ⟨ms0, ms1⟩)
  clear ms0 ms1
  have H := Lib.hid (H.out.next hc hg)
  have K := Lib.hid (blk_grown K.out hg hne)
  have G := Lib.hid (grown_trans G.out hg)
  clear hc hg hy
  have kk := K.out
  unfold zero11 at kk
  have hbV : Below w11.heap.size w11 (w11.alloc (.cells #[.int .i64 c1, .int .i64 l1, .bool v1, .bool ag, .int .i64 c2, .int .i64 o2, .bool v2, .int .i64 pt, .int .i64 dr, .int .i64 fl, .int .i64 ms] 25)) := (Below.refl _ _).alloc (Nat.le_refl _) _
  have K1 := Lib.hid (blk_old (o := .cells #[.int .i64 c1, .int .i64 l1, .bool v1, .bool ag, .int .i64 c2, .int .i64 o2, .bool v2, .int .i64 pt, .int .i64 dr, .int .i64 fl, .int .i64 ms] 25) kk)
  have HC := Lib.hid (H.out.below hbV).cur
  have HG := Lib.hid (grown_below G.out hbV)
  clear kk K H G hbV
  refine Lib.hid ?_
  go_wp2_with (refine store_row rfl 25 (.tmp 2) _ rfl w.heap.size _ rfl rfl 11 hi.out K1.out rfl rfl (by rfl) ?_)
  (try simp only [Exit.inBlock, Exit.then])
  have hend := row_end K1.out HC.out HG.out hne #[.int .i64 c1, .int .i64 l1, .bool v1, .bool ag, .int .i64 c2, .int .i64 o2, .bool v2, .int .i64 pt, .int .i64 dr, .int .i64 fl, .int .i64 ms]
  refine row_post rfl rfl Try.underlying25 rfl chip_size rfl rfl K1.out ⟨⟨c1, l1, v1, ag, c2, o2, v2, pt, dr, fl, ms⟩, ⟨bc1.out, bl1.out, bc2.out, bo2.out, bpt.out, bdr.out, bfl.out, bms.out⟩, rfl, hend.2.1, hend.2.2⟩
theorem fits_c1 {x : ChipI} (h : x.fits) {v : Int} (hv : i64I v) : ({ x with c1 := v } : ChipI).fits := ⟨hv, h.l1, h.c2, h.o2, h.pt, h.dr, h.fl, h.ms⟩
set_option maxRecDepth 100000 in
set_option maxHeartbeats 8000000 in
theorem l06Odd_any {B g n c : Nat} {A : Option Addr} {w : World} (h : Drawn B g n c A w) :
    Calls Try.prog 22 #[.pointer (some ⟨g, 0, none⟩)] w (ChipPost g A n c w) := by
  have hi := Lib.hid chip_size
  have hb0 : Below w.heap.size w (w.alloc zero11) := (Below.refl _ _).alloc (Nat.le_refl _) _
  have H0 := Lib.hid (h.below hb0)
  have K0 := Lib.hid (blk_new w zero11)
  have G0 := Lib.hid (grown_of_below (g := g) hb0)
  have hne : w.heap.size ≠ g := by have := h.cur.lt; omega
  have hgl : g < w.heap.size := h.cur.lt
  have hy := l06Make_any H0.out
  unfold ChipPost zero11 at hy
  clear h hb0
  unfold ChipPost
  go_enter Try.func22, Try.ntmps22
  go_wp2_with (go_at_call 36; refine hy.mono ?_; rintro e w1 ⟨⟨c1, l1, v1, ag, c2, o2, v2, pt, dr, fl, ms⟩, ⟨b0, b1, b2, b3, b4, b5, b6, b7⟩, rfl, hc, hg⟩; refine Hid.out ?_)
  have b0 := Lib.hid b0
  have b1 := Lib.hid b1
  have b2 := Lib.hid b2
  have b3 := Lib.hid b3
  have b4 := Lib.hid b4
  have b5 := Lib.hid b5
  have b6 := Lib.hid b6
  have b7 := Lib.hid b7
  have H1 := Lib.hid (H0.out.next hc hg)
  have K1 := Lib.hid (blk_grown K0.out hg hne)
  have G1 := Lib.hid (grown_trans G0.out hg)
  have hz : w.heap.size < w1.heap.size := by have := hg.size; simp at this; omega
  have hbV : Below w1.heap.size w1 (w1.alloc (.cells #[.int .i64 c1, .int .i64 l1, .bool v1, .bool ag, .int .i64 c2, .int .i64 o2, .bool v2, .int .i64 pt, .int .i64 dr, .int .i64 fl, .int .i64 ms] 25)) := (Below.refl _ _).alloc (Nat.le_refl _) _
  have hy := l01Below_any (H1.out.below hbV) 12 (by omega) (by omega)
  have HV := Lib.hid (blk_new w1 (.cells #[.int .i64 c1, .int .i64 l1, .bool v1, .bool ag, .int .i64 c2, .int .i64 o2, .bool v2, .int .i64 pt, .int .i64 dr, .int .i64 fl, .int .i64 ms] 25))
  have HR := Lib.hid (blk_below K1.out hbV)
  have H2 := Lib.hid (H1.out.below hbV)
  have G2 := Lib.hid (grown_below G1.out hbV)
  clear H0 K0 G0 hc hg H1 K1 G1 hbV
  rw [chipV_mk]
  refine Lib.hid ?_
  go_wp2_with (go_at_call 37; refine hy.mono ?_; rintro e w2 ⟨k, rfl, k0, k1, hc, hg⟩; refine Hid.out ?_)
  have H3 := Lib.hid (H2.out.next hc hg)
  have HV := Lib.hid (blk_grown HV.out hg (by omega))
  have HR := Lib.hid (blk_grown HR.out hg hne)
  have G3 := Lib.hid (grown_trans G2.out hg)
  clear H2 G2 hg hc
  by_cases e0 : k = 0
  · subst e0
    clear k0 k1
    have hP := pickInt_new H3.out [.int .i64 (-1), .int .i64 65536] (k := 2) rfl (by omega) (by omega)
      (by repeat (first | exact allI_nil | refine allI_cons ⟨by omega, by omega⟩ ?_))
    refine Lib.hid ?_
    go_wp2_with (go_at_call 38; refine hP.mono ?_; rintro e w3 ⟨v, rfl, va, vb, hc, hg⟩; refine Hid.out ?_)
    have bv := Lib.hid (show i64I v from ⟨va, vb⟩)
    have kV := blk_grown HV.out hg (by omega)
    have kR := blk_grown HR.out hg hne
    have c3 := cell_of_blk (i := 0) kV rfl
    have f3 := free_of_blk (i := 0) kV
    have hm := odd_mid kV kR hc (grown_trans G3.out hg) (by omega) hz 0 (.int .i64 v)
    have MV := Lib.hid hm.1
    have MR := Lib.hid hm.2.1
    have MC := Lib.hid hm.2.2.1
    have MG := Lib.hid hm.2.2.2
    clear hm kV kR hP hc hg HV HR H3 G3 hy va vb
    refine Lib.hid ?_
    go_wp2_with (first
      | (refine load_row rfl 25 (.tmp 3) rfl w1.heap.size rfl 11 _ Try.underlying25 rfl hi.out MV.out rfl ?_)
      | (refine store_row rfl 25 (.tmp 2) _ rfl w.heap.size _ rfl rfl 11 hi.out MR.out rfl rfl (by rfl) ?_))
    (try simp only [Exit.inBlock, Exit.then])
    have hend := row_end MR.out MC.out MG.out hne #[.int .i64 v, .int .i64 l1, .bool v1, .bool ag, .int .i64 c2, .int .i64 o2, .bool v2, .int .i64 pt, .int .i64 dr, .int .i64 fl, .int .i64 ms]
    exact row_post rfl rfl Try.underlying25 rfl chip_size rfl rfl MR.out ⟨⟨v, l1, v1, ag, c2, o2, v2, pt, dr, fl, ms⟩, ⟨bv.out, b1.out, b2.out, b3.out, b4.out, b5.out, b6.out, b7.out⟩, rfl, hend.2.1, hend.2.2⟩
  by_cases e1 : k = 1
  · subst e1
    clear k0 k1
    have hP := pickInt_new H3.out [.int .i64 (-1), .int .i64 256] (k := 2) rfl (by omega) (by omega)
      (by repeat (first | exact allI_nil | refine allI_cons ⟨by omega, by omega⟩ ?_))
    refine Lib.hid ?_
    go_wp2_with (go_at_call 38; refine hP.mono ?_; rintro e w3 ⟨v, rfl, va, vb, hc, hg⟩; refine Hid.out ?_)
    have bv := Lib.hid (show i64I v from ⟨va, vb⟩)
    have kV := blk_grown HV.out hg (by omega)
    have kR := blk_grown HR.out hg hne
    have c3 := cell_of_blk (i := 5) kV rfl
    have f3 := free_of_blk (i := 5) kV
    have hm := odd_mid kV kR hc (grown_trans G3.out hg) (by omega) hz 5 (.int .i64 v)
    have MV := Lib.hid hm.1
    have MR := Lib.hid hm.2.1
    have MC := Lib.hid hm.2.2.1
    have MG := Lib.hid hm.2.2.2
    clear hm kV kR hP hc hg HV HR H3 G3 hy va vb
    refine Lib.hid ?_
    go_wp2_with (first
      | (refine load_row rfl 25 (.tmp 3) rfl w1.heap.size rfl 11 _ Try.underlying25 rfl hi.out MV.out rfl ?_)
      | (refine store_row rfl 25 (.tmp 2) _ rfl w.heap.size _ rfl rfl 11 hi.out MR.out rfl rfl (by rfl) ?_))
    (try simp only [Exit.inBlock, Exit.then])
    have hend := row_end MR.out MC.out MG.out hne #[.int .i64 c1, .int .i64 l1, .bool v1, .bool ag, .int .i64 c2, .int .i64 v, .bool v2, .int .i64 pt, .int .i64 dr, .int .i64 fl, .int .i64 ms]
    exact row_post rfl rfl Try.underlying25 rfl chip_size rfl rfl MR.out ⟨⟨c1, l1, v1, ag, c2, v, v2, pt, dr, fl, ms⟩, ⟨b0.out, b1.out, b2.out, bv.out, b4.out, b5.out, b6.out, b7.out⟩, rfl, hend.2.1, hend.2.2⟩
  by_cases e2 : k = 2
  · subst e2
    clear k0 k1
    have hP := pickInt_new H3.out [.int .i64 1, .int .i64 128, .int .i64 (-1)] (k := 3) rfl (by omega) (by omega)
      (by repeat (first | exact allI_nil | refine allI_cons ⟨by omega, by omega⟩ ?_))
    refine Lib.hid ?_
    go_wp2_with (go_at_call 38; refine hP.mono ?_; rintro e w3 ⟨v, rfl, va, vb, hc, hg⟩; refine Hid.out ?_)
    have bv := Lib.hid (show i64I v from ⟨va, vb⟩)
    have kV := blk_grown HV.out hg (by omega)
    have kR := blk_grown HR.out hg hne
    have c3 := cell_of_blk (i := 9) kV rfl
    have f3 := free_of_blk (i := 9) kV
    have hm := odd_mid kV kR hc (grown_trans G3.out hg) (by omega) hz 9 (.int .i64 v)
    have MV := Lib.hid hm.1
    have MR := Lib.hid hm.2.1
    have MC := Lib.hid hm.2.2.1
    have MG := Lib.hid hm.2.2.2
    clear hm kV kR hP hc hg HV HR H3 G3 hy va vb
    refine Lib.hid ?_
    go_wp2_with (first
      | (refine load_row rfl 25 (.tmp 3) rfl w1.heap.size rfl 11 _ Try.underlying25 rfl hi.out MV.out rfl ?_)
      | (refine store_row rfl 25 (.tmp 2) _ rfl w.heap.size _ rfl rfl 11 hi.out MR.out rfl rfl (by rfl) ?_))
    (try simp only [Exit.inBlock, Exit.then])
    have hend := row_end MR.out MC.out MG.out hne #[.int .i64 c1, .int .i64 l1, .bool v1, .bool ag, .int .i64 c2, .int .i64 o2, .bool v2, .int .i64 pt, .int .i64 dr, .int .i64 v, .int .i64 ms]
    exact row_post rfl rfl Try.underlying25 rfl chip_size rfl rfl MR.out ⟨⟨c1, l1, v1, ag, c2, o2, v2, pt, dr, v, ms⟩, ⟨b0.out, b1.out, b2.out, b3.out, b4.out, b5.out, bv.out, b7.out⟩, rfl, hend.2.1, hend.2.2⟩
  have MC := Lib.hid H3.out.cur
  refine Lib.hid ?_
  go_wp2_with (first
    | (refine load_row rfl 25 (.tmp 3) rfl w1.heap.size rfl 11 _ Try.underlying25 rfl hi.out HV.out rfl ?_)
    | (refine store_row rfl 25 (.tmp 2) _ rfl w.heap.size _ rfl rfl 11 hi.out HR.out rfl rfl (by rfl) ?_))
  (try simp only [Exit.inBlock, Exit.then])
  have hend := row_end HR.out MC.out G3.out hne #[.int .i64 c1, .int .i64 l1, .bool v1, .bool ag, .int .i64 c2, .int .i64 o2, .bool v2, .int .i64 pt, .int .i64 dr, .int .i64 fl, .int .i64 ms]
  exact row_post rfl rfl Try.underlying25 rfl chip_size rfl rfl HR.out ⟨⟨c1, l1, v1, ag, c2, o2, v2, pt, dr, fl, ms⟩, ⟨b0.out, b1.out, b2.out, b3.out, b4.out, b5.out, b6.out, b7.out⟩, rfl, hend.2.1, hend.2.2⟩
end Go.Proofs.Ythelaeejgppjhaa
