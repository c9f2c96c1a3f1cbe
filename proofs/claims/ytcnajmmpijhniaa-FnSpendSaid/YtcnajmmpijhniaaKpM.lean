/-
  The walks of the draws of keepers (chapter 8): a keeper, a keeper a part of which may be out of its bounds; old memory stays as it was.
  Conditions: the draw has at most 1048576 bytes.
-/
import Derived.Test.YtcnajmmpijhniaaKpF
import Derived.Test.YtcnajmmpijhniaaChF
namespace Go.Proofs.Ytcnajmmpijhniaa
open Go.RowKit
def KeepPost (g : Nat) (A : Option Addr) (n c : Nat) (w : World) (e : Ending) (w' : World) : Prop :=
  ∃ x : KeepI, e = .returned (keepV x) ∧ Cur w' g A n c ∧ w.grownBy w' (some g)
def zero7 : Obj := .cells #[.int .i64 0, .int .i64 0, .int .i64 0, .int .i64 0, .int .i64 0, .int .i64 0, .int .i64 0] 25
set_option maxHeartbeats 1000000 in
theorem l05Addr_k {B g n c : Nat} {A : Option Addr} {w : World} (h : Drawn B g n c A w) :
    Calls Try.prog 57 #[.pointer (some ⟨g, 0, none⟩)] w (DrawPost (-9223372036854775808) 9223372036854775807 g A n c w) := by
  have hy := l01Below_any h 65536 (by omega) (by omega)
  have H := Lib.hid h
  clear h
  go_enter Try.func57, Try.ntmps57
  go_wp2_with (go_at_call 37; refine hy.mono ?_; rintro e w1 ⟨x, rfl, h0, h1, hc, hg⟩; refine Hid.out ?_)
  have hP := pickInt_new (H.out.next hc hg) [.int .i64 0, .int .i64 1, .int .i64 5, .int .i64 512, .int .i64 515, .int .i64 1023, .int .i64 1024, .int .i64 1029, .int .i64 8191, .int .i64 8192, .int .i64 12287, .int .i64 12288, .int .i64 12543, .int .i64 12544, .int .i64 61439, .int .i64 61440, .int .i64 61445, .int .i64 65535, .int .i64 65536, .int .i64 (-1), .int .i64 9223372036854775807, .int .i64 x] (k := 22) rfl (by omega) (by omega)
    (by repeat (first | exact allI_nil | refine allI_cons ⟨by omega, by omega⟩ ?_))
  clear hy hc
  refine Lib.hid ?_
  go_wp2_with (go_at_call 53; refine hP.mono ?_; rintro e w2 ⟨y, rfl, y0, y1, hc2, hg2⟩)
  go_ret
  exact ⟨y, rfl, y0, y1, hc2, grown_trans hg hg2⟩
set_option maxRecDepth 100000 in
set_option maxHeartbeats 8000000 in
theorem l08Make_any {B g n c : Nat} {A : Option Addr} {w : World} (h : Drawn B g n c A w) :
    Calls Try.prog 52 #[.pointer (some ⟨g, 0, none⟩)] w (KeepPost g A n c w) := by
  have hi := Lib.hid keep_size
  have hb0 : Below w.heap.size w (w.alloc zero7) := (Below.refl _ _).alloc (Nat.le_refl _) _
  have H0 := Lib.hid h
  have H := Lib.hid (h.below hb0)
  have K := Lib.hid (blk_new w zero7)
  have G := Lib.hid (grown_of_below (g := g) hb0)
  have hgl : g < w.heap.size := h.cur.lt
  have hne : w.heap.size ≠ g := by omega
  clear h hb0
  have hy := l01Below_any H.out 4 (by omega) (by omega)
  unfold zero7 at hy
  go_enter Try.func52, Try.ntmps52
  go_wp2_with (go_at_call 37; refine hy.mono ?_; rintro e w1 ⟨a, rfl, a0, a1, hc, hg⟩; refine Hid.out ?_)
  have H := Lib.hid (H.out.next hc hg)
  have K := Lib.hid (blk_grown K.out hg hne)
  have G := Lib.hid (grown_trans G.out hg)
  clear hc hg hy
  have hy := l01Below_any H.out 4 (by omega) (by omega)
  refine Lib.hid ?_
  go_wp2_with (go_at_call 37; refine hy.mono ?_; rintro e w2 ⟨b, rfl, b0, b1, hc, hg⟩; refine Hid.out ?_)
  have H := Lib.hid (H.out.next hc hg)
  have K := Lib.hid (blk_grown K.out hg hne)
  have G := Lib.hid (grown_trans G.out hg)
  clear hc hg hy
  have hy := l05Addr_k H.out
  refine Lib.hid ?_
  go_wp2_with (go_at_call 57; refine hy.mono ?_; rintro e w3 ⟨x, rfl, x0, x1, hc, hg⟩; refine Hid.out ?_)
  clear x0 x1
  have H := Lib.hid (H.out.next hc hg)
  have K := Lib.hid (blk_grown K.out hg hne)
  have G := Lib.hid (grown_trans G.out hg)
  clear hc hg hy
  have hy := pickInt_new H.out [.int .i64 0, .int .i64 1, .int .i64 3, .int .i64 255] (k := 4) rfl (by omega) (by omega)
    (by repeat (first | exact allI_nil | refine allI_cons ⟨by omega, by omega⟩ ?_))
  have e3 := and_ad x
  refine Lib.hid ?_
  go_wp2_with (go_at_call 53; refine hy.mono ?_; rintro e w4 ⟨lf, rfl, lf0, lf1, hc, hg⟩; refine Hid.out ?_)
  clear lf0 lf1
  have H := Lib.hid (H.out.next hc hg)
  have K := Lib.hid (blk_grown K.out hg hne)
  have G := Lib.hid (grown_trans G.out hg)
  clear hc hg hy
  have hy := l02Byte_any H.out
  refine Lib.hid ?_
  go_wp2_with (go_at_call 56; refine hy.mono ?_; rintro e w5 ⟨sm, rfl, sm0, sm1, hc, hg⟩; refine Hid.out ?_)
  clear sm0 sm1 e3
  have H := Lib.hid (H.out.next hc hg)
  have K := Lib.hid (blk_grown K.out hg hne)
  have G := Lib.hid (grown_trans G.out hg)
  clear hc hg hy
  have hz : w.heap.size < w5.heap.size := (Array.getElem?_eq_some_iff.1 K.out).1
  have hbV : Below w5.heap.size w5 (w5.alloc (.cells #[.int .i64 a, .int .i64 b, .int .i64 0, .int .i64 0, .int .i64 (x % 65536), .int .i64 lf, .int .i64 sm] 25)) := (Below.refl _ _).alloc (Nat.le_refl _) _
  have HV := Lib.hid (blk_new w5 (.cells #[.int .i64 a, .int .i64 b, .int .i64 0, .int .i64 0, .int .i64 (x % 65536), .int .i64 lf, .int .i64 sm] 25))
  have HR := Lib.hid (blk_below K.out hbV)
  have H2 := Lib.hid (H.out.below hbV)
  have G2 := Lib.hid (grown_below G.out hbV)
  clear hbV K G H
  have hy := l01Below_any H2.out (a + 1) (by omega) (by omega)
  refine Lib.hid ?_
  go_wp2_with (go_at_call 37; refine hy.mono ?_; rintro e w6 ⟨wl, rfl, wl0, wl1, hc, hg⟩; refine Hid.out ?_)
  clear wl0 wl1 hy
  have kV := blk_grown HV.out hg (by omega)
  have kR := blk_grown HR.out hg hne
  have c1 := cell_of_blk (i := 1) kV rfl
  have c2 := cell_of_blk (i := 2) kV rfl
  have f2 := free_of_blk (i := 2) kV
  have hm := odd_mid kV kR hc (grown_trans G2.out hg) (by omega) hz 2 (.int .i64 wl)
  have MV := Lib.hid hm.1
  have MR := Lib.hid hm.2.1
  have MC := Lib.hid hm.2.2.1
  have MG := Lib.hid hm.2.2.2
  have H3 := Lib.hid (H0.out.next MC.out MG.out)
  clear hm kV kR hc hg HV HR H2 G2
  have hy := l01Below_any H3.out (b + 1) (by omega) (by omega)
  refine Lib.hid ?_
  go_wp2_with (go_at_call 37; refine hy.mono ?_; rintro e w7 ⟨bl, rfl, bl0, bl1, hc, hg⟩; refine Hid.out ?_)
  clear bl0 bl1 hy c1 c2 f2
  have kV := blk_grown MV.out hg (by omega)
  have kR := blk_grown MR.out hg hne
  have c3 := cell_of_blk (i := 3) kV rfl
  have f3 := free_of_blk (i := 3) kV
  have hm := odd_mid kV kR hc (grown_trans MG.out hg) (by omega) hz 3 (.int .i64 bl)
  have MV := Lib.hid hm.1
  have MR := Lib.hid hm.2.1
  have MC := Lib.hid hm.2.2.1
  have MG := Lib.hid hm.2.2.2
  clear hm kV kR hc hg
  refine Lib.hid ?_
  go_wp2_with (first
    | (refine load_row rfl 25 (.tmp 3) rfl w5.heap.size rfl 7 _ Try.underlying25 rfl hi.out MV.out rfl ?_)
    | (refine store_row rfl 25 (.tmp 2) _ rfl w.heap.size _ rfl rfl 7 hi.out MR.out rfl rfl (by rfl) ?_))
  (try simp only [Exit.inBlock, Exit.then])
  have hend := row_end MR.out MC.out MG.out hne #[.int .i64 a, .int .i64 b, .int .i64 wl, .int .i64 bl, .int .i64 (x % 65536), .int .i64 lf, .int .i64 sm]
  exact row_post rfl rfl Try.underlying25 rfl keep_size rfl rfl MR.out ⟨⟨a, b, wl, bl, (x % 65536), lf, sm⟩, rfl, hend.2.1, hend.2.2⟩
set_option maxRecDepth 100000 in
set_option maxHeartbeats 8000000 in
theorem l08Odd_any {B g n c : Nat} {A : Option Addr} {w : World} (h : Drawn B g n c A w) :
    Calls Try.prog 35 #[.pointer (some ⟨g, 0, none⟩)] w (KeepPost g A n c w) := by
  have hi := Lib.hid keep_size
  have hb0 : Below w.heap.size w (w.alloc zero7) := (Below.refl _ _).alloc (Nat.le_refl _) _
  have H0 := Lib.hid (h.below hb0)
  have K0 := Lib.hid (blk_new w zero7)
  have G0 := Lib.hid (grown_of_below (g := g) hb0)
  have hne : w.heap.size ≠ g := by have := h.cur.lt; omega
  have hgl : g < w.heap.size := h.cur.lt
  have hy := l08Make_any H0.out
  unfold KeepPost zero7 at hy
  clear h hb0
  unfold KeepPost
  go_enter Try.func35, Try.ntmps35
  go_wp2_with (go_at_call 52; refine hy.mono ?_; rintro e w1 ⟨⟨ws, bu, wl, bl, ad, lf, sm⟩, rfl, hc, hg⟩; refine Hid.out ?_)
  have H1 := Lib.hid (H0.out.next hc hg)
  have K1 := Lib.hid (blk_grown K0.out hg hne)
  have G1 := Lib.hid (grown_trans G0.out hg)
  have hz : w.heap.size < w1.heap.size := by have := hg.size; simp at this; omega
  have hbV : Below w1.heap.size w1 (w1.alloc (.cells #[.int .i64 ws, .int .i64 bu, .int .i64 wl, .int .i64 bl, .int .i64 ad, .int .i64 lf, .int .i64 sm] 25)) := (Below.refl _ _).alloc (Nat.le_refl _) _
  have hy := l01Below_any (H1.out.below hbV) 12 (by omega) (by omega)
  have HV := Lib.hid (blk_new w1 (.cells #[.int .i64 ws, .int .i64 bu, .int .i64 wl, .int .i64 bl, .int .i64 ad, .int .i64 lf, .int .i64 sm] 25))
  have HR := Lib.hid (blk_below K1.out hbV)
  have H2 := Lib.hid (H1.out.below hbV)
  have G2 := Lib.hid (grown_below G1.out hbV)
  clear H0 K0 G0 hc hg H1 K1 G1 hbV
  rw [keepV_mk]
  refine Lib.hid ?_
  go_wp2_with (go_at_call 37; refine hy.mono ?_; rintro e w2 ⟨k, rfl, k0, k1, hc, hg⟩; refine Hid.out ?_)
  have H3 := Lib.hid (H2.out.next hc hg)
  have HV := Lib.hid (blk_grown HV.out hg (by omega))
  have HR := Lib.hid (blk_grown HR.out hg hne)
  have G3 := Lib.hid (grown_trans G2.out hg)
  clear H2 G2 hg hc
  by_cases e0 : k = 0
  · subst e0
    clear k0 k1
    have hP := pickInt_new H3.out [.int .i64 (-1), .int .i64 8, .int .i64 9] (k := 3) rfl (by omega) (by omega)
      (by repeat (first | exact allI_nil | refine allI_cons ⟨by omega, by omega⟩ ?_))
    refine Lib.hid ?_
    go_wp2_with (go_at_call 53; refine hP.mono ?_; rintro e w3 ⟨v, rfl, va, vb, hc, hg⟩; refine Hid.out ?_)
    have kV := blk_grown HV.out hg (by omega)
    have kR := blk_grown HR.out hg hne
    have c3 := cell_of_blk (i := 0) kV rfl
    have f3 := free_of_blk (i := 0) kV
    have hm := odd_mid kV kR hc (grown_trans G3.out hg) (by omega) hz 0 (.int .i64 v)
    have MV := Lib.hid hm.1
    have MR := Lib.hid hm.2.1
    have MC := Lib.hid hm.2.2.1
    have MG := Lib.hid hm.2.2.2
    clear hm kV kR hP hc hg HV HR H3 G3 hy va vb
    refine Lib.hid ?_
    go_wp2_with (first
      | (refine load_row rfl 25 (.tmp 3) rfl w1.heap.size rfl 7 _ Try.underlying25 rfl hi.out MV.out rfl ?_)
      | (refine store_row rfl 25 (.tmp 2) _ rfl w.heap.size _ rfl rfl 7 hi.out MR.out rfl rfl (by rfl) ?_))
    (try simp only [Exit.inBlock, Exit.then])
    have hend := row_end MR.out MC.out MG.out hne #[.int .i64 v, .int .i64 bu, .int .i64 wl, .int .i64 bl, .int .i64 ad, .int .i64 lf, .int .i64 sm]
    exact row_post rfl rfl Try.underlying25 rfl keep_size rfl rfl MR.out ⟨⟨v, bu, wl, bl, ad, lf, sm⟩, rfl, hend.2.1, hend.2.2⟩
  by_cases e1 : k = 1
  · subst e1
    clear k0 k1
    have hP := pickInt_new H3.out [.int .i64 (-1), .int .i64 9] (k := 2) rfl (by omega) (by omega)
      (by repeat (first | exact allI_nil | refine allI_cons ⟨by omega, by omega⟩ ?_))
    refine Lib.hid ?_
    go_wp2_with (go_at_call 53; refine hP.mono ?_; rintro e w3 ⟨v, rfl, va, vb, hc, hg⟩; refine Hid.out ?_)
    have kV := blk_grown HV.out hg (by omega)
    have kR := blk_grown HR.out hg hne
    have c3 := cell_of_blk (i := 3) kV rfl
    have f3 := free_of_blk (i := 3) kV
    have hm := odd_mid kV kR hc (grown_trans G3.out hg) (by omega) hz 3 (.int .i64 v)
    have MV := Lib.hid hm.1
    have MR := Lib.hid hm.2.1
    have MC := Lib.hid hm.2.2.1
    have MG := Lib.hid hm.2.2.2
    clear hm kV kR hP hc hg HV HR H3 G3 hy va vb
    refine Lib.hid ?_
    go_wp2_with (first
      | (refine load_row rfl 25 (.tmp 3) rfl w1.heap.size rfl 7 _ Try.underlying25 rfl hi.out MV.out rfl ?_)
      | (refine store_row rfl 25 (.tmp 2) _ rfl w.heap.size _ rfl rfl 7 hi.out MR.out rfl rfl (by rfl) ?_))
    (try simp only [Exit.inBlock, Exit.then])
    have hend := row_end MR.out MC.out MG.out hne #[.int .i64 ws, .int .i64 bu, .int .i64 wl, .int .i64 v, .int .i64 ad, .int .i64 lf, .int .i64 sm]
    exact row_post rfl rfl Try.underlying25 rfl keep_size rfl rfl MR.out ⟨⟨ws, bu, wl, v, ad, lf, sm⟩, rfl, hend.2.1, hend.2.2⟩
  by_cases e2 : k = 2
  · subst e2
    clear k0 k1
    have hP := pickInt_new H3.out [.int .i64 (-1), .int .i64 256] (k := 2) rfl (by omega) (by omega)
      (by repeat (first | exact allI_nil | refine allI_cons ⟨by omega, by omega⟩ ?_))
    refine Lib.hid ?_
    go_wp2_with (go_at_call 53; refine hP.mono ?_; rintro e w3 ⟨v, rfl, va, vb, hc, hg⟩; refine Hid.out ?_)
    have kV := blk_grown HV.out hg (by omega)
    have kR := blk_grown HR.out hg hne
    have c3 := cell_of_blk (i := 5) kV rfl
    have f3 := free_of_blk (i := 5) kV
    have hm := odd_mid kV kR hc (grown_trans G3.out hg) (by omega) hz 5 (.int .i64 v)
    have MV := Lib.hid hm.1
    have MR := Lib.hid hm.2.1
    have MC := Lib.hid hm.2.2.1
    have MG := Lib.hid hm.2.2.2
    clear hm kV kR hP hc hg HV HR H3 G3 hy va vb
    refine Lib.hid ?_
    go_wp2_with (first
      | (refine load_row rfl 25 (.tmp 3) rfl w1.heap.size rfl 7 _ Try.underlying25 rfl hi.out MV.out rfl ?_)
      | (refine store_row rfl 25 (.tmp 2) _ rfl w.heap.size _ rfl rfl 7 hi.out MR.out rfl rfl (by rfl) ?_))
    (try simp only [Exit.inBlock, Exit.then])
    have hend := row_end MR.out MC.out MG.out hne #[.int .i64 ws, .int .i64 bu, .int .i64 wl, .int .i64 bl, .int .i64 ad, .int .i64 v, .int .i64 sm]
    exact row_post rfl rfl Try.underlying25 rfl keep_size rfl rfl MR.out ⟨⟨ws, bu, wl, bl, ad, v, sm⟩, rfl, hend.2.1, hend.2.2⟩
  by_cases e3 : k = 3
  · subst e3
    clear k0 k1
    have hP := pickInt_new H3.out [.int .i64 (-1), .int .i64 65536] (k := 2) rfl (by omega) (by omega)
      (by repeat (first | exact allI_nil | refine allI_cons ⟨by omega, by omega⟩ ?_))
    refine Lib.hid ?_
    go_wp2_with (go_at_call 53; refine hP.mono ?_; rintro e w3 ⟨v, rfl, va, vb, hc, hg⟩; refine Hid.out ?_)
    have kV := blk_grown HV.out hg (by omega)
    have kR := blk_grown HR.out hg hne
    have c3 := cell_of_blk (i := 4) kV rfl
    have f3 := free_of_blk (i := 4) kV
    have hm := odd_mid kV kR hc (grown_trans G3.out hg) (by omega) hz 4 (.int .i64 v)
    have MV := Lib.hid hm.1
    have MR := Lib.hid hm.2.1
    have MC := Lib.hid hm.2.2.1
    have MG := Lib.hid hm.2.2.2
    clear hm kV kR hP hc hg HV HR H3 G3 hy va vb
    refine Lib.hid ?_
    go_wp2_with (first
      | (refine load_row rfl 25 (.tmp 3) rfl w1.heap.size rfl 7 _ Try.underlying25 rfl hi.out MV.out rfl ?_)
      | (refine store_row rfl 25 (.tmp 2) _ rfl w.heap.size _ rfl rfl 7 hi.out MR.out rfl rfl (by rfl) ?_))
    (try simp only [Exit.inBlock, Exit.then])
    have hend := row_end MR.out MC.out MG.out hne #[.int .i64 ws, .int .i64 bu, .int .i64 wl, .int .i64 bl, .int .i64 v, .int .i64 lf, .int .i64 sm]
    exact row_post rfl rfl Try.underlying25 rfl keep_size rfl rfl MR.out ⟨⟨ws, bu, wl, bl, v, lf, sm⟩, rfl, hend.2.1, hend.2.2⟩
  have MC := Lib.hid H3.out.cur
  refine Lib.hid ?_
  go_wp2_with (first
    | (refine load_row rfl 25 (.tmp 3) rfl w1.heap.size rfl 7 _ Try.underlying25 rfl hi.out HV.out rfl ?_)
    | (refine store_row rfl 25 (.tmp 2) _ rfl w.heap.size _ rfl rfl 7 hi.out HR.out rfl rfl (by rfl) ?_))
  (try simp only [Exit.inBlock, Exit.then])
  have hend := row_end HR.out MC.out G3.out hne #[.int .i64 ws, .int .i64 bu, .int .i64 wl, .int .i64 bl, .int .i64 ad, .int .i64 lf, .int .i64 sm]
  exact row_post rfl rfl Try.underlying25 rfl keep_size rfl rfl HR.out ⟨⟨ws, bu, wl, bl, ad, lf, sm⟩, rfl, hend.2.1, hend.2.2⟩
end Go.Proofs.Ytcnajmmpijhniaa
