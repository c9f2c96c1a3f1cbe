/-
  The draw of what Apply is asked for (chapter 9).
  Conditions: as each says; each walk leaves old memory as it was.
-/
import Derived.Test.YtfeifcffgachoaaWrA
import Derived.Test.YtfeifcffgachoaaWoM
import Derived.Test.YtfeifcffgachoaaDsA
import Derived.Test.YtfeifcffgachoaaDrP
import Derived.Test.YtfeifcffgachoaaKee
import Derived.Test.YtfeifcffgachoaaRgB
import Derived.Test.YtfeifcffgachoaaTbB
import Derived.Deep.RegionHeld3
namespace Go.Proofs.Ytfeifcffgachoaa
open Go.RowKit
def AllIn (lo hi : Int) (l : List Value) : Prop := ∀ i, i < l.length → ∃ v : Int, (lo ≤ v ∧ v ≤ hi) ∧ l[i]? = some (.int .i64 v)
theorem allIn_nil {lo hi : Int} : AllIn lo hi [] := fun _ hi => absurd hi (Nat.not_lt_zero _)
theorem allIn_cons {lo hi x : Int} {l : List Value} (h : lo ≤ x ∧ x ≤ hi) (hl : AllIn lo hi l) : AllIn lo hi (.int .i64 x :: l) := by
  intro i hi
  cases i with
  | zero => exact ⟨x, h, rfl⟩
  | succ i => simpa using hl i (by simpa using hi)
set_option maxHeartbeats 1000000 in
theorem l01PickInt_in {lo hi : Int} {B g n c r k cap : Nat} {A : Option Addr} {w : World} (h : Drawn B g n c A w) (hk : 1 ≤ k) (hk2 : k ≤ 1000) (hne : r ≠ g) (hr : r < w.heap.size)
    (hrow : ∀ i, i < k → ∃ v : Int, (lo ≤ v ∧ v ≤ hi) ∧ w.cell? ⟨r, i, none⟩ = some (.int .i64 v)) :
    Calls Try.prog 61 #[.pointer (some ⟨g, 0, none⟩), .slice (some ⟨r, 0, none⟩) k cap] w (DrawPost lo hi g A n c w) := by
  have hy := l01Below_any h (k : Int) (by omega) (by omega)
  have HR := Lib.hid hrow
  clear h hrow
  go_enter Try.func61, Try.ntmps61
  go_wp2_with (go_at_call 62; refine hy.mono ?_; rintro e w1 ⟨x, rfl, h0, h1, hc, hg⟩; refine Hid.out ?_)
  obtain ⟨X, rfl⟩ : ∃ X : Nat, x = X := ⟨x.toNat, by omega⟩
  have hX : X < k := by omega
  obtain ⟨v, hv, hcv⟩ := HR.out X hX
  have hc1 : w1.cell? ⟨r, X, none⟩ = some (.int .i64 v) := (World.cell?_of_block (hg.block r hr (by simp [hne]))).trans hcv
  obtain ⟨hv0, hv1⟩ := hv
  have hv0 := Lib.hid hv0
  have hv1 := Lib.hid hv1
  clear hcv hy
  refine Lib.hid ?_
  go_wp2
  go_ret
  exact ⟨_, rfl, hv0.out, hv1.out, hc, hg⟩
theorem pickInt_in {lo hi : Int} {B g n c k : Nat} {A : Option Addr} {w : World} (h : Drawn B g n c A w) (cs : List Value) (hs : cs.length = k) (hk : 1 ≤ k) (hk2 : k ≤ 1000) (hall : AllIn lo hi cs) :
    Calls Try.prog 61 #[.pointer (some ⟨g, 0, none⟩), .slice (some ⟨w.heap.size, 0, none⟩) k k] (w.alloc (.cells cs.toArray 3)) (DrawPost lo hi g A n c w) := by
  have hb : Below w.heap.size w (w.alloc (.cells cs.toArray 3)) := (Below.refl _ _).alloc (Nat.le_refl _) _
  refine (l01PickInt_in (lo := lo) (hi := hi) (h.below hb) hk hk2 (by have := h.cur.lt; omega) (by simp) (fun i hi => ?_)).mono ?_
  · obtain ⟨v, hv, e⟩ := hall i (by omega)
    exact ⟨v, hv, by rw [new_row]; simpa using e⟩
  · rintro e w' ⟨x, rfl, h0, h1, hc, hg⟩
    exact ⟨x, rfl, h0, h1, hc, grown_trans (grown_of_below hb) hg⟩
set_option maxHeartbeats 1000000 in
theorem l02Byte_in {B g n c : Nat} {A : Option Addr} {w : World} (h : Drawn B g n c A w) :
    Calls Try.prog 59 #[.pointer (some ⟨g, 0, none⟩)] w (DrawPost 0 255 g A n c w) := by
  have hy := l01Below_any h 256 (by omega) (by omega)
  have H := Lib.hid h
  clear h
  go_enter Try.func59, Try.ntmps59
  go_wp2_with (go_at_call 62; refine hy.mono ?_; rintro e w1 ⟨x, rfl, h0, h1, hc, hg⟩; refine Hid.out ?_)
  have hP := pickInt_in (lo := 0) (hi := 255) (H.out.next hc hg) [.int .i64 0, .int .i64 1, .int .i64 9, .int .i64 10, .int .i64 15, .int .i64 16, .int .i64 127, .int .i64 128, .int .i64 153, .int .i64 154, .int .i64 255, .int .i64 x] (k := 12) rfl (by omega) (by omega)
    (by repeat (first | exact allIn_nil | refine allIn_cons ⟨by omega, by omega⟩ ?_))
  clear hy hc
  refine Lib.hid ?_
  go_wp2_with (go_at_call 61; refine hP.mono ?_; rintro e w2 ⟨y, rfl, y0, y1, hc2, hg2⟩)
  go_ret
  exact ⟨y, rfl, y0, y1, hc2, grown_trans hg hg2⟩
def RegOkPost (g : Nat) (A : Option Addr) (n c : Nat) (w : World) (e : Ending) (w' : World) : Prop :=
  ∃ k : RegI, e = .returned (regI k) ∧ k.ok ∧ Cur w' g A n c ∧ w.grownBy w' (some g)
set_option maxRecDepth 100000 in
set_option maxHeartbeats 4000000 in
theorem l03Make_ok {B g n c : Nat} {A : Option Addr} {w : World} (h : Drawn B g n c A w) :
    Calls Try.prog 25 #[.pointer (some ⟨g, 0, none⟩)] w (RegOkPost g A n c w) := by
  have hb0 : Below w.heap.size w (w.alloc zero6) := (Below.refl _ _).alloc (Nat.le_refl _) _
  have H0 := Lib.hid (h.below hb0)
  have K0 := Lib.hid (blk_new w zero6)
  have G0 := Lib.hid (grown_of_below (g := g) hb0)
  have hne : w.heap.size ≠ g := by have := h.cur.lt; omega
  have hy := l02Byte_in H0.out
  unfold zero6 at hy
  clear h hb0
  go_enter Try.func25, Try.ntmps25
  go_wp2_with (go_at_call 59; refine hy.mono ?_; rintro e w1 ⟨a, rfl, b0, d0, hc, hg⟩; refine Hid.out ?_)
  have b0 := Lib.hid b0
  have d0 := Lib.hid d0
  have H1 := Lib.hid (H0.out.next hc hg)
  have K1 := Lib.hid (blk_grown K0.out hg hne)
  have G1 := Lib.hid (grown_trans G0.out hg)
  have hy := l02Byte_in H1.out
  clear H0 K0 G0 hc hg
  refine Lib.hid ?_
  go_wp2_with (go_at_call 59; refine hy.mono ?_; rintro e w2 ⟨x, rfl, b1, d1, hc, hg⟩; refine Hid.out ?_)
  have b1 := Lib.hid b1
  have d1 := Lib.hid d1
  have H2 := Lib.hid (H1.out.next hc hg)
  have K2 := Lib.hid (blk_grown K1.out hg hne)
  have G2 := Lib.hid (grown_trans G1.out hg)
  have hy := l02Byte_in H2.out
  clear H1 K1 G1 hc hg
  refine Lib.hid ?_
  go_wp2_with (go_at_call 59; refine hy.mono ?_; rintro e w3 ⟨y, rfl, b2, d2, hc, hg⟩; refine Hid.out ?_)
  have b2 := Lib.hid b2
  have d2 := Lib.hid d2
  have H3 := Lib.hid (H2.out.next hc hg)
  have K3 := Lib.hid (blk_grown K2.out hg hne)
  have G3 := Lib.hid (grown_trans G2.out hg)
  have hy := l02Byte_in H3.out
  clear H2 K2 G2 hc hg
  refine Lib.hid ?_
  go_wp2_with (go_at_call 59; refine hy.mono ?_; rintro e w4 ⟨s, rfl, b3, d3, hc, hg⟩; refine Hid.out ?_)
  have b3 := Lib.hid b3
  have d3 := Lib.hid d3
  have H4 := Lib.hid (H3.out.next hc hg)
  have K4 := Lib.hid (blk_grown K3.out hg hne)
  have G4 := Lib.hid (grown_trans G3.out hg)
  have hy := l02Byte_in H4.out
  clear H3 K3 G3 hc hg
  refine Lib.hid ?_
  go_wp2_with (go_at_call 59; refine hy.mono ?_; rintro e w5 ⟨p, rfl, b4, d4, hc, hg⟩; refine Hid.out ?_)
  have b4 := Lib.hid b4
  have d4 := Lib.hid d4
  have H5 := Lib.hid (H4.out.next hc hg)
  have K5 := Lib.hid (blk_grown K4.out hg hne)
  have G5 := Lib.hid (grown_trans G4.out hg)
  have hy := l01Below_any H5.out 65536 (by omega) (by omega)
  have hU := fun w => spec_pulled p w
  clear H4 K4 G4 hc hg
  refine Lib.hid ?_
  go_wp2_with (first
    | (go_at_call 60; refine (hU _).mono ?_; rintro e w' ⟨rfl, rfl⟩)
    | (go_at_call 62; refine hy.mono ?_; rintro e w6 ⟨q, rfl, q0, q1, hc, hg⟩; refine Hid.out ?_))
  have H6 := Lib.hid (H5.out.next hc hg)
  have K6 := Lib.hid (blk_grown K5.out hg hne)
  have G6 := Lib.hid (grown_trans G5.out hg)
  have hP := pickInt_in (lo := 0) (hi := 65535) H6.out [.int .i64 512, .int .i64 512, .int .i64 61440, .int .i64 511, .int .i64 2047, .int .i64 q] (k := 6) rfl (by omega) (by omega)
    (by repeat (first | exact allIn_nil | refine allIn_cons ⟨by omega, by omega⟩ ?_))
  clear H5 K5 G5 hc hg
  refine Lib.hid ?_
  go_wp2_with (go_at_call 61; refine hP.mono ?_; rintro e w7 ⟨pc, rfl, pc0, pc1, hc, hg⟩; refine Hid.out ?_)
  have k7 := blk_grown K6.out hg hne
  unfold zero6 at k7
  have G7 := Lib.hid (grown_trans G6.out hg)
  clear H6 K6 G6 hg
  have hst : (Try.prog.info? 25).map (·.size) = some 6 := reg_size
  refine Lib.hid ?_
  go_wp2_with (refine wpList_store_row rfl 25 (.tmp 2) (.tmp 19) rfl w.heap.size #[.int .i64 a, .int .i64 x, .int .i64 y, .int .i64 s, .int .i64 (keptI p), .int .i64 pc] ?c1 ?c2 25 #[.int .i64 0, .int .i64 0, .int .i64 0, .int .i64 0, .int .i64 0, .int .i64 0] ?c3 ?c4 ?c5 ?c6 ?_)
  case c1 => rfl
  case c2 => rfl
  case c3 => exact k7
  case c4 => exact hst
  case c5 => rfl
  case c6 => simp [Value.oneCell']
  have hend := row_end k7 hc G7.out hne #[.int .i64 a, .int .i64 x, .int .i64 y, .int .i64 s, .int .i64 (keptI p), .int .i64 pc]
  have hkb : 0 ≤ keptI p ∧ keptI p < 256 := wI_bd _ 16 false
  exact bodyPost_ret (v := regI ⟨a, x, y, s, keptI p, pc⟩) (results_cell_row rfl _ _ w.heap.size _ _ _ _ rfl hend.1 Try.underlying25 rfl reg_size) rfl ⟨⟨a, x, y, s, keptI p, pc⟩, rfl, ⟨⟨b0.out, d0.out⟩, ⟨b1.out, d1.out⟩, ⟨b2.out, d2.out⟩, ⟨b3.out, d3.out⟩, hkb, keptB_keptI p, ⟨pc0, pc1⟩⟩, hend.2.1, hend.2.2⟩
theorem op_name (a b : ByteArray) (W : World) : (Instr.field 74 (.agg #[.string a, .string b]) 0).run Try.prog W = .ok (.string a) W := by kernel_rfl
theorem opOf_size9 (n : Int) : (opOf n).1.size ≤ 100 := by
  unfold opOf
  split
  · rename_i r h
    obtain ⟨_, h1, h2⟩ := rows_ok r (List.mem_of_find?_eq_some h)
    unfold nmR
    simp only [bsize]
    omega
  · decide
set_option maxRecDepth 100000 in
set_option maxHeartbeats 2000000 in
theorem l09Name_any {B g n c : Nat} {A : Option Addr} {w : World} (h : Drawn B g n c A w) :
    Calls Try.prog 26 #[.pointer (some ⟨g, 0, none⟩)] w (PickPost g A n c w) := by
  have hO := l01Once_any h 16 (by omega) (by omega)
  have H := Lib.hid h
  clear h
  go_enter Try.func26, Try.ntmps26
  go_wp2_with (go_at_call 63; refine hO.mono ?_; rintro e w1 ⟨x, rfl, hc, hg⟩; refine Hid.out ?_)
  have hD := H.out.next hc hg
  have G := Lib.hid hg
  clear hO hc hg H
  cases x
  · have hy := l01Below_any hD 256 (by omega) (by omega)
    have H := Lib.hid hD
    clear hD
    refine Lib.hid ?_
    go_wp2_with (go_at_call 62; refine hy.mono ?_; rintro e w2 ⟨q, rfl, q0, q1, hc, hg⟩; refine Hid.out ?_)
    have ho := spec_opOf q w2
    have hs := Lib.hid (opOf_size9 q)
    generalize (opOf q).1 = a at *
    generalize (opOf q).2 = b at *
    have hf := op_name a b
    have H2 := Lib.hid (H.out.next hc hg)
    have G2 := Lib.hid (grown_trans G.out hg)
    clear hy hc hg q0 q1 H G
    refine Lib.hid ?_
    go_wp2_with (go_at_call 51; refine ho.mono ?_; rintro e w3 ⟨rfl, hbo⟩)
    go_ret
    exact ⟨a, rfl, hs.out, H2.out.cur.below hbo, grown_below G2.out hbo⟩
  · have hP := pick_new hD [.string ⟨#[]⟩, .string ⟨#[74, 65, 77]⟩, .string ⟨#[97, 100, 99]⟩, .string ⟨#[80, 72, 65]⟩] (k := 4) rfl (by omega) (by omega)
      (by repeat (first | exact allS_nil | refine allS_cons (by decide) ?_))
    clear hD
    refine Lib.hid ?_
    go_wp2_with (go_at_call 64; refine hP.mono ?_; rintro e w2 ⟨s, rfl, hs, hc, hg⟩)
    go_ret
    exact ⟨s, rfl, hs, hc, grown_trans G.out hg⟩
def DrawApplyPost (w : World) (e : Ending) (w' : World) : Prop := ∃ (k : RegI) (s : ByteArray) (p : Int), e = .returned (.tuple #[regI k, .string s, .int .i64 p]) ∧ k.ok ∧ Below w.heap.size w w'
set_option maxRecDepth 100000 in
set_option maxHeartbeats 4000000 in
theorem drawApply_any (B n c : Nat) (A : Option Addr) (w : World) (hB : B ≤ w.heap.size) (hcode : Code w B A n) :
    Calls Try.prog 10 #[.slice A n c] w (DrawApplyPost w) := by
  have hi := Lib.hid reg_size
  have hb0 : Below w.heap.size w (w.alloc zero6) := (Below.refl _ _).alloc (Nat.le_refl _) _
  have hcode0 := hcode.below hB hb0
  have hN := l01New_any B n c A (w.alloc zero6) hcode0
  have HD := fun (w1 : World) hc hb => new_drawn (c := c) (w1 := w1) (Nat.le_trans hB hb0.size) hcode0 hc hb
  have K0 := Lib.hid (blk_new w zero6)
  have hg0 := grown_of_below (g := w.heap.size + 1) hb0
  have hs1 : (w.alloc zero6).heap.size = w.heap.size + 1 := by simp
  rw [hs1] at HD
  unfold NewPost at hN
  rw [hs1] at hN
  have hs0 := Lib.hid hs1
  unfold zero6 at hN HD
  have G0 := Lib.hid hg0
  clear hcode hcode0 hb0 hg0 hs1
  unfold DrawApplyPost
  go_enter Try.func10, Try.ntmps10
  go_wp2_with (go_at_call 24; refine hN.mono ?_; rintro e w1 ⟨rfl, hc, hb⟩; refine Hid.out ?_)
  have hb1 : Below (w.alloc zero6).heap.size (w.alloc zero6) w1 := by rw [hs0.out]; exact hb
  have hD := HD w1 hc hb
  have hy := l03Make_ok hD
  have K1 := Lib.hid (blk_below K0.out hb1)
  have G1 := Lib.hid (grown_below G0.out hb1)
  have hz : w.heap.size < w1.heap.size := (Array.getElem?_eq_some_iff.1 K1.out).1
  unfold RegOkPost at hy
  clear hN HD hc hb K0 G0 hb1 hs0
  refine Lib.hid ?_
  go_wp2_with (go_at_call 25; refine hy.mono ?_; rintro e w2 ⟨k, rfl, hok, hc, hg⟩; refine Hid.out ?_)
  obtain ⟨a, x, y, s, p, pc⟩ := k
  have hok := Lib.hid hok
  rw [regI_mk]
  have H2 := hD.next hc hg
  have K2 := blk_grown K1.out hg (by omega)
  have G2 := grown_trans G1.out hg
  have hz2 : w.heap.size < w2.heap.size := (Array.getElem?_eq_some_iff.1 K2).1
  have hgl2 : w.heap.size + 1 < w2.heap.size := H2.cur.lt
  have hbV : Below w2.heap.size w2 (w2.alloc (.cells #[.int .i64 a, .int .i64 x, .int .i64 y, .int .i64 s, .int .i64 p, .int .i64 pc] 25)) := (Below.refl _ _).alloc (Nat.le_refl _) _
  have HV := Lib.hid (blk_new w2 (.cells #[.int .i64 a, .int .i64 x, .int .i64 y, .int .i64 s, .int .i64 p, .int .i64 pc] 25))
  have HR := Lib.hid (blk_below K2 hbV)
  have H3 := Lib.hid (H2.below hbV)
  have G3 := Lib.hid (grown_below G2 hbV)
  clear K1 G1 hg hc hD H2 K2 G2 hbV hy
  have hy := l09Name_any H3.out
  refine Lib.hid ?_
  go_wp2_with (go_at_call 26; refine hy.mono ?_; rintro e w3 ⟨nm, rfl, _, hc, hg⟩; refine Hid.out ?_)
  obtain ⟨H4, V4, R4, G4⟩ := make_two H3.out HV.out HR.out G3.out (by omega) (by omega) hc hg
  have HV4 := Lib.hid V4
  have HR4 := Lib.hid R4
  have HG4 := Lib.hid G4
  have HH4 := Lib.hid H4
  clear hc hg H4 V4 R4 G4 HV HR G3 H3 hy
  have hy := l02Odd_any HH4.out.drew
  obtain ⟨a0, a1, a2, a3, a4, a5, az⟩ := cells6 HV4.out
  refine Lib.hid ?_
  go_wp2_with (fail)
  go_region_held3 (fun w' => ∀ i, w'.cell? ⟨w2.heap.size, i, none⟩ = w3.cell? ⟨w2.heap.size, i, none⟩)
    ((intro i; first | with_reducible exact cell_drew _ _ | ((repeat (with_reducible refine far_step ?_ (by omega))); exact kept_cell HV4.out hg (by omega) i)))
    ((go_at_call 27; refine hy.mono ?_; rintro e w4 ⟨v, rfl, va, vb, hc, hg⟩; obtain ⟨b0, b1, b2, b3, b4, b5, bz⟩ := cells6 (blk_grown (w := w3.drew) HR4.out hg (by omega))))
  have R5 := Lib.hid (blk_grown (w := w3.drew) HR4.out hg (by omega))
  have G5 := Lib.hid (grown_trans HG4.out (grown_drew hg))
  clear az a0 a1 a2 a3 a4 a5 bz b0 b1 b2 b3 b4 b5
  simp only [Exit.then]
  go_step
  go_step
  (try simp only [Exit.inBlock, Exit.then])
  have hgg := set6 R5.out (.int .i64 a) (.int .i64 x) (.int .i64 y) (.int .i64 s) (.int .i64 p) (.int .i64 pc)
  refine row_tmps_post (cs := #[.int .i64 a, .int .i64 x, .int .i64 y, .int .i64 s, .int .i64 p, .int .i64 pc]) rfl rfl rfl rfl Try.underlying25 rfl reg_size rfl hgg rfl ⟨⟨a, x, y, s, p, pc⟩, nm, v, rfl, hok.out, ?_⟩
  repeat (first | apply below_put (hb := Nat.le_refl _) | exact below_grown' G5.out (Nat.le_refl _) (by omega))
end Go.Proofs.Ytfeifcffgachoaa
