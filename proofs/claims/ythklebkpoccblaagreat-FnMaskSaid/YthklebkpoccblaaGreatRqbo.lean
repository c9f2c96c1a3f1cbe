/-
  Texts put together by program: LcF.
  Conditions: as each theorem says.
-/
import Derived.Test.YthklebkpoccblaaGreatRqbn
namespace Go.Proofs.YthklebkpoccblaaGreat
open Go.RowKit
set_option maxRecDepth 100000 in
set_option maxHeartbeats 20000000 in
theorem l10Make_any {B g n c : Nat} {A : Option Addr} {w : World} (h : Drawn B g n c A w) :
  Calls Tryz.prog 54 #[.pointer (some ⟨g, 0, none⟩)] w (CoreMemPost g A n c w) := by
 have hBw := h.hB
 have hgl : g < w.heap.size := h.cur.lt
 have hb0 := below_alloc (below_alloc (Below.refl w.heap.size w) (.cells #[.int .i64 0, .int .i64 0, .int .i64 0, .int .i64 0, .int .i64 0, .int .i64 0, .int .i64 0, .int .i64 0, .int .i64 0, .int .i64 0, .int .i64 0, .int .i64 0, .bool false, .int .i64 0, .bool false] 27)) (.cells #[.string ⟨#[]⟩, .string ⟨#[]⟩] 80)
 have H0 := Lib.hid (h.below hb0)
 have A0 := Lib.hid (blk_old (o := .cells #[.string ⟨#[]⟩, .string ⟨#[]⟩] 80) (blk_new w (.cells #[.int .i64 0, .int .i64 0, .int .i64 0, .int .i64 0, .int .i64 0, .int .i64 0, .int .i64 0, .int .i64 0, .int .i64 0, .int .i64 0, .int .i64 0, .int .i64 0, .bool false, .int .i64 0, .bool false] 27)))
 have A1 := Lib.hid (blk_new2 w (.cells #[.int .i64 0, .int .i64 0, .int .i64 0, .int .i64 0, .int .i64 0, .int .i64 0, .int .i64 0, .int .i64 0, .int .i64 0, .int .i64 0, .int .i64 0, .int .i64 0, .bool false, .int .i64 0, .bool false] 27) (.cells #[.string ⟨#[]⟩, .string ⟨#[]⟩] 80))
 have G0 := Lib.hid (grown_of_below (g := g) hb0)
 have hy := Lib.hid (l09Make_any H0.out)
 clear h hb0
 go_enter Tryz.func54, Tryz.ntmps54
 go_wp2_with (first | (go_at_call 84; refine (hy.out).mono ?_; rintro e w1 ⟨kr, r, o, q, rfl, _, hr, ho, hc, hg⟩; refine Hid.out ?_))
 have e1 := hg.size
 simp only [alloc_size] at e1
 have H1 := Lib.hid (H0.out.next hc hg)
 have A0 := Lib.hid (blk_grown A0.out hg (by omega))
 have A1 := Lib.hid (blk_grown A1.out hg (by omega))
 have G1 := Lib.hid (grown_trans G0.out hg)
 clear hc hg hy H0 G0
 refine Lib.hid ?_
 go_wp2_with (first | (refine store_row (by rfl) 103 _ _ (by rfl) w1.heap.size #[.int .i64 kr.a, .int .i64 kr.x, .int .i64 kr.y, .int .i64 kr.s, .int .i64 kr.p, .int .i64 kr.pc, .string r, .string o, .int .i64 q, .bool false] (by rfl) (by rfl) 10 (by kernel_rfl) (blk_new w1 _) rfl rfl (by rfl) ?_; refine Hid.out ?_))
 have hbV : Below w1.heap.size w1 (World.setRow (World.alloc w1 (.cells #[.int .i64 0, .int .i64 0, .int .i64 0, .int .i64 0, .int .i64 0, .int .i64 0, .string ⟨#[]⟩, .string ⟨#[]⟩, .int .i64 0, .bool false] 103)) w1.heap.size #[.int .i64 kr.a, .int .i64 kr.x, .int .i64 kr.y, .int .i64 kr.s, .int .i64 kr.p, .int .i64 kr.pc, .string r, .string o, .int .i64 q, .bool false]) := below_row (below_alloc (Below.refl _ _) _) (Nat.le_refl _)
 have FL := Lib.hid (setRow_heap _ _ _ #[.int .i64 kr.a, .int .i64 kr.x, .int .i64 kr.y, .int .i64 kr.s, .int .i64 kr.p, .int .i64 kr.pc, .string r, .string o, .int .i64 q, .bool false] _ _ (blk_new w1 (.cells #[.int .i64 0, .int .i64 0, .int .i64 0, .int .i64 0, .int .i64 0, .int .i64 0, .string ⟨#[]⟩, .string ⟨#[]⟩, .int .i64 0, .bool false] 103)))
 have A0 := Lib.hid (blk_below A0.out hbV)
 have A1 := Lib.hid (blk_below A1.out hbV)
 have H2 := Lib.hid (H1.out.below hbV)
 have G2 := Lib.hid (grown_below G1.out hbV)
 have e2 : w1.heap.size < (World.setRow (World.alloc w1 (.cells #[.int .i64 0, .int .i64 0, .int .i64 0, .int .i64 0, .int .i64 0, .int .i64 0, .string ⟨#[]⟩, .string ⟨#[]⟩, .int .i64 0, .bool false] 103)) w1.heap.size #[.int .i64 kr.a, .int .i64 kr.x, .int .i64 kr.y, .int .i64 kr.s, .int .i64 kr.p, .int .i64 kr.pc, .string r, .string o, .int .i64 q, .bool false]).heap.size := by rw [setRow_size, alloc_size]; omega
 clear hbV
 generalize World.setRow (World.alloc w1 (.cells #[.int .i64 0, .int .i64 0, .int .i64 0, .int .i64 0, .int .i64 0, .int .i64 0, .string ⟨#[]⟩, .string ⟨#[]⟩, .int .i64 0, .bool false] 103)) w1.heap.size #[.int .i64 kr.a, .int .i64 kr.x, .int .i64 kr.y, .int .i64 kr.s, .int .i64 kr.p, .int .i64 kr.pc, .string r, .string o, .int .i64 q, .bool false] = w2 at FL A0 A1 H2 G2 e2 ⊢
 clear H1 G1
 refine Lib.hid ?_
 go_wp2_with (first | (refine load_part (by rfl) 25 _ (by rfl) w1.heap.size 0 (by rfl) #[.int .i64 kr.a, .int .i64 kr.x, .int .i64 kr.y, .int .i64 kr.s, .int .i64 kr.p, .int .i64 kr.pc] _ Tryz.underlying25 rfl (by kernel_rfl) FL.out rfl ?_) | (refine store_row (by rfl) 27 _ _ (by rfl) w2.heap.size (corC ⟨kr.a, kr.x, kr.y, kr.s, kr.p, kr.pc, 0, 0, 0, 0, 0, 0, false, 0, false⟩) (by rfl) (by rfl) 15 cor_size (blk_new w2 _) rfl rfl (by rfl) ?_; refine Hid.out ?_))
 have hbV : Below w2.heap.size w2 (World.setRow (World.alloc w2 (.cells #[.int .i64 0, .int .i64 0, .int .i64 0, .int .i64 0, .int .i64 0, .int .i64 0, .int .i64 0, .int .i64 0, .int .i64 0, .int .i64 0, .int .i64 0, .int .i64 0, .bool false, .int .i64 0, .bool false] 27)) w2.heap.size (corC ⟨kr.a, kr.x, kr.y, kr.s, kr.p, kr.pc, 0, 0, 0, 0, 0, 0, false, 0, false⟩)) := below_row (below_alloc (Below.refl _ _) _) (Nat.le_refl _)
 have CR := Lib.hid (setRow_heap _ _ _ (corC ⟨kr.a, kr.x, kr.y, kr.s, kr.p, kr.pc, 0, 0, 0, 0, 0, 0, false, 0, false⟩) _ _ (blk_new w2 (.cells #[.int .i64 0, .int .i64 0, .int .i64 0, .int .i64 0, .int .i64 0, .int .i64 0, .int .i64 0, .int .i64 0, .int .i64 0, .int .i64 0, .int .i64 0, .int .i64 0, .bool false, .int .i64 0, .bool false] 27)))
 have A0 := Lib.hid (blk_below A0.out hbV)
 have A1 := Lib.hid (blk_below A1.out hbV)
 have FL := Lib.hid (blk_below FL.out hbV)
 have H3 := Lib.hid (H2.out.below hbV)
 have G3 := Lib.hid (grown_below G2.out hbV)
 have e3 : w2.heap.size < (World.setRow (World.alloc w2 (.cells #[.int .i64 0, .int .i64 0, .int .i64 0, .int .i64 0, .int .i64 0, .int .i64 0, .int .i64 0, .int .i64 0, .int .i64 0, .int .i64 0, .int .i64 0, .int .i64 0, .bool false, .int .i64 0, .bool false] 27)) w2.heap.size (corC ⟨kr.a, kr.x, kr.y, kr.s, kr.p, kr.pc, 0, 0, 0, 0, 0, 0, false, 0, false⟩)).heap.size := by rw [setRow_size, alloc_size]; omega
 clear hbV
 generalize World.setRow (World.alloc w2 (.cells #[.int .i64 0, .int .i64 0, .int .i64 0, .int .i64 0, .int .i64 0, .int .i64 0, .int .i64 0, .int .i64 0, .int .i64 0, .int .i64 0, .int .i64 0, .int .i64 0, .bool false, .int .i64 0, .bool false] 27)) w2.heap.size (corC ⟨kr.a, kr.x, kr.y, kr.s, kr.p, kr.pc, 0, 0, 0, 0, 0, 0, false, 0, false⟩) = w3 at CR A0 A1 FL H3 G3 e3 ⊢
 clear H2 G2
 replace CR := Lib.hid (CorSome.of (show CorAt w2.heap.size _ w3 from CR.out))
 have hy := Lib.hid (l01Once_any H3.out 4 (by omega) (by omega))
 refine Lib.hid ?_
 go_wp2_with (first | (go_at_call 58; refine (hy.out).mono ?_; rintro e w4 ⟨x4, rfl, hc, hg⟩; refine Hid.out ?_))
 have e4 := hg.size
 have H4 := Lib.hid (H3.out.next hc hg)
 have A0 := Lib.hid (blk_grown A0.out hg (by omega))
 have A1 := Lib.hid (blk_grown A1.out hg (by omega))
 have FL := Lib.hid (blk_grown FL.out hg (by omega))
 have CR := Lib.hid (CR.out.elim fun kk hk => CorSome.of (show CorAt w2.heap.size kk w4 from blk_grown hk hg (by omega)))
 have G4 := Lib.hid (grown_trans G3.out hg)
 clear hc hg hy H3 G3
 refine Lib.hid ?_
 cases x4
 ·skip
  have hy := Lib.hid (l07Make_any H4.out)
  go_wp2_with (first | (go_at_call 30; refine (hy.out).mono ?_; rintro e w6 ⟨a5, b5, d5, rfl, hc, hg⟩; refine Hid.out ?_))
  clear hy
  have e6 := hg.size
  have H6 := Lib.hid (H4.out.next hc hg)
  have G6 := Lib.hid (grown_trans G4.out hg)
  have A0 := Lib.hid (blk_grown A0.out hg (by omega))
  have A1 := Lib.hid (blk_grown A1.out hg (by omega))
  have FL := Lib.hid (blk_grown FL.out hg (by omega))
  have CR := Lib.hid (CR.out.elim fun kk hk => CorSome.of (show CorAt w2.heap.size kk w6 from blk_grown hk hg (by omega)))
  clear hc hg H4 G4
  refine Lib.hid ?_
  go_wp2_with (first | (refine store_row (by rfl) 29 _ _ (by rfl) w6.heap.size #[.bool a5, .bool b5, .bool d5] (by rfl) (by rfl) 3 (by kernel_rfl) (blk_new w6 _) rfl rfl (by rfl) ?_; refine Hid.out ?_))
  have hbV : Below w6.heap.size w6 (World.setRow (World.alloc w6 (.cells #[.bool false, .bool false, .bool false] 29)) w6.heap.size #[.bool a5, .bool b5, .bool d5]) := below_row (below_alloc (Below.refl _ _) _) (Nat.le_refl _)
  have WS := Lib.hid (setRow_heap _ _ _ #[.bool a5, .bool b5, .bool d5] _ _ (blk_new w6 (.cells #[.bool false, .bool false, .bool false] 29)))
  have A0 := Lib.hid (blk_below A0.out hbV)
  have A1 := Lib.hid (blk_below A1.out hbV)
  have FL := Lib.hid (blk_below FL.out hbV)
  have CR := Lib.hid (CorSome.below CR.out hbV)
  have H7 := Lib.hid (H6.out.below hbV)
  have G7 := Lib.hid (grown_below G6.out hbV)
  have e7 : w6.heap.size < (World.setRow (World.alloc w6 (.cells #[.bool false, .bool false, .bool false] 29)) w6.heap.size #[.bool a5, .bool b5, .bool d5]).heap.size := by rw [setRow_size, alloc_size]; omega
  clear hbV
  generalize World.setRow (World.alloc w6 (.cells #[.bool false, .bool false, .bool false] 29)) w6.heap.size #[.bool a5, .bool b5, .bool d5] = w7 at WS A0 A1 FL CR H7 G7 e7 ⊢
  have M := Lib.hid (show MK B g n c A w w1.heap.size w2.heap.size w6.heap.size w7 from ⟨H7.out, G7.out, A0.out, A1.out, ⟨kr, r, o, q, FL.out, hr, ho⟩, CR.out, ⟨a5, b5, d5, WS.out⟩, hgl, hBw, by omega, by omega, by omega, by omega⟩)
  clear H6 G6 G7 WS FL CR A0 A1
  have hy := Lib.hid (l01Below_any H7.out 14 (by omega) (by omega))
  refine Lib.hid ?_
  go_wp2_with (first | (go_at_call 55; refine (hy.out).mono ?_; rintro e w8 ⟨z, rfl, z0, z1, hc, hg⟩; refine Hid.out ?_))
  clear hy
  have M := Lib.hid (M.out.grown hc hg)
  clear hc hg H7
  generalize w1.heap.size = F at M ⊢
  generalize w2.heap.size = C at M ⊢
  generalize w6.heap.size = X at M ⊢
  skip
  obtain ⟨Z, rfl⟩ : ∃ Z : Nat, z = Z := ⟨z.toNat, by omega⟩
  refine Lib.hid ?_
  go_wp2_with (fail)
  go_loopw [8] (fun v8 wr => ∃ i : Nat, i ≤ Z ∧ v8 = .int .i64 i ∧ MK B g n c A w F C X wr) (fun v8 _ => Z - (intOf v8).toNat)
  case atStart => exact ⟨0, by omega, rfl, M.out⟩
  case round =>
   obtain ⟨i, hi, rfl, M⟩ := hrel
   obtain ⟨k0, hk0⟩ := M.cs
   obtain ⟨a0, b0, d0, hw0⟩ := M.ws
   obtain ⟨kq, rq, oq, qq, hf0, hr0, ho0⟩ := M.fl
   by_cases hlt : i < Z
   ·replace M := Lib.hid M
    replace hk0 := Lib.hid hk0
    replace hw0 := Lib.hid hw0
    replace hf0 := Lib.hid hf0
    have hlz : (i : Int) < (Z : Int) := by omega
    go_wp2_with (first | (refine load_core (by rfl) _ (by rfl) _ (by rfl) hk0.out ?_) | (refine load_row (by rfl) 29 _ (by rfl) _ (by rfl) 3 _ Tryz.underlying29 rfl (by kernel_rfl) hw0.out rfl ?_) | (go_at_call 18; refine (s_want _ _ _ _ _).mono ?_; rintro e u1 ⟨x9, y9, z9, rfl, hb⟩; refine Hid.out ?_))
    have M := Lib.hid (M.out.below hb)
    have hf := Lib.hid (blk_below hf0.out hb)
    clear hb hk0 hw0 hf0
    cases z9
    ·refine Lib.hid ?_
     go_wp2_with (first | (refine store_row (by rfl) 38 _ _ (by rfl) u1.heap.size #[.int .i64 x9, .int .i64 y9, .bool false] (by rfl) (by rfl) 3 (by kernel_rfl) (blk_new u1 _) rfl rfl (by rfl) ?_; refine Hid.out ?_))
     have hbV : Below u1.heap.size u1 (World.setRow (World.alloc u1 (.cells #[.int .i64 0, .int .i64 0, .bool false] 38)) u1.heap.size #[.int .i64 x9, .int .i64 y9, .bool false]) := below_row (below_alloc (Below.refl _ _) _) (Nat.le_refl _)
     have BU := Lib.hid (setRow_heap _ _ _ #[.int .i64 x9, .int .i64 y9, .bool false] _ _ (blk_new u1 (.cells #[.int .i64 0, .int .i64 0, .bool false] 38)))
     have M := Lib.hid (M.out.below hbV)
     have hf := Lib.hid (blk_below hf.out hbV)
     have e2 : u1.heap.size < (World.setRow (World.alloc u1 (.cells #[.int .i64 0, .int .i64 0, .bool false] 38)) u1.heap.size #[.int .i64 x9, .int .i64 y9, .bool false]).heap.size := by rw [setRow_size, alloc_size]; omega
     clear hbV
     generalize World.setRow (World.alloc u1 (.cells #[.int .i64 0, .int .i64 0, .bool false] 38)) u1.heap.size #[.int .i64 x9, .int .i64 y9, .bool false] = u2 at BU M hf e2 ⊢
     have q0 := cell_of_blk (i := 0) (v := .int .i64 x9) BU.out rfl
     have q1 := cell_of_blk (i := 1) (v := .int .i64 y9) BU.out rfl
     have q2 := cell_of_blk (i := 2) (v := .bool false) BU.out rfl
     refine Lib.hid ?_
     have HPk := Lib.hid (fun w => show Calls Tryz.prog 86 #[.agg #[.string rq, .string oq], .int .i64 x9, .int .i64 0] w (fun e w' => e = .returned (.int .i64 (peekI rq oq x9 0)) ∧ Below w.heap.size w w') from spec_peek rq oq x9 0 w)
     go_wp2_with (first | (refine load_part (by rfl) 80 _ (by rfl) F 6 (by rfl) #[.string rq, .string oq] _ Tryz.underlying80 rfl (by kernel_rfl) hf.out rfl ?_) | (go_at_call 86; refine (HPk.out _).mono ?_; rintro e u4 ⟨rfl, hb⟩; refine Hid.out ?_))
     have M := Lib.hid (M.out.below hb)
     clear hb q0 q1 q2 BU HPk hf
     generalize peekI rq oq x9 0 = vp
     obtain ⟨k5, hk5⟩ := M.out.cs
     obtain ⟨a5, b5, d5, hw5⟩ := M.out.ws
     replace hk5 := Lib.hid hk5
     replace hw5 := Lib.hid hw5
     refine Lib.hid ?_
     go_wp2_with (first | (refine load_core (by rfl) _ (by rfl) _ (by rfl) hk5.out ?_) | (refine load_row (by rfl) 29 _ (by rfl) _ (by rfl) 3 _ Tryz.underlying29 rfl (by kernel_rfl) hw5.out rfl ?_) | (go_at_call 11; refine (s_fed _ _ _ _ _ _).mono ?_; rintro e u5 ⟨k6, n6, e6, i6, rfl, hb⟩; refine Hid.out ?_))
     have M := Lib.hid (M.out.below hb)
     have hw5 := Lib.hid (blk_below hw5.out hb)
     clear hb hk5
     have ne : X ≠ C := by have := M.out.x0; omega
     refine Lib.hid ?_
     go_wp2_with (first | (refine store_some (by rfl) (by rfl) _ _ (by rfl) _ (by rfl) _ (by rfl) M.out.cs ?_) | (refine store_row (by rfl) 29 _ _ (by rfl) X #[.bool n6, .bool e6, .bool i6] (by rfl) (by rfl) 3 (by kernel_rfl) (row_row hw5.out ne) rfl rfl (by rfl) ?_))
     go_roundw
     case rel => exact ⟨i + 1, by omega, by go_num, (M.out.core k6).wires n6 e6 i6⟩
     case measure => simp [intOf]; omega
    ·refine Lib.hid ?_
     go_wp2_with (first | (refine store_row (by rfl) 38 _ _ (by rfl) u1.heap.size #[.int .i64 x9, .int .i64 y9, .bool true] (by rfl) (by rfl) 3 (by kernel_rfl) (blk_new u1 _) rfl rfl (by rfl) ?_; refine Hid.out ?_))
     have hbV : Below u1.heap.size u1 (World.setRow (World.alloc u1 (.cells #[.int .i64 0, .int .i64 0, .bool false] 38)) u1.heap.size #[.int .i64 x9, .int .i64 y9, .bool true]) := below_row (below_alloc (Below.refl _ _) _) (Nat.le_refl _)
     have BU := Lib.hid (setRow_heap _ _ _ #[.int .i64 x9, .int .i64 y9, .bool true] _ _ (blk_new u1 (.cells #[.int .i64 0, .int .i64 0, .bool false] 38)))
     have M := Lib.hid (M.out.below hbV)
     have hf := Lib.hid (blk_below hf.out hbV)
     have e2 : u1.heap.size < (World.setRow (World.alloc u1 (.cells #[.int .i64 0, .int .i64 0, .bool false] 38)) u1.heap.size #[.int .i64 x9, .int .i64 y9, .bool true]).heap.size := by rw [setRow_size, alloc_size]; omega
     clear hbV
     generalize World.setRow (World.alloc u1 (.cells #[.int .i64 0, .int .i64 0, .bool false] 38)) u1.heap.size #[.int .i64 x9, .int .i64 y9, .bool true] = u2 at BU M hf e2 ⊢
     have q0 := cell_of_blk (i := 0) (v := .int .i64 x9) BU.out rfl
     have q1 := cell_of_blk (i := 1) (v := .int .i64 y9) BU.out rfl
     have q2 := cell_of_blk (i := 2) (v := .bool true) BU.out rfl
     refine Lib.hid ?_
     have HPk := Lib.hid (fun w => show Calls Tryz.prog 85 #[.agg #[.string rq, .string oq], .int .i64 x9, .int .i64 y9] w (fun e w' => e = .returned (.agg #[.string (pokeR rq oq x9 y9), .string oq]) ∧ Below w.heap.size w w') from spec_poke rq oq x9 y9 w)
     go_wp2_with (first | (refine load_part (by rfl) 80 _ (by rfl) F 6 (by rfl) #[.string rq, .string oq] _ Tryz.underlying80 rfl (by kernel_rfl) hf.out rfl ?_) | (go_at_call 85; refine (HPk.out _).mono ?_; rintro e u3 ⟨rfl, hb⟩; refine Hid.out ?_))
     have M := Lib.hid (M.out.below hb)
     have hf := Lib.hid (blk_below hf.out hb)
     clear hb q0 q1 q2 BU HPk
     have hp := pokeR_size rq oq x9 y9 hr0
     generalize pokeR rq oq x9 y9 = rp at hp ⊢
     refine Lib.hid ?_
     go_wp2_with (first | (refine store_part (by rfl) 80 _ _ (by rfl) F 6 #[.string rp, .string oq] #[.int .i64 kq.a, .int .i64 kq.x, .int .i64 kq.y, .int .i64 kq.s, .int .i64 kq.p, .int .i64 kq.pc, .string rp, .string oq, .int .i64 qq, .bool false] (by rfl) (by rfl) (by kernel_rfl) hf.out (Nat.le_of_ble_eq_true rfl) rfl rfl ?_; refine Hid.out ?_))
     have M := Lib.hid (M.out.mem kq rp oq qq hp ho0)
     generalize World.setRow u3 F #[.int .i64 kq.a, .int .i64 kq.x, .int .i64 kq.y, .int .i64 kq.s, .int .i64 kq.p, .int .i64 kq.pc, .string rp, .string oq, .int .i64 qq, .bool false] = u4 at M ⊢
     clear hf
     obtain ⟨k5, hk5⟩ := M.out.cs
     obtain ⟨a5, b5, d5, hw5⟩ := M.out.ws
     replace hk5 := Lib.hid hk5
     replace hw5 := Lib.hid hw5
     refine Lib.hid ?_
     go_wp2_with (first | (refine load_core (by rfl) _ (by rfl) _ (by rfl) hk5.out ?_) | (refine load_row (by rfl) 29 _ (by rfl) _ (by rfl) 3 _ Tryz.underlying29 rfl (by kernel_rfl) hw5.out rfl ?_) | (go_at_call 11; refine (s_fed _ _ _ _ _ _).mono ?_; rintro e u5 ⟨k6, n6, e6, i6, rfl, hb⟩; refine Hid.out ?_))
     have M := Lib.hid (M.out.below hb)
     have hw5 := Lib.hid (blk_below hw5.out hb)
     clear hb hk5
     have ne : X ≠ C := by have := M.out.x0; omega
     refine Lib.hid ?_
     go_wp2_with (first | (refine store_some (by rfl) (by rfl) _ _ (by rfl) _ (by rfl) _ (by rfl) M.out.cs ?_) | (refine store_row (by rfl) 29 _ _ (by rfl) X #[.bool n6, .bool e6, .bool i6] (by rfl) (by rfl) 3 (by kernel_rfl) (row_row hw5.out ne) rfl rfl (by rfl) ?_))
     go_roundw
     case rel => exact ⟨i + 1, by omega, by go_num, (M.out.core k6).wires n6 e6 i6⟩
     case measure => simp [intOf]; omega
   ·obtain rfl : i = Z := by omega
    have e1 := M.g0
    have e2 := M.bw
    have e3 := M.f0
    have e4 := M.c0
    have e5 := M.x0
    go_upto_region 16 with fail
    have R2 := Lib.hid (row_drew M.r2)
    have R3 := Lib.hid (row_drew M.r3)
    refine wp_region_held_drew (S := fun w' => Hid (CorAt C k0 w' ∧ w'.heap[F]? = some (Obj.cells #[.int .i64 kq.a, .int .i64 kq.x, .int .i64 kq.y, .int .i64 kq.s, .int .i64 kq.p, .int .i64 kq.pc, .string rq, .string oq, .int .i64 qq, .bool false] 103 (0, 0)))) (by kernel_rfl) (Lib.hid ⟨CorAt.drew hk0, row_drew hf0⟩) (fun hHeld => ?_)
    refine wpAnyH_take (i := 0) (oi := _) rfl (by kernel_rfl) (by kernel_rfl) (by kernel_rfl) (fun _ _ _ h => h) (yields_load_part (by rfl) 27 (.tmp 5) rfl C 0 rfl (corC k0) _ Tryz.underlying27 rfl (by kernel_rfl) rfl (fun u hS => (Hid.out hS).1)) hHeld ?_
    (try simp only [Act.put, List.getElem_toArray, List.getElem_cons_zero, List.setIfInBounds_toArray, List.set_cons_zero, List.set_cons_succ])
    refine wpAnyH_take (i := 1) (oi := _) (v := ?_) rfl (by kernel_rfl) (by kernel_rfl) (by kernel_rfl) (fun _ _ _ h => h) (Or.inl ⟨by rfl, ?_⟩) hHeld ?_
    rotate_left 1
    ·intro wz hz
     (try dsimp only at hz)
     go_simp
     (try with_reducible rfl)
    (try simp only [Act.put, List.getElem_toArray, List.getElem_cons_zero, List.getElem_cons_succ, List.setIfInBounds_toArray, List.set_cons_zero, List.set_cons_succ])
    refine wpAnyH_take (i := 2) (oi := _) rfl (by kernel_rfl) (by kernel_rfl) (by kernel_rfl) (fun _ _ _ h => h) (yields_load_part (by rfl) 80 (.tmp 56) rfl F 6 rfl #[.string rq, .string oq] _ Tryz.underlying80 rfl (by kernel_rfl) rfl (fun u hS => (Hid.out hS).2)) hHeld ?_
    (try simp only [Act.put, List.getElem_toArray, List.getElem_cons_zero, List.getElem_cons_succ, List.setIfInBounds_toArray, List.set_cons_zero, List.set_cons_succ])
    refine wpAnyH_ready (rs := [3]) (by kernel_rfl) (by simp) ?_
    refine AllReadyH.cons (o := _) rfl (fun K' hK' => ?_) AllReadyH.nil
    rw [if_pos (by rfl)]
    refine wp_store_row 27 (.tmp 2) (.tmp 55) rfl (w.heap.size) (corC k0) rfl rfl _ _ (show _ = some (Obj.cells #[.int .i64 0, .int .i64 0, .int .i64 0, .int .i64 0, .int .i64 0, .int .i64 0, .int .i64 0, .int .i64 0, .int .i64 0, .int .i64 0, .int .i64 0, .int .i64 0, .bool false, .int .i64 0, .bool false] 27 (0, 0)) by exact rowS) (by kernel_rfl) rfl (by rw [← Array.all_toList]; rfl) ?_
    refine hK'.out _ _ (Lib.hid ⟨row_row (Hid.out hHeld).1 (by omega), row_row (Hid.out hHeld).2 (by omega)⟩) (fun hHeld => ?_)
    clear hK' K'
    refine wpAnyH_ready (rs := [4]) (by kernel_rfl) (by simp) ?_
    refine AllReadyH.cons (o := _) rfl (fun K' hK' => ?_) AllReadyH.nil
    rw [if_pos (by rfl)]
    refine wp_store_row 80 (.tmp 3) (.tmp 57) rfl (w.heap.size + 1) #[.string rq, .string oq] rfl rfl _ _ (show _ = some (Obj.cells #[.string ⟨#[]⟩, .string ⟨#[]⟩] 80 (0, 0)) by exact rowS) (by kernel_rfl) rfl (by rw [← Array.all_toList]; rfl) ?_
    refine hK'.out _ _ (Lib.hid ⟨row_row (Hid.out hHeld).1 (by omega), row_row (Hid.out hHeld).2 (by omega)⟩) (fun hHeld => ?_)
    clear hK' K'
    refine wpAnyH_done (by kernel_rfl) ?_ _
    go_wp2
    exact rows_two_post rfl rfl rfl Tryz.underlying27 rfl (by kernel_rfl) Tryz.underlying80 rfl (by kernel_rfl) rfl (row_row (setRow_heap _ _ _ (corC k0) _ _ R2.out) (by omega)) rfl (setRow_heap _ _ _ #[.string rq, .string oq] _ _ (row_row R3.out (by omega))) rfl ⟨k0, rq, oq, rfl, hr0, ho0, (drawn_row (drawn_row M.h.drew (by omega) (by omega)) (by omega) (by omega)).cur, grown_row (grown_row (grown_drewR M.gr) (by omega)) (by omega)⟩
 ·go_wp2_with (first | (refine load_some (by rfl) _ (by rfl) _ (by rfl) CR.out ?_; intro k2 hk2) | (go_at_call 23; refine (s_resetP _ _).mono ?_; rintro e w5 ⟨k5, rfl, hb5⟩; refine Hid.out ?_))
  have H5 := Lib.hid (H4.out.below hb5)
  have G5 := Lib.hid (grown_below G4.out hb5)
  have A0 := Lib.hid (blk_below A0.out hb5)
  have A1 := Lib.hid (blk_below A1.out hb5)
  have FL := Lib.hid (blk_below FL.out hb5)
  have CR := Lib.hid (CorSome.below CR.out hb5)
  have e5 := hb5.size
  clear hb5 H4 G4 hk2
  refine Lib.hid ?_
  go_wp2_with (first | (refine store_some (by rfl) (by rfl) _ _ (by rfl) _ (by rfl) _ (by rfl) CR.out ?_; refine Hid.out ?_))
  have hne : w2.heap.size ≠ g := by omega
  have H5 := Lib.hid (drawn_row (cs := corC k5) H5.out hne (by omega))
  have G5 := Lib.hid (grown_row (cs := corC k5) G5.out (show w.heap.size ≤ w2.heap.size by omega))
  have A0 := Lib.hid (row_row (cs := corC k5) A0.out (show w.heap.size ≠ w2.heap.size by omega))
  have A1 := Lib.hid (row_row (cs := corC k5) A1.out (show w.heap.size + 1 ≠ w2.heap.size by omega))
  have FL := Lib.hid (row_row (cs := corC k5) FL.out (show w1.heap.size ≠ w2.heap.size by omega))
  have CR := Lib.hid (CorSome.row (k := k5) CR.out)
  have e6 : w5.heap.size = (w5.setRow w2.heap.size (corC k5)).heap.size := by rw [setRow_size]
  generalize w5.setRow w2.heap.size (corC k5) = w5b at H5 G5 A0 A1 FL CR e6 ⊢
  refine Lib.hid ?_
  have hy := Lib.hid (l07Make_any H5.out)
  go_wp2_with (first | (go_at_call 30; refine (hy.out).mono ?_; rintro e w6 ⟨a5, b5, d5, rfl, hc, hg⟩; refine Hid.out ?_))
  clear hy
  have e6 := hg.size
  have H6 := Lib.hid (H5.out.next hc hg)
  have G6 := Lib.hid (grown_trans G5.out hg)
  have A0 := Lib.hid (blk_grown A0.out hg (by omega))
  have A1 := Lib.hid (blk_grown A1.out hg (by omega))
  have FL := Lib.hid (blk_grown FL.out hg (by omega))
  have CR := Lib.hid (CR.out.elim fun kk hk => CorSome.of (show CorAt w2.heap.size kk w6 from blk_grown hk hg (by omega)))
  clear hc hg H5 G5
  refine Lib.hid ?_
  go_wp2_with (first | (refine store_row (by rfl) 29 _ _ (by rfl) w6.heap.size #[.bool a5, .bool b5, .bool d5] (by rfl) (by rfl) 3 (by kernel_rfl) (blk_new w6 _) rfl rfl (by rfl) ?_; refine Hid.out ?_))
  have hbV : Below w6.heap.size w6 (World.setRow (World.alloc w6 (.cells #[.bool false, .bool false, .bool false] 29)) w6.heap.size #[.bool a5, .bool b5, .bool d5]) := below_row (below_alloc (Below.refl _ _) _) (Nat.le_refl _)
  have WS := Lib.hid (setRow_heap _ _ _ #[.bool a5, .bool b5, .bool d5] _ _ (blk_new w6 (.cells #[.bool false, .bool false, .bool false] 29)))
  have A0 := Lib.hid (blk_below A0.out hbV)
  have A1 := Lib.hid (blk_below A1.out hbV)
  have FL := Lib.hid (blk_below FL.out hbV)
  have CR := Lib.hid (CorSome.below CR.out hbV)
  have H7 := Lib.hid (H6.out.below hbV)
  have G7 := Lib.hid (grown_below G6.out hbV)
  have e7 : w6.heap.size < (World.setRow (World.alloc w6 (.cells #[.bool false, .bool false, .bool false] 29)) w6.heap.size #[.bool a5, .bool b5, .bool d5]).heap.size := by rw [setRow_size, alloc_size]; omega
  clear hbV
  generalize World.setRow (World.alloc w6 (.cells #[.bool false, .bool false, .bool false] 29)) w6.heap.size #[.bool a5, .bool b5, .bool d5] = w7 at WS A0 A1 FL CR H7 G7 e7 ⊢
  have M := Lib.hid (show MK B g n c A w w1.heap.size w2.heap.size w6.heap.size w7 from ⟨H7.out, G7.out, A0.out, A1.out, ⟨kr, r, o, q, FL.out, hr, ho⟩, CR.out, ⟨a5, b5, d5, WS.out⟩, hgl, hBw, by omega, by omega, by omega, by omega⟩)
  clear H6 G6 G7 WS FL CR A0 A1
  have hy := Lib.hid (l01Below_any H7.out 14 (by omega) (by omega))
  refine Lib.hid ?_
  go_wp2_with (first | (go_at_call 55; refine (hy.out).mono ?_; rintro e w8 ⟨z, rfl, z0, z1, hc, hg⟩; refine Hid.out ?_))
  clear hy
  have M := Lib.hid (M.out.grown hc hg)
  clear hc hg H7
  generalize w1.heap.size = F at M ⊢
  generalize w2.heap.size = C at M ⊢
  generalize w6.heap.size = X at M ⊢
  skip
  obtain ⟨Z, rfl⟩ : ∃ Z : Nat, z = Z := ⟨z.toNat, by omega⟩
  refine Lib.hid ?_
  go_wp2_with (fail)
  go_loopw [8] (fun v8 wr => ∃ i : Nat, i ≤ Z ∧ v8 = .int .i64 i ∧ MK B g n c A w F C X wr) (fun v8 _ => Z - (intOf v8).toNat)
  case atStart => exact ⟨0, by omega, rfl, M.out⟩
  case round =>
   obtain ⟨i, hi, rfl, M⟩ := hrel
   obtain ⟨k0, hk0⟩ := M.cs
   obtain ⟨a0, b0, d0, hw0⟩ := M.ws
   obtain ⟨kq, rq, oq, qq, hf0, hr0, ho0⟩ := M.fl
   by_cases hlt : i < Z
   ·replace M := Lib.hid M
    replace hk0 := Lib.hid hk0
    replace hw0 := Lib.hid hw0
    replace hf0 := Lib.hid hf0
    have hlz : (i : Int) < (Z : Int) := by omega
    go_wp2_with (first | (refine load_core (by rfl) _ (by rfl) _ (by rfl) hk0.out ?_) | (refine load_row (by rfl) 29 _ (by rfl) _ (by rfl) 3 _ Tryz.underlying29 rfl (by kernel_rfl) hw0.out rfl ?_) | (go_at_call 18; refine (s_want _ _ _ _ _).mono ?_; rintro e u1 ⟨x9, y9, z9, rfl, hb⟩; refine Hid.out ?_))
    have M := Lib.hid (M.out.below hb)
    have hf := Lib.hid (blk_below hf0.out hb)
    clear hb hk0 hw0 hf0
    cases z9
    ·refine Lib.hid ?_
     go_wp2_with (first | (refine store_row (by rfl) 38 _ _ (by rfl) u1.heap.size #[.int .i64 x9, .int .i64 y9, .bool false] (by rfl) (by rfl) 3 (by kernel_rfl) (blk_new u1 _) rfl rfl (by rfl) ?_; refine Hid.out ?_))
     have hbV : Below u1.heap.size u1 (World.setRow (World.alloc u1 (.cells #[.int .i64 0, .int .i64 0, .bool false] 38)) u1.heap.size #[.int .i64 x9, .int .i64 y9, .bool false]) := below_row (below_alloc (Below.refl _ _) _) (Nat.le_refl _)
     have BU := Lib.hid (setRow_heap _ _ _ #[.int .i64 x9, .int .i64 y9, .bool false] _ _ (blk_new u1 (.cells #[.int .i64 0, .int .i64 0, .bool false] 38)))
     have M := Lib.hid (M.out.below hbV)
     have hf := Lib.hid (blk_below hf.out hbV)
     have e2 : u1.heap.size < (World.setRow (World.alloc u1 (.cells #[.int .i64 0, .int .i64 0, .bool false] 38)) u1.heap.size #[.int .i64 x9, .int .i64 y9, .bool false]).heap.size := by rw [setRow_size, alloc_size]; omega
     clear hbV
     generalize World.setRow (World.alloc u1 (.cells #[.int .i64 0, .int .i64 0, .bool false] 38)) u1.heap.size #[.int .i64 x9, .int .i64 y9, .bool false] = u2 at BU M hf e2 ⊢
     have q0 := cell_of_blk (i := 0) (v := .int .i64 x9) BU.out rfl
     have q1 := cell_of_blk (i := 1) (v := .int .i64 y9) BU.out rfl
     have q2 := cell_of_blk (i := 2) (v := .bool false) BU.out rfl
     refine Lib.hid ?_
     have HPk := Lib.hid (fun w => show Calls Tryz.prog 86 #[.agg #[.string rq, .string oq], .int .i64 x9, .int .i64 0] w (fun e w' => e = .returned (.int .i64 (peekI rq oq x9 0)) ∧ Below w.heap.size w w') from spec_peek rq oq x9 0 w)
     go_wp2_with (first | (refine load_part (by rfl) 80 _ (by rfl) F 6 (by rfl) #[.string rq, .string oq] _ Tryz.underlying80 rfl (by kernel_rfl) hf.out rfl ?_) | (go_at_call 86; refine (HPk.out _).mono ?_; rintro e u4 ⟨rfl, hb⟩; refine Hid.out ?_))
     have M := Lib.hid (M.out.below hb)
     clear hb q0 q1 q2 BU HPk hf
     generalize peekI rq oq x9 0 = vp
     obtain ⟨k5, hk5⟩ := M.out.cs
     obtain ⟨a5, b5, d5, hw5⟩ := M.out.ws
     replace hk5 := Lib.hid hk5
     replace hw5 := Lib.hid hw5
     refine Lib.hid ?_
     go_wp2_with (first | (refine load_core (by rfl) _ (by rfl) _ (by rfl) hk5.out ?_) | (refine load_row (by rfl) 29 _ (by rfl) _ (by rfl) 3 _ Tryz.underlying29 rfl (by kernel_rfl) hw5.out rfl ?_) | (go_at_call 11; refine (s_fed _ _ _ _ _ _).mono ?_; rintro e u5 ⟨k6, n6, e6, i6, rfl, hb⟩; refine Hid.out ?_))
     have M := Lib.hid (M.out.below hb)
     have hw5 := Lib.hid (blk_below hw5.out hb)
     clear hb hk5
     have ne : X ≠ C := by have := M.out.x0; omega
     refine Lib.hid ?_
     go_wp2_with (first | (refine store_some (by rfl) (by rfl) _ _ (by rfl) _ (by rfl) _ (by rfl) M.out.cs ?_) | (refine store_row (by rfl) 29 _ _ (by rfl) X #[.bool n6, .bool e6, .bool i6] (by rfl) (by rfl) 3 (by kernel_rfl) (row_row hw5.out ne) rfl rfl (by rfl) ?_))
     go_roundw
     case rel => exact ⟨i + 1, by omega, by go_num, (M.out.core k6).wires n6 e6 i6⟩
     case measure => simp [intOf]; omega
    ·refine Lib.hid ?_
     go_wp2_with (first | (refine store_row (by rfl) 38 _ _ (by rfl) u1.heap.size #[.int .i64 x9, .int .i64 y9, .bool true] (by rfl) (by rfl) 3 (by kernel_rfl) (blk_new u1 _) rfl rfl (by rfl) ?_; refine Hid.out ?_))
     have hbV : Below u1.heap.size u1 (World.setRow (World.alloc u1 (.cells #[.int .i64 0, .int .i64 0, .bool false] 38)) u1.heap.size #[.int .i64 x9, .int .i64 y9, .bool true]) := below_row (below_alloc (Below.refl _ _) _) (Nat.le_refl _)
     have BU := Lib.hid (setRow_heap _ _ _ #[.int .i64 x9, .int .i64 y9, .bool true] _ _ (blk_new u1 (.cells #[.int .i64 0, .int .i64 0, .bool false] 38)))
     have M := Lib.hid (M.out.below hbV)
     have hf := Lib.hid (blk_below hf.out hbV)
     have e2 : u1.heap.size < (World.setRow (World.alloc u1 (.cells #[.int .i64 0, .int .i64 0, .bool false] 38)) u1.heap.size #[.int .i64 x9, .int .i64 y9, .bool true]).heap.size := by rw [setRow_size, alloc_size]; omega
     clear hbV
     generalize World.setRow (World.alloc u1 (.cells #[.int .i64 0, .int .i64 0, .bool false] 38)) u1.heap.size #[.int .i64 x9, .int .i64 y9, .bool true] = u2 at BU M hf e2 ⊢
     have q0 := cell_of_blk (i := 0) (v := .int .i64 x9) BU.out rfl
     have q1 := cell_of_blk (i := 1) (v := .int .i64 y9) BU.out rfl
     have q2 := cell_of_blk (i := 2) (v := .bool true) BU.out rfl
     refine Lib.hid ?_
     have HPk := Lib.hid (fun w => show Calls Tryz.prog 85 #[.agg #[.string rq, .string oq], .int .i64 x9, .int .i64 y9] w (fun e w' => e = .returned (.agg #[.string (pokeR rq oq x9 y9), .string oq]) ∧ Below w.heap.size w w') from spec_poke rq oq x9 y9 w)
     go_wp2_with (first | (refine load_part (by rfl) 80 _ (by rfl) F 6 (by rfl) #[.string rq, .string oq] _ Tryz.underlying80 rfl (by kernel_rfl) hf.out rfl ?_) | (go_at_call 85; refine (HPk.out _).mono ?_; rintro e u3 ⟨rfl, hb⟩; refine Hid.out ?_))
     have M := Lib.hid (M.out.below hb)
     have hf := Lib.hid (blk_below hf.out hb)
     clear hb q0 q1 q2 BU HPk
     have hp := pokeR_size rq oq x9 y9 hr0
     generalize pokeR rq oq x9 y9 = rp at hp ⊢
     refine Lib.hid ?_
     go_wp2_with (first | (refine store_part (by rfl) 80 _ _ (by rfl) F 6 #[.string rp, .string oq] #[.int .i64 kq.a, .int .i64 kq.x, .int .i64 kq.y, .int .i64 kq.s, .int .i64 kq.p, .int .i64 kq.pc, .string rp, .string oq, .int .i64 qq, .bool false] (by rfl) (by rfl) (by kernel_rfl) hf.out (Nat.le_of_ble_eq_true rfl) rfl rfl ?_; refine Hid.out ?_))
     have M := Lib.hid (M.out.mem kq rp oq qq hp ho0)
     generalize World.setRow u3 F #[.int .i64 kq.a, .int .i64 kq.x, .int .i64 kq.y, .int .i64 kq.s, .int .i64 kq.p, .int .i64 kq.pc, .string rp, .string oq, .int .i64 qq, .bool false] = u4 at M ⊢
     clear hf
     obtain ⟨k5, hk5⟩ := M.out.cs
     obtain ⟨a5, b5, d5, hw5⟩ := M.out.ws
     replace hk5 := Lib.hid hk5
     replace hw5 := Lib.hid hw5
     refine Lib.hid ?_
     go_wp2_with (first | (refine load_core (by rfl) _ (by rfl) _ (by rfl) hk5.out ?_) | (refine load_row (by rfl) 29 _ (by rfl) _ (by rfl) 3 _ Tryz.underlying29 rfl (by kernel_rfl) hw5.out rfl ?_) | (go_at_call 11; refine (s_fed _ _ _ _ _ _).mono ?_; rintro e u5 ⟨k6, n6, e6, i6, rfl, hb⟩; refine Hid.out ?_))
     have M := Lib.hid (M.out.below hb)
     have hw5 := Lib.hid (blk_below hw5.out hb)
     clear hb hk5
     have ne : X ≠ C := by have := M.out.x0; omega
     refine Lib.hid ?_
     go_wp2_with (first | (refine store_some (by rfl) (by rfl) _ _ (by rfl) _ (by rfl) _ (by rfl) M.out.cs ?_) | (refine store_row (by rfl) 29 _ _ (by rfl) X #[.bool n6, .bool e6, .bool i6] (by rfl) (by rfl) 3 (by kernel_rfl) (row_row hw5.out ne) rfl rfl (by rfl) ?_))
     go_roundw
     case rel => exact ⟨i + 1, by omega, by go_num, (M.out.core k6).wires n6 e6 i6⟩
     case measure => simp [intOf]; omega
   ·obtain rfl : i = Z := by omega
    have e1 := M.g0
    have e2 := M.bw
    have e3 := M.f0
    have e4 := M.c0
    have e5 := M.x0
    go_upto_region 16 with fail
    have R2 := Lib.hid (row_drew M.r2)
    have R3 := Lib.hid (row_drew M.r3)
    refine wp_region_held_drew (S := fun w' => Hid (CorAt C k0 w' ∧ w'.heap[F]? = some (Obj.cells #[.int .i64 kq.a, .int .i64 kq.x, .int .i64 kq.y, .int .i64 kq.s, .int .i64 kq.p, .int .i64 kq.pc, .string rq, .string oq, .int .i64 qq, .bool false] 103 (0, 0)))) (by kernel_rfl) (Lib.hid ⟨CorAt.drew hk0, row_drew hf0⟩) (fun hHeld => ?_)
    refine wpAnyH_take (i := 0) (oi := _) rfl (by kernel_rfl) (by kernel_rfl) (by kernel_rfl) (fun _ _ _ h => h) (yields_load_part (by rfl) 27 (.tmp 5) rfl C 0 rfl (corC k0) _ Tryz.underlying27 rfl (by kernel_rfl) rfl (fun u hS => (Hid.out hS).1)) hHeld ?_
    (try simp only [Act.put, List.getElem_toArray, List.getElem_cons_zero, List.setIfInBounds_toArray, List.set_cons_zero, List.set_cons_succ])
    refine wpAnyH_take (i := 1) (oi := _) (v := ?_) rfl (by kernel_rfl) (by kernel_rfl) (by kernel_rfl) (fun _ _ _ h => h) (Or.inl ⟨by rfl, ?_⟩) hHeld ?_
    rotate_left 1
    ·intro wz hz
     (try dsimp only at hz)
     go_simp
     (try with_reducible rfl)
    (try simp only [Act.put, List.getElem_toArray, List.getElem_cons_zero, List.getElem_cons_succ, List.setIfInBounds_toArray, List.set_cons_zero, List.set_cons_succ])
    refine wpAnyH_take (i := 2) (oi := _) rfl (by kernel_rfl) (by kernel_rfl) (by kernel_rfl) (fun _ _ _ h => h) (yields_load_part (by rfl) 80 (.tmp 56) rfl F 6 rfl #[.string rq, .string oq] _ Tryz.underlying80 rfl (by kernel_rfl) rfl (fun u hS => (Hid.out hS).2)) hHeld ?_
    (try simp only [Act.put, List.getElem_toArray, List.getElem_cons_zero, List.getElem_cons_succ, List.setIfInBounds_toArray, List.set_cons_zero, List.set_cons_succ])
    refine wpAnyH_ready (rs := [3]) (by kernel_rfl) (by simp) ?_
    refine AllReadyH.cons (o := _) rfl (fun K' hK' => ?_) AllReadyH.nil
    rw [if_pos (by rfl)]
    refine wp_store_row 27 (.tmp 2) (.tmp 55) rfl (w.heap.size) (corC k0) rfl rfl _ _ (show _ = some (Obj.cells #[.int .i64 0, .int .i64 0, .int .i64 0, .int .i64 0, .int .i64 0, .int .i64 0, .int .i64 0, .int .i64 0, .int .i64 0, .int .i64 0, .int .i64 0, .int .i64 0, .bool false, .int .i64 0, .bool false] 27 (0, 0)) by exact rowS) (by kernel_rfl) rfl (by rw [← Array.all_toList]; rfl) ?_
    refine hK'.out _ _ (Lib.hid ⟨row_row (Hid.out hHeld).1 (by omega), row_row (Hid.out hHeld).2 (by omega)⟩) (fun hHeld => ?_)
    clear hK' K'
    refine wpAnyH_ready (rs := [4]) (by kernel_rfl) (by simp) ?_
    refine AllReadyH.cons (o := _) rfl (fun K' hK' => ?_) AllReadyH.nil
    rw [if_pos (by rfl)]
    refine wp_store_row 80 (.tmp 3) (.tmp 57) rfl (w.heap.size + 1) #[.string rq, .string oq] rfl rfl _ _ (show _ = some (Obj.cells #[.string ⟨#[]⟩, .string ⟨#[]⟩] 80 (0, 0)) by exact rowS) (by kernel_rfl) rfl (by rw [← Array.all_toList]; rfl) ?_
    refine hK'.out _ _ (Lib.hid ⟨row_row (Hid.out hHeld).1 (by omega), row_row (Hid.out hHeld).2 (by omega)⟩) (fun hHeld => ?_)
    clear hK' K'
    refine wpAnyH_done (by kernel_rfl) ?_ _
    go_wp2
    exact rows_two_post rfl rfl rfl Tryz.underlying27 rfl (by kernel_rfl) Tryz.underlying80 rfl (by kernel_rfl) rfl (row_row (setRow_heap _ _ _ (corC k0) _ _ R2.out) (by omega)) rfl (setRow_heap _ _ _ #[.string rq, .string oq] _ _ (row_row R3.out (by omega))) rfl ⟨k0, rq, oq, rfl, hr0, ho0, (drawn_row (drawn_row M.h.drew (by omega) (by omega)) (by omega) (by omega)).cur, grown_row (grown_row (grown_drewR M.gr) (by omega)) (by omega)⟩
end Go.Proofs.YthklebkpoccblaaGreat
