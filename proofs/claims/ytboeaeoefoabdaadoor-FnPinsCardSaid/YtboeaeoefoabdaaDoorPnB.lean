/-
  PinsText of both packages (chapter 12).
  Conditions: none; old memory stays as it was.
-/
import Derived.Test.YtboeaeoefoabdaaDoorPnA
import Derived.Test.YtboeaeoefoabdaaDoorBel
import Derived.BigQuiet
import Derived.Deep.Cut
namespace Go.Proofs.YtboeaeoefoabdaaDoor
open Go.RowKit Go.Deep Go.WideShapes Go.ChangeShapes

theorem text_if (so : Bool) (t o : ByteArray) (w : World) : Calls Tryd.prog 17 #[.bool so, .string t, .string o] w fun e w' => e = .returned (.string (if so then t else o)) ∧ w = w' := by
  cases so <;> go_enter Tryd.func17, Tryd.ntmps17 <;> go_wp2 <;> go_ret <;> exact ⟨rfl, rfl⟩
theorem sign_if (so : Bool) (c : UInt8) (w : World) : Calls Tryd.prog 17 #[.bool so, .string ⟨#[c]⟩, .string ⟨#[]⟩] w fun e w' => e = .returned (.string ⟨(pkl so c).toArray⟩) ∧ w = w' := by
  have h := text_if so ⟨#[c]⟩ ⟨#[]⟩ w
  cases so <;> exact h
theorem hex_two (n : Int) (w : World) : Calls Tryd.prog 19 #[.int .i64 n, .int .i64 2] w fun e w' => e = .returned (.string ⟨(hexl n 2).toArray⟩) ∧ Below w.heap.size w w' := impl_hex n 2 (by omega) (by omega) w
theorem hex_four (n : Int) (w : World) : Calls Tryd.prog 19 #[.int .i64 n, .int .i64 4] w fun e w' => e = .returned (.string ⟨(hexl n 4).toArray⟩) ∧ Below w.heap.size w w' := impl_hex n 4 (by omega) (by omega) w
theorem shex_two (n : Int) (w : World) : Calls Tryd.prog 28 #[.int .i64 n, .int .i64 2] w fun e w' => e = .returned (.string ⟨(hexl n 2).toArray⟩) ∧ Below w.heap.size w w' := spec_hex n 2 (by omega) (by omega) w
theorem shex_four (n : Int) (w : World) : Calls Tryd.prog 28 #[.int .i64 n, .int .i64 4] w fun e w' => e = .returned (.string ⟨(hexl n 4).toArray⟩) ∧ Below w.heap.size w w' := spec_hex n 4 (by omega) (by omega) w
theorem low_byte (n : Int) (w : World) : Calls Tryd.prog 18 #[.int .i64 n] w fun e w' => e = .returned (.int .i64 (n % 256)) ∧ w = w' := by
  have e := i64_255 n
  go_enter Tryd.func18, Tryd.ntmps18
  go_wp2
  go_ret
  exact ⟨rfl, rfl⟩
set_option maxRecDepth 100000 in
set_option maxHeartbeats 4000000 in
theorem impl_pinsText (n i t r : Bool) (p : Int) (w : World) : Calls Tryd.prog 7 #[pinsV n i t r p] w fun e w' => e = .returned (.string ⟨(pinT n i t r p).toArray⟩) ∧ Below w.heap.size w w' := by
  obtain ⟨x1, e1⟩ : ∃ x, x = pkl n 110 := ⟨_, rfl⟩
  obtain ⟨x2, e2⟩ : ∃ x, x = pkl i 105 := ⟨_, rfl⟩
  obtain ⟨x3, e3⟩ : ∃ x, x = pkl t 119 := ⟨_, rfl⟩
  obtain ⟨x4, e4⟩ : ∃ x, x = pkl r 114 := ⟨_, rfl⟩
  have k1 := pkl_length n 110
  have k2 := pkl_length i 105
  have k3 := pkl_length t 119
  have k4 := pkl_length r 114
  have h1 := fun w => sign_if n 110 w
  have h2 := fun w => sign_if i 105 w
  have h3 := fun w => sign_if t 119 w
  have h4 := fun w => sign_if r 114 w
  rw [← e1] at h1 k1
  rw [← e2] at h2 k2
  rw [← e3] at h3 k3
  rw [← e4] at h4 k4
  obtain ⟨s2, g2⟩ : ∃ x, x = x1 ++ x2 := ⟨_, rfl⟩
  obtain ⟨s3, g3⟩ : ∃ x, x = s2 ++ x3 := ⟨_, rfl⟩
  obtain ⟨s4, g4⟩ : ∃ x, x = s3 ++ x4 := ⟨_, rfl⟩
  have a2 := fun w => add_run x1 x2 (by omega) w
  rw [← g2] at a2
  have j2 : s2.length ≤ 2 := by rw [g2, List.length_append]; omega
  have a3 := fun w => add_run s2 x3 (by omega) w
  rw [← g3] at a3
  have j3 : s3.length ≤ 3 := by rw [g3, List.length_append]; omega
  have a4 := fun w => add_run s3 x4 (by omega) w
  rw [← g4] at a4
  have j4 : s4.length ≤ 4 := by rw [g4, List.length_append]; omega
  have HPin : Hid (pin0 n i t r = s4) := Lib.hid (by rw [g4, g3, g2, e1, e2, e3, e4]; rfl)
  clear g2 g3 g4 e1 e2 e3 e4 k1 k2 k3 k4 j2 j3
  replace h1 := Lib.hid h1
  replace h2 := Lib.hid h2
  replace h3 := Lib.hid h3
  replace h4 := Lib.hid h4
  have HL := Lib.hid (fun w => low_byte p w)
  unfold pinsV
  go_enter Tryd.func7, Tryd.ntmps7
  go_wp2
  go_quiet (first | ((with_reducible refine (h1.out _).mono ?_); exact fun _ _ ⟨he, hw⟩ => ⟨he, _, hw.symm⟩) | ((with_reducible refine (h2.out _).mono ?_); exact fun _ _ ⟨he, hw⟩ => ⟨he, _, hw.symm⟩) | ((with_reducible refine (h3.out _).mono ?_); exact fun _ _ ⟨he, hw⟩ => ⟨he, _, hw.symm⟩) | ((with_reducible refine (h4.out _).mono ?_); exact fun _ _ ⟨he, hw⟩ => ⟨he, _, hw.symm⟩))
  have HB := Lib.hid (below_drewN (below_alloc (Below.refl w.heap.size w) (.cells #[.bool n, .bool i, .bool t, .bool r, .int .i64 p] 25)) nq)
  have hc : ((w.alloc (.cells #[.bool n, .bool i, .bool t, .bool r, .int .i64 p] 25)).drewN nq).cell? ⟨w.heap.size, 4, none⟩ = some (.int .i64 p) := cell_of_blk (i := 4) (show (w.alloc (.cells #[.bool n, .bool i, .bool t, .bool r, .int .i64 p] 25)).heap[w.heap.size]? = some (.cells #[.bool n, .bool i, .bool t, .bool r, .int .i64 p] 25 (0, 0)) from blk_new _ _) rfl
  clear h1 h2 h3 h4 a2 a3 a4
  generalize World.drewN _ nq = w0 at HB hc ⊢
  go_upto_region 2 with fail
  obtain ⟨y, ey⟩ : ∃ y, y = hexl p 2 := ⟨_, rfl⟩
  have jy : y.length = 2 := by rw [ey, hexl_length]
  have hx := fun w => hex_two (p % 256) w
  simp only [hexl_byte, ← ey] at hx
  replace hx := Lib.hid hx
  have b1 : ∀ w, (Op.stringOp .add ⟨#[32]⟩ ⟨y.toArray⟩).run Tryd.prog w = .ok (.string ⟨([32] ++ y).toArray⟩) w := fun w => add_run [32] y (by simp; omega) w
  obtain ⟨z, ez⟩ : ∃ z, z = [32] ++ y := ⟨_, rfl⟩
  rw [← ez] at b1
  have jz : z.length = 3 := by rw [ez]; simp; omega
  have hL : Hid (pinL n i t r = if s4 = [] then [45] else s4) := Lib.hid (by unfold pinL; rw [HPin.out])
  have hT : Hid (pinT n i t r p = pinL n i t r ++ (if p % 256 = 0 then [] else z)) := Lib.hid (by unfold pinT; rw [ez, ey]; rfl)
  clear ey ez jy HPin
  cases hE : s4.isEmpty
  · by_cases hz : p % 256 = 0
    · replace hL := hL.out
      have hs : ¬ s4 = [] := fun h => by rw [h] at hE; cases hE
      rw [if_neg hs] at hL
      clear hs
      replace hL := Lib.hid hL
      have hT := hT.out
      rw [if_pos hz, hL.out, List.append_nil] at hT
      replace hT := Lib.hid hT
      clear hL jz j4
      go_wp2_with (first | (go_at_call 18; (with_reducible refine (HL.out _).mono ?_); rintro e w1 ⟨rfl, rfl⟩))
      go_ret
      exact ⟨by rw [hT.out]; rfl, HB.out⟩
    · replace hL := hL.out
      have hs : ¬ s4 = [] := fun h => by rw [h] at hE; cases hE
      rw [if_neg hs] at hL
      clear hs
      replace hL := Lib.hid hL
      have hT := hT.out
      rw [if_neg hz, hL.out] at hT
      have b2 : ∀ w, (Op.stringOp .add ⟨s4.toArray⟩ ⟨z.toArray⟩).run Tryd.prog w = .ok (.string ⟨(s4 ++ z).toArray⟩) w := fun w => add_run s4 z (by first | omega | (simp; omega)) w
      rw [← hT] at b2
      obtain ⟨u, hu⟩ : ∃ u, pinT n i t r p = u := ⟨_, rfl⟩
      rw [hu] at b2
      replace hu := Lib.hid hu
      clear hT
      clear hL jz j4
      go_wp2_with (first | (go_at_call 18; (with_reducible refine (HL.out _).mono ?_); rintro e w1 ⟨rfl, rfl⟩) | (go_at_call 19; (with_reducible refine (hx.out _).mono ?_); rintro e w1 ⟨rfl, hb⟩))
      go_ret
      exact ⟨by rw [hu.out]; rfl, HB.out.trans (hb.mono HB.out.size)⟩
  · by_cases hz : p % 256 = 0
    · replace hL := hL.out
      have hs : s4 = [] := List.isEmpty_iff.1 hE
      rw [if_pos hs] at hL
      clear hs
      replace hL := Lib.hid hL
      have hT := hT.out
      rw [if_pos hz, hL.out, List.append_nil] at hT
      replace hT := Lib.hid hT
      clear hL jz j4
      go_wp2_with (first | (go_at_call 18; (with_reducible refine (HL.out _).mono ?_); rintro e w1 ⟨rfl, rfl⟩))
      go_ret
      exact ⟨by rw [hT.out]; rfl, HB.out⟩
    · replace hL := hL.out
      have hs : s4 = [] := List.isEmpty_iff.1 hE
      rw [if_pos hs] at hL
      clear hs
      replace hL := Lib.hid hL
      have hT := hT.out
      rw [if_neg hz, hL.out] at hT
      have b2 : ∀ w, (Op.stringOp .add ⟨#[45]⟩ ⟨z.toArray⟩).run Tryd.prog w = .ok (.string ⟨([45] ++ z).toArray⟩) w := fun w => add_run [45] z (by first | omega | (simp; omega)) w
      rw [← hT] at b2
      obtain ⟨u, hu⟩ : ∃ u, pinT n i t r p = u := ⟨_, rfl⟩
      rw [hu] at b2
      replace hu := Lib.hid hu
      clear hT
      clear hL jz j4
      go_wp2_with (first | (go_at_call 18; (with_reducible refine (HL.out _).mono ?_); rintro e w1 ⟨rfl, rfl⟩) | (go_at_call 19; (with_reducible refine (hx.out _).mono ?_); rintro e w1 ⟨rfl, hb⟩))
      go_ret
      exact ⟨by rw [hu.out]; rfl, HB.out.trans (hb.mono HB.out.size)⟩
set_option maxRecDepth 100000 in
set_option maxHeartbeats 4000000 in
theorem spec_pinsText (n i t r : Bool) (p : Int) (w : World) : Calls Tryd.prog 11 #[pinsV n i t r p] w fun e w' => e = .returned (.string ⟨(pinT n i t r p).toArray⟩) ∧ Below w.heap.size w w' := by
  have hb0 := fun w => shex_two p w
  replace hb0 := Lib.hid hb0
  unfold pinsV
  go_enter Tryd.func11, Tryd.ntmps11
  go_wp2
  go_loopw [3, 5] (fun v3 v5 wr => ∃ k : Nat, k ≤ 4 ∧ v5 = .int .i64 k ∧ v3 = .string ⟨(pinU n i t r k).toArray⟩ ∧ Below w.heap.size w wr ∧ wr.heap[w.heap.size]? = some (.cells #[.bool n, .bool i, .bool t, .bool r, .int .i64 p] 25 (0, 0)) ∧ wr.heap[w.heap.size + 1]? = some (.cells #[.bool n, .bool i, .bool t, .bool r] 4 (0, 0))) (fun _ v5 _ => 4 - (intOf v5).toNat)
  case atStart =>
    refine ⟨0, by omega, rfl, ?_, ?_, ?_, ?_⟩
    · show _ = Value.string ⟨(pinU n i t r 0).toArray⟩
      rw [pinU_zero]
    · exact below_alloc (below_alloc (Below.refl _ _) _) _
    · exact blk_old (blk_new _ _)
    · exact blk_new2 _ _ _
  case round =>
    obtain ⟨k, hk, rfl, rfl, hb, hp, hs⟩ := hrel
    by_cases hlt : k < 4
    · replace hb := Lib.hid hb
      rcases (show k = 0 ∨ k = 1 ∨ k = 2 ∨ k = 3 by omega) with rfl | rfl | rfl | rfl
      · have hq := cell_of_blk (i := 0) (v := .bool n) hs rfl
        have hu := pinU_length n i t r 0
        cases n
        · skip
          replace hp := Lib.hid hp
          replace hs := Lib.hid hs
          clear hu
          go_wp2
          go_roundw
          case rel => exact ⟨1, by omega, by go_num, congrArg Value.string (congrArg (fun l : List UInt8 => ByteArray.mk l.toArray) (pinU_no_n_0 i t r)), hb.out, hp.out, hs.out⟩
          case measure => simp [intOf]
        · have ha : ∀ w, (Op.stringOp .add ⟨(pinU true i t r 0).toArray⟩ ((ByteArray.mk #[110, 105, 119, 114]).extract 0 1)).run Tryd.prog w = .ok (.string ⟨(pinU true i t r 1).toArray⟩) w := fun w => by
              have e : (ByteArray.mk #[110, 105, 119, 114]).extract 0 1 = ⟨#[110]⟩ := by decide
              rw [e]
              exact (add_run (pinU true i t r 0) [110] (by simp; omega) w).trans (by rw [← pinU_n_0])
          replace hp := Lib.hid hp
          replace hs := Lib.hid hs
          clear hu
          go_wp2
          go_roundw
          case rel => exact ⟨1, by omega, by go_num, rfl, hb.out, hp.out, hs.out⟩
          case measure => simp [intOf]
      · have hq := cell_of_blk (i := 1) (v := .bool i) hs rfl
        have hu := pinU_length n i t r 1
        cases i
        · skip
          replace hp := Lib.hid hp
          replace hs := Lib.hid hs
          clear hu
          go_wp2
          go_roundw
          case rel => exact ⟨2, by omega, by go_num, congrArg Value.string (congrArg (fun l : List UInt8 => ByteArray.mk l.toArray) (pinU_no_i_1 n t r)), hb.out, hp.out, hs.out⟩
          case measure => simp [intOf]
        · have ha : ∀ w, (Op.stringOp .add ⟨(pinU n true t r 1).toArray⟩ ((ByteArray.mk #[110, 105, 119, 114]).extract 1 2)).run Tryd.prog w = .ok (.string ⟨(pinU n true t r 2).toArray⟩) w := fun w => by
              have e : (ByteArray.mk #[110, 105, 119, 114]).extract 1 2 = ⟨#[105]⟩ := by decide
              rw [e]
              exact (add_run (pinU n true t r 1) [105] (by simp; omega) w).trans (by rw [← pinU_i_1])
          replace hp := Lib.hid hp
          replace hs := Lib.hid hs
          clear hu
          go_wp2
          go_roundw
          case rel => exact ⟨2, by omega, by go_num, rfl, hb.out, hp.out, hs.out⟩
          case measure => simp [intOf]
      · have hq := cell_of_blk (i := 2) (v := .bool t) hs rfl
        have hu := pinU_length n i t r 2
        cases t
        · skip
          replace hp := Lib.hid hp
          replace hs := Lib.hid hs
          clear hu
          go_wp2
          go_roundw
          case rel => exact ⟨3, by omega, by go_num, congrArg Value.string (congrArg (fun l : List UInt8 => ByteArray.mk l.toArray) (pinU_no_t_2 n i r)), hb.out, hp.out, hs.out⟩
          case measure => simp [intOf]
        · have ha : ∀ w, (Op.stringOp .add ⟨(pinU n i true r 2).toArray⟩ ((ByteArray.mk #[110, 105, 119, 114]).extract 2 3)).run Tryd.prog w = .ok (.string ⟨(pinU n i true r 3).toArray⟩) w := fun w => by
              have e : (ByteArray.mk #[110, 105, 119, 114]).extract 2 3 = ⟨#[119]⟩ := by decide
              rw [e]
              exact (add_run (pinU n i true r 2) [119] (by simp; omega) w).trans (by rw [← pinU_t_2])
          replace hp := Lib.hid hp
          replace hs := Lib.hid hs
          clear hu
          go_wp2
          go_roundw
          case rel => exact ⟨3, by omega, by go_num, rfl, hb.out, hp.out, hs.out⟩
          case measure => simp [intOf]
      · have hq := cell_of_blk (i := 3) (v := .bool r) hs rfl
        have hu := pinU_length n i t r 3
        cases r
        · skip
          replace hp := Lib.hid hp
          replace hs := Lib.hid hs
          clear hu
          go_wp2
          go_roundw
          case rel => exact ⟨4, by omega, by go_num, congrArg Value.string (congrArg (fun l : List UInt8 => ByteArray.mk l.toArray) (pinU_no_r_3 n i t)), hb.out, hp.out, hs.out⟩
          case measure => simp [intOf]
        · have ha : ∀ w, (Op.stringOp .add ⟨(pinU n i t true 3).toArray⟩ ((ByteArray.mk #[110, 105, 119, 114]).extract 3 4)).run Tryd.prog w = .ok (.string ⟨(pinU n i t true 4).toArray⟩) w := fun w => by
              have e : (ByteArray.mk #[110, 105, 119, 114]).extract 3 4 = ⟨#[114]⟩ := by decide
              rw [e]
              exact (add_run (pinU n i t true 3) [114] (by simp; omega) w).trans (by rw [← pinU_r_3])
          replace hp := Lib.hid hp
          replace hs := Lib.hid hs
          clear hu
          go_wp2
          go_roundw
          case rel => exact ⟨4, by omega, by go_num, rfl, hb.out, hp.out, hs.out⟩
          case measure => simp [intOf]
    · obtain rfl : k = 4 := by omega
      rw [pinU_all]
      have hc := cell_of_blk (i := 4) (v := .int .i64 p) hp rfl
      have h5 := i64_255 p
      clear hs
      replace hb := Lib.hid hb
      replace hp := Lib.hid hp
      obtain ⟨y, ey⟩ : ∃ y, y = hexl p 2 := ⟨_, rfl⟩
      have jy : y.length = 2 := by rw [ey, hexl_length]
      have hx := hb0.out
      simp only [← ey] at hx
      replace hx := Lib.hid hx
      obtain ⟨s4, HPin⟩ : ∃ s, pin0 n i t r = s := ⟨_, rfl⟩
      have j4 := pin0_length n i t r
      rw [HPin] at j4 ⊢
      have hL : pinL n i t r = if s4 = [] then [45] else s4 := by unfold pinL; rw [HPin]
      have hT : pinT n i t r p = pinL n i t r ++ (if p % 256 = 0 then [] else 32 :: y) := by unfold pinT; rw [ey]
      clear ey HPin
      cases hE : s4.isEmpty
      · by_cases hz : p % 256 = 0
        · have hs : ¬ s4 = [] := fun h => by rw [h] at hE; cases hE
          rw [if_neg hs] at hL
          clear hs
          rw [if_pos hz, hL, List.append_nil] at hT
          replace hT := Lib.hid hT
          replace hL := Lib.hid hL
          clear jy j4
          rw [hz] at h5
          go_wp2
          go_ret
          exact ⟨by rw [hT.out]; rfl, hb.out⟩
        · have hs : ¬ s4 = [] := fun h => by rw [h] at hE; cases hE
          rw [if_neg hs] at hL
          clear hs
          rw [if_neg hz, hL] at hT
          have b1 : ∀ w, (Op.stringOp .add ⟨s4.toArray⟩ ⟨#[32]⟩).run Tryd.prog w = .ok (.string ⟨(s4 ++ [32] : List UInt8).toArray⟩) w := fun w => add_run s4 [32] (by first | omega | (simp; done) | (simp; omega)) w
          obtain ⟨z, ez⟩ : ∃ z : List UInt8, z = s4 ++ [32] := ⟨_, rfl⟩
          rw [← ez] at b1
          have jz : z.length ≤ 5 := by rw [ez]; simp; try omega
          have b2 : ∀ w, (Op.stringOp .add ⟨z.toArray⟩ ⟨y.toArray⟩).run Tryd.prog w = .ok (.string ⟨(z ++ y).toArray⟩) w := fun w => add_run z y (by omega) w
          have e2 : z ++ y = pinT n i t r p := by rw [hT, ez]; simp
          rw [e2] at b2
          obtain ⟨u, hu⟩ : ∃ u, pinT n i t r p = u := ⟨_, rfl⟩
          rw [hu] at b2
          replace hu := Lib.hid hu
          replace hT := Lib.hid hT
          clear jy j4 jz e2 ez hT hL
          go_wp2_with (first | (go_at_call 28; (with_reducible refine (hx.out _).mono ?_); rintro e w1 ⟨rfl, hb1⟩))
          go_ret
          exact ⟨by rw [hu.out]; rfl, hb.out.trans (hb1.mono hb.out.size)⟩
      · by_cases hz : p % 256 = 0
        · have hs : s4 = [] := List.isEmpty_iff.1 hE
          rw [if_pos hs] at hL
          clear hs
          rw [if_pos hz, hL, List.append_nil] at hT
          replace hT := Lib.hid hT
          replace hL := Lib.hid hL
          clear jy j4
          rw [hz] at h5
          go_wp2
          go_ret
          exact ⟨by rw [hT.out]; rfl, hb.out⟩
        · have hs : s4 = [] := List.isEmpty_iff.1 hE
          rw [if_pos hs] at hL
          clear hs
          rw [if_neg hz, hL] at hT
          have b1 : ∀ w, (Op.stringOp .add ⟨#[45]⟩ ⟨#[32]⟩).run Tryd.prog w = .ok (.string ⟨([45] ++ [32] : List UInt8).toArray⟩) w := fun w => add_run [45] [32] (by first | omega | (simp; done) | (simp; omega)) w
          obtain ⟨z, ez⟩ : ∃ z : List UInt8, z = [45] ++ [32] := ⟨_, rfl⟩
          rw [← ez] at b1
          have jz : z.length ≤ 5 := by rw [ez]; simp; try omega
          have b2 : ∀ w, (Op.stringOp .add ⟨z.toArray⟩ ⟨y.toArray⟩).run Tryd.prog w = .ok (.string ⟨(z ++ y).toArray⟩) w := fun w => add_run z y (by omega) w
          have e2 : z ++ y = pinT n i t r p := by rw [hT, ez]; simp
          rw [e2] at b2
          obtain ⟨u, hu⟩ : ∃ u, pinT n i t r p = u := ⟨_, rfl⟩
          rw [hu] at b2
          replace hu := Lib.hid hu
          replace hT := Lib.hid hT
          clear jy j4 jz e2 ez hT hL
          go_wp2_with (first | (go_at_call 28; (with_reducible refine (hx.out _).mono ?_); rintro e w1 ⟨rfl, hb1⟩))
          go_ret
          exact ⟨by rw [hu.out]; rfl, hb.out.trans (hb1.mono hb.out.size)⟩
end Go.Proofs.YtboeaeoefoabdaaDoor
