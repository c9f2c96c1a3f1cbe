/-
  spec.ReadPins (chapter 12).
  Conditions: as each says.
-/
import Derived.Test.YtboeaeoefoabdaaDoorPnF
import Derived.Test.YtboeaeoefoabdaaDoorWsD
import Derived.Test.YtboeaeoefoabdaaDoorRhS
import Derived.Deep.RegionHeld3
namespace Go.Proofs.YtboeaeoefoabdaaDoor
open Go.RowKit Go.Deep Go.WideShapes Go.ChangeShapes
theorem spec_has (s : ByteArray) (hs : s.size ≤ 1048576) (c : UInt8) (w : World) : Calls Tryd.prog 26 #[.string s, .int .u8 (c.toNat : Int)] w fun e w' => e = .returned (.bool (hasB c s.data.toList)) ∧ w = w' := by
  have hlen : s.data.toList.length = s.size := by simp
  have H := Lib.hid hlen
  clear hlen
  go_enter Tryd.func26, Tryd.ntmps26
  go_wp2
  go_loop [5] (fun v5 => ∃ k : Nat, k ≤ s.size ∧ v5 = .int .i64 k ∧ Hid (hasB c (s.data.toList.take k) = false)) (fun v5 => s.size - (RowKit.intOf v5).toNat)
  case atStart => exact ⟨0, by omega, rfl, Lib.hid rfl⟩
  case round =>
    obtain ⟨k, hk, rfl, hd⟩ := hrel
    by_cases hlt : k < s.size
    · have e := take_snoc s k hlt
      by_cases hc : s[k] = c
      · have hY : Hid (hasB c s.data.toList = true) := Lib.hid (by unfold hasB; rw [List.any_eq_true]; exact ⟨s[k], mem_byte s k hlt, by simp [hc]⟩)
        subst hc
        clear hd e
        go_wp2
        go_ret
        exact ⟨by rw [hY.out]; rfl, rfl⟩
      · have hn : Hid (hasB c (s.data.toList.take (k + 1)) = false) := Lib.hid (by
          have h2 := hd.out
          unfold hasB at h2 ⊢
          rw [e, List.any_append, h2]; simp [hc])
        have hne : ¬ ((s[k].toNat : Int) = (c.toNat : Int)) := fun h => hc (UInt8.toNat_inj.mp (by omega))
        have hne2 : ((s[k].toNat : Int) == (c.toNat : Int)) = false := by simpa using hne
        clear hd e hc
        go_wp2
        go_round
        case rel => exact ⟨k + 1, by omega, by go_num, hn⟩
        case measure => simp [RowKit.intOf]; omega
    · obtain rfl : k = s.size := by omega
      have hN : Hid (hasB c s.data.toList = false) := Lib.hid (by have h2 := hd.out; rwa [List.take_of_length_le (by rw [H.out]; omega)] at h2)
      clear hd
      go_wp2
      go_ret
      exact ⟨by rw [hN.out]; rfl, rfl⟩
set_option maxRecDepth 100000 in
set_option maxHeartbeats 4000000 in
theorem spec_readPins (s : ByteArray) (hs : s.size ≤ 1048576) (w : World) :
    Calls Tryd.prog 10 #[.string s] w (RpPost s.data.toList w) := by
  have HW := Lib.hid (fun w => spec_wordsG s hs w)
  have hsd : s = ⟨s.data.toList.toArray⟩ := rfl
  have hl : s.data.toList.length ≤ 1048576 := by simpa using hs
  generalize s.data.toList = l at *
  subst hsd
  clear hs
  go_enter Tryd.func10, Tryd.ntmps10
  go_wp2_with (go_at_call 25; (with_reducible refine (HW.out _).mono ?_); rintro e w1 ⟨A, k, cap, rfl, hg, hz, hc, hb1⟩; refine Hid.out ?_)
  have K1 := Lib.hid (blk_below (blk_new w (.cells #[.bool false, .bool false, .bool false, .bool false, .int .i64 0] 25)) hb1)
  have B1 := Lib.hid (below_then (below_alloc (Below.refl w.heap.size w) _) hb1)
  clear hb1 HW
  by_cases hk : k = 0
  · subst hk
    have hok := Lib.hid (rp_spec_none hz)
    clear hg hz hc hl
    refine Lib.hid ?_
    go_wp2_with (first
      | (with_reducible refine store_row rfl 25 (.tmp 2) (.tmp 11) rfl w.heap.size _ rfl rfl 5 pins_size K1.out rfl rfl rfl ?_))
    exact row_tmp_post rfl rfl rfl Tryd.underlying25 rfl pins_size rfl (setRow_heap _ _ _ _ _ _ K1.out) rfl (rp_post hok.out (below_row B1.out (Nat.le_refl _)))
  obtain ⟨g, rfl, hcc⟩ := hc (by omega)
  have c0 := hcc 0 (by omega)
  have e0 : behind l 0 = l := rfl
  rw [e0] at c0
  have hkn : 0 < k := by omega
  have hk0 : (0 : Int) < (k : Int) := by omega
  have hk2 : ¬ (k : Int) = 0 := by omega
  have no := Lib.hid (fun (P : Int) hP h => @rp_spec_no l k hg hz P hP h)
  have yes := Lib.hid (fun (n i t r : Bool) (P : Int) h0 h1 h => @rp_spec_yes l n i t r P h0 h1 h)
  have HC1 := Lib.hid (hcc 1)
  have gl := Lib.hid (World.block_lt_of_cell? _ _ c0)
  have hwl : (wordL l).length ≤ l.length := by have a := word_rest l; have b := trimL_le l; omega
  generalize wordL l = L at *
  have hLs : (⟨L.toArray⟩ : ByteArray).size ≤ 1048576 := by rw [bsize]; omega
  have HA : ∀ w, Calls Tryd.prog 26 #[.string ⟨L.toArray⟩, .int .u8 110] w fun e w' => e = .returned (.bool (hasB 110 L)) ∧ w = w' := fun w => spec_has ⟨L.toArray⟩ hLs 110 w
  have HB : ∀ w, Calls Tryd.prog 26 #[.string ⟨L.toArray⟩, .int .u8 105] w fun e w' => e = .returned (.bool (hasB 105 L)) ∧ w = w' := fun w => spec_has ⟨L.toArray⟩ hLs 105 w
  have HC : ∀ w, Calls Tryd.prog 26 #[.string ⟨L.toArray⟩, .int .u8 119] w fun e w' => e = .returned (.bool (hasB 119 L)) ∧ w = w' := fun w => spec_has ⟨L.toArray⟩ hLs 119 w
  have HD : ∀ w, Calls Tryd.prog 26 #[.string ⟨L.toArray⟩, .int .u8 114] w fun e w' => e = .returned (.bool (hasB 114 L)) ∧ w = w' := fun w => spec_has ⟨L.toArray⟩ hLs 114 w
  generalize hasB 110 L = n at *
  generalize hasB 105 L = i at *
  generalize hasB 119 L = t at *
  generalize hasB 114 L = r at *
  replace HA := Lib.hid HA
  replace HB := Lib.hid HB
  replace HC := Lib.hid HC
  replace HD := Lib.hid HD
  clear hg hz e0 hwl hLs
  have hl2 := Lib.hid hl
  have hkk := Lib.hid hk
  clear hl hk hc hcc
  refine Lib.hid ?_
  go_wp2
  go_region_held3 (fun w' => w'.cell? ⟨g, 0, none⟩ = some (.string ⟨L.toArray⟩)) (first | exact c0 | go_keep) (first
    | (go_at_call 26; (with_reducible refine (HA.out _).mono ?_); rintro e w2 ⟨rfl, rfl⟩)
    | (go_at_call 26; (with_reducible refine (HB.out _).mono ?_); rintro e w2 ⟨rfl, rfl⟩)
    | (go_at_call 26; (with_reducible refine (HC.out _).mono ?_); rintro e w2 ⟨rfl, rfl⟩)
    | (go_at_call 26; (with_reducible refine (HD.out _).mono ?_); rintro e w2 ⟨rfl, rfl⟩))
  all_goals
    have KP0 := Lib.hid (row_drew (blk_new w1 (.cells #[.bool n, .bool i, .bool t, .bool r, .int .i64 0] 25 )))
    have K0 := Lib.hid (row_drew (blk_old (o := .cells #[.bool n, .bool i, .bool t, .bool r, .int .i64 0] 25 ) K1.out))
    have B0 := Lib.hid (drew_below (below_alloc B1.out (.cells #[.bool n, .bool i, .bool t, .bool r, .int .i64 0] 25 )))
    have HC0 : Hid (∀ h : 1 < k, ((w1.alloc (.cells #[.bool n, .bool i, .bool t, .bool r, .int .i64 0] 25 )).drew).cell? ⟨g, 1, none⟩ = some (.string ⟨(wordL (behind l 1)).toArray⟩)) := Lib.hid (fun h => ((drew_below (below_alloc (Below.refl w1.heap.size w1) (.cells #[.bool n, .bool i, .bool t, .bool r, .int .i64 0] 25 ))).cell (p := ⟨g, 1, none⟩) gl.out).trans (HC1.out h))
    have LE : Hid (w.heap.size ≤ w1.heap.size) := Lib.hid B1.out.size
    have NE : Hid (w.heap.size ≠ w1.heap.size) := Lib.hid (fun e => by have := (Array.getElem?_eq_some_iff.1 K1.out).1; omega)
    clear K1 B1 HC1 gl c0 HA HB HC HD
    generalize (w1.alloc (.cells #[.bool n, .bool i, .bool t, .bool r, .int .i64 0] 25 )).drew = w3 at *
    by_cases h1 : 1 < k
    · have c1 := HC0.out h1
      have h1i : (1 : Int) < (k : Int) := by omega
      have hw1 : (wordL (behind l 1)).length ≤ 1048576 := by
        have a := word_rest (behind l 1); have b := trimL_le (behind l 1); have c := behind_le l 1; have d := hl2.out; omega
      have HR := fun w => spec_rh ⟨(wordL (behind l 1)).toArray⟩ (by unfold maxLen; rw [bsize]; omega) w
      rw [show (⟨(wordL (behind l 1)).toArray⟩ : ByteArray).data.toList = wordL (behind l 1) by simp] at HR
      have hq := i64_255 (rh (wordL (behind l 1)))
      have no1 := Lib.hid (fun h => no.out (rh (wordL (behind l 1)) % 256) (by rw [if_pos h1]) h)
      have yes1 := Lib.hid (fun h => yes.out n i t r (rh (wordL (behind l 1)) % 256) (by omega) (by omega) h)
      generalize rh (wordL (behind l 1)) = q at *
      generalize wordL (behind l 1) = L1 at *
      replace HR := Lib.hid HR
      have q4 := cell_of_blk (i := 4) (v := .int .i64 0) KP0.out rfl
      have f4 : w3.frozen? ⟨w1.heap.size, 4, none⟩ = false := free_of_blk KP0.out
      clear no yes hw1 HC0
      go_upto_region 7 with (go_at_call 27; (with_reducible refine (HR.out _).mono ?_); rintro e w4 ⟨rfl, rfl⟩)
      obtain ⟨p, hp⟩ : ∃ p, q % 256 = p := ⟨_, rfl⟩
      rw [hp] at yes1 no1 ⊢
      have yes := yes1.out
      have no := no1.out
      have KP : Hid ((w3.setCell ⟨w1.heap.size, 4, none⟩ (.int .i64 p)).heap[w1.heap.size]? = some (.cells #[.bool n, .bool i, .bool t, .bool r, .int .i64 p] 25 (0, 0))) := Lib.hid ((row_set (i := 4) (v := .int .i64 p) KP0.out).trans (by simp))
      have K4 := Lib.hid (row_far (i := 4) (v := .int .i64 p) K0.out NE.out)
      have B4 := Lib.hid (below_put (i := 4) (v := .int .i64 p) B0.out (LE.out))
      clear hp hq yes1 no1 q4 f4 KP0 K0 B0 c1 HR h1 h1i NE hkn hk0 hk2
      generalize w3.setCell ⟨w1.heap.size, 4, none⟩ (.int .i64 p) = w4 at *
      have hs := fun w => spec_pinsText n i t r p w
      unfold pinsV at hs
      by_cases hT : pinT n i t r p = l
      · have hok := Lib.hid (yes hT)
        rw [hT] at hs
        replace hs := Lib.hid hs
        clear yes no hT
        go_wp2_with (first
          | (with_reducible refine load_row rfl 25 (.tmp 5) rfl w1.heap.size rfl 5 _ Tryd.underlying25 rfl pins_size KP.out rfl ?_)
          | (go_at_call 11; (with_reducible refine (hs.out _).mono ?_); rintro e w5 ⟨rfl, hb5⟩; refine Hid.out ?_))
        have KP5 := Lib.hid (blk_below KP.out hb5)
        have K5 := Lib.hid (blk_below K4.out hb5)
        have B5 := Lib.hid (below_then B4.out hb5)
        clear hb5 KP K4 B4 hs
        refine Lib.hid ?_
        go_wp2_with (first
          | (with_reducible refine load_row rfl 25 (.tmp 5) rfl w1.heap.size rfl 5 _ Tryd.underlying25 rfl pins_size KP5.out rfl ?_)
          | (with_reducible refine store_row rfl 25 (.tmp 2) (.tmp 43) rfl w.heap.size _ rfl rfl 5 pins_size K5.out rfl rfl rfl ?_))
        exact row_tmp_post rfl rfl rfl Tryd.underlying25 rfl pins_size rfl (setRow_heap _ _ _ _ _ _ K5.out) rfl (rp_post hok.out (below_row B5.out (Nat.le_refl _)))
      · have hok := Lib.hid (no hT)
        have hne := ne_list (x := ⟨(pinT n i t r p).toArray⟩) l (fun h => hT (by simpa using congrArg (fun b : ByteArray => b.data.toList) h))
        generalize (⟨(pinT n i t r p).toArray⟩ : ByteArray) = T at *
        replace hs := Lib.hid hs
        clear yes no hT
        go_wp2_with (first
          | (with_reducible refine load_row rfl 25 (.tmp 5) rfl w1.heap.size rfl 5 _ Tryd.underlying25 rfl pins_size KP.out rfl ?_)
          | (go_at_call 11; (with_reducible refine (hs.out _).mono ?_); rintro e w5 ⟨rfl, hb5⟩; refine Hid.out ?_))
        have K5 := Lib.hid (blk_below K4.out hb5)
        have B5 := Lib.hid (below_then B4.out hb5)
        clear hb5 KP K4 B4 hs
        refine Lib.hid ?_
        go_wp2_with (first
          | (with_reducible refine store_row rfl 25 (.tmp 2) (.tmp 42) rfl w.heap.size _ rfl rfl 5 pins_size K5.out rfl rfl rfl ?_))
        exact row_tmp_post rfl rfl rfl Tryd.underlying25 rfl pins_size rfl (setRow_heap _ _ _ _ _ _ K5.out) rfl (rp_post hok.out (below_row B5.out (Nat.le_refl _)))
    · have h1i : ¬ (1 : Int) < (k : Int) := by omega
      have no1 := Lib.hid (fun h => no.out 0 (by rw [if_neg h1]) h)
      have yes1 := Lib.hid (fun h => yes.out n i t r 0 (by omega) (by omega) h)
      clear no yes HC0
      go_upto_region 7 with fail
      obtain ⟨p, hp⟩ : ∃ p : Int, 0 = p := ⟨_, rfl⟩
      rw [hp] at yes1
      have yes := yes1.out
      have no : ¬ pinT n i t r p = l → RpOk l false false false false 0 false := by rw [← hp]; exact no1.out
      have KP := KP0
      rw [hp] at KP
      have K4 := K0
      have B4 := B0
      clear yes1 no1 KP0 K0 B0 h1 h1i NE hkn hk0 hk2 hp
      have hs := fun w => spec_pinsText n i t r p w
      unfold pinsV at hs
      by_cases hT : pinT n i t r p = l
      · have hok := Lib.hid (yes hT)
        rw [hT] at hs
        replace hs := Lib.hid hs
        clear yes no hT
        go_wp2_with (first
          | (with_reducible refine load_row rfl 25 (.tmp 5) rfl w1.heap.size rfl 5 _ Tryd.underlying25 rfl pins_size KP.out rfl ?_)
          | (go_at_call 11; (with_reducible refine (hs.out _).mono ?_); rintro e w5 ⟨rfl, hb5⟩; refine Hid.out ?_))
        have KP5 := Lib.hid (blk_below KP.out hb5)
        have K5 := Lib.hid (blk_below K4.out hb5)
        have B5 := Lib.hid (below_then B4.out hb5)
        clear hb5 KP K4 B4 hs
        refine Lib.hid ?_
        go_wp2_with (first
          | (with_reducible refine load_row rfl 25 (.tmp 5) rfl w1.heap.size rfl 5 _ Tryd.underlying25 rfl pins_size KP5.out rfl ?_)
          | (with_reducible refine store_row rfl 25 (.tmp 2) (.tmp 43) rfl w.heap.size _ rfl rfl 5 pins_size K5.out rfl rfl rfl ?_))
        exact row_tmp_post rfl rfl rfl Tryd.underlying25 rfl pins_size rfl (setRow_heap _ _ _ _ _ _ K5.out) rfl (rp_post hok.out (below_row B5.out (Nat.le_refl _)))
      · have hok := Lib.hid (no hT)
        have hne := ne_list (x := ⟨(pinT n i t r p).toArray⟩) l (fun h => hT (by simpa using congrArg (fun b : ByteArray => b.data.toList) h))
        generalize (⟨(pinT n i t r p).toArray⟩ : ByteArray) = T at *
        replace hs := Lib.hid hs
        clear yes no hT
        go_wp2_with (first
          | (with_reducible refine load_row rfl 25 (.tmp 5) rfl w1.heap.size rfl 5 _ Tryd.underlying25 rfl pins_size KP.out rfl ?_)
          | (go_at_call 11; (with_reducible refine (hs.out _).mono ?_); rintro e w5 ⟨rfl, hb5⟩; refine Hid.out ?_))
        have K5 := Lib.hid (blk_below K4.out hb5)
        have B5 := Lib.hid (below_then B4.out hb5)
        clear hb5 KP K4 B4 hs
        refine Lib.hid ?_
        go_wp2_with (first
          | (with_reducible refine store_row rfl 25 (.tmp 2) (.tmp 42) rfl w.heap.size _ rfl rfl 5 pins_size K5.out rfl rfl rfl ?_))
        exact row_tmp_post rfl rfl rfl Tryd.underlying25 rfl pins_size rfl (setRow_heap _ _ _ _ _ _ K5.out) rfl (rp_post hok.out (below_row B5.out (Nat.le_refl _)))
end Go.Proofs.YtboeaeoefoabdaaDoor
