/-
  Texts put together by program: TbB, TbD, TbI.
  Conditions: as each theorem says.
-/
import Derived.KernelRfl
import Derived.Test.YtboeaeoefoabdaaGreatDoorAmad
import Derived.Test.YtboeaeoefoabdaaGreatDoorAmae
namespace Go.Proofs.YtboeaeoefoabdaaGreatDoor
open Go.RowKit
set_option maxRecDepth 100000 in
theorem table_says (w : World) :
  Calls Tryz.prog 66 #[] w fun e w' => e = .returned (.string tabS) ∧ w = w' := by
 go_enter Tryz.func66, Tryz.ntmps66
 go_wp2
 go_ret
 exact ⟨by kernel_rfl, rfl⟩
theorem bytes_eq (a b : ByteArray) : a.toList = b.toList ↔ a = b := by
 constructor
 ·intro h
  rw [ByteArray.toList_eq, ByteArray.toList_eq] at h
  exact ByteArray.ext (Array.toList_inj.mp h)
 ·rintro rfl; rfl
theorem tab_cuts (T : ByteArray) (hs : T.size = 1661) (i : Nat) (hi : i + 11 ≤ 1661) (a b c : ByteArray) (ha : T.extract i (i + 2) = a) (hb : T.extract (i + 3) (i + 6) = b) (hc : T.extract (i + 7) (i + 10) = c) :
  (∀ W, (Instr.slice 9 (.string T) (some (.int .i64 (i : Int))) (some (.int .i64 ((i : Int) + 2))) none).run Tryz.prog W = .ok (.string a) W) ∧
  (∀ W, (Instr.slice 9 (.string T) (some (.int .i64 ((i : Int) + 3))) (some (.int .i64 ((i : Int) + 6))) none).run Tryz.prog W = .ok (.string b) W) ∧
  (∀ W, (Instr.slice 9 (.string T) (some (.int .i64 ((i : Int) + 7))) (some (.int .i64 ((i : Int) + 10))) none).run Tryz.prog W = .ok (.string c) W) := by
 have key : ∀ (x y : Nat) (d : ByteArray) (_ : x ≤ y) (_ : y ≤ 1661) (xi yi : Int) (_ : xi = x) (_ : yi = y) (_ : T.extract x y = d) (W : World),
   (Instr.slice 9 (.string T) (some (.int .i64 xi)) (some (.int .i64 yi)) none).run Tryz.prog W = .ok (.string d) W := by
  rintro x y d h1 h2 _ _ rfl rfl rfl W
  have := run_slice_string (P := Tryz.prog) W 9 T .i64 .i64 (x : Int) (y : Int) Tryz.underlying9 (by omega) (by omega) (by omega)
  rw [Int.toNat_natCast, Int.toNat_natCast] at this
  exact this
 exact ⟨key i (i + 2) a (by omega) (by omega) _ _ rfl (by omega) ha, key (i + 3) (i + 6) b (by omega) (by omega) _ _ (by omega) (by omega) hb, key (i + 7) (i + 10) c (by omega) (by omega) _ _ (by omega) (by omega) hc⟩
set_option maxRecDepth 100000 in
set_option maxHeartbeats 400000 in
theorem spec_opOf (n : Int) (w : World) :
  Calls Tryz.prog 24 #[.int .i64 n] w fun e w' => e = .returned (.agg #[.string (opOf n).1, .string (opOf n).2]) ∧ Below w.heap.size w w' := by
 have hs := tabS_size
 have ht := Lib.hid table_says
 have hh := Lib.hid (spec_hex n 2 (by omega) (by omega))
 have hx := Lib.hid tab_row
 have hl := Lib.hid rows_length
 have hc := Lib.hid (tab_cuts tabS hs)
 generalize tabS = T at *
 obtain ⟨want, hw⟩ : ∃ want : ByteArray, want = ⟨(hexl n 2).toArray⟩ := ⟨_, rfl⟩
 rw [← hw] at hh
 have HW := Lib.hid hw
 clear hw
 go_enter Tryz.func24, Tryz.ntmps24
 go_wp2_with (first
  | (go_at_call 66; refine (ht.out _).mono ?_; rintro e w' ⟨rfl, rfl⟩)
  | (go_at_call 45; refine (hh.out _).mono ?_; rintro e w' ⟨rfl, hb⟩))
 have HB := Lib.hid hb
 clear hb
 go_loopw [5] (fun v5 wr => ∃ i k : Nat, k ≤ 151 ∧ i = 11 * k ∧ v5 = .int .i64 (i : Int) ∧ Hid (∀ j (hj : j < opRows.length), j < k → (opRows[j].1 : Int) ≠ n % 256) ∧ wr = w') (fun v5 _ => 1661 - (intOf v5).toNat)
 case atStart => exact ⟨0, 0, by omega, rfl, rfl, Lib.hid (fun j _ hj => absurd hj (Nat.not_lt_zero _)), rfl⟩
 case round =>
  obtain ⟨i, k, hk, hik, rfl, hp, rfl⟩ := hrel
  by_cases hlt : k < 151
  ·have hkl : k < opRows.length := by rw [hl.out]; exact hlt
   obtain ⟨x1, x2, x3⟩ := hx.out k hkl
   rw [← hik] at x1 x2 x3
   obtain ⟨c1, c2, c3⟩ := hc.out i (by omega) _ _ _ x1 x2 x3
   have HI := Lib.hid hik
   have h0 : (0 : Int) ≤ (i : Int) := by omega
   have h1 : (i : Int) < (1661 : Int) := by omega
   have hr := hexl2_eq n opRows[k].1 (rows_ok _ (List.getElem_mem hkl)).1
   rw [← HW.out] at hr
   have hhit := opOf_hit n k hkl
   have hp2 : ∀ j (hj : j < k), (opRows[j].1 : Int) ≠ n % 256 := fun j hj => hp.out j (by omega) hj
   have hd : nmR opRows[k] = ⟨opRows[k].2.1.toArray⟩ ∧ mdR opRows[k] = ⟨opRows[k].2.2.toArray⟩ := ⟨rfl, rfl⟩
   rw [← hd.1] at c2
   rw [← hd.2] at c3
   generalize (⟨(hexl (opRows[k].1 : Int) 2).toArray⟩ : ByteArray) = R at *
   by_cases he : (opRows[k].1 : Int) = n % 256
   ·have hH := Lib.hid (hhit he hp2)
    obtain rfl := hr.2 he
    clear hr hhit hp2 hd he x1 x2 x3 hik hp
    obtain ⟨k0, k1, f0, f1, hb⟩ := two_new HB.out
    go_wp2
    go_region
    all_goals go_wp2
    all_goals exact bodyPost_ret (v := .agg #[.string (nmR opRows[k]), .string (mdR opRows[k])]) (by simp [results, Tryz.results24, go_sem, k0, k1]) rfl ⟨by rw [hH.out], ((hb.setCell (Nat.le_refl _) _).setCell (Nat.le_refl _) _).drew⟩
   ·have hne : (R.toList == want.toList) = false := by
     rw [beq_eq_false_iff_ne]
     exact fun h => he (hr.1 ((bytes_eq R want).1 h))
    have hp3 := Lib.hid (fun j (hj : j < opRows.length) (hjk : j < k + 1) => (by
     by_cases hj2 : j = k
     ·subst hj2; exact he
     ·exact hp.out j hj (by omega) : (opRows[j].1 : Int) ≠ n % 256))
    clear hr hhit hp2 hd he x1 x2 x3 hik hp
    go_wp2
    go_roundw
    case rel => exact ⟨i + 11, k + 1, by omega, by have := HI.out; omega, by go_num, hp3, trivial⟩
    case measure => simp [intOf]; omega
  ·obtain rfl : k = 151 := by omega
   have hm := Lib.hid (opOf_miss n (fun j hj => hp.out j hj (by have := hl.out; omega)))
   have h1 : ¬ (i : Int) < (1661 : Int) := by omega
   obtain ⟨k0, k1, f0, f1, hb⟩ := two_new HB.out
   clear HB
   go_wp2
   exact bodyPost_ret (v := .agg #[.string jamN, .string impM]) (by simp [results, Tryz.results24, go_sem, k0, k1]; exact ⟨rfl, rfl⟩) rfl ⟨by rw [hm.out], (hb.setCell (Nat.le_refl _) _).setCell (Nat.le_refl _) _⟩
end Go.Proofs.YtboeaeoefoabdaaGreatDoor
namespace Go.Proofs.YtboeaeoefoabdaaGreatDoor
open Go.RowKit
set_option maxRecDepth 100000 in
set_option maxHeartbeats 400000 in
theorem spec_is (x : ByteArray) (ws : List (List UInt8)) (hne : 0 < ws.length) (hok : ∀ w ∈ ws, w ≠ [] ∧ ∀ c ∈ w, bl c = false) (hs : (joinB ws).length ≤ 1048576) (hn : ws.length ≤ 1000) (w : World) :
  Calls Tryz.prog 67 #[.string x, .string ⟨(joinB ws).toArray⟩] w fun e w' => e = .returned (.bool (inB x ws)) ∧ Below w.heap.size w w' := by
 have hw := Lib.hid (spec_words_of ws hne hok hs)
 clear hne hok hs
 generalize (⟨(joinB ws).toArray⟩ : ByteArray) = J at *
 have hin := Lib.hid (inB_at x ws)
 obtain ⟨n, hlen⟩ : ∃ n, n = ws.length := ⟨_, rfl⟩
 have HL := Lib.hid hlen
 go_enter Tryz.func67, Tryz.ntmps67
 go_wp2_with (go_at_call 41; refine (hw.out _).mono ?_; rintro e w' ⟨g, cap, rfl, hc, hb⟩; refine Hid.out ?_)
 rw [← hlen]
 have HC := Lib.hid hc
 have HB := Lib.hid hb
 clear hc hb hw
 rw [← hlen] at hn
 clear hlen
 refine Lib.hid ?_
 go_wp2
 go_loopw [6] (fun v4 wr => ∃ k : Nat, k ≤ n ∧ v4 = .int .i64 (k : Int) ∧ Hid (∀ j (hj : j < ws.length), j < k → (⟨ws[j].toArray⟩ : ByteArray) ≠ x) ∧ wr = w') (fun v4 _ => n - (intOf v4).toNat)
 case atStart => exact ⟨0, by omega, rfl, Lib.hid (fun j _ hj => absurd hj (Nat.not_lt_zero _)), rfl⟩
 case round =>
  obtain ⟨k, hk, rfl, hp, rfl⟩ := hrel
  by_cases hlt : k < n
  ·have hkl : k < ws.length := by rw [← HL.out]; exact hlt
   have h0 := HC.out k hkl
   have hh := hin.out
   by_cases he : (⟨ws[k].toArray⟩ : ByteArray) = x
   ·have hH := Lib.hid (hh.1 k hkl he)
    subst he
    clear hh hp
    go_wp2
    go_ret
    exact ⟨by rw [hH.out]; rfl, HB.out⟩
   ·have hne := eq_no he
    have hp3 := Lib.hid (fun j (hj : j < ws.length) (hjk : j < k + 1) => (by
     by_cases hj2 : j = k
     ·subst hj2; exact he
     ·exact hp.out j hj (by omega) : (⟨ws[j].toArray⟩ : ByteArray) ≠ x))
    clear hh hp he
    generalize (⟨ws[k].toArray⟩ : ByteArray) = R at *
    go_wp2
    go_roundw
    case rel => exact ⟨k + 1, by omega, by go_num, hp3, trivial⟩
    case measure => simp [intOf]; omega
  ·obtain rfl : k = n := by omega
   have hH := Lib.hid (hin.out.2 (fun j hj => hp.out j hj (by rw [HL.out]; exact hj)))
   go_wp2
   go_ret
   exact ⟨by rw [hH.out]; rfl, HB.out⟩
theorem is_1 (x : ByteArray) (w : World) : Calls Tryz.prog 67 #[.string x, .string ⟨#[105, 109, 112, 32, 97, 99, 99]⟩] w fun e w' => e = .returned (.bool (inB x ws1)) ∧ Below w.heap.size w w' :=
 spec_is x ws1 (by decide) (ok_words _ (by decide)) (by decide) (by decide) w
theorem is_3 (x : ByteArray) (w : World) : Calls Tryz.prog 67 #[.string x, .string ⟨#[97, 98, 115, 32, 97, 98, 120, 32, 97, 98, 121, 32, 105, 110, 100]⟩] w fun e w' => e = .returned (.bool (inB x ws3)) ∧ Below w.heap.size w w' :=
 spec_is x ws3 (by decide) (ok_words _ (by decide)) (by decide) (by decide) w
theorem is_2 (x : ByteArray) (w : World) : Calls Tryz.prog 67 #[.string x, .string ⟨#[105, 109, 109, 32, 122, 112, 103, 32, 122, 112, 120, 32, 122, 112, 121, 32, 105, 110, 120, 32, 105, 110, 121, 32, 114, 101, 108]⟩] w fun e w' => e = .returned (.bool (inB x ws2)) ∧ Below w.heap.size w w' :=
 spec_is x ws2 (by decide) (ok_words _ (by decide)) (by decide) (by decide) w
set_option maxRecDepth 100000 in
theorem spec_modeSize (m : ByteArray) (w : World) :
  Calls Tryz.prog 25 #[.string m] w fun e w' => e = .returned (.int .i64 (modeSz m)) ∧ Below w.heap.size w w' := by
 have i1 := is_1 m
 have i3 := is_3 m
 have i2 := is_2 m
 have hd : modeSz m = if inB m ws1 then 1 else if inB m ws3 then 3 else if inB m ws2 then 2 else 0 := rfl
 cases h1 : inB m ws1
 all_goals cases h3 : inB m ws3
 all_goals cases h2 : inB m ws2
 all_goals
  rw [h1] at i1
  rw [h3] at i3
  rw [h2] at i2
  rw [h1, h3, h2] at hd
  have HD := Lib.hid hd
  clear hd
  have I1 := Lib.hid i1
  have I2 := Lib.hid i2
  have I3 := Lib.hid i3
  clear i1 i2 i3
  go_enter Tryz.func25, Tryz.ntmps25
  go_wp2_with (first
   | (go_at_call 67; (with_reducible refine (I1.out _).mono ?_); rintro e w1 ⟨rfl, hb1⟩)
   | (go_at_call 67; (with_reducible refine (I3.out _).mono ?_); rintro e w3 ⟨rfl, hb3⟩)
   | (go_at_call 67; (with_reducible refine (I2.out _).mono ?_); rintro e w2 ⟨rfl, hb2⟩))
  all_goals go_ret
  all_goals exact ⟨by rw [HD.out]; rfl, by first | exact hb1 | exact below_then hb1 hb3 | exact below_then (below_then hb1 hb3) hb2⟩
end Go.Proofs.YtboeaeoefoabdaaGreatDoor
namespace Go.Proofs.YtboeaeoefoabdaaGreatDoor
open Go.RowKit Go.Maps
theorem tab_part (m : Nat) (h : m < 256) : tabCells.extract (m * 2) (m * 2 + 2) = #[.string (rowAt m).1, .string (rowAt m).2] := by
 have hs := tabCells_size
 have h2 := tabCells_at m h
 rw [Nat.mul_comm 2 m] at h2
 apply Array.ext
 ·simp [hs]; omega
 ·intro i h1 _
  simp only [Array.size_extract, hs] at h1
  rw [Array.getElem_extract]
  match i, h1 with
  | 0, _ => exact Option.some.inj ((Array.getElem?_eq_getElem (by rw [hs]; omega)).symm.trans h2.1)
  | 1, _ => exact Option.some.inj ((Array.getElem?_eq_getElem (by rw [hs]; omega)).symm.trans h2.2)
  | i + 2, h1 => omega
theorem index_tab (m : Nat) (h : m < 256) (w : World) : (Instr.index 81 (.agg tabCells) (.int .u8 (m : Int))).run Tryz.prog w = .ok (.agg #[.string (rowAt m).1, .string (rowAt m).2]) w := by
 have hb : 0 ≤ (m : Int) ∧ (m : Int) < ((256 : Nat) : Int) := by omega
 simp [Instr.index, run_underlying tab_underlying, asIntOf, part, tab_part m h]
 omega
def TabAt (g : Nat) (w : World) : Prop := ∀ i, i < 256 → w.cell? ⟨g, i * 2, none⟩ = some (.string (rowAt i).1) ∧ w.cell? ⟨g, i * 2 + 1, none⟩ = some (.string (rowAt i).2)
theorem TabAt.below {g : Nat} {w w' : World} (h : TabAt g w) (hg : g < w.heap.size) (hb : Below w.heap.size w w') : TabAt g w' := fun i hi => ⟨(hb.cell hg).trans (h i hi).1, (hb.cell hg).trans (h i hi).2⟩
theorem store_tab {ops : Array Oper} {rest : List Oper} {o : Oper} {a : Act} {w : World} {Q : Exit → Act → World → Prop} (hgd : o.guard = none) (x y : Operand) (ho : o.op = .store 81 x y)
  (g : Nat) (hx : a.eval x = .pointer (some ⟨g, 0, none⟩)) (hy : a.eval y = .agg tabCells) (z : Array Value) (hg : w.heap[g]? = some (.cells z 81 (0, 0))) (hz : z.size = 512)
  (h : ∀ w2, TabAt g w2 → Below g w w2 → g < w2.heap.size → wpList Tryz.prog ops Q rest (a.put o.dst undef) w2) : wpList Tryz.prog ops Q (o :: rest) a w := by
 have hlt : g < w.heap.size := (Array.getElem?_eq_some_iff.1 hg).1
 refine wpList_store_row hgd 81 x y ho g tabCells hx hy 81 z hg tab_size (by rw [hz, tabCells_size]) (Array.all_eq_true_iff_forall_mem.2 tabCells_one) ?_
 refine h _ ?_ ⟨rfl, rfl, rfl, by simp, fun k hk => setRow_other _ _ _ _ (by omega)⟩ (by simpa using hlt)
 intro i hi
 have h2 := tabCells_at i hi
 rw [Nat.mul_comm 2 i] at h2
 rw [cell_setRow_same _ _ _ _ _ _ _ hg, cell_setRow_same _ _ _ _ _ _ _ hg]
 exact h2
theorem looked {B : Nat} {w : World} (h : Coded B 256 w) (a : ByteArray) (ha : a.size ≤ maxLen) : ∃ v, (Instr.lookup 85 (.map (some B)) (.string a) false).run Tryz.prog w = .ok v w ∧ w.ownsInts (B + 1) 5 .u8 v (codesAt a 256) := by
 obtain ⟨D, h1, h2, h3⟩ := h
 obtain ⟨v, zs, hrun, hat, hoi, _, _⟩ := h2.at str_law map_under (slc_zero w) (by unfold maxLen; omega) (key_str a ha)
 have h4 := h3 a ha
 rw [hat, items_row hoi] at h4
 rw [← lits_inj h4]
 exact ⟨v, hrun, hoi⟩
theorem ints_shape {w : World} {base : Nat} {e : TypeId} {v : Value} {zs : List Int} (h : w.ownsInts base e .u8 v zs) : (v = .slice none 0 0 ∧ zs = []) ∨ ∃ g cap, v = .slice (some ⟨g, 0, none⟩) zs.length cap ∧ ∀ i (hi : i < zs.length), w.cell? ⟨g, i, none⟩ = some (.int .u8 zs[i]) := by
 rcases h.1.2 with ⟨rfl, h0⟩ | ⟨g, cap, cur, rfl, _⟩
 ·exact .inl ⟨rfl, List.length_eq_zero_iff.1 h0⟩
 ·refine .inr ⟨g, cap, rfl, fun i hi => ?_⟩
  have := h.1.cellAt i (by simpa using hi)
  rw [this]
  simp [List.getElem?_eq_getElem hi]
set_option maxRecDepth 100000 in
set_option maxHeartbeats 1000000 in
theorem impl_opOf (n : Int) (w : World) :
  Calls Tryz.prog 49 #[.int .i64 n] w fun e w' => e = .returned (.agg #[.string (opOf n).1, .string (opOf n).2]) ∧ Below w.heap.size w w' := by
 have HT := Lib.hid (impl_opTable)
 obtain ⟨m, hm⟩ : ∃ m : Nat, (m : Int) = n % 256 := ⟨(n % 256).toNat, by omega⟩
 have hlt : m < 256 := by omega
 have hix := index_tab m hlt
 rw [hm] at hix
 have hop := rowAt_mod n m hm
 have hin := impl_isNone (rowAt m).1 (rowAt m).2
 clear hm hlt
 generalize rowAt m = r at *
 by_cases hr : r.1 = noB
 ·rw [if_pos hr] at hop
  rw [decide_eq_true hr] at hin
  have HIN := Lib.hid hin
  have HO := Lib.hid hop
  clear hin hop hr
  go_enter Tryz.func49, Tryz.ntmps49
  go_wp2_with (go_at_call 59; refine (HT.out _).mono ?_; rintro e w1 ⟨rfl, hb1⟩; refine Hid.out ?_)
  have K := Lib.hid (blk_below (blk_new w _) hb1)
  have B := Lib.hid (below_then ((Below.refl w.heap.size w).alloc (Nat.le_refl _) _) hb1)
  clear hb1
  refine Lib.hid ?_
  go_wp2_with (go_at_call 86; refine (HIN.out _).mono ?_; rintro e w2 ⟨rfl, hb2⟩; refine Hid.out ?_)
  have K2 := blk_below (blk_old K.out) hb2
  have O2 := blk_below (blk_new w1 _) hb2
  have B2 := Lib.hid (below_then (below_alloc B.out _) hb2)
  have k0 : w2.cell? ⟨w.heap.size, 0, none⟩ = some (.string ⟨#[]⟩) := cell_of_blk K2 rfl
  have k1 : w2.cell? ⟨w.heap.size, 1, none⟩ = some (.string ⟨#[]⟩) := cell_of_blk K2 rfl
  have f0 : w2.frozen? ⟨w.heap.size, 0, none⟩ = false := free_of_blk K2
  have f1 : w2.frozen? ⟨w.heap.size, 1, none⟩ = false := free_of_blk K2
  have o0 : w2.cell? ⟨w1.heap.size, 0, none⟩ = some (.string r.1) := cell_of_blk O2 rfl
  have o1 : w2.cell? ⟨w1.heap.size, 1, none⟩ = some (.string r.2) := cell_of_blk O2 rfl
  clear K2 O2 hb2 hix
  refine Lib.hid ?_
  go_wp2
  exact bodyPost_ret (v := .agg #[.string jamN, .string impM]) (by simp [results, Tryz.results49, go_sem, k0, k1]; exact ⟨rfl, rfl⟩) rfl ⟨by rw [HO.out], (B2.out.setCell (Nat.le_refl _) _).setCell (Nat.le_refl _) _⟩
 ·rw [if_neg hr] at hop
  rw [decide_eq_false hr] at hin
  have HIN := Lib.hid hin
  have HO := Lib.hid hop
  clear hin hop hr
  go_enter Tryz.func49, Tryz.ntmps49
  go_wp2_with (go_at_call 59; refine (HT.out _).mono ?_; rintro e w1 ⟨rfl, hb1⟩; refine Hid.out ?_)
  have K := Lib.hid (blk_below (blk_new w _) hb1)
  have B := Lib.hid (below_then ((Below.refl w.heap.size w).alloc (Nat.le_refl _) _) hb1)
  clear hb1
  refine Lib.hid ?_
  go_wp2_with (go_at_call 86; refine (HIN.out _).mono ?_; rintro e w2 ⟨rfl, hb2⟩; refine Hid.out ?_)
  have K2 := blk_below (blk_old K.out) hb2
  have O2 := blk_below (blk_new w1 _) hb2
  have B2 := Lib.hid (below_then (below_alloc B.out _) hb2)
  have k0 : w2.cell? ⟨w.heap.size, 0, none⟩ = some (.string ⟨#[]⟩) := cell_of_blk K2 rfl
  have k1 : w2.cell? ⟨w.heap.size, 1, none⟩ = some (.string ⟨#[]⟩) := cell_of_blk K2 rfl
  have f0 : w2.frozen? ⟨w.heap.size, 0, none⟩ = false := free_of_blk K2
  have f1 : w2.frozen? ⟨w.heap.size, 1, none⟩ = false := free_of_blk K2
  have o0 : w2.cell? ⟨w1.heap.size, 0, none⟩ = some (.string r.1) := cell_of_blk O2 rfl
  have o1 : w2.cell? ⟨w1.heap.size, 1, none⟩ = some (.string r.2) := cell_of_blk O2 rfl
  clear K2 O2 hb2 hix
  refine Lib.hid ?_
  go_wp2
  exact bodyPost_ret (v := .agg #[.string r.1, .string r.2]) (by simp [results, Tryz.results49, go_sem, k0, k1]) rfl ⟨by rw [HO.out], (B2.out.setCell (Nat.le_refl _) _).setCell (Nat.le_refl _) _⟩
theorem in_no {x : ByteArray} {ws : List (List UInt8)} (h : ∀ w ∈ ws, ¬ x = ⟨w.toArray⟩) : inB x ws = false := by
 unfold inB
 rw [List.any_eq_false]
 intro w hw
 have := h w hw
 simpa using fun e : (⟨w.toArray⟩ : ByteArray) = x => this e.symm
set_option maxRecDepth 100000 in
set_option maxHeartbeats 2000000 in
theorem impl_modeSize (m : ByteArray) (w : World) :
  Calls Tryz.prog 63 #[.string m] w fun e w' => e = .returned (.int .i64 (modeSz m)) ∧ Below w.heap.size w w' := by
 by_cases h_imp : m = ⟨#[105, 109, 112]⟩
 ·have HM := Lib.hid (show modeSz ⟨#[105, 109, 112]⟩ = 1 by decide)
  subst h_imp
  rw [HM.out]
  clear HM
  go_enter Tryz.func63, Tryz.ntmps63
  go_wp2
  go_ret
  exact ⟨rfl, Below.refl _ _⟩
 have n_imp := ne_list [105, 109, 112] h_imp
 by_cases h_acc : m = ⟨#[97, 99, 99]⟩
 ·have HM := Lib.hid (show modeSz ⟨#[97, 99, 99]⟩ = 1 by decide)
  subst h_acc
  rw [HM.out]
  clear HM
  go_enter Tryz.func63, Tryz.ntmps63
  go_wp2
  go_ret
  exact ⟨rfl, Below.refl _ _⟩
 have n_acc := ne_list [97, 99, 99] h_acc
 by_cases h_imm : m = ⟨#[105, 109, 109]⟩
 ·have HM := Lib.hid (show modeSz ⟨#[105, 109, 109]⟩ = 2 by decide)
  subst h_imm
  rw [HM.out]
  clear HM
  go_enter Tryz.func63, Tryz.ntmps63
  go_wp2
  go_ret
  exact ⟨rfl, Below.refl _ _⟩
 have n_imm := ne_list [105, 109, 109] h_imm
 by_cases h_zpg : m = ⟨#[122, 112, 103]⟩
 ·have HM := Lib.hid (show modeSz ⟨#[122, 112, 103]⟩ = 2 by decide)
  subst h_zpg
  rw [HM.out]
  clear HM
  go_enter Tryz.func63, Tryz.ntmps63
  go_wp2
  go_ret
  exact ⟨rfl, Below.refl _ _⟩
 have n_zpg := ne_list [122, 112, 103] h_zpg
 by_cases h_zpx : m = ⟨#[122, 112, 120]⟩
 ·have HM := Lib.hid (show modeSz ⟨#[122, 112, 120]⟩ = 2 by decide)
  subst h_zpx
  rw [HM.out]
  clear HM
  go_enter Tryz.func63, Tryz.ntmps63
  go_wp2
  go_ret
  exact ⟨rfl, Below.refl _ _⟩
 have n_zpx := ne_list [122, 112, 120] h_zpx
 by_cases h_zpy : m = ⟨#[122, 112, 121]⟩
 ·have HM := Lib.hid (show modeSz ⟨#[122, 112, 121]⟩ = 2 by decide)
  subst h_zpy
  rw [HM.out]
  clear HM
  go_enter Tryz.func63, Tryz.ntmps63
  go_wp2
  go_ret
  exact ⟨rfl, Below.refl _ _⟩
 have n_zpy := ne_list [122, 112, 121] h_zpy
 by_cases h_inx : m = ⟨#[105, 110, 120]⟩
 ·have HM := Lib.hid (show modeSz ⟨#[105, 110, 120]⟩ = 2 by decide)
  subst h_inx
  rw [HM.out]
  clear HM
  go_enter Tryz.func63, Tryz.ntmps63
  go_wp2
  go_ret
  exact ⟨rfl, Below.refl _ _⟩
 have n_inx := ne_list [105, 110, 120] h_inx
 by_cases h_iny : m = ⟨#[105, 110, 121]⟩
 ·have HM := Lib.hid (show modeSz ⟨#[105, 110, 121]⟩ = 2 by decide)
  subst h_iny
  rw [HM.out]
  clear HM
  go_enter Tryz.func63, Tryz.ntmps63
  go_wp2
  go_ret
  exact ⟨rfl, Below.refl _ _⟩
 have n_iny := ne_list [105, 110, 121] h_iny
 by_cases h_rel : m = ⟨#[114, 101, 108]⟩
 ·have HM := Lib.hid (show modeSz ⟨#[114, 101, 108]⟩ = 2 by decide)
  subst h_rel
  rw [HM.out]
  clear HM
  go_enter Tryz.func63, Tryz.ntmps63
  go_wp2
  go_ret
  exact ⟨rfl, Below.refl _ _⟩
 have n_rel := ne_list [114, 101, 108] h_rel
 by_cases h_abs : m = ⟨#[97, 98, 115]⟩
 ·have HM := Lib.hid (show modeSz ⟨#[97, 98, 115]⟩ = 3 by decide)
  subst h_abs
  rw [HM.out]
  clear HM
  go_enter Tryz.func63, Tryz.ntmps63
  go_wp2
  go_ret
  exact ⟨rfl, Below.refl _ _⟩
 have n_abs := ne_list [97, 98, 115] h_abs
 by_cases h_abx : m = ⟨#[97, 98, 120]⟩
 ·have HM := Lib.hid (show modeSz ⟨#[97, 98, 120]⟩ = 3 by decide)
  subst h_abx
  rw [HM.out]
  clear HM
  go_enter Tryz.func63, Tryz.ntmps63
  go_wp2
  go_ret
  exact ⟨rfl, Below.refl _ _⟩
 have n_abx := ne_list [97, 98, 120] h_abx
 by_cases h_aby : m = ⟨#[97, 98, 121]⟩
 ·have HM := Lib.hid (show modeSz ⟨#[97, 98, 121]⟩ = 3 by decide)
  subst h_aby
  rw [HM.out]
  clear HM
  go_enter Tryz.func63, Tryz.ntmps63
  go_wp2
  go_ret
  exact ⟨rfl, Below.refl _ _⟩
 have n_aby := ne_list [97, 98, 121] h_aby
 by_cases h_ind : m = ⟨#[105, 110, 100]⟩
 ·have HM := Lib.hid (show modeSz ⟨#[105, 110, 100]⟩ = 3 by decide)
  subst h_ind
  rw [HM.out]
  clear HM
  go_enter Tryz.func63, Tryz.ntmps63
  go_wp2
  go_ret
  exact ⟨rfl, Below.refl _ _⟩
 have n_ind := ne_list [105, 110, 100] h_ind
 have HM : modeSz m = 0 := by
  unfold modeSz
  rw [in_no (ws := ws1) (by intro w hw; simp only [ws1, List.mem_cons, List.not_mem_nil, or_false] at hw; rcases hw with rfl | rfl <;> assumption), in_no (ws := ws3) (by intro w hw; simp only [ws3, List.mem_cons, List.not_mem_nil, or_false] at hw; rcases hw with rfl | rfl | rfl | rfl <;> assumption), in_no (ws := ws2) (by intro w hw; simp only [ws2, List.mem_cons, List.not_mem_nil, or_false] at hw; rcases hw with rfl | rfl | rfl | rfl | rfl | rfl | rfl <;> assumption)]
  rfl
 rw [HM]
 clear HM
 clear h_imp h_acc h_imm h_zpg h_zpx h_zpy h_inx h_iny h_rel h_abs h_abx h_aby h_ind
 go_enter Tryz.func63, Tryz.ntmps63
 go_wp2
 go_ret
 exact ⟨rfl, Below.refl _ _⟩
end Go.Proofs.YtboeaeoefoabdaaGreatDoor
