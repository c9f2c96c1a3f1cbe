/-
  The walks of the program's four functions of chapter 4: the instruction of a byte, the byte of an instruction, how many bytes a mode has, and which kind an instruction is of.
  Conditions: texts are no longer than a machine can hold; each walk leaves old memory as it was.
-/
import Derived.Test.YtfkllcbjakhbdaaTbK
import Derived.Test.YtfkllcbjakhbdaaTbD
namespace Go.Proofs.Ytfkllcbjakhbdaa
open Go.RowKit Go.Maps
theorem tab_part (m : Nat) (h : m < 256) : tabCells.extract (m * 2) (m * 2 + 2) = #[.string (rowAt m).1, .string (rowAt m).2] := by
  have hs := tabCells_size
  have h2 := tabCells_at m h
  rw [Nat.mul_comm 2 m] at h2
  apply Array.ext
  · simp [hs]; omega
  · intro i h1 _
    simp only [Array.size_extract, hs] at h1
    rw [Array.getElem_extract]
    match i, h1 with
    | 0, _ => exact Option.some.inj ((Array.getElem?_eq_getElem (by rw [hs]; omega)).symm.trans h2.1)
    | 1, _ => exact Option.some.inj ((Array.getElem?_eq_getElem (by rw [hs]; omega)).symm.trans h2.2)
    | i + 2, h1 => omega
theorem index_tab (m : Nat) (h : m < 256) (w : World) : (Instr.index 60 (.agg tabCells) (.int .u8 (m : Int))).run Try.prog w = .ok (.agg #[.string (rowAt m).1, .string (rowAt m).2]) w := by
  have hb : 0 ≤ (m : Int) ∧ (m : Int) < ((256 : Nat) : Int) := by omega
  simp [Instr.index, run_underlying tab_underlying, asIntOf, part, tab_part m h]
  omega
/-- Block g holds the table. -/
def TabAt (g : Nat) (w : World) : Prop := ∀ i, i < 256 → w.cell? ⟨g, i * 2, none⟩ = some (.string (rowAt i).1) ∧ w.cell? ⟨g, i * 2 + 1, none⟩ = some (.string (rowAt i).2)
theorem TabAt.below {g : Nat} {w w' : World} (h : TabAt g w) (hg : g < w.heap.size) (hb : Below w.heap.size w w') : TabAt g w' := fun i hi => ⟨(hb.cell hg).trans (h i hi).1, (hb.cell hg).trans (h i hi).2⟩
theorem store_tab {ops : Array Oper} {rest : List Oper} {o : Oper} {a : Act} {w : World} {Q : Exit → Act → World → Prop} (hgd : o.guard = none) (x y : Operand) (ho : o.op = .store 60 x y)
    (g : Nat) (hx : a.eval x = .pointer (some ⟨g, 0, none⟩)) (hy : a.eval y = .agg tabCells) (z : Array Value) (hg : w.heap[g]? = some (.cells z 60 (0, 0))) (hz : z.size = 512)
    (h : ∀ w2, TabAt g w2 → Below g w w2 → g < w2.heap.size → wpList Try.prog ops Q rest (a.put o.dst undef) w2) : wpList Try.prog ops Q (o :: rest) a w := by
  have hlt : g < w.heap.size := (Array.getElem?_eq_some_iff.1 hg).1
  refine wpList_store_row hgd 60 x y ho g tabCells hx hy 60 z hg tab_size (by rw [hz, tabCells_size]) (Array.all_eq_true_iff_forall_mem.2 tabCells_one) ?_
  refine h _ ?_ ⟨rfl, rfl, rfl, by simp, fun k hk => setRow_other _ _ _ _ (by omega)⟩ (by simpa using hlt)
  intro i hi
  have h2 := tabCells_at i hi
  rw [Nat.mul_comm 2 i] at h2
  rw [cell_setRow_same _ _ _ _ _ _ _ hg, cell_setRow_same _ _ _ _ _ _ _ hg]
  exact h2
theorem looked {B : Nat} {w : World} (h : Coded B 256 w) (a : ByteArray) (ha : a.size ≤ maxLen) : ∃ v, (Instr.lookup 70 (.map (some B)) (.string a) false).run Try.prog w = .ok v w ∧ w.ownsInts (B + 1) 5 .u8 v (codesAt a 256) := by
  obtain ⟨D, h1, h2, h3⟩ := h
  obtain ⟨v, zs, hrun, hat, hoi, _, _⟩ := h2.at str_law map_under (slc_zero w) (by unfold maxLen; omega) (key_str a ha)
  have h4 := h3 a ha
  rw [hat, items_row hoi] at h4
  rw [← lits_inj h4]
  exact ⟨v, hrun, hoi⟩
theorem ints_shape {w : World} {base : Nat} {e : TypeId} {v : Value} {zs : List Int} (h : w.ownsInts base e .u8 v zs) : (v = .slice none 0 0 ∧ zs = []) ∨ ∃ g cap, v = .slice (some ⟨g, 0, none⟩) zs.length cap ∧ ∀ i (hi : i < zs.length), w.cell? ⟨g, i, none⟩ = some (.int .u8 zs[i]) := by
  rcases h.1.2 with ⟨rfl, h0⟩ | ⟨g, cap, cur, rfl, _⟩
  · exact .inl ⟨rfl, List.length_eq_zero_iff.1 h0⟩
  · refine .inr ⟨g, cap, rfl, fun i hi => ?_⟩
    have := h.1.cellAt i (by simpa using hi)
    rw [this]
    simp [List.getElem?_eq_getElem hi]
set_option maxRecDepth 100000 in
set_option maxHeartbeats 1000000 in
theorem impl_opOf (n : Int) (w : World) :
    Calls Try.prog 24 #[.int .i64 n] w fun e w' => e = .returned (.agg #[.string (opOf n).1, .string (opOf n).2]) ∧ Below w.heap.size w w' := by
  have HT := Lib.hid (impl_opTable)
  obtain ⟨m, hm⟩ : ∃ m : Nat, (m : Int) = n % 256 := ⟨(n % 256).toNat, by omega⟩
  have hlt : m < 256 := by omega
  have hix := index_tab m hlt
  rw [hm] at hix
  have hop := rowAt_mod n m hm
  have hin := impl_isNone (rowAt m).1 (rowAt m).2
  clear hm hlt
  generalize rowAt m = r at *
  by_cases hr : r.1 = noB
  · rw [if_pos hr] at hop
    rw [decide_eq_true hr] at hin
    have HIN := Lib.hid hin
    have HO := Lib.hid hop
    clear hin hop hr
    go_enter Try.func24, Try.ntmps24
    go_wp2_with (go_at_call 44; refine (HT.out _).mono ?_; rintro e w1 ⟨rfl, hb1⟩; refine Hid.out ?_)
    have K := Lib.hid (blk_below (blk_new w _) hb1)
    have B := Lib.hid (below_then ((Below.refl w.heap.size w).alloc (Nat.le_refl _) _) hb1)
    clear hb1
    refine Lib.hid ?_
    go_wp2_with (go_at_call 45; refine (HIN.out _).mono ?_; rintro e w2 ⟨rfl, hb2⟩; refine Hid.out ?_)
    have K2 := blk_below (blk_old K.out) hb2
    have O2 := blk_below (blk_new w1 _) hb2
    have B2 := Lib.hid (below_then (below_alloc B.out _) hb2)
    have k0 : w2.cell? ⟨w.heap.size, 0, none⟩ = some (.string ⟨#[]⟩) := cell_of_blk K2 rfl
    have k1 : w2.cell? ⟨w.heap.size, 1, none⟩ = some (.string ⟨#[]⟩) := cell_of_blk K2 rfl
    have f0 : w2.frozen? ⟨w.heap.size, 0, none⟩ = false := free_of_blk K2
    have f1 : w2.frozen? ⟨w.heap.size, 1, none⟩ = false := free_of_blk K2
    have o0 : w2.cell? ⟨w1.heap.size, 0, none⟩ = some (.string r.1) := cell_of_blk O2 rfl
    have o1 : w2.cell? ⟨w1.heap.size, 1, none⟩ = some (.string r.2) := cell_of_blk O2 rfl
    clear K2 O2 hb2 hix
    refine Lib.hid ?_
    go_wp2
    exact bodyPost_ret (v := .agg #[.string jamN, .string impM]) (by simp [results, Try.results24, go_sem, k0, k1]; exact ⟨rfl, rfl⟩) rfl ⟨by rw [HO.out], (B2.out.setCell (Nat.le_refl _) _).setCell (Nat.le_refl _) _⟩
  · rw [if_neg hr] at hop
    rw [decide_eq_false hr] at hin
    have HIN := Lib.hid hin
    have HO := Lib.hid hop
    clear hin hop hr
    go_enter Try.func24, Try.ntmps24
    go_wp2_with (go_at_call 44; refine (HT.out _).mono ?_; rintro e w1 ⟨rfl, hb1⟩; refine Hid.out ?_)
    have K := Lib.hid (blk_below (blk_new w _) hb1)
    have B := Lib.hid (below_then ((Below.refl w.heap.size w).alloc (Nat.le_refl _) _) hb1)
    clear hb1
    refine Lib.hid ?_
    go_wp2_with (go_at_call 45; refine (HIN.out _).mono ?_; rintro e w2 ⟨rfl, hb2⟩; refine Hid.out ?_)
    have K2 := blk_below (blk_old K.out) hb2
    have O2 := blk_below (blk_new w1 _) hb2
    have B2 := Lib.hid (below_then (below_alloc B.out _) hb2)
    have k0 : w2.cell? ⟨w.heap.size, 0, none⟩ = some (.string ⟨#[]⟩) := cell_of_blk K2 rfl
    have k1 : w2.cell? ⟨w.heap.size, 1, none⟩ = some (.string ⟨#[]⟩) := cell_of_blk K2 rfl
    have f0 : w2.frozen? ⟨w.heap.size, 0, none⟩ = false := free_of_blk K2
    have f1 : w2.frozen? ⟨w.heap.size, 1, none⟩ = false := free_of_blk K2
    have o0 : w2.cell? ⟨w1.heap.size, 0, none⟩ = some (.string r.1) := cell_of_blk O2 rfl
    have o1 : w2.cell? ⟨w1.heap.size, 1, none⟩ = some (.string r.2) := cell_of_blk O2 rfl
    clear K2 O2 hb2 hix
    refine Lib.hid ?_
    go_wp2
    exact bodyPost_ret (v := .agg #[.string r.1, .string r.2]) (by simp [results, Try.results24, go_sem, k0, k1]) rfl ⟨by rw [HO.out], (B2.out.setCell (Nat.le_refl _) _).setCell (Nat.le_refl _) _⟩
set_option maxRecDepth 100000 in
set_option maxHeartbeats 1000000 in
theorem impl_codeOf (a b : ByteArray) (ha : a.size ≤ maxLen) (w : World) :
    Calls Try.prog 40 #[.string a, .string b] w fun e w' => e = .returned (.int .i64 (codeOf a b)) ∧ Below w.heap.size w w' := by
  have HT := Lib.hid (impl_opTable)
  obtain ⟨z, hz, hzs⟩ : ∃ z : Array Value, (∀ w, (zeroValue 60).run Try.prog w = .ok (.agg z) w) ∧ z.size = 512 := ⟨_, tab_zero, by simp⟩
  have HZ := Lib.hid hzs
  clear hzs
  go_enter Try.func40, Try.ntmps40
  go_wp2_with (first
    | (go_at_call 44; refine (HT.out _).mono ?_; rintro e w1 ⟨rfl, hb1⟩)
    | (refine store_tab rfl (.tmp 5) (.tmp 8) rfl w1.heap.size rfl rfl z (heap_alloc_new w1 _) HZ.out ?_; intro w2 ht hb2 hlt2)
    | (go_at_call 54; refine (impl_codes w1.heap.size w2 hlt2 ht).mono ?_; rintro e w3 ⟨rfl, hcod, hb3⟩; refine Hid.out ?_))
  obtain ⟨v, hrun, hoi⟩ := looked hcod a ha
  have T := Lib.hid (ht.below hlt2 hb3)
  have hBe : Below w.heap.size w w3 := ((below_alloc hb1 _).trans (hb2.mono hb1.size)).trans (hb3.mono (Nat.le_trans hb1.size (Nat.le_of_lt hlt2)))
  have B := Lib.hid hBe
  have HM := Lib.hid (fun z => codesAt_mem a 256 z)
  have HH := Lib.hid (fun i => code_hit a b i)
  have HN := Lib.hid (code_none a b)
  have hlen := codesAt_length a 256
  clear hcod hb1 hb2 hb3 ht hBe hz
  generalize codesAt a 256 = zs at *
  rcases ints_shape hoi with ⟨rfl, rfl⟩ | ⟨g, cap, rfl, hcell⟩
  · have HX := Lib.hid (HN.out (by simp))
    clear hoi
    refine Lib.hid ?_
    go_wp2
    go_loopw [13] (fun v13 wr => v13 = .int .i64 0 ∧ wr = w3) (fun _ _ => 0)
    case atStart => exact ⟨rfl, rfl⟩
    case round =>
      obtain ⟨rfl, rfl⟩ := hrel
      go_wp2
      go_ret
      exact ⟨by rw [HX.out]; rfl, B.out⟩
  · have HC := Lib.hid hcell
    clear hoi hcell
    obtain ⟨n, hn⟩ : ∃ n, n = zs.length := ⟨_, rfl⟩
    rw [← hn] at hrun hlen
    have HL := Lib.hid hn
    clear hn
    refine Lib.hid ?_
    go_wp2
    go_loopw [13] (fun v13 wr => ∃ k : Nat, k ≤ n ∧ v13 = .int .i64 (k : Int) ∧ Hid (∀ j (hj : j < zs.length), j < k → (rowAt (zs[j]).toNat).2 ≠ b) ∧ wr = w3) (fun v13 _ => n - (intOf v13).toNat)
    case atStart => exact ⟨0, by omega, rfl, Lib.hid (fun j _ hj => absurd hj (Nat.not_lt_zero _)), rfl⟩
    case round =>
      obtain ⟨k, hk, rfl, hp, rfl⟩ := hrel
      by_cases hlt : k < n
      · have hkl : k < zs.length := by rw [← HL.out]; exact hlt
        obtain ⟨i, hi, hzi, hne, hia⟩ := HM.out zs[k] (List.getElem_mem hkl)
        have hcell := HC.out k hkl
        rw [hzi] at hcell
        obtain ⟨t0, t1⟩ := T.out i hi
        have hhit := HH.out i hi hne hia
        have h0 : (0 : Int) ≤ (i : Int) := by omega
        have h1 : (i : Int) < 256 := by omega
        have h2 : (0 : Int) ≤ (k : Int) := by omega
        have h3 : (k : Int) < (n : Int) := by omega
        have hz2 : (zs[k]).toNat = i := by rw [hzi]; rfl
        have HI := Lib.hid hz2
        clear hzi hne hia t0 hz2
        by_cases he : (rowAt i).2 = b
        · have HE := Lib.hid (hhit he)
          rw [he] at t1
          clear hhit he hp
          go_wp2
          go_ret
          exact ⟨by rw [HE.out]; rfl, B.out⟩
        · have hnb := eq_no he
          have hp3 := Lib.hid (fun j (hj : j < zs.length) (hjk : j < k + 1) => (by
            by_cases hj2 : j = k
            · subst hj2; rw [HI.out]; exact he
            · exact hp.out j hj (by omega) : (rowAt (zs[j]).toNat).2 ≠ b))
          clear hhit he hp
          go_wp2
          go_roundw
          case rel => exact ⟨k + 1, by omega, by go_num, hp3, trivial⟩
          case measure => simp [intOf]; omega
      · obtain rfl : k = n := by omega
        have hno : codeOf a b = -1 := HN.out (fun z hz => by
          obtain ⟨j, hj, rfl⟩ := List.mem_iff_getElem.1 hz
          exact hp.out j hj (by rw [HL.out]; exact hj))
        have HX := Lib.hid hno
        clear hno hp
        go_wp2
        go_ret
        exact ⟨by rw [HX.out]; rfl, B.out⟩
theorem in_no {x : ByteArray} {ws : List (List UInt8)} (h : ∀ w ∈ ws, ¬ x = ⟨w.toArray⟩) : inB x ws = false := by
  unfold inB
  rw [List.any_eq_false]
  intro w hw
  have := h w hw
  simpa using fun e : (⟨w.toArray⟩ : ByteArray) = x => this e.symm
set_option maxRecDepth 100000 in
set_option maxHeartbeats 2000000 in
theorem impl_modeSize (m : ByteArray) (w : World) :
    Calls Try.prog 21 #[.string m] w fun e w' => e = .returned (.int .i64 (modeSz m)) ∧ Below w.heap.size w w' := by
  by_cases h_imp : m = ⟨#[105, 109, 112]⟩
  · have HM := Lib.hid (show modeSz ⟨#[105, 109, 112]⟩ = 1 by decide)
    subst h_imp
    rw [HM.out]
    clear HM
    go_enter Try.func21, Try.ntmps21
    go_wp2
    go_ret
    exact ⟨rfl, Below.refl _ _⟩
  have n_imp := ne_list [105, 109, 112] h_imp
  by_cases h_acc : m = ⟨#[97, 99, 99]⟩
  · have HM := Lib.hid (show modeSz ⟨#[97, 99, 99]⟩ = 1 by decide)
    subst h_acc
    rw [HM.out]
    clear HM
    go_enter Try.func21, Try.ntmps21
    go_wp2
    go_ret
    exact ⟨rfl, Below.refl _ _⟩
  have n_acc := ne_list [97, 99, 99] h_acc
  by_cases h_imm : m = ⟨#[105, 109, 109]⟩
  · have HM := Lib.hid (show modeSz ⟨#[105, 109, 109]⟩ = 2 by decide)
    subst h_imm
    rw [HM.out]
    clear HM
    go_enter Try.func21, Try.ntmps21
    go_wp2
    go_ret
    exact ⟨rfl, Below.refl _ _⟩
  have n_imm := ne_list [105, 109, 109] h_imm
  by_cases h_zpg : m = ⟨#[122, 112, 103]⟩
  · have HM := Lib.hid (show modeSz ⟨#[122, 112, 103]⟩ = 2 by decide)
    subst h_zpg
    rw [HM.out]
    clear HM
    go_enter Try.func21, Try.ntmps21
    go_wp2
    go_ret
    exact ⟨rfl, Below.refl _ _⟩
  have n_zpg := ne_list [122, 112, 103] h_zpg
  by_cases h_zpx : m = ⟨#[122, 112, 120]⟩
  · have HM := Lib.hid (show modeSz ⟨#[122, 112, 120]⟩ = 2 by decide)
    subst h_zpx
    rw [HM.out]
    clear HM
    go_enter Try.func21, Try.ntmps21
    go_wp2
    go_ret
    exact ⟨rfl, Below.refl _ _⟩
  have n_zpx := ne_list [122, 112, 120] h_zpx
  by_cases h_zpy : m = ⟨#[122, 112, 121]⟩
  · have HM := Lib.hid (show modeSz ⟨#[122, 112, 121]⟩ = 2 by decide)
    subst h_zpy
    rw [HM.out]
    clear HM
    go_enter Try.func21, Try.ntmps21
    go_wp2
    go_ret
    exact ⟨rfl, Below.refl _ _⟩
  have n_zpy := ne_list [122, 112, 121] h_zpy
  by_cases h_inx : m = ⟨#[105, 110, 120]⟩
  · have HM := Lib.hid (show modeSz ⟨#[105, 110, 120]⟩ = 2 by decide)
    subst h_inx
    rw [HM.out]
    clear HM
    go_enter Try.func21, Try.ntmps21
    go_wp2
    go_ret
    exact ⟨rfl, Below.refl _ _⟩
  have n_inx := ne_list [105, 110, 120] h_inx
  by_cases h_iny : m = ⟨#[105, 110, 121]⟩
  · have HM := Lib.hid (show modeSz ⟨#[105, 110, 121]⟩ = 2 by decide)
    subst h_iny
    rw [HM.out]
    clear HM
    go_enter Try.func21, Try.ntmps21
    go_wp2
    go_ret
    exact ⟨rfl, Below.refl _ _⟩
  have n_iny := ne_list [105, 110, 121] h_iny
  by_cases h_rel : m = ⟨#[114, 101, 108]⟩
  · have HM := Lib.hid (show modeSz ⟨#[114, 101, 108]⟩ = 2 by decide)
    subst h_rel
    rw [HM.out]
    clear HM
    go_enter Try.func21, Try.ntmps21
    go_wp2
    go_ret
    exact ⟨rfl, Below.refl _ _⟩
  have n_rel := ne_list [114, 101, 108] h_rel
  by_cases h_abs : m = ⟨#[97, 98, 115]⟩
  · have HM := Lib.hid (show modeSz ⟨#[97, 98, 115]⟩ = 3 by decide)
    subst h_abs
    rw [HM.out]
    clear HM
    go_enter Try.func21, Try.ntmps21
    go_wp2
    go_ret
    exact ⟨rfl, Below.refl _ _⟩
  have n_abs := ne_list [97, 98, 115] h_abs
  by_cases h_abx : m = ⟨#[97, 98, 120]⟩
  · have HM := Lib.hid (show modeSz ⟨#[97, 98, 120]⟩ = 3 by decide)
    subst h_abx
    rw [HM.out]
    clear HM
    go_enter Try.func21, Try.ntmps21
    go_wp2
    go_ret
    exact ⟨rfl, Below.refl _ _⟩
  have n_abx := ne_list [97, 98, 120] h_abx
  by_cases h_aby : m = ⟨#[97, 98, 121]⟩
  · have HM := Lib.hid (show modeSz ⟨#[97, 98, 121]⟩ = 3 by decide)
    subst h_aby
    rw [HM.out]
    clear HM
    go_enter Try.func21, Try.ntmps21
    go_wp2
    go_ret
    exact ⟨rfl, Below.refl _ _⟩
  have n_aby := ne_list [97, 98, 121] h_aby
  by_cases h_ind : m = ⟨#[105, 110, 100]⟩
  · have HM := Lib.hid (show modeSz ⟨#[105, 110, 100]⟩ = 3 by decide)
    subst h_ind
    rw [HM.out]
    clear HM
    go_enter Try.func21, Try.ntmps21
    go_wp2
    go_ret
    exact ⟨rfl, Below.refl _ _⟩
  have n_ind := ne_list [105, 110, 100] h_ind
  have HM : modeSz m = 0 := by
    unfold modeSz
    rw [in_no (ws := ws1) (by intro w hw; simp only [ws1, List.mem_cons, List.not_mem_nil, or_false] at hw; rcases hw with rfl | rfl <;> assumption), in_no (ws := ws3) (by intro w hw; simp only [ws3, List.mem_cons, List.not_mem_nil, or_false] at hw; rcases hw with rfl | rfl | rfl | rfl <;> assumption), in_no (ws := ws2) (by intro w hw; simp only [ws2, List.mem_cons, List.not_mem_nil, or_false] at hw; rcases hw with rfl | rfl | rfl | rfl | rfl | rfl | rfl <;> assumption)]
    rfl
  rw [HM]
  clear HM
  clear h_imp h_acc h_imm h_zpg h_zpx h_zpy h_inx h_iny h_rel h_abs h_abx h_aby h_ind
  go_enter Try.func21, Try.ntmps21
  go_wp2
  go_ret
  exact ⟨rfl, Below.refl _ _⟩
/-- The kind of an instruction of the table. -/
def kindL (a b : ByteArray) : Int := if inB b wsOwn then 3 else if inB a wsJ then 3 else if inB a wsSt then 1 else if inB a wsMo then 2 else 0
theorem kindI_L (a b : ByteArray) : kindI a b = if codeOf a b < 0 then 3 else kindL a b := rfl
set_option maxRecDepth 100000 in
set_option maxHeartbeats 2000000 in
theorem impl_kindListed (a b : ByteArray) (w : World) :
    Calls Try.prog 41 #[opV a b] w fun e w' => e = .returned (.int .i64 (kindL a b)) ∧ Below w.heap.size w w' := by
  have hd : kindL a b = if inB b wsOwn then 3 else if inB a wsJ then 3 else if inB a wsSt then 1 else if inB a wsMo then 2 else 0 := rfl
  unfold opV
  by_cases h_imp : b = ⟨#[105, 109, 112]⟩
  · subst h_imp
    rw [hd, if_pos (by decide)]
    clear hd
    go_enter Try.func41, Try.ntmps41
    go_wp2
    go_ret
    exact ⟨rfl, below_alloc (Below.refl _ _) _⟩
  have n_imp := ne_list [105, 109, 112] h_imp
  by_cases h_acc : b = ⟨#[97, 99, 99]⟩
  · subst h_acc
    rw [hd, if_pos (by decide)]
    clear hd
    go_enter Try.func41, Try.ntmps41
    go_wp2
    go_ret
    exact ⟨rfl, below_alloc (Below.refl _ _) _⟩
  have n_acc := ne_list [97, 99, 99] h_acc
  by_cases h_rel : b = ⟨#[114, 101, 108]⟩
  · subst h_rel
    rw [hd, if_pos (by decide)]
    clear hd
    go_enter Try.func41, Try.ntmps41
    go_wp2
    go_ret
    exact ⟨rfl, below_alloc (Below.refl _ _) _⟩
  have n_rel := ne_list [114, 101, 108] h_rel
  rw [in_no (ws := wsOwn) (by intro w hw; simp only [wsOwn, List.mem_cons, List.not_mem_nil, or_false] at hw; rcases hw with rfl | rfl | rfl <;> assumption), if_neg (by decide)] at hd
  by_cases h_JMP : a = ⟨#[74, 77, 80]⟩
  · subst h_JMP
    rw [hd, if_pos (by decide)]
    clear hd
    go_enter Try.func41, Try.ntmps41
    go_wp2
    go_ret
    exact ⟨rfl, below_alloc (Below.refl _ _) _⟩
  have n_JMP := ne_list [74, 77, 80] h_JMP
  by_cases h_JSR : a = ⟨#[74, 83, 82]⟩
  · subst h_JSR
    rw [hd, if_pos (by decide)]
    clear hd
    go_enter Try.func41, Try.ntmps41
    go_wp2
    go_ret
    exact ⟨rfl, below_alloc (Below.refl _ _) _⟩
  have n_JSR := ne_list [74, 83, 82] h_JSR
  rw [in_no (ws := wsJ) (by intro w hw; simp only [wsJ, List.mem_cons, List.not_mem_nil, or_false] at hw; rcases hw with rfl | rfl <;> assumption), if_neg (by decide)] at hd
  by_cases h_STA : a = ⟨#[83, 84, 65]⟩
  · subst h_STA
    rw [hd, if_pos (by decide)]
    clear hd
    go_enter Try.func41, Try.ntmps41
    go_wp2
    go_ret
    exact ⟨rfl, below_alloc (Below.refl _ _) _⟩
  have n_STA := ne_list [83, 84, 65] h_STA
  by_cases h_STX : a = ⟨#[83, 84, 88]⟩
  · subst h_STX
    rw [hd, if_pos (by decide)]
    clear hd
    go_enter Try.func41, Try.ntmps41
    go_wp2
    go_ret
    exact ⟨rfl, below_alloc (Below.refl _ _) _⟩
  have n_STX := ne_list [83, 84, 88] h_STX
  by_cases h_STY : a = ⟨#[83, 84, 89]⟩
  · subst h_STY
    rw [hd, if_pos (by decide)]
    clear hd
    go_enter Try.func41, Try.ntmps41
    go_wp2
    go_ret
    exact ⟨rfl, below_alloc (Below.refl _ _) _⟩
  have n_STY := ne_list [83, 84, 89] h_STY
  rw [in_no (ws := wsSt) (by intro w hw; simp only [wsSt, List.mem_cons, List.not_mem_nil, or_false] at hw; rcases hw with rfl | rfl | rfl <;> assumption), if_neg (by decide)] at hd
  by_cases h_ASL : a = ⟨#[65, 83, 76]⟩
  · subst h_ASL
    rw [hd, if_pos (by decide)]
    clear hd
    go_enter Try.func41, Try.ntmps41
    go_wp2
    go_ret
    exact ⟨rfl, below_alloc (Below.refl _ _) _⟩
  have n_ASL := ne_list [65, 83, 76] h_ASL
  by_cases h_LSR : a = ⟨#[76, 83, 82]⟩
  · subst h_LSR
    rw [hd, if_pos (by decide)]
    clear hd
    go_enter Try.func41, Try.ntmps41
    go_wp2
    go_ret
    exact ⟨rfl, below_alloc (Below.refl _ _) _⟩
  have n_LSR := ne_list [76, 83, 82] h_LSR
  by_cases h_ROL : a = ⟨#[82, 79, 76]⟩
  · subst h_ROL
    rw [hd, if_pos (by decide)]
    clear hd
    go_enter Try.func41, Try.ntmps41
    go_wp2
    go_ret
    exact ⟨rfl, below_alloc (Below.refl _ _) _⟩
  have n_ROL := ne_list [82, 79, 76] h_ROL
  by_cases h_ROR : a = ⟨#[82, 79, 82]⟩
  · subst h_ROR
    rw [hd, if_pos (by decide)]
    clear hd
    go_enter Try.func41, Try.ntmps41
    go_wp2
    go_ret
    exact ⟨rfl, below_alloc (Below.refl _ _) _⟩
  have n_ROR := ne_list [82, 79, 82] h_ROR
  by_cases h_INC : a = ⟨#[73, 78, 67]⟩
  · subst h_INC
    rw [hd, if_pos (by decide)]
    clear hd
    go_enter Try.func41, Try.ntmps41
    go_wp2
    go_ret
    exact ⟨rfl, below_alloc (Below.refl _ _) _⟩
  have n_INC := ne_list [73, 78, 67] h_INC
  by_cases h_DEC : a = ⟨#[68, 69, 67]⟩
  · subst h_DEC
    rw [hd, if_pos (by decide)]
    clear hd
    go_enter Try.func41, Try.ntmps41
    go_wp2
    go_ret
    exact ⟨rfl, below_alloc (Below.refl _ _) _⟩
  have n_DEC := ne_list [68, 69, 67] h_DEC
  rw [in_no (ws := wsMo) (by intro w hw; simp only [wsMo, List.mem_cons, List.not_mem_nil, or_false] at hw; rcases hw with rfl | rfl | rfl | rfl | rfl | rfl <;> assumption), if_neg (by decide)] at hd
  rw [hd]
  clear hd h_imp h_acc h_rel h_JMP h_JSR h_STA h_STX h_STY h_ASL h_LSR h_ROL h_ROR h_INC h_DEC
  go_enter Try.func41, Try.ntmps41
  go_wp2
  go_ret
  exact ⟨rfl, below_alloc (Below.refl _ _) _⟩
theorem op_sizeI : (Try.prog.info? 38).map (·.size) = some 2 := by kernel_rfl
set_option maxRecDepth 100000 in
set_option maxHeartbeats 2000000 in
theorem impl_kindOf (a b : ByteArray) (ha : a.size ≤ maxLen) (w : World) :
    Calls Try.prog 20 #[opV a b] w fun e w' => e = .returned (.int .i64 (kindI a b)) ∧ Below w.heap.size w w' := by
  have hi := Lib.hid op_sizeI
  have HC := Lib.hid (impl_codeOf a b ha)
  have HL := fun w => impl_kindListed a b w
  have hbd := (code_bd a b).1
  have hd := kindI_L a b
  unfold opV at HL ⊢
  replace HL := Lib.hid HL
  generalize codeOf a b = C at *
  generalize kindL a b = K at *
  clear ha
  by_cases hc : C = -1
  · rw [hd, if_pos (by omega)]
    subst hc
    clear hd hbd HL
    go_enter Try.func20, Try.ntmps20
    go_wp2_with (go_at_call 40; refine (HC.out _).mono ?_; rintro e w1 ⟨rfl, hb1⟩; refine Hid.out ?_)
    obtain ⟨k0, k1, _, _⟩ := two_keep (blk_new w _) hb1
    have B := Lib.hid (below_then ((Below.refl w.heap.size w).alloc (Nat.le_refl _) _) hb1)
    clear hb1
    refine Lib.hid ?_
    go_wp2
    go_ret
    exact ⟨rfl, B.out⟩
  rw [hd, if_neg (by omega)]
  clear hbd hd
  have nc : (C == -1) = false := by rw [beq_eq_false_iff_ne]; exact hc
  clear hc
  go_enter Try.func20, Try.ntmps20
  go_wp2_with (go_at_call 40; refine (HC.out _).mono ?_; rintro e w1 ⟨rfl, hb1⟩; refine Hid.out ?_)
  obtain ⟨k0, k1, _, _⟩ := two_keep (blk_new w _) hb1
  have B := Lib.hid (below_then ((Below.refl w.heap.size w).alloc (Nat.le_refl _) _) hb1)
  clear hb1
  refine Lib.hid ?_
  go_wp2_with (first | (go_at_call 41; refine (HL.out _).mono ?_; rintro e w2 ⟨rfl, hb⟩; refine Hid.out ?_))
  have B := Lib.hid (below_then B.out hb)
  clear hb
  refine Lib.hid ?_
  go_wp2
  go_ret
  exact ⟨rfl, B.out⟩
end Go.Proofs.Ytfkllcbjakhbdaa
