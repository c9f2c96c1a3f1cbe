/-
  The walk of the law FnRegs: it returns true, whatever is drawn.
  Conditions: none.
-/
import Derived.Test.YtpddbhnkopnibaaDgC
import Derived.Test.YtpddbhnkopnibaaWsB
namespace Go.Proofs.Ytpddbhnkopnibaa
open Go.RowKit
theorem hexTab_nb : ∀ m : Fin 16, bl (hexTab.getD m.val 0) = false := by decide
theorem hexl_nb (n : Int) (d : Nat) : ∀ c ∈ hexl n d, bl c = false := by
  intro c hc
  unfold hexl at hc
  obtain ⟨j, _, rfl⟩ := List.mem_map.1 hc
  unfold hexAt
  have h0 := Int.emod_nonneg (n / 16 ^ (d - 1 - j)) (by omega : (16 : Int) ≠ 0)
  have h1 := Int.emod_lt_of_pos (n / 16 ^ (d - 1 - j)) (by omega : (0 : Int) < 16)
  have := hexTab_nb ⟨(n / 16 ^ (d - 1 - j) % 16).toNat, by omega⟩
  exact this
theorem fLets_nb : ∀ m : Fin 8, bl (fLet m.val) = false := by decide
theorem ftl_nb (p : Int) : ∀ c ∈ ftl p, bl c = false := by
  intro c hc
  unfold ftl at hc
  obtain ⟨j, hj, rfl⟩ := List.mem_map.1 hc
  unfold fSign
  split
  · exact fLets_nb ⟨j, List.mem_range.1 hj⟩
  · decide
def regWords (a x y s p pc : Int) : List (List UInt8) :=
  [[80, 67, 61] ++ hexl pc 4, [65, 61] ++ hexl a 2, [88, 61] ++ hexl x 2, [89, 61] ++ hexl y 2, [83, 61] ++ hexl s 2, [80, 61] ++ ftl p]
theorem rtl_join (a x y s p pc : Int) : rtl a x y s p pc = joinB (regWords a x y s p pc) := by
  unfold rtl regWords
  simp [joinB]
theorem regWords_ok (a x y s p pc : Int) : ∀ w ∈ regWords a x y s p pc, w ≠ [] ∧ ∀ c ∈ w, bl c = false := by
  have hx := hexl_nb
  have hf := ftl_nb p
  have key : ∀ (l r : List UInt8), l ≠ [] → (∀ c ∈ l, bl c = false) → (∀ c ∈ r, bl c = false) → l ++ r ≠ [] ∧ ∀ c ∈ l ++ r, bl c = false := by
    intro l r h1 h2 h3
    refine ⟨by simp [h1], fun c hc => ?_⟩
    rcases List.mem_append.1 hc with h | h
    · exact h2 c h
    · exact h3 c h
  intro w hw
  simp only [regWords, List.mem_cons, List.not_mem_nil, or_false] at hw
  rcases hw with rfl | rfl | rfl | rfl | rfl | rfl
  · exact key _ _ (by simp) (by decide) (hx pc 4)
  · exact key _ _ (by simp) (by decide) (hx a 2)
  · exact key _ _ (by simp) (by decide) (hx x 2)
  · exact key _ _ (by simp) (by decide) (hx y 2)
  · exact key _ _ (by simp) (by decide) (hx s 2)
  · exact key _ _ (by simp) (by decide) hf
theorem rtl_length (a x y s p pc : Int) : (rtl a x y s p pc).length = 38 := by
  unfold rtl
  simp [hexl_length, ftl_length]
/-- The words of the registers' text: six, the first and the last as told. -/
def SixWords (p pc : Int) (w : World) (e : Ending) (w' : World) : Prop := ∃ g cap, e = .returned (.slice (some ⟨g, 0, none⟩) 6 cap) ∧
  w'.cell? ⟨g, 0, none⟩ = some (.string ⟨([80, 67, 61] ++ hexl pc 4).toArray⟩) ∧ w'.cell? ⟨g, 5, none⟩ = some (.string ⟨([80, 61] ++ ftl p).toArray⟩) ∧ g < w'.heap.size ∧ Below w.heap.size w w'
theorem spec_sixWords (a x y s p pc : Int) (w : World) : Calls Try.prog 28 #[.string ⟨(rtl a x y s p pc).toArray⟩] w (SixWords p pc w) := by
  have hl := rtl_length a x y s p pc
  refine (spec_words ⟨(rtl a x y s p pc).toArray⟩ (by rw [bsize]; omega) w).mono ?_
  rintro e w' ⟨v, k, rfl, h1, h2, h3, h4, h5⟩
  have e0 : (⟨(rtl a x y s p pc).toArray⟩ : ByteArray).data.toList = joinB (regWords a x y s p pc) := by rw [← rtl_join]
  rw [e0] at h1 h2 h3
  have hok := regWords_ok a x y s p pc
  have ht := told_words _ hok
  have hk : k = (regWords a x y s p pc).length := told_one h1 h2 (good_words _ hok) ht.2
  rw [hk, ht.1] at h3
  have h6 : (regWords a x y s p pc).length = 6 := rfl
  rw [h6] at h3
  obtain ⟨g, cap, rfl⟩ : ∃ g cap, v = Value.slice (some ⟨g, 0, none⟩) 6 cap := by
    rcases h3.2 with ⟨_, h0⟩ | ⟨g, cap, cur, h0, _⟩
    · omega
    · exact ⟨g, cap, h0⟩
  have c0 := h3.cells (g := g) rfl 0 (.string ⟨([80, 67, 61] ++ hexl pc 4).toArray⟩) (by simp [regWords])
  have c5 := h3.cells (g := g) rfl 5 (.string ⟨([80, 61] ++ ftl p).toArray⟩) (by simp [regWords])
  exact ⟨g, cap, rfl, c0, c5, World.block_lt_of_cell? _ _ c0, h5⟩
theorem four_keep {W0 W w1 : World} {B g : Nat} {p pc : Int} {s0 s5 : ByteArray}
    (h : W.cell? ⟨B, 4, none⟩ = some (.int .i64 p) ∧ W.cell? ⟨B, 5, none⟩ = some (.int .i64 pc) ∧ W.cell? ⟨g, 0, none⟩ = some (.string s0) ∧ W.cell? ⟨g, 5, none⟩ = some (.string s5) ∧ B < W.heap.size ∧ g < W.heap.size ∧ Below W0.heap.size W0 W) (hb : Below W.heap.size W w1) :
    w1.cell? ⟨B, 4, none⟩ = some (.int .i64 p) ∧ w1.cell? ⟨B, 5, none⟩ = some (.int .i64 pc) ∧ w1.cell? ⟨g, 0, none⟩ = some (.string s0) ∧ w1.cell? ⟨g, 5, none⟩ = some (.string s5) ∧ B < w1.heap.size ∧ g < w1.heap.size ∧ Below W0.heap.size W0 w1 := by
  obtain ⟨h0, h1, h2, h3, h4, h5, h6⟩ := h
  exact ⟨(hb.cell (p := ⟨B, 4, none⟩) h4).trans h0, (hb.cell (p := ⟨B, 5, none⟩) h4).trans h1, (hb.cell (p := ⟨g, 0, none⟩) h5).trans h2, (hb.cell (p := ⟨g, 5, none⟩) h5).trans h3,
    Nat.lt_of_lt_of_le h4 hb.size, Nat.lt_of_lt_of_le h5 hb.size, h6.trans (hb.mono h6.size)⟩
set_option maxRecDepth 100000 in
set_option maxHeartbeats 4000000 in
theorem regs_law (A : Option Addr) (n c : Nat) (W : World) (hrow : RowB W A n) :
    Calls Try.prog 4 #[.slice A n c] W fun e w' => e = .returned (.bool true) ∧ Below W.heap.size W w' := by
  have hm := hrow.1
  unfold maxLen at hm
  by_cases hbig : 1048576 < n
  · clear hrow
    go_enter Try.func4, Try.ntmps4
    go_wp2_with (go_in)
    go_ret
    exact ⟨rfl, Below.refl _ _⟩
  · have hcode := hrow.code (by omega)
    have hD := drawRegsText_any W.heap.size n c A W (Nat.le_refl _) hcode
    unfold DrawRegs regsV at hD
    clear hrow hcode
    go_enter Try.func4, Try.ntmps4
    go_wp2_with (first
      | (go_at_call 11; go_in)
      | (go_at_call 23; refine hD.mono ?_; rintro e w1 ⟨a, x, y, s, p, pc, rfl, hb1⟩; refine Hid.out ?_))
    clear hD
    have h1 := fun w => impl_regsText a x y s p pc w
    have h2 := fun w => impl_regsOk a x y s p pc w
    have h3 := fun w => spec_regsText a x y s p pc w
    have h4 := fun w => spec_regsOk a x y s p pc w
    unfold regsV at h1 h2 h3 h4
    obtain ⟨B, hB⟩ : ∃ B, B = w1.heap.size := ⟨_, rfl⟩
    have hs0 := six_new w1 a x y s p pc 33
    have hb2 : Below W.heap.size W (w1.alloc (.cells #[.int .i64 a, .int .i64 x, .int .i64 y, .int .i64 s, .int .i64 p, .int .i64 pc] 33)) := hb1.alloc hb1.size _
    have hl0 : w1.heap.size < (w1.alloc (.cells #[.int .i64 a, .int .i64 x, .int .i64 y, .int .i64 s, .int .i64 p, .int .i64 pc] 33)).heap.size := by simp
    have HS := Lib.hid hs0
    have HB := Lib.hid hb2
    have HL := Lib.hid hl0
    clear hb1 hs0 hb2 hl0 hB
    cases hok : okR a x y s p pc
    · have e1 : rtx a x y s p pc = [] := by unfold rtx; rw [hok]; rfl
      rw [hok] at h2 h4
      rw [e1] at h1 h3
      have H1 := Lib.hid h1
      have H2 := Lib.hid h2
      have H3 := Lib.hid h3
      have H4 := Lib.hid h4
      have H5 := Lib.hid (fun w => spec_words ⟨#[]⟩ (by decide) w)
      clear h1 h2 h3 h4 e1 hok
      refine Lib.hid ?_
      go_wp2_with (go_at_call 24; refine (H1.out _).mono ?_; rintro e w2 ⟨rfl, hb⟩; refine Hid.out ?_)
      have HS := Lib.hid (HS.out.below HL.out hb)
      have HB := Lib.hid (HB.out.trans (hb.mono HB.out.size))
      have HL := Lib.hid (Nat.lt_of_lt_of_le HL.out hb.size)
      obtain ⟨g0, g1, g2, g3, g4, g5⟩ := HS.out
      clear hb
      refine Lib.hid ?_
      go_wp2_with (go_at_call 25; refine (H2.out _).mono ?_; rintro e w3 ⟨rfl, hb⟩; refine Hid.out ?_)
      clear g0 g1 g2 g3 g4 g5
      have HS := Lib.hid (HS.out.below HL.out hb)
      have HB := Lib.hid (HB.out.trans (hb.mono HB.out.size))
      have HL := Lib.hid (Nat.lt_of_lt_of_le HL.out hb.size)
      obtain ⟨g0, g1, g2, g3, g4, g5⟩ := HS.out
      clear hb
      refine Lib.hid ?_
      go_wp2_with (go_at_call 26; refine (H3.out _).mono ?_; rintro e w4 ⟨rfl, hb⟩; refine Hid.out ?_)
      clear g0 g1 g2 g3 g4 g5
      have HS := Lib.hid (HS.out.below HL.out hb)
      have HB := Lib.hid (HB.out.trans (hb.mono HB.out.size))
      have HL := Lib.hid (Nat.lt_of_lt_of_le HL.out hb.size)
      obtain ⟨g0, g1, g2, g3, g4, g5⟩ := HS.out
      clear hb
      refine Lib.hid ?_
      go_wp2_with (go_at_call 27; refine (H4.out _).mono ?_; rintro e w5 ⟨rfl, hb⟩; refine Hid.out ?_)
      clear g0 g1 g2 g3 g4 g5
      have HS := Lib.hid (HS.out.below HL.out hb)
      have HB := Lib.hid (HB.out.trans (hb.mono HB.out.size))
      have HL := Lib.hid (Nat.lt_of_lt_of_le HL.out hb.size)
      clear hb
      refine Lib.hid ?_
      go_wp2_with (go_at_call 28; refine (H5.out _).mono ?_; rintro e w6 ⟨v, k, rfl, _, _, _, _, hb⟩; refine Hid.out ?_)
      have hb6 := HB.out.trans (hb.mono HB.out.size)
      clear HS HB HL hb H1 H2 H3 H4 H5
      refine Lib.hid ?_
      go_wp2
      go_ret
      exact ⟨rfl, hb6⟩
    · have e1 : rtx a x y s p pc = rtl a x y s p pc := by unfold rtx; rw [hok]; rfl
      rw [hok] at h2 h4
      rw [e1] at h1 h3
      have h5 := fun w => spec_sixWords a x y s p pc w
      unfold SixWords at h5
      obtain ⟨t, ht⟩ : ∃ t, t = rtl a x y s p pc := ⟨_, rfl⟩
      rw [← ht] at h1 h3 h5
      have H1 := Lib.hid h1
      have H2 := Lib.hid h2
      have H3 := Lib.hid h3
      have H4 := Lib.hid h4
      have H5 := Lib.hid h5
      clear h1 h2 h3 h4 h5 e1 ht hok
      refine Lib.hid ?_
      go_wp2_with (go_at_call 24; refine (H1.out _).mono ?_; rintro e w2 ⟨rfl, hb⟩; refine Hid.out ?_)
      have HS := Lib.hid (HS.out.below HL.out hb)
      have HB := Lib.hid (HB.out.trans (hb.mono HB.out.size))
      have HL := Lib.hid (Nat.lt_of_lt_of_le HL.out hb.size)
      obtain ⟨g0, g1, g2, g3, g4, g5⟩ := HS.out
      clear hb
      refine Lib.hid ?_
      go_wp2_with (go_at_call 25; refine (H2.out _).mono ?_; rintro e w3 ⟨rfl, hb⟩; refine Hid.out ?_)
      clear g0 g1 g2 g3 g4 g5
      have HS := Lib.hid (HS.out.below HL.out hb)
      have HB := Lib.hid (HB.out.trans (hb.mono HB.out.size))
      have HL := Lib.hid (Nat.lt_of_lt_of_le HL.out hb.size)
      obtain ⟨g0, g1, g2, g3, g4, g5⟩ := HS.out
      clear hb
      refine Lib.hid ?_
      go_wp2_with (go_at_call 26; refine (H3.out _).mono ?_; rintro e w4 ⟨rfl, hb⟩; refine Hid.out ?_)
      clear g0 g1 g2 g3 g4 g5
      have HS := Lib.hid (HS.out.below HL.out hb)
      have HB := Lib.hid (HB.out.trans (hb.mono HB.out.size))
      have HL := Lib.hid (Nat.lt_of_lt_of_le HL.out hb.size)
      obtain ⟨g0, g1, g2, g3, g4, g5⟩ := HS.out
      clear hb
      refine Lib.hid ?_
      go_wp2_with (go_at_call 27; refine (H4.out _).mono ?_; rintro e w5 ⟨rfl, hb⟩; refine Hid.out ?_)
      clear g0 g1 g2 g3 g4 g5
      have HS := Lib.hid (HS.out.below HL.out hb)
      have HB := Lib.hid (HB.out.trans (hb.mono HB.out.size))
      have HL := Lib.hid (Nat.lt_of_lt_of_le HL.out hb.size)
      clear hb
      refine Lib.hid ?_
      go_wp2_with (go_at_call 28; refine (H5.out _).mono ?_; rintro e w6 ⟨g, cap, rfl, k0, k5, kg, hb⟩; refine Hid.out ?_)
      obtain ⟨_, _, _, _, g4, g5⟩ := HS.out.below HL.out hb
      have hb6 := HB.out.trans (hb.mono HB.out.size)
      have hl6 := Nat.lt_of_lt_of_le HL.out hb.size
      have x4 := Lib.hid spec_hex4
      have xf := Lib.hid spec_flagText
      have a1 : ∀ w, (Op.stringOp .add ⟨#[80, 67, 61]⟩ ⟨(hexl pc 4).toArray⟩).run Try.prog w = .ok (.string ⟨([80, 67, 61] ++ hexl pc 4).toArray⟩) w := fun w => str_sum [80, 67, 61] (hexl pc 4) (by simp [hexl_length]) w
      have a2 : ∀ w, (Op.stringOp .add ⟨#[80, 61]⟩ ⟨(ftl p).toArray⟩).run Try.prog w = .ok (.string ⟨([80, 61] ++ ftl p).toArray⟩) w := fun w => str_sum [80, 61] (ftl p) (by simp [ftl_length]) w
      obtain ⟨T0, hT0⟩ : ∃ T0, T0 = [80, 67, 61] ++ hexl pc 4 := ⟨_, rfl⟩
      obtain ⟨T5, hT5⟩ : ∃ T5, T5 = [80, 61] ++ ftl p := ⟨_, rfl⟩
      rw [← hT0] at a1 k0
      rw [← hT5] at a2 k5
      clear hT0 hT5
      clear HS HB HL hb H1 H2 H3 H4 H5
      refine Lib.hid ?_
      go_wp2
      go_region_held3 (fun w' => w'.cell? ⟨w1.heap.size, 4, none⟩ = some (.int .i64 p) ∧ w'.cell? ⟨w1.heap.size, 5, none⟩ = some (.int .i64 pc) ∧ w'.cell? ⟨g, 0, none⟩ = some (.string ⟨T0.toArray⟩) ∧ w'.cell? ⟨g, 5, none⟩ = some (.string ⟨T5.toArray⟩) ∧
          w1.heap.size < w'.heap.size ∧ g < w'.heap.size ∧ Below W.heap.size W w')
        (first | exact ⟨g4, g5, k0, k5, hl6, kg, below_drew hb6⟩ | exact four_keep (by assumption) hbq | go_keep)
        (first
          | (go_at_call 29; (with_reducible refine (x4.out _ _).mono ?_); rintro e wq ⟨rfl, hbq⟩)
          | (go_at_call 17; (with_reducible refine (xf.out _ _).mono ?_); rintro e wq ⟨rfl, hbq⟩))
      rename_i hH
      obtain ⟨_, _, _, _, _, _, hb7⟩ := hH
      clear g4 g5 k0 k5 kg hb6 hl6 hbq
      go_wp2
      go_ret
      exact ⟨rfl, hb7⟩
end Go.Proofs.Ytpddbhnkopnibaa
