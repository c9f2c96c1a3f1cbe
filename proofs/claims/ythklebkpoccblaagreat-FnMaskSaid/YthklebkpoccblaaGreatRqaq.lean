/-
  Texts put together by program: WoK.
  Conditions: as each theorem says.
-/
import Derived.Deep.RegionWith
import Derived.Test.YthklebkpoccblaaGreatRqaf
namespace Go.Proofs.YthklebkpoccblaaGreat
open Go.RowKit
set_option maxRecDepth 100000 in
set_option maxHeartbeats 4000000 in
theorem spec_flag_CLD (k : RegI) (w : World) : Calls Tryz.prog 125 #[regI k, .string ⟨#[67, 76, 68]⟩] w fun e w' => e = .returned (.tuple #[regI { k with p := wI k.p 8 false }, .bool true]) ∧ Below w.heap.size w w' := by
 have hi := Lib.hid reg_size
 have HW := Lib.hid (spec_words_of [[67, 76, 67], [83, 69, 67], [67, 76, 73], [83, 69, 73], [67, 76, 86], [67, 76, 68], [83, 69, 68]] (by decide) (ok_words _ (by decide)) (by decide))
 have HS := Lib.hid (fun p w => spec_with p 8 false w)
 obtain ⟨a, x, y, s, p, pc⟩ := k
 simp only [regI_mk]
 go_enter Tryz.func125, Tryz.ntmps125
 go_wp2_with fail
 have K0 := Lib.hid (blk_old (o := (.cells #[.int .i64 1, .int .i64 1, .int .i64 4, .int .i64 4, .int .i64 64, .int .i64 8, .int .i64 8] 3)) (blk_old (o := (.cells #[.int .i64 0, .int .i64 0, .int .i64 0, .int .i64 0, .int .i64 0, .int .i64 0] 25)) (blk_new w (.cells #[.int .i64 a, .int .i64 x, .int .i64 y, .int .i64 s, .int .i64 p, .int .i64 pc] 25))))
 have K1 := Lib.hid (blk_old (o := (.cells #[.int .i64 1, .int .i64 1, .int .i64 4, .int .i64 4, .int .i64 64, .int .i64 8, .int .i64 8] 3)) (blk_new2 w (.cells #[.int .i64 a, .int .i64 x, .int .i64 y, .int .i64 s, .int .i64 p, .int .i64 pc] 25) (.cells #[.int .i64 0, .int .i64 0, .int .i64 0, .int .i64 0, .int .i64 0, .int .i64 0] 25)))
 have K2 := blk_new2 (w.alloc (.cells #[.int .i64 a, .int .i64 x, .int .i64 y, .int .i64 s, .int .i64 p, .int .i64 pc] 25)) (.cells #[.int .i64 0, .int .i64 0, .int .i64 0, .int .i64 0, .int .i64 0, .int .i64 0] 25) (.cells #[.int .i64 1, .int .i64 1, .int .i64 4, .int .i64 4, .int .i64 64, .int .i64 8, .int .i64 8] 3)
 rw [alloc_size] at K2
 have K2 := Lib.hid K2
 have B := Lib.hid (below_alloc (below_alloc (below_alloc (Below.refl w.heap.size w) (.cells #[.int .i64 a, .int .i64 x, .int .i64 y, .int .i64 s, .int .i64 p, .int .i64 pc] 25)) (.cells #[.int .i64 0, .int .i64 0, .int .i64 0, .int .i64 0, .int .i64 0, .int .i64 0] 25)) (.cells #[.int .i64 1, .int .i64 1, .int .i64 4, .int .i64 4, .int .i64 64, .int .i64 8, .int .i64 8] 3))
 refine wp_loop_rounds 8 ?_
 rw [rounds_succ]
 go_wp2_with (go_at_call 95; refine (HW.out _).mono ?_; rintro e w1 ⟨g0, cap, rfl, hc, hb⟩; refine Hid.out ?_)
 have c0 : w1.cell? ⟨g0, 0, none⟩ = some (.string ⟨#[67, 76, 67]⟩) := hc 0 (by decide)
 have K0 := Lib.hid (blk_below K0.out hb)
 have K1 := Lib.hid (blk_below K1.out hb)
 have K2 := Lib.hid (blk_below K2.out hb)
 have B := Lib.hid (below_then B.out hb)
 clear hb hc
 refine Lib.hid ?_
 go_wp2_with fail
 clear c0
 rw [rounds_succ]
 go_wp2_with (go_at_call 95; refine (HW.out _).mono ?_; rintro e w2 ⟨g1, cap, rfl, hc, hb⟩; refine Hid.out ?_)
 have c1 : w2.cell? ⟨g1, 1, none⟩ = some (.string ⟨#[83, 69, 67]⟩) := hc 1 (by decide)
 have K0 := Lib.hid (blk_below K0.out hb)
 have K1 := Lib.hid (blk_below K1.out hb)
 have K2 := Lib.hid (blk_below K2.out hb)
 have B := Lib.hid (below_then B.out hb)
 clear hb hc
 refine Lib.hid ?_
 go_wp2_with fail
 clear c1
 rw [rounds_succ]
 go_wp2_with (go_at_call 95; refine (HW.out _).mono ?_; rintro e w3 ⟨g2, cap, rfl, hc, hb⟩; refine Hid.out ?_)
 have c2 : w3.cell? ⟨g2, 2, none⟩ = some (.string ⟨#[67, 76, 73]⟩) := hc 2 (by decide)
 have K0 := Lib.hid (blk_below K0.out hb)
 have K1 := Lib.hid (blk_below K1.out hb)
 have K2 := Lib.hid (blk_below K2.out hb)
 have B := Lib.hid (below_then B.out hb)
 clear hb hc
 refine Lib.hid ?_
 go_wp2_with fail
 clear c2
 rw [rounds_succ]
 go_wp2_with (go_at_call 95; refine (HW.out _).mono ?_; rintro e w4 ⟨g3, cap, rfl, hc, hb⟩; refine Hid.out ?_)
 have c3 : w4.cell? ⟨g3, 3, none⟩ = some (.string ⟨#[83, 69, 73]⟩) := hc 3 (by decide)
 have K0 := Lib.hid (blk_below K0.out hb)
 have K1 := Lib.hid (blk_below K1.out hb)
 have K2 := Lib.hid (blk_below K2.out hb)
 have B := Lib.hid (below_then B.out hb)
 clear hb hc
 refine Lib.hid ?_
 go_wp2_with fail
 clear c3
 rw [rounds_succ]
 go_wp2_with (go_at_call 95; refine (HW.out _).mono ?_; rintro e w5 ⟨g4, cap, rfl, hc, hb⟩; refine Hid.out ?_)
 have c4 : w5.cell? ⟨g4, 4, none⟩ = some (.string ⟨#[67, 76, 86]⟩) := hc 4 (by decide)
 have K0 := Lib.hid (blk_below K0.out hb)
 have K1 := Lib.hid (blk_below K1.out hb)
 have K2 := Lib.hid (blk_below K2.out hb)
 have B := Lib.hid (below_then B.out hb)
 clear hb hc
 refine Lib.hid ?_
 go_wp2_with fail
 clear c4
 rw [rounds_succ]
 go_wp2_with (go_at_call 95; refine (HW.out _).mono ?_; rintro e w6 ⟨g5, cap, rfl, hc, hb⟩; refine Hid.out ?_)
 have c5 : w6.cell? ⟨g5, 5, none⟩ = some (.string ⟨#[67, 76, 68]⟩) := hc 5 (by decide)
 have K0 := Lib.hid (blk_below K0.out hb)
 have K1 := Lib.hid (blk_below K1.out hb)
 have K2 := Lib.hid (blk_below K2.out hb)
 have B := Lib.hid (below_then B.out hb)
 clear hb hc
 have a4 := cell_of_blk (i := 4) K0.out rfl
 have hz := free_of_blk (i := 4) K0.out
 have b4 := cell_of_blk (i := 5) K2.out rfl
 refine Lib.hid ?_
 go_wp2_with fail
 go_region_with (go_at_call 53; refine (HS.out _ _).mono ?_; rintro e w' ⟨rfl, rfl⟩)
 all_goals
  go_wp2_with (first
   | (refine load_row rfl 25 (.tmp 2) rfl w.heap.size rfl 6 _ Tryz.underlying25 rfl hi.out (row_drew (row_set K0.out)) rfl ?_)
   | (refine store_row rfl 25 (.tmp 4) (.tmp 30) rfl (w.heap.size + 1) _ rfl rfl 6 hi.out (row_drew (row_far K1.out (by omega))) rfl rfl (by rfl) ?_))
  exact row_tmp_post rfl rfl rfl Tryz.underlying25 rfl reg_size rfl (setRow_heap _ _ _ _ _ _ (row_drew (row_far K1.out (by omega)))) rfl ⟨rfl, below_row (below_put B.out (by omega)).drew (by omega)⟩
set_option maxRecDepth 100000 in
set_option maxHeartbeats 4000000 in
theorem spec_flag_SED (k : RegI) (w : World) : Calls Tryz.prog 125 #[regI k, .string ⟨#[83, 69, 68]⟩] w fun e w' => e = .returned (.tuple #[regI { k with p := wI k.p 8 true }, .bool true]) ∧ Below w.heap.size w w' := by
 have hi := Lib.hid reg_size
 have HW := Lib.hid (spec_words_of [[67, 76, 67], [83, 69, 67], [67, 76, 73], [83, 69, 73], [67, 76, 86], [67, 76, 68], [83, 69, 68]] (by decide) (ok_words _ (by decide)) (by decide))
 have HS := Lib.hid (fun p w => spec_with p 8 true w)
 obtain ⟨a, x, y, s, p, pc⟩ := k
 simp only [regI_mk]
 go_enter Tryz.func125, Tryz.ntmps125
 go_wp2_with fail
 have K0 := Lib.hid (blk_old (o := (.cells #[.int .i64 1, .int .i64 1, .int .i64 4, .int .i64 4, .int .i64 64, .int .i64 8, .int .i64 8] 3)) (blk_old (o := (.cells #[.int .i64 0, .int .i64 0, .int .i64 0, .int .i64 0, .int .i64 0, .int .i64 0] 25)) (blk_new w (.cells #[.int .i64 a, .int .i64 x, .int .i64 y, .int .i64 s, .int .i64 p, .int .i64 pc] 25))))
 have K1 := Lib.hid (blk_old (o := (.cells #[.int .i64 1, .int .i64 1, .int .i64 4, .int .i64 4, .int .i64 64, .int .i64 8, .int .i64 8] 3)) (blk_new2 w (.cells #[.int .i64 a, .int .i64 x, .int .i64 y, .int .i64 s, .int .i64 p, .int .i64 pc] 25) (.cells #[.int .i64 0, .int .i64 0, .int .i64 0, .int .i64 0, .int .i64 0, .int .i64 0] 25)))
 have K2 := blk_new2 (w.alloc (.cells #[.int .i64 a, .int .i64 x, .int .i64 y, .int .i64 s, .int .i64 p, .int .i64 pc] 25)) (.cells #[.int .i64 0, .int .i64 0, .int .i64 0, .int .i64 0, .int .i64 0, .int .i64 0] 25) (.cells #[.int .i64 1, .int .i64 1, .int .i64 4, .int .i64 4, .int .i64 64, .int .i64 8, .int .i64 8] 3)
 rw [alloc_size] at K2
 have K2 := Lib.hid K2
 have B := Lib.hid (below_alloc (below_alloc (below_alloc (Below.refl w.heap.size w) (.cells #[.int .i64 a, .int .i64 x, .int .i64 y, .int .i64 s, .int .i64 p, .int .i64 pc] 25)) (.cells #[.int .i64 0, .int .i64 0, .int .i64 0, .int .i64 0, .int .i64 0, .int .i64 0] 25)) (.cells #[.int .i64 1, .int .i64 1, .int .i64 4, .int .i64 4, .int .i64 64, .int .i64 8, .int .i64 8] 3))
 refine wp_loop_rounds 8 ?_
 rw [rounds_succ]
 go_wp2_with (go_at_call 95; refine (HW.out _).mono ?_; rintro e w1 ⟨g0, cap, rfl, hc, hb⟩; refine Hid.out ?_)
 have c0 : w1.cell? ⟨g0, 0, none⟩ = some (.string ⟨#[67, 76, 67]⟩) := hc 0 (by decide)
 have K0 := Lib.hid (blk_below K0.out hb)
 have K1 := Lib.hid (blk_below K1.out hb)
 have K2 := Lib.hid (blk_below K2.out hb)
 have B := Lib.hid (below_then B.out hb)
 clear hb hc
 refine Lib.hid ?_
 go_wp2_with fail
 clear c0
 rw [rounds_succ]
 go_wp2_with (go_at_call 95; refine (HW.out _).mono ?_; rintro e w2 ⟨g1, cap, rfl, hc, hb⟩; refine Hid.out ?_)
 have c1 : w2.cell? ⟨g1, 1, none⟩ = some (.string ⟨#[83, 69, 67]⟩) := hc 1 (by decide)
 have K0 := Lib.hid (blk_below K0.out hb)
 have K1 := Lib.hid (blk_below K1.out hb)
 have K2 := Lib.hid (blk_below K2.out hb)
 have B := Lib.hid (below_then B.out hb)
 clear hb hc
 refine Lib.hid ?_
 go_wp2_with fail
 clear c1
 rw [rounds_succ]
 go_wp2_with (go_at_call 95; refine (HW.out _).mono ?_; rintro e w3 ⟨g2, cap, rfl, hc, hb⟩; refine Hid.out ?_)
 have c2 : w3.cell? ⟨g2, 2, none⟩ = some (.string ⟨#[67, 76, 73]⟩) := hc 2 (by decide)
 have K0 := Lib.hid (blk_below K0.out hb)
 have K1 := Lib.hid (blk_below K1.out hb)
 have K2 := Lib.hid (blk_below K2.out hb)
 have B := Lib.hid (below_then B.out hb)
 clear hb hc
 refine Lib.hid ?_
 go_wp2_with fail
 clear c2
 rw [rounds_succ]
 go_wp2_with (go_at_call 95; refine (HW.out _).mono ?_; rintro e w4 ⟨g3, cap, rfl, hc, hb⟩; refine Hid.out ?_)
 have c3 : w4.cell? ⟨g3, 3, none⟩ = some (.string ⟨#[83, 69, 73]⟩) := hc 3 (by decide)
 have K0 := Lib.hid (blk_below K0.out hb)
 have K1 := Lib.hid (blk_below K1.out hb)
 have K2 := Lib.hid (blk_below K2.out hb)
 have B := Lib.hid (below_then B.out hb)
 clear hb hc
 refine Lib.hid ?_
 go_wp2_with fail
 clear c3
 rw [rounds_succ]
 go_wp2_with (go_at_call 95; refine (HW.out _).mono ?_; rintro e w5 ⟨g4, cap, rfl, hc, hb⟩; refine Hid.out ?_)
 have c4 : w5.cell? ⟨g4, 4, none⟩ = some (.string ⟨#[67, 76, 86]⟩) := hc 4 (by decide)
 have K0 := Lib.hid (blk_below K0.out hb)
 have K1 := Lib.hid (blk_below K1.out hb)
 have K2 := Lib.hid (blk_below K2.out hb)
 have B := Lib.hid (below_then B.out hb)
 clear hb hc
 refine Lib.hid ?_
 go_wp2_with fail
 clear c4
 rw [rounds_succ]
 go_wp2_with (go_at_call 95; refine (HW.out _).mono ?_; rintro e w6 ⟨g5, cap, rfl, hc, hb⟩; refine Hid.out ?_)
 have c5 : w6.cell? ⟨g5, 5, none⟩ = some (.string ⟨#[67, 76, 68]⟩) := hc 5 (by decide)
 have K0 := Lib.hid (blk_below K0.out hb)
 have K1 := Lib.hid (blk_below K1.out hb)
 have K2 := Lib.hid (blk_below K2.out hb)
 have B := Lib.hid (below_then B.out hb)
 clear hb hc
 refine Lib.hid ?_
 go_wp2_with fail
 clear c5
 rw [rounds_succ]
 go_wp2_with (go_at_call 95; refine (HW.out _).mono ?_; rintro e w7 ⟨g6, cap, rfl, hc, hb⟩; refine Hid.out ?_)
 have c6 : w7.cell? ⟨g6, 6, none⟩ = some (.string ⟨#[83, 69, 68]⟩) := hc 6 (by decide)
 have K0 := Lib.hid (blk_below K0.out hb)
 have K1 := Lib.hid (blk_below K1.out hb)
 have K2 := Lib.hid (blk_below K2.out hb)
 have B := Lib.hid (below_then B.out hb)
 clear hb hc
 have a4 := cell_of_blk (i := 4) K0.out rfl
 have hz := free_of_blk (i := 4) K0.out
 have b4 := cell_of_blk (i := 6) K2.out rfl
 refine Lib.hid ?_
 go_wp2_with fail
 go_region_with (go_at_call 53; refine (HS.out _ _).mono ?_; rintro e w' ⟨rfl, rfl⟩)
 all_goals
  go_wp2_with (first
   | (refine load_row rfl 25 (.tmp 2) rfl w.heap.size rfl 6 _ Tryz.underlying25 rfl hi.out (row_drew (row_set K0.out)) rfl ?_)
   | (refine store_row rfl 25 (.tmp 4) (.tmp 30) rfl (w.heap.size + 1) _ rfl rfl 6 hi.out (row_drew (row_far K1.out (by omega))) rfl rfl (by rfl) ?_))
  exact row_tmp_post rfl rfl rfl Tryz.underlying25 rfl reg_size rfl (setRow_heap _ _ _ _ _ _ (row_drew (row_far K1.out (by omega)))) rfl ⟨rfl, below_row (below_put B.out (by omega)).drew (by omega)⟩
set_option maxRecDepth 100000 in
set_option maxHeartbeats 4000000 in
theorem spec_flag_other (k : RegI) (n : ByteArray) (hCLC : ¬ n = ⟨#[67, 76, 67]⟩) (hSEC : ¬ n = ⟨#[83, 69, 67]⟩) (hCLI : ¬ n = ⟨#[67, 76, 73]⟩) (hSEI : ¬ n = ⟨#[83, 69, 73]⟩) (hCLV : ¬ n = ⟨#[67, 76, 86]⟩) (hCLD : ¬ n = ⟨#[67, 76, 68]⟩) (hSED : ¬ n = ⟨#[83, 69, 68]⟩) (w : World) : Calls Tryz.prog 125 #[regI k, .string n] w fun e w' => e = .returned (.tuple #[regI k, .bool false]) ∧ Below w.heap.size w w' := by
 have nCLC := ne_list' [67, 76, 67] hCLC
 have nSEC := ne_list' [83, 69, 67] hSEC
 have nCLI := ne_list' [67, 76, 73] hCLI
 have nSEI := ne_list' [83, 69, 73] hSEI
 have nCLV := ne_list' [67, 76, 86] hCLV
 have nCLD := ne_list' [67, 76, 68] hCLD
 have nSED := ne_list' [83, 69, 68] hSED
 clear hCLC hSEC hCLI hSEI hCLV hCLD hSED
 have hi := Lib.hid reg_size
 have HW := Lib.hid (spec_words_of [[67, 76, 67], [83, 69, 67], [67, 76, 73], [83, 69, 73], [67, 76, 86], [67, 76, 68], [83, 69, 68]] (by decide) (ok_words _ (by decide)) (by decide))
 obtain ⟨a, x, y, s, p, pc⟩ := k
 simp only [regI_mk]
 go_enter Tryz.func125, Tryz.ntmps125
 go_wp2_with fail
 have K0 := Lib.hid (blk_old (o := (.cells #[.int .i64 1, .int .i64 1, .int .i64 4, .int .i64 4, .int .i64 64, .int .i64 8, .int .i64 8] 3)) (blk_old (o := (.cells #[.int .i64 0, .int .i64 0, .int .i64 0, .int .i64 0, .int .i64 0, .int .i64 0] 25)) (blk_new w (.cells #[.int .i64 a, .int .i64 x, .int .i64 y, .int .i64 s, .int .i64 p, .int .i64 pc] 25))))
 have K1 := Lib.hid (blk_old (o := (.cells #[.int .i64 1, .int .i64 1, .int .i64 4, .int .i64 4, .int .i64 64, .int .i64 8, .int .i64 8] 3)) (blk_new2 w (.cells #[.int .i64 a, .int .i64 x, .int .i64 y, .int .i64 s, .int .i64 p, .int .i64 pc] 25) (.cells #[.int .i64 0, .int .i64 0, .int .i64 0, .int .i64 0, .int .i64 0, .int .i64 0] 25)))
 have K2 := blk_new2 (w.alloc (.cells #[.int .i64 a, .int .i64 x, .int .i64 y, .int .i64 s, .int .i64 p, .int .i64 pc] 25)) (.cells #[.int .i64 0, .int .i64 0, .int .i64 0, .int .i64 0, .int .i64 0, .int .i64 0] 25) (.cells #[.int .i64 1, .int .i64 1, .int .i64 4, .int .i64 4, .int .i64 64, .int .i64 8, .int .i64 8] 3)
 rw [alloc_size] at K2
 have K2 := Lib.hid K2
 have B := Lib.hid (below_alloc (below_alloc (below_alloc (Below.refl w.heap.size w) (.cells #[.int .i64 a, .int .i64 x, .int .i64 y, .int .i64 s, .int .i64 p, .int .i64 pc] 25)) (.cells #[.int .i64 0, .int .i64 0, .int .i64 0, .int .i64 0, .int .i64 0, .int .i64 0] 25)) (.cells #[.int .i64 1, .int .i64 1, .int .i64 4, .int .i64 4, .int .i64 64, .int .i64 8, .int .i64 8] 3))
 refine wp_loop_rounds 8 ?_
 rw [rounds_succ]
 go_wp2_with (go_at_call 95; refine (HW.out _).mono ?_; rintro e w1 ⟨g0, cap, rfl, hc, hb⟩; refine Hid.out ?_)
 have c0 : w1.cell? ⟨g0, 0, none⟩ = some (.string ⟨#[67, 76, 67]⟩) := hc 0 (by decide)
 have K0 := Lib.hid (blk_below K0.out hb)
 have K1 := Lib.hid (blk_below K1.out hb)
 have K2 := Lib.hid (blk_below K2.out hb)
 have B := Lib.hid (below_then B.out hb)
 clear hb hc
 refine Lib.hid ?_
 go_wp2_with fail
 clear c0
 rw [rounds_succ]
 go_wp2_with (go_at_call 95; refine (HW.out _).mono ?_; rintro e w2 ⟨g1, cap, rfl, hc, hb⟩; refine Hid.out ?_)
 have c1 : w2.cell? ⟨g1, 1, none⟩ = some (.string ⟨#[83, 69, 67]⟩) := hc 1 (by decide)
 have K0 := Lib.hid (blk_below K0.out hb)
 have K1 := Lib.hid (blk_below K1.out hb)
 have K2 := Lib.hid (blk_below K2.out hb)
 have B := Lib.hid (below_then B.out hb)
 clear hb hc
 refine Lib.hid ?_
 go_wp2_with fail
 clear c1
 rw [rounds_succ]
 go_wp2_with (go_at_call 95; refine (HW.out _).mono ?_; rintro e w3 ⟨g2, cap, rfl, hc, hb⟩; refine Hid.out ?_)
 have c2 : w3.cell? ⟨g2, 2, none⟩ = some (.string ⟨#[67, 76, 73]⟩) := hc 2 (by decide)
 have K0 := Lib.hid (blk_below K0.out hb)
 have K1 := Lib.hid (blk_below K1.out hb)
 have K2 := Lib.hid (blk_below K2.out hb)
 have B := Lib.hid (below_then B.out hb)
 clear hb hc
 refine Lib.hid ?_
 go_wp2_with fail
 clear c2
 rw [rounds_succ]
 go_wp2_with (go_at_call 95; refine (HW.out _).mono ?_; rintro e w4 ⟨g3, cap, rfl, hc, hb⟩; refine Hid.out ?_)
 have c3 : w4.cell? ⟨g3, 3, none⟩ = some (.string ⟨#[83, 69, 73]⟩) := hc 3 (by decide)
 have K0 := Lib.hid (blk_below K0.out hb)
 have K1 := Lib.hid (blk_below K1.out hb)
 have K2 := Lib.hid (blk_below K2.out hb)
 have B := Lib.hid (below_then B.out hb)
 clear hb hc
 refine Lib.hid ?_
 go_wp2_with fail
 clear c3
 rw [rounds_succ]
 go_wp2_with (go_at_call 95; refine (HW.out _).mono ?_; rintro e w5 ⟨g4, cap, rfl, hc, hb⟩; refine Hid.out ?_)
 have c4 : w5.cell? ⟨g4, 4, none⟩ = some (.string ⟨#[67, 76, 86]⟩) := hc 4 (by decide)
 have K0 := Lib.hid (blk_below K0.out hb)
 have K1 := Lib.hid (blk_below K1.out hb)
 have K2 := Lib.hid (blk_below K2.out hb)
 have B := Lib.hid (below_then B.out hb)
 clear hb hc
 refine Lib.hid ?_
 go_wp2_with fail
 clear c4
 rw [rounds_succ]
 go_wp2_with (go_at_call 95; refine (HW.out _).mono ?_; rintro e w6 ⟨g5, cap, rfl, hc, hb⟩; refine Hid.out ?_)
 have c5 : w6.cell? ⟨g5, 5, none⟩ = some (.string ⟨#[67, 76, 68]⟩) := hc 5 (by decide)
 have K0 := Lib.hid (blk_below K0.out hb)
 have K1 := Lib.hid (blk_below K1.out hb)
 have K2 := Lib.hid (blk_below K2.out hb)
 have B := Lib.hid (below_then B.out hb)
 clear hb hc
 refine Lib.hid ?_
 go_wp2_with fail
 clear c5
 rw [rounds_succ]
 go_wp2_with (go_at_call 95; refine (HW.out _).mono ?_; rintro e w7 ⟨g6, cap, rfl, hc, hb⟩; refine Hid.out ?_)
 have c6 : w7.cell? ⟨g6, 6, none⟩ = some (.string ⟨#[83, 69, 68]⟩) := hc 6 (by decide)
 have K0 := Lib.hid (blk_below K0.out hb)
 have K1 := Lib.hid (blk_below K1.out hb)
 have K2 := Lib.hid (blk_below K2.out hb)
 have B := Lib.hid (below_then B.out hb)
 clear hb hc
 refine Lib.hid ?_
 go_wp2_with fail
 clear c6
 rw [rounds_succ]
 go_wp2_with (first
  | (refine load_row rfl 25 (.tmp 2) rfl w.heap.size rfl 6 _ Tryz.underlying25 rfl hi.out (K0.out) rfl ?_)
  | (refine store_row rfl 25 (.tmp 4) (.tmp 31) rfl (w.heap.size + 1) _ rfl rfl 6 hi.out (K1.out) rfl rfl (by rfl) ?_))
 exact row_tmp_post rfl rfl rfl Tryz.underlying25 rfl reg_size rfl (setRow_heap _ _ _ _ _ _ (K1.out)) rfl ⟨rfl, below_row B.out (by omega)⟩
end Go.Proofs.YthklebkpoccblaaGreat
