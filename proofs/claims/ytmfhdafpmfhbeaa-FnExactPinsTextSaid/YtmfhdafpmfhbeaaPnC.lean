/-
  TickText of both packages (chapter 12).
  Conditions: none; old memory stays as it was.
-/
import Derived.Test.YtmfhdafpmfhbeaaPnB
import Derived.Deep.RegionHeld3
import Derived.Deep.Cut
namespace Go.Proofs.Ytmfhdafpmfhbeaa
open Go.RowKit Go.Deep Go.WideShapes Go.ChangeShapes

def two (b : Bool) (x y : UInt8) : List UInt8 := if b then [x] else [y]
theorem two_length (b : Bool) (x y : UInt8) : (two b x y).length = 1 := by cases b <;> rfl
def owL (o : Int) : List UInt8 := if o = 0 then [99] else if o = 1 then [119] else if o = 2 then [107] else [63]
theorem owL_length (o : Int) : (owL o).length = 1 := by unfold owL; (repeat' split) <;> rfl
/-- What is told of a clock. -/
def tickL (a d : Int) (wr f : Bool) (o : Int) (n i : Bool) : List UInt8 := hexl a 4 ++ [32] ++ hexl d 2 ++ [32] ++ two wr 87 82 ++ two f 70 46 ++ owL o ++ two n 110 46 ++ two i 105 46
theorem tickL_length (a d : Int) (wr f : Bool) (o : Int) (n i : Bool) : (tickL a d wr f o n i).length = 13 := by
  unfold tickL; simp [hexl_length, two_length, owL_length]
def tickC (a d : Int) (wr f : Bool) (o : Int) (n i : Bool) : Array Value := #[.int .i64 a, .int .i64 d, .bool wr, .bool f, .int .i64 o, .bool n, .bool i]
def tickV (a d : Int) (wr f : Bool) (o : Int) (n i : Bool) : Value := .agg (tickC a d wr f o n i)
/-- The sums by which the text grows, each under a name of its own. -/
def TSums (l1 l2 l3 l4 l5 l6 l7 t : List UInt8) : Prop := ∃ t1 t2 t3 t4 t5 t6 t7 : List UInt8,
  (∀ w, (Op.stringOp .add ⟨l1.toArray⟩ ⟨#[32]⟩).run Try.prog w = .ok (.string ⟨t1.toArray⟩) w) ∧
  (∀ w, (Op.stringOp .add ⟨t1.toArray⟩ ⟨l2.toArray⟩).run Try.prog w = .ok (.string ⟨t2.toArray⟩) w) ∧
  (∀ w, (Op.stringOp .add ⟨t2.toArray⟩ ⟨#[32]⟩).run Try.prog w = .ok (.string ⟨t3.toArray⟩) w) ∧
  (∀ w, (Op.stringOp .add ⟨t3.toArray⟩ ⟨l3.toArray⟩).run Try.prog w = .ok (.string ⟨t4.toArray⟩) w) ∧
  (∀ w, (Op.stringOp .add ⟨t4.toArray⟩ ⟨l4.toArray⟩).run Try.prog w = .ok (.string ⟨t5.toArray⟩) w) ∧
  (∀ w, (Op.stringOp .add ⟨t5.toArray⟩ ⟨l5.toArray⟩).run Try.prog w = .ok (.string ⟨t6.toArray⟩) w) ∧
  (∀ w, (Op.stringOp .add ⟨t6.toArray⟩ ⟨l6.toArray⟩).run Try.prog w = .ok (.string ⟨t7.toArray⟩) w) ∧
  (∀ w, (Op.stringOp .add ⟨t7.toArray⟩ ⟨l7.toArray⟩).run Try.prog w = .ok (.string ⟨t.toArray⟩) w)
theorem tsums (l1 l2 l3 l4 l5 l6 l7 : List UInt8) (h : l1.length + l2.length + l3.length + l4.length + l5.length + l6.length + l7.length ≤ 100) : TSums l1 l2 l3 l4 l5 l6 l7 (l1 ++ [32] ++ l2 ++ [32] ++ l3 ++ l4 ++ l5 ++ l6 ++ l7) := by
  refine ⟨_, _, _, _, _, _, _, add_run l1 [32] ?_, add_run _ l2 ?_, add_run _ [32] ?_, add_run _ l3 ?_, add_run _ l4 ?_, add_run _ l5 ?_, add_run _ l6 ?_, add_run _ l7 ?_⟩ <;> simp only [List.length_append, List.length_cons, List.length_nil] <;> omega
theorem two_if (so : Bool) (x y : UInt8) (w : World) : Calls Try.prog 12 #[.bool so, .string ⟨#[x]⟩, .string ⟨#[y]⟩] w fun e w' => e = .returned (.string ⟨(two so x y).toArray⟩) ∧ Below w.heap.size w w' := by
  have h := text_if so ⟨#[x]⟩ ⟨#[y]⟩ w
  cases so <;> exact h.mono fun _ _ ⟨he, hw⟩ => ⟨he, hw ▸ Below.refl _ _⟩
theorem owner_letter (o : Int) (w : World) : Calls Try.prog 17 #[.int .i64 o] w fun e w' => e = .returned (.string ⟨(owL o).toArray⟩) ∧ Below w.heap.size w w' := by
  have H : Hid (owL o = if o = 0 then [99] else if o = 1 then [119] else if o = 2 then [107] else [63]) := Lib.hid rfl
  by_cases h0 : o = 0
  · subst h0
    go_enter Try.func17, Try.ntmps17
    go_wp2
    go_ret
    exact ⟨rfl, Below.refl _ _⟩
  by_cases h1 : o = 1
  · subst h1
    go_enter Try.func17, Try.ntmps17
    go_wp2
    go_ret
    exact ⟨rfl, Below.refl _ _⟩
  by_cases h2 : o = 2
  · subst h2
    go_enter Try.func17, Try.ntmps17
    go_wp2
    go_ret
    exact ⟨rfl, Below.refl _ _⟩
  go_enter Try.func17, Try.ntmps17
  go_wp2
  go_ret
  exact ⟨by rw [H.out, if_neg h0, if_neg h1, if_neg h2]; rfl, Below.refl _ _⟩
theorem sign_of (so : Bool) (x : UInt8) (w : World) : Calls Try.prog 16 #[.bool so, .string ⟨#[x]⟩] w fun e w' => e = .returned (.string ⟨(two so x 46).toArray⟩) ∧ Below w.heap.size w w' := by
  cases so <;> go_enter Try.func16, Try.ntmps16 <;> go_wp2 <;> go_ret <;> exact ⟨rfl, Below.refl _ _⟩
theorem tick_keep {w W w1 : World} {B : Nat} {a d : Int} {wr f : Bool} {o : Int} {n i : Bool} (h : W.cell? ⟨B, 0, none⟩ = some (.int .i64 a) ∧ W.cell? ⟨B, 1, none⟩ = some (.int .i64 d) ∧ W.cell? ⟨B, 2, none⟩ = some (.bool wr) ∧ W.cell? ⟨B, 3, none⟩ = some (.bool f) ∧ W.cell? ⟨B, 4, none⟩ = some (.int .i64 o) ∧ W.cell? ⟨B, 5, none⟩ = some (.bool n) ∧ W.cell? ⟨B, 6, none⟩ = some (.bool i) ∧ B < W.heap.size ∧ Below B w W) (hb : Below W.heap.size W w1) : w1.cell? ⟨B, 0, none⟩ = some (.int .i64 a) ∧ w1.cell? ⟨B, 1, none⟩ = some (.int .i64 d) ∧ w1.cell? ⟨B, 2, none⟩ = some (.bool wr) ∧ w1.cell? ⟨B, 3, none⟩ = some (.bool f) ∧ w1.cell? ⟨B, 4, none⟩ = some (.int .i64 o) ∧ w1.cell? ⟨B, 5, none⟩ = some (.bool n) ∧ w1.cell? ⟨B, 6, none⟩ = some (.bool i) ∧ B < w1.heap.size ∧ Below B w w1 := by
  obtain ⟨h0, h1, h2, h3, h4, h5, h6, h7, h8⟩ := h
  have k : ∀ o, w1.cell? ⟨B, o, none⟩ = W.cell? ⟨B, o, none⟩ := fun o => hb.cell (p := ⟨B, o, none⟩) h7
  exact ⟨(k _).trans h0, (k _).trans h1, (k _).trans h2, (k _).trans h3, (k _).trans h4, (k _).trans h5, (k _).trans h6, Nat.lt_of_lt_of_le h7 hb.size, h8.trans (hb.mono (Nat.le_of_lt h7))⟩
theorem tick_new (w : World) (a d : Int) (wr f : Bool) (o : Int) (n i : Bool) : (w.alloc (.cells (tickC a d wr f o n i) 31)).cell? ⟨w.heap.size, 0, none⟩ = some (.int .i64 a) ∧ (w.alloc (.cells (tickC a d wr f o n i) 31)).cell? ⟨w.heap.size, 1, none⟩ = some (.int .i64 d) ∧ (w.alloc (.cells (tickC a d wr f o n i) 31)).cell? ⟨w.heap.size, 2, none⟩ = some (.bool wr) ∧ (w.alloc (.cells (tickC a d wr f o n i) 31)).cell? ⟨w.heap.size, 3, none⟩ = some (.bool f) ∧ (w.alloc (.cells (tickC a d wr f o n i) 31)).cell? ⟨w.heap.size, 4, none⟩ = some (.int .i64 o) ∧ (w.alloc (.cells (tickC a d wr f o n i) 31)).cell? ⟨w.heap.size, 5, none⟩ = some (.bool n) ∧ (w.alloc (.cells (tickC a d wr f o n i) 31)).cell? ⟨w.heap.size, 6, none⟩ = some (.bool i) ∧ w.heap.size < (w.alloc (.cells (tickC a d wr f o n i) 31)).heap.size ∧ Below w.heap.size w (w.alloc (.cells (tickC a d wr f o n i) 31)) := by
  have hb := blk_new w (.cells (tickC a d wr f o n i) 31)
  exact ⟨cell_of_blk (i := 0) hb rfl, cell_of_blk (i := 1) hb rfl, cell_of_blk (i := 2) hb rfl, cell_of_blk (i := 3) hb rfl, cell_of_blk (i := 4) hb rfl, cell_of_blk (i := 5) hb rfl, cell_of_blk (i := 6) hb rfl, by simp, below_alloc (Below.refl _ _) _⟩
set_option maxRecDepth 100000 in
set_option maxHeartbeats 4000000 in
theorem impl_tickText (a d : Int) (wr f : Bool) (o : Int) (n i : Bool) (w : World) : Calls Try.prog 10 #[tickV a d wr f o n i] w fun e w' => e = .returned (.string ⟨(tickL a d wr f o n i).toArray⟩) ∧ Below w.heap.size w w' := by
  obtain ⟨l1, e1⟩ : ∃ l, hexl a 4 = l := ⟨_, rfl⟩
  obtain ⟨l2, e2⟩ : ∃ l, hexl d 2 = l := ⟨_, rfl⟩
  obtain ⟨l3, e3⟩ : ∃ l, two wr 87 82 = l := ⟨_, rfl⟩
  obtain ⟨l4, e4⟩ : ∃ l, two f 70 46 = l := ⟨_, rfl⟩
  obtain ⟨l5, e5⟩ : ∃ l, owL o = l := ⟨_, rfl⟩
  obtain ⟨l6, e6⟩ : ∃ l, two n 110 46 = l := ⟨_, rfl⟩
  obtain ⟨l7, e7⟩ : ∃ l, two i 105 46 = l := ⟨_, rfl⟩
  have H : tickL a d wr f o n i = l1 ++ [32] ++ l2 ++ [32] ++ l3 ++ l4 ++ l5 ++ l6 ++ l7 := by rw [← e1, ← e2, ← e3, ← e4, ← e5, ← e6, ← e7]; rfl
  have hs := tsums l1 l2 l3 l4 l5 l6 l7 (by rw [← e1, ← e2, ← e3, ← e4, ← e5, ← e6, ← e7]; simp only [hexl_length, two_length, owL_length]; omega)
  obtain ⟨t, ht⟩ : ∃ t, tickL a d wr f o n i = t := ⟨_, rfl⟩
  rw [← H, ht] at hs
  clear H
  have c1 := fun w => hex_four a w
  have c2 := fun w => hex_two d w
  have c3 := fun w => two_if wr 87 82 w
  have c4 := fun w => two_if f 70 46 w
  have c5 := fun w => owner_letter o w
  have c6 := fun w => two_if n 110 46 w
  have c7 := fun w => two_if i 105 46 w
  simp only [e1] at c1
  simp only [e2] at c2
  simp only [e3] at c3
  simp only [e4] at c4
  simp only [e5] at c5
  simp only [e6] at c6
  simp only [e7] at c7
  replace c1 := Lib.hid c1
  replace c2 := Lib.hid c2
  replace c3 := Lib.hid c3
  replace c4 := Lib.hid c4
  replace c5 := Lib.hid c5
  replace c6 := Lib.hid c6
  replace c7 := Lib.hid c7
  clear e1 e2 e3 e4 e5 e6 e7
  replace ht := Lib.hid ht
  obtain ⟨t1, t2, t3, t4, t5, t6, t7, a1, a2, a3, a4, a5, a6, a7, a8⟩ := hs
  unfold tickV tickC
  go_enter Try.func10, Try.ntmps10
  go_wp2
  obtain ⟨g0, g1, g2, g3, g4, g5, g6, g7, g8⟩ := tick_new w a d wr f o n i
  unfold tickC at *
  go_region_held3 (fun w' => w'.cell? ⟨w.heap.size, 0, none⟩ = some (.int .i64 a) ∧ w'.cell? ⟨w.heap.size, 1, none⟩ = some (.int .i64 d) ∧ w'.cell? ⟨w.heap.size, 2, none⟩ = some (.bool wr) ∧ w'.cell? ⟨w.heap.size, 3, none⟩ = some (.bool f) ∧ w'.cell? ⟨w.heap.size, 4, none⟩ = some (.int .i64 o) ∧ w'.cell? ⟨w.heap.size, 5, none⟩ = some (.bool n) ∧ w'.cell? ⟨w.heap.size, 6, none⟩ = some (.bool i) ∧ w.heap.size < w'.heap.size ∧ Below w.heap.size w w')
    (first | exact ⟨g0, g1, g2, g3, g4, g5, g6, g7, drew_below g8⟩ | exact tick_keep (by assumption) hb1 | go_keep)
    (first | (go_at_call 14; (with_reducible refine (c1.out _).mono ?_); rintro e w1 ⟨rfl, hb1⟩) | (go_at_call 14; (with_reducible refine (c2.out _).mono ?_); rintro e w1 ⟨rfl, hb1⟩) | (go_at_call 12; (with_reducible refine (c3.out _).mono ?_); rintro e w1 ⟨rfl, hb1⟩) | (go_at_call 12; (with_reducible refine (c4.out _).mono ?_); rintro e w1 ⟨rfl, hb1⟩) | (go_at_call 17; (with_reducible refine (c5.out _).mono ?_); rintro e w1 ⟨rfl, hb1⟩) | (go_at_call 12; (with_reducible refine (c6.out _).mono ?_); rintro e w1 ⟨rfl, hb1⟩) | (go_at_call 12; (with_reducible refine (c7.out _).mono ?_); rintro e w1 ⟨rfl, hb1⟩))
  rename_i hH
  obtain ⟨_, _, _, _, _, _, _, _, hb2⟩ := hH
  clear g0 g1 g2 g3 g4 g5 g6 g7 g8
  go_wp2
  go_ret
  exact ⟨by rw [ht.out]; rfl, hb2⟩
set_option maxRecDepth 100000 in
set_option maxHeartbeats 4000000 in
theorem spec_tickText (a d : Int) (wr f : Bool) (o : Int) (n i : Bool) (w : World) : Calls Try.prog 8 #[tickV a d wr f o n i] w fun e w' => e = .returned (.string ⟨(tickL a d wr f o n i).toArray⟩) ∧ Below w.heap.size w w' := by
  obtain ⟨l1, e1⟩ : ∃ l, hexl a 4 = l := ⟨_, rfl⟩
  obtain ⟨l2, e2⟩ : ∃ l, hexl d 2 = l := ⟨_, rfl⟩
  obtain ⟨l3, e3⟩ : ∃ l, two wr 87 82 = l := ⟨_, rfl⟩
  obtain ⟨l4, e4⟩ : ∃ l, two f 70 46 = l := ⟨_, rfl⟩
  obtain ⟨l5, e5⟩ : ∃ l, owL o = l := ⟨_, rfl⟩
  obtain ⟨l6, e6⟩ : ∃ l, two n 110 46 = l := ⟨_, rfl⟩
  obtain ⟨l7, e7⟩ : ∃ l, two i 105 46 = l := ⟨_, rfl⟩
  have H : tickL a d wr f o n i = l1 ++ [32] ++ l2 ++ [32] ++ l3 ++ l4 ++ l5 ++ l6 ++ l7 := by rw [← e1, ← e2, ← e3, ← e4, ← e5, ← e6, ← e7]; rfl
  have hs := tsums l1 l2 l3 l4 l5 l6 l7 (by rw [← e1, ← e2, ← e3, ← e4, ← e5, ← e6, ← e7]; simp only [hexl_length, two_length, owL_length]; omega)
  obtain ⟨t, ht⟩ : ∃ t, tickL a d wr f o n i = t := ⟨_, rfl⟩
  rw [← H, ht] at hs
  clear H
  have c1 := fun w => shex_four a w
  have c2 := fun w => shex_two d w
  have c4 := fun w => sign_of f 70 w
  have c6 := fun w => sign_of n 110 w
  have c7 := fun w => sign_of i 105 w
  simp only [e1] at c1
  simp only [e2] at c2
  simp only [e4] at c4
  simp only [e6] at c6
  simp only [e7] at c7
  replace c1 := Lib.hid c1
  replace c2 := Lib.hid c2
  replace c4 := Lib.hid c4
  replace c6 := Lib.hid c6
  replace c7 := Lib.hid c7
  clear e1 e2 e4 e6 e7
  replace ht := Lib.hid ht
  obtain ⟨t1, t2, t3, t4, t5, t6, t7, a1, a2, a3, a4, a5, a6, a7, a8⟩ := hs
  unfold tickV
  by_cases h0 : o = 0
  · subst h0
    have ein := Lib.hid (fun w => hx_in_yes 0 0 2 w (by decide) (by decide))
    have e5' : l5 = [99] := by rw [← e5]; rfl
    clear e5
    subst e5'
    have ex : (ByteArray.mk #[99, 119, 107]).extract 0 1 = ⟨#[99]⟩ := by decide
    cases wr
    · have e3' : l3 = [82] := by rw [← e3]; rfl
      clear e3
      subst e3'
      obtain ⟨g0, g1, g2, g3, g4, g5, g6, g7, g8⟩ := tick_new w a d false f 0 n i
      unfold tickC at *
      go_enter Try.func8, Try.ntmps8
      go_upto_region 7 with (go_at_call 15; refine (ein.out _).mono ?_; rintro e w' ⟨rfl, rfl⟩)
      go_region_held3 (fun w' => w'.cell? ⟨w.heap.size, 0, none⟩ = some (.int .i64 a) ∧ w'.cell? ⟨w.heap.size, 1, none⟩ = some (.int .i64 d) ∧ w'.cell? ⟨w.heap.size, 2, none⟩ = some (.bool false) ∧ w'.cell? ⟨w.heap.size, 3, none⟩ = some (.bool f) ∧ w'.cell? ⟨w.heap.size, 4, none⟩ = some (.int .i64 0) ∧ w'.cell? ⟨w.heap.size, 5, none⟩ = some (.bool n) ∧ w'.cell? ⟨w.heap.size, 6, none⟩ = some (.bool i) ∧ w.heap.size < w'.heap.size ∧ Below w.heap.size w w')
    (first | exact ⟨g0, g1, g2, g3, g4, g5, g6, g7, drew_below g8⟩ | exact tick_keep (by assumption) hb1 | go_keep)
    (first | (go_at_call 11; (with_reducible refine (c1.out _).mono ?_); rintro e w1 ⟨rfl, hb1⟩) | (go_at_call 11; (with_reducible refine (c2.out _).mono ?_); rintro e w1 ⟨rfl, hb1⟩) | (go_at_call 16; (with_reducible refine (c4.out _).mono ?_); rintro e w1 ⟨rfl, hb1⟩) | (go_at_call 16; (with_reducible refine (c6.out _).mono ?_); rintro e w1 ⟨rfl, hb1⟩) | (go_at_call 16; (with_reducible refine (c7.out _).mono ?_); rintro e w1 ⟨rfl, hb1⟩))
      rename_i hH
      obtain ⟨_, _, _, _, _, _, _, _, hb2⟩ := hH
      clear g0 g1 g2 g3 g4 g5 g6 g7 g8
      go_wp2
      go_ret
      exact ⟨by rw [ht.out]; rfl, hb2⟩
    · have e3' : l3 = [87] := by rw [← e3]; rfl
      clear e3
      subst e3'
      obtain ⟨g0, g1, g2, g3, g4, g5, g6, g7, g8⟩ := tick_new w a d true f 0 n i
      unfold tickC at *
      go_enter Try.func8, Try.ntmps8
      go_upto_region 7 with (go_at_call 15; refine (ein.out _).mono ?_; rintro e w' ⟨rfl, rfl⟩)
      go_region_held3 (fun w' => w'.cell? ⟨w.heap.size, 0, none⟩ = some (.int .i64 a) ∧ w'.cell? ⟨w.heap.size, 1, none⟩ = some (.int .i64 d) ∧ w'.cell? ⟨w.heap.size, 2, none⟩ = some (.bool true) ∧ w'.cell? ⟨w.heap.size, 3, none⟩ = some (.bool f) ∧ w'.cell? ⟨w.heap.size, 4, none⟩ = some (.int .i64 0) ∧ w'.cell? ⟨w.heap.size, 5, none⟩ = some (.bool n) ∧ w'.cell? ⟨w.heap.size, 6, none⟩ = some (.bool i) ∧ w.heap.size < w'.heap.size ∧ Below w.heap.size w w')
    (first | exact ⟨g0, g1, g2, g3, g4, g5, g6, g7, drew_below g8⟩ | exact tick_keep (by assumption) hb1 | go_keep)
    (first | (go_at_call 11; (with_reducible refine (c1.out _).mono ?_); rintro e w1 ⟨rfl, hb1⟩) | (go_at_call 11; (with_reducible refine (c2.out _).mono ?_); rintro e w1 ⟨rfl, hb1⟩) | (go_at_call 16; (with_reducible refine (c4.out _).mono ?_); rintro e w1 ⟨rfl, hb1⟩) | (go_at_call 16; (with_reducible refine (c6.out _).mono ?_); rintro e w1 ⟨rfl, hb1⟩) | (go_at_call 16; (with_reducible refine (c7.out _).mono ?_); rintro e w1 ⟨rfl, hb1⟩))
      rename_i hH
      obtain ⟨_, _, _, _, _, _, _, _, hb2⟩ := hH
      clear g0 g1 g2 g3 g4 g5 g6 g7 g8
      go_wp2
      go_ret
      exact ⟨by rw [ht.out]; rfl, hb2⟩
  by_cases h1 : o = 1
  · subst h1
    have ein := Lib.hid (fun w => hx_in_yes 1 0 2 w (by decide) (by decide))
    have e5' : l5 = [119] := by rw [← e5]; rfl
    clear e5
    subst e5'
    have ex : (ByteArray.mk #[99, 119, 107]).extract 1 2 = ⟨#[119]⟩ := by decide
    cases wr
    · have e3' : l3 = [82] := by rw [← e3]; rfl
      clear e3
      subst e3'
      obtain ⟨g0, g1, g2, g3, g4, g5, g6, g7, g8⟩ := tick_new w a d false f 1 n i
      unfold tickC at *
      go_enter Try.func8, Try.ntmps8
      go_upto_region 7 with (go_at_call 15; refine (ein.out _).mono ?_; rintro e w' ⟨rfl, rfl⟩)
      go_region_held3 (fun w' => w'.cell? ⟨w.heap.size, 0, none⟩ = some (.int .i64 a) ∧ w'.cell? ⟨w.heap.size, 1, none⟩ = some (.int .i64 d) ∧ w'.cell? ⟨w.heap.size, 2, none⟩ = some (.bool false) ∧ w'.cell? ⟨w.heap.size, 3, none⟩ = some (.bool f) ∧ w'.cell? ⟨w.heap.size, 4, none⟩ = some (.int .i64 1) ∧ w'.cell? ⟨w.heap.size, 5, none⟩ = some (.bool n) ∧ w'.cell? ⟨w.heap.size, 6, none⟩ = some (.bool i) ∧ w.heap.size < w'.heap.size ∧ Below w.heap.size w w')
    (first | exact ⟨g0, g1, g2, g3, g4, g5, g6, g7, drew_below g8⟩ | exact tick_keep (by assumption) hb1 | go_keep)
    (first | (go_at_call 11; (with_reducible refine (c1.out _).mono ?_); rintro e w1 ⟨rfl, hb1⟩) | (go_at_call 11; (with_reducible refine (c2.out _).mono ?_); rintro e w1 ⟨rfl, hb1⟩) | (go_at_call 16; (with_reducible refine (c4.out _).mono ?_); rintro e w1 ⟨rfl, hb1⟩) | (go_at_call 16; (with_reducible refine (c6.out _).mono ?_); rintro e w1 ⟨rfl, hb1⟩) | (go_at_call 16; (with_reducible refine (c7.out _).mono ?_); rintro e w1 ⟨rfl, hb1⟩))
      rename_i hH
      obtain ⟨_, _, _, _, _, _, _, _, hb2⟩ := hH
      clear g0 g1 g2 g3 g4 g5 g6 g7 g8
      go_wp2
      go_ret
      exact ⟨by rw [ht.out]; rfl, hb2⟩
    · have e3' : l3 = [87] := by rw [← e3]; rfl
      clear e3
      subst e3'
      obtain ⟨g0, g1, g2, g3, g4, g5, g6, g7, g8⟩ := tick_new w a d true f 1 n i
      unfold tickC at *
      go_enter Try.func8, Try.ntmps8
      go_upto_region 7 with (go_at_call 15; refine (ein.out _).mono ?_; rintro e w' ⟨rfl, rfl⟩)
      go_region_held3 (fun w' => w'.cell? ⟨w.heap.size, 0, none⟩ = some (.int .i64 a) ∧ w'.cell? ⟨w.heap.size, 1, none⟩ = some (.int .i64 d) ∧ w'.cell? ⟨w.heap.size, 2, none⟩ = some (.bool true) ∧ w'.cell? ⟨w.heap.size, 3, none⟩ = some (.bool f) ∧ w'.cell? ⟨w.heap.size, 4, none⟩ = some (.int .i64 1) ∧ w'.cell? ⟨w.heap.size, 5, none⟩ = some (.bool n) ∧ w'.cell? ⟨w.heap.size, 6, none⟩ = some (.bool i) ∧ w.heap.size < w'.heap.size ∧ Below w.heap.size w w')
    (first | exact ⟨g0, g1, g2, g3, g4, g5, g6, g7, drew_below g8⟩ | exact tick_keep (by assumption) hb1 | go_keep)
    (first | (go_at_call 11; (with_reducible refine (c1.out _).mono ?_); rintro e w1 ⟨rfl, hb1⟩) | (go_at_call 11; (with_reducible refine (c2.out _).mono ?_); rintro e w1 ⟨rfl, hb1⟩) | (go_at_call 16; (with_reducible refine (c4.out _).mono ?_); rintro e w1 ⟨rfl, hb1⟩) | (go_at_call 16; (with_reducible refine (c6.out _).mono ?_); rintro e w1 ⟨rfl, hb1⟩) | (go_at_call 16; (with_reducible refine (c7.out _).mono ?_); rintro e w1 ⟨rfl, hb1⟩))
      rename_i hH
      obtain ⟨_, _, _, _, _, _, _, _, hb2⟩ := hH
      clear g0 g1 g2 g3 g4 g5 g6 g7 g8
      go_wp2
      go_ret
      exact ⟨by rw [ht.out]; rfl, hb2⟩
  by_cases h2 : o = 2
  · subst h2
    have ein := Lib.hid (fun w => hx_in_yes 2 0 2 w (by decide) (by decide))
    have e5' : l5 = [107] := by rw [← e5]; rfl
    clear e5
    subst e5'
    have ex : (ByteArray.mk #[99, 119, 107]).extract 2 3 = ⟨#[107]⟩ := by decide
    cases wr
    · have e3' : l3 = [82] := by rw [← e3]; rfl
      clear e3
      subst e3'
      obtain ⟨g0, g1, g2, g3, g4, g5, g6, g7, g8⟩ := tick_new w a d false f 2 n i
      unfold tickC at *
      go_enter Try.func8, Try.ntmps8
      go_upto_region 7 with (go_at_call 15; refine (ein.out _).mono ?_; rintro e w' ⟨rfl, rfl⟩)
      go_region_held3 (fun w' => w'.cell? ⟨w.heap.size, 0, none⟩ = some (.int .i64 a) ∧ w'.cell? ⟨w.heap.size, 1, none⟩ = some (.int .i64 d) ∧ w'.cell? ⟨w.heap.size, 2, none⟩ = some (.bool false) ∧ w'.cell? ⟨w.heap.size, 3, none⟩ = some (.bool f) ∧ w'.cell? ⟨w.heap.size, 4, none⟩ = some (.int .i64 2) ∧ w'.cell? ⟨w.heap.size, 5, none⟩ = some (.bool n) ∧ w'.cell? ⟨w.heap.size, 6, none⟩ = some (.bool i) ∧ w.heap.size < w'.heap.size ∧ Below w.heap.size w w')
    (first | exact ⟨g0, g1, g2, g3, g4, g5, g6, g7, drew_below g8⟩ | exact tick_keep (by assumption) hb1 | go_keep)
    (first | (go_at_call 11; (with_reducible refine (c1.out _).mono ?_); rintro e w1 ⟨rfl, hb1⟩) | (go_at_call 11; (with_reducible refine (c2.out _).mono ?_); rintro e w1 ⟨rfl, hb1⟩) | (go_at_call 16; (with_reducible refine (c4.out _).mono ?_); rintro e w1 ⟨rfl, hb1⟩) | (go_at_call 16; (with_reducible refine (c6.out _).mono ?_); rintro e w1 ⟨rfl, hb1⟩) | (go_at_call 16; (with_reducible refine (c7.out _).mono ?_); rintro e w1 ⟨rfl, hb1⟩))
      rename_i hH
      obtain ⟨_, _, _, _, _, _, _, _, hb2⟩ := hH
      clear g0 g1 g2 g3 g4 g5 g6 g7 g8
      go_wp2
      go_ret
      exact ⟨by rw [ht.out]; rfl, hb2⟩
    · have e3' : l3 = [87] := by rw [← e3]; rfl
      clear e3
      subst e3'
      obtain ⟨g0, g1, g2, g3, g4, g5, g6, g7, g8⟩ := tick_new w a d true f 2 n i
      unfold tickC at *
      go_enter Try.func8, Try.ntmps8
      go_upto_region 7 with (go_at_call 15; refine (ein.out _).mono ?_; rintro e w' ⟨rfl, rfl⟩)
      go_region_held3 (fun w' => w'.cell? ⟨w.heap.size, 0, none⟩ = some (.int .i64 a) ∧ w'.cell? ⟨w.heap.size, 1, none⟩ = some (.int .i64 d) ∧ w'.cell? ⟨w.heap.size, 2, none⟩ = some (.bool true) ∧ w'.cell? ⟨w.heap.size, 3, none⟩ = some (.bool f) ∧ w'.cell? ⟨w.heap.size, 4, none⟩ = some (.int .i64 2) ∧ w'.cell? ⟨w.heap.size, 5, none⟩ = some (.bool n) ∧ w'.cell? ⟨w.heap.size, 6, none⟩ = some (.bool i) ∧ w.heap.size < w'.heap.size ∧ Below w.heap.size w w')
    (first | exact ⟨g0, g1, g2, g3, g4, g5, g6, g7, drew_below g8⟩ | exact tick_keep (by assumption) hb1 | go_keep)
    (first | (go_at_call 11; (with_reducible refine (c1.out _).mono ?_); rintro e w1 ⟨rfl, hb1⟩) | (go_at_call 11; (with_reducible refine (c2.out _).mono ?_); rintro e w1 ⟨rfl, hb1⟩) | (go_at_call 16; (with_reducible refine (c4.out _).mono ?_); rintro e w1 ⟨rfl, hb1⟩) | (go_at_call 16; (with_reducible refine (c6.out _).mono ?_); rintro e w1 ⟨rfl, hb1⟩) | (go_at_call 16; (with_reducible refine (c7.out _).mono ?_); rintro e w1 ⟨rfl, hb1⟩))
      rename_i hH
      obtain ⟨_, _, _, _, _, _, _, _, hb2⟩ := hH
      clear g0 g1 g2 g3 g4 g5 g6 g7 g8
      go_wp2
      go_ret
      exact ⟨by rw [ht.out]; rfl, hb2⟩
  have ein := Lib.hid (fun w => hx_in_no o 0 2 w (by omega))
  have e5' : l5 = [63] := by rw [← e5]; unfold owL; rw [if_neg h0, if_neg h1, if_neg h2]
  clear e5
  subst e5'
  cases wr
  · have e3' : l3 = [82] := by rw [← e3]; rfl
    clear e3
    subst e3'
    obtain ⟨g0, g1, g2, g3, g4, g5, g6, g7, g8⟩ := tick_new w a d false f o n i
    unfold tickC at *
    go_enter Try.func8, Try.ntmps8
    go_upto_region 7 with (go_at_call 15; refine (ein.out _).mono ?_; rintro e w' ⟨rfl, rfl⟩)
    go_region_held3 (fun w' => w'.cell? ⟨w.heap.size, 0, none⟩ = some (.int .i64 a) ∧ w'.cell? ⟨w.heap.size, 1, none⟩ = some (.int .i64 d) ∧ w'.cell? ⟨w.heap.size, 2, none⟩ = some (.bool false) ∧ w'.cell? ⟨w.heap.size, 3, none⟩ = some (.bool f) ∧ w'.cell? ⟨w.heap.size, 4, none⟩ = some (.int .i64 o) ∧ w'.cell? ⟨w.heap.size, 5, none⟩ = some (.bool n) ∧ w'.cell? ⟨w.heap.size, 6, none⟩ = some (.bool i) ∧ w.heap.size < w'.heap.size ∧ Below w.heap.size w w')
    (first | exact ⟨g0, g1, g2, g3, g4, g5, g6, g7, drew_below g8⟩ | exact tick_keep (by assumption) hb1 | go_keep)
    (first | (go_at_call 11; (with_reducible refine (c1.out _).mono ?_); rintro e w1 ⟨rfl, hb1⟩) | (go_at_call 11; (with_reducible refine (c2.out _).mono ?_); rintro e w1 ⟨rfl, hb1⟩) | (go_at_call 16; (with_reducible refine (c4.out _).mono ?_); rintro e w1 ⟨rfl, hb1⟩) | (go_at_call 16; (with_reducible refine (c6.out _).mono ?_); rintro e w1 ⟨rfl, hb1⟩) | (go_at_call 16; (with_reducible refine (c7.out _).mono ?_); rintro e w1 ⟨rfl, hb1⟩))
    rename_i hH
    obtain ⟨_, _, _, _, _, _, _, _, hb2⟩ := hH
    clear g0 g1 g2 g3 g4 g5 g6 g7 g8
    go_wp2
    go_ret
    exact ⟨by rw [ht.out]; rfl, hb2⟩
  · have e3' : l3 = [87] := by rw [← e3]; rfl
    clear e3
    subst e3'
    obtain ⟨g0, g1, g2, g3, g4, g5, g6, g7, g8⟩ := tick_new w a d true f o n i
    unfold tickC at *
    go_enter Try.func8, Try.ntmps8
    go_upto_region 7 with (go_at_call 15; refine (ein.out _).mono ?_; rintro e w' ⟨rfl, rfl⟩)
    go_region_held3 (fun w' => w'.cell? ⟨w.heap.size, 0, none⟩ = some (.int .i64 a) ∧ w'.cell? ⟨w.heap.size, 1, none⟩ = some (.int .i64 d) ∧ w'.cell? ⟨w.heap.size, 2, none⟩ = some (.bool true) ∧ w'.cell? ⟨w.heap.size, 3, none⟩ = some (.bool f) ∧ w'.cell? ⟨w.heap.size, 4, none⟩ = some (.int .i64 o) ∧ w'.cell? ⟨w.heap.size, 5, none⟩ = some (.bool n) ∧ w'.cell? ⟨w.heap.size, 6, none⟩ = some (.bool i) ∧ w.heap.size < w'.heap.size ∧ Below w.heap.size w w')
    (first | exact ⟨g0, g1, g2, g3, g4, g5, g6, g7, drew_below g8⟩ | exact tick_keep (by assumption) hb1 | go_keep)
    (first | (go_at_call 11; (with_reducible refine (c1.out _).mono ?_); rintro e w1 ⟨rfl, hb1⟩) | (go_at_call 11; (with_reducible refine (c2.out _).mono ?_); rintro e w1 ⟨rfl, hb1⟩) | (go_at_call 16; (with_reducible refine (c4.out _).mono ?_); rintro e w1 ⟨rfl, hb1⟩) | (go_at_call 16; (with_reducible refine (c6.out _).mono ?_); rintro e w1 ⟨rfl, hb1⟩) | (go_at_call 16; (with_reducible refine (c7.out _).mono ?_); rintro e w1 ⟨rfl, hb1⟩))
    rename_i hH
    obtain ⟨_, _, _, _, _, _, _, _, hb2⟩ := hH
    clear g0 g1 g2 g3 g4 g5 g6 g7 g8
    go_wp2
    go_ret
    exact ⟨by rw [ht.out]; rfl, hb2⟩
end Go.Proofs.Ytmfhdafpmfhbeaa
