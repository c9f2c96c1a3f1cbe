/-
  The clocks of an instruction (chapter 9, the program).
  Conditions: as each says; each walk leaves old memory as it was.
-/
import Derived.Test.YtfkllcbjakhbdaaWpA
namespace Go.Proofs.Ytfkllcbjakhbdaa
open Go.RowKit
theorem opOf_size9 (n : Int) : (opOf n).1.size ≤ maxLen := by
  unfold opOf maxLen
  split
  · rename_i r h
    obtain ⟨_, h1, h2⟩ := rows_ok r (List.mem_of_find?_eq_some h)
    unfold nmR
    simp only [bsize]
    omega
  · decide
theorem op_size9 : (Try.prog.info? 38).map (·.size) = some 2 := by kernel_rfl
set_option maxRecDepth 100000 in
set_option maxHeartbeats 4000000 in
theorem impl_clk_abx (n K O M : Int) (a : ByteArray) (cross taken : Bool) (hO : 2 ≤ O ∧ O ≤ 7) (hM : 2 ≤ M ∧ M ≤ 6) (hK : K = 0 ∨ K = 1 ∨ K = 2 ∨ K = 3)
    (h1 : ∀ w, Calls Try.prog 24 #[.int .i64 n] w fun e w' => e = .returned (.agg #[.string a, .string ⟨#[97, 98, 120]⟩]) ∧ Below w.heap.size w w')
    (h2 : ∀ w, Calls Try.prog 20 #[.agg #[.string a, .string ⟨#[97, 98, 120]⟩]] w fun e w' => e = .returned (.int .i64 K) ∧ Below w.heap.size w w')
    (h3 : ∀ w, Calls Try.prog 48 #[.agg #[.string a, .string ⟨#[97, 98, 120]⟩]] w fun e w' => e = .returned (.int .i64 O) ∧ Below w.heap.size w w')
    (h4 : ∀ w, Calls Try.prog 49 #[.string ⟨#[97, 98, 120]⟩] w fun e w' => e = .returned (.int .i64 M) ∧ w = w') (w : World) :
    Calls Try.prog 28 #[.int .i64 n, .bool cross, .bool taken] w fun e w' => e = .returned (.int .i64 (clkP ⟨#[97, 98, 120]⟩ K O M cross taken)) ∧ Below w.heap.size w w' := by
  have hi := Lib.hid op_size9
  replace h1 := Lib.hid h1
  replace h2 := Lib.hid h2
  replace h3 := Lib.hid h3
  replace h4 := Lib.hid h4
  rw [show clkP ⟨#[97, 98, 120]⟩ K O M cross taken = (if K = 3 then O else M) + (if cross = true ∨ ¬ K = 0 then 1 else 0) + (if K = 2 then 2 else 0) from rfl]
  rcases hK with rfl | rfl | rfl | rfl
  all_goals cases cross
  all_goals
    go_enter Try.func28, Try.ntmps28
    go_wp2_with (go_at_call 24; refine (h1.out _).mono ?_; rintro e w1 ⟨rfl, hb⟩; refine Hid.out ?_)
    have B := Lib.hid (below_alloc hb (.cells #[.string a, .string ⟨#[97, 98, 120]⟩] 38))
    have Z := Lib.hid (blk_new w1 (.cells #[.string a, .string ⟨#[97, 98, 120]⟩] 38))
    clear hb
    refine Lib.hid ?_
    go_wp2_with (go_at_call 20; refine (h2.out _).mono ?_; rintro e w2 ⟨rfl, hb⟩; refine Hid.out ?_)
    have Z := Lib.hid (blk_below Z.out hb)
    have B := Lib.hid (B.out.trans (hb.mono B.out.size))
    clear hb
    refine Lib.hid ?_
    go_wp2_with (first | (refine load_row rfl 38 (.tmp 7) rfl w1.heap.size rfl 2 _ Try.underlying38 rfl hi.out Z.out rfl ?_) | (go_at_call 48; refine (h3.out _).mono ?_; rintro e w3 ⟨rfl, hb⟩; refine Hid.out ?_))
    have Z := blk_below Z.out hb
    have B := Lib.hid (B.out.trans (hb.mono B.out.size))
    have c1 := cell_of_blk (i := 1) Z rfl
    have f1 := free_of_blk (i := 1) Z
    clear hb Z
    refine Lib.hid ?_
    go_wp2_with (go_at_call 49; refine (h4.out _).mono ?_; rintro e w4 ⟨rfl, rfl⟩)
    go_ret
    exact ⟨by simp; try omega, B.out⟩
set_option maxRecDepth 100000 in
set_option maxHeartbeats 4000000 in
theorem impl_clk_aby (n K O M : Int) (a : ByteArray) (cross taken : Bool) (hO : 2 ≤ O ∧ O ≤ 7) (hM : 2 ≤ M ∧ M ≤ 6) (hK : K = 0 ∨ K = 1 ∨ K = 2 ∨ K = 3)
    (h1 : ∀ w, Calls Try.prog 24 #[.int .i64 n] w fun e w' => e = .returned (.agg #[.string a, .string ⟨#[97, 98, 121]⟩]) ∧ Below w.heap.size w w')
    (h2 : ∀ w, Calls Try.prog 20 #[.agg #[.string a, .string ⟨#[97, 98, 121]⟩]] w fun e w' => e = .returned (.int .i64 K) ∧ Below w.heap.size w w')
    (h3 : ∀ w, Calls Try.prog 48 #[.agg #[.string a, .string ⟨#[97, 98, 121]⟩]] w fun e w' => e = .returned (.int .i64 O) ∧ Below w.heap.size w w')
    (h4 : ∀ w, Calls Try.prog 49 #[.string ⟨#[97, 98, 121]⟩] w fun e w' => e = .returned (.int .i64 M) ∧ w = w') (w : World) :
    Calls Try.prog 28 #[.int .i64 n, .bool cross, .bool taken] w fun e w' => e = .returned (.int .i64 (clkP ⟨#[97, 98, 121]⟩ K O M cross taken)) ∧ Below w.heap.size w w' := by
  have hi := Lib.hid op_size9
  replace h1 := Lib.hid h1
  replace h2 := Lib.hid h2
  replace h3 := Lib.hid h3
  replace h4 := Lib.hid h4
  rw [show clkP ⟨#[97, 98, 121]⟩ K O M cross taken = (if K = 3 then O else M) + (if cross = true ∨ ¬ K = 0 then 1 else 0) + (if K = 2 then 2 else 0) from rfl]
  rcases hK with rfl | rfl | rfl | rfl
  all_goals cases cross
  all_goals
    go_enter Try.func28, Try.ntmps28
    go_wp2_with (go_at_call 24; refine (h1.out _).mono ?_; rintro e w1 ⟨rfl, hb⟩; refine Hid.out ?_)
    have B := Lib.hid (below_alloc hb (.cells #[.string a, .string ⟨#[97, 98, 121]⟩] 38))
    have Z := Lib.hid (blk_new w1 (.cells #[.string a, .string ⟨#[97, 98, 121]⟩] 38))
    clear hb
    refine Lib.hid ?_
    go_wp2_with (go_at_call 20; refine (h2.out _).mono ?_; rintro e w2 ⟨rfl, hb⟩; refine Hid.out ?_)
    have Z := Lib.hid (blk_below Z.out hb)
    have B := Lib.hid (B.out.trans (hb.mono B.out.size))
    clear hb
    refine Lib.hid ?_
    go_wp2_with (first | (refine load_row rfl 38 (.tmp 7) rfl w1.heap.size rfl 2 _ Try.underlying38 rfl hi.out Z.out rfl ?_) | (go_at_call 48; refine (h3.out _).mono ?_; rintro e w3 ⟨rfl, hb⟩; refine Hid.out ?_))
    have Z := blk_below Z.out hb
    have B := Lib.hid (B.out.trans (hb.mono B.out.size))
    have c1 := cell_of_blk (i := 1) Z rfl
    have f1 := free_of_blk (i := 1) Z
    clear hb Z
    refine Lib.hid ?_
    go_wp2_with (go_at_call 49; refine (h4.out _).mono ?_; rintro e w4 ⟨rfl, rfl⟩)
    go_ret
    exact ⟨by simp; try omega, B.out⟩
set_option maxRecDepth 100000 in
set_option maxHeartbeats 4000000 in
theorem impl_clk_iny (n K O M : Int) (a : ByteArray) (cross taken : Bool) (hO : 2 ≤ O ∧ O ≤ 7) (hM : 2 ≤ M ∧ M ≤ 6) (hK : K = 0 ∨ K = 1 ∨ K = 2 ∨ K = 3)
    (h1 : ∀ w, Calls Try.prog 24 #[.int .i64 n] w fun e w' => e = .returned (.agg #[.string a, .string ⟨#[105, 110, 121]⟩]) ∧ Below w.heap.size w w')
    (h2 : ∀ w, Calls Try.prog 20 #[.agg #[.string a, .string ⟨#[105, 110, 121]⟩]] w fun e w' => e = .returned (.int .i64 K) ∧ Below w.heap.size w w')
    (h3 : ∀ w, Calls Try.prog 48 #[.agg #[.string a, .string ⟨#[105, 110, 121]⟩]] w fun e w' => e = .returned (.int .i64 O) ∧ Below w.heap.size w w')
    (h4 : ∀ w, Calls Try.prog 49 #[.string ⟨#[105, 110, 121]⟩] w fun e w' => e = .returned (.int .i64 M) ∧ w = w') (w : World) :
    Calls Try.prog 28 #[.int .i64 n, .bool cross, .bool taken] w fun e w' => e = .returned (.int .i64 (clkP ⟨#[105, 110, 121]⟩ K O M cross taken)) ∧ Below w.heap.size w w' := by
  have hi := Lib.hid op_size9
  replace h1 := Lib.hid h1
  replace h2 := Lib.hid h2
  replace h3 := Lib.hid h3
  replace h4 := Lib.hid h4
  rw [show clkP ⟨#[105, 110, 121]⟩ K O M cross taken = (if K = 3 then O else M) + (if cross = true ∨ ¬ K = 0 then 1 else 0) + (if K = 2 then 2 else 0) from rfl]
  rcases hK with rfl | rfl | rfl | rfl
  all_goals cases cross
  all_goals
    go_enter Try.func28, Try.ntmps28
    go_wp2_with (go_at_call 24; refine (h1.out _).mono ?_; rintro e w1 ⟨rfl, hb⟩; refine Hid.out ?_)
    have B := Lib.hid (below_alloc hb (.cells #[.string a, .string ⟨#[105, 110, 121]⟩] 38))
    have Z := Lib.hid (blk_new w1 (.cells #[.string a, .string ⟨#[105, 110, 121]⟩] 38))
    clear hb
    refine Lib.hid ?_
    go_wp2_with (go_at_call 20; refine (h2.out _).mono ?_; rintro e w2 ⟨rfl, hb⟩; refine Hid.out ?_)
    have Z := Lib.hid (blk_below Z.out hb)
    have B := Lib.hid (B.out.trans (hb.mono B.out.size))
    clear hb
    refine Lib.hid ?_
    go_wp2_with (first | (refine load_row rfl 38 (.tmp 7) rfl w1.heap.size rfl 2 _ Try.underlying38 rfl hi.out Z.out rfl ?_) | (go_at_call 48; refine (h3.out _).mono ?_; rintro e w3 ⟨rfl, hb⟩; refine Hid.out ?_))
    have Z := blk_below Z.out hb
    have B := Lib.hid (B.out.trans (hb.mono B.out.size))
    have c1 := cell_of_blk (i := 1) Z rfl
    have f1 := free_of_blk (i := 1) Z
    clear hb Z
    refine Lib.hid ?_
    go_wp2_with (go_at_call 49; refine (h4.out _).mono ?_; rintro e w4 ⟨rfl, rfl⟩)
    go_ret
    exact ⟨by simp; try omega, B.out⟩
set_option maxRecDepth 100000 in
set_option maxHeartbeats 4000000 in
theorem impl_clk_rel (n K O M : Int) (a : ByteArray) (cross taken : Bool) (hO : 2 ≤ O ∧ O ≤ 7) (hM : 2 ≤ M ∧ M ≤ 6) (hK : K = 0 ∨ K = 1 ∨ K = 2 ∨ K = 3)
    (h1 : ∀ w, Calls Try.prog 24 #[.int .i64 n] w fun e w' => e = .returned (.agg #[.string a, .string ⟨#[114, 101, 108]⟩]) ∧ Below w.heap.size w w')
    (h2 : ∀ w, Calls Try.prog 20 #[.agg #[.string a, .string ⟨#[114, 101, 108]⟩]] w fun e w' => e = .returned (.int .i64 K) ∧ Below w.heap.size w w')
    (h3 : ∀ w, Calls Try.prog 48 #[.agg #[.string a, .string ⟨#[114, 101, 108]⟩]] w fun e w' => e = .returned (.int .i64 O) ∧ Below w.heap.size w w')
    (h4 : ∀ w, Calls Try.prog 49 #[.string ⟨#[114, 101, 108]⟩] w fun e w' => e = .returned (.int .i64 M) ∧ w = w') (w : World) :
    Calls Try.prog 28 #[.int .i64 n, .bool cross, .bool taken] w fun e w' => e = .returned (.int .i64 (clkP ⟨#[114, 101, 108]⟩ K O M cross taken)) ∧ Below w.heap.size w w' := by
  have hi := Lib.hid op_size9
  replace h1 := Lib.hid h1
  replace h2 := Lib.hid h2
  replace h3 := Lib.hid h3
  replace h4 := Lib.hid h4
  rw [show clkP ⟨#[114, 101, 108]⟩ K O M cross taken = (if K = 3 then O else M) + (if taken then (if cross then 2 else 1) else 0) + (if K = 2 then 2 else 0) from rfl]
  rcases hK with rfl | rfl | rfl | rfl
  all_goals cases cross
  all_goals cases taken
  all_goals
    go_enter Try.func28, Try.ntmps28
    go_wp2_with (go_at_call 24; refine (h1.out _).mono ?_; rintro e w1 ⟨rfl, hb⟩; refine Hid.out ?_)
    have B := Lib.hid (below_alloc hb (.cells #[.string a, .string ⟨#[114, 101, 108]⟩] 38))
    have Z := Lib.hid (blk_new w1 (.cells #[.string a, .string ⟨#[114, 101, 108]⟩] 38))
    clear hb
    refine Lib.hid ?_
    go_wp2_with (go_at_call 20; refine (h2.out _).mono ?_; rintro e w2 ⟨rfl, hb⟩; refine Hid.out ?_)
    have Z := Lib.hid (blk_below Z.out hb)
    have B := Lib.hid (B.out.trans (hb.mono B.out.size))
    clear hb
    refine Lib.hid ?_
    go_wp2_with (first | (refine load_row rfl 38 (.tmp 7) rfl w1.heap.size rfl 2 _ Try.underlying38 rfl hi.out Z.out rfl ?_) | (go_at_call 48; refine (h3.out _).mono ?_; rintro e w3 ⟨rfl, hb⟩; refine Hid.out ?_))
    have Z := blk_below Z.out hb
    have B := Lib.hid (B.out.trans (hb.mono B.out.size))
    have c1 := cell_of_blk (i := 1) Z rfl
    have f1 := free_of_blk (i := 1) Z
    clear hb Z
    refine Lib.hid ?_
    go_wp2_with (go_at_call 49; refine (h4.out _).mono ?_; rintro e w4 ⟨rfl, rfl⟩)
    go_ret
    exact ⟨by simp; try omega, B.out⟩
set_option maxRecDepth 100000 in
set_option maxHeartbeats 4000000 in
theorem impl_clk_other (n K O M : Int) (a b : ByteArray) (cross taken : Bool) (hO : 2 ≤ O ∧ O ≤ 7) (hM : 2 ≤ M ∧ M ≤ 6) (hK : K = 0 ∨ K = 1 ∨ K = 2 ∨ K = 3) (hrel : ¬ b = ⟨#[114, 101, 108]⟩) (habx : ¬ b = ⟨#[97, 98, 120]⟩) (haby : ¬ b = ⟨#[97, 98, 121]⟩) (hiny : ¬ b = ⟨#[105, 110, 121]⟩)
    (h1 : ∀ w, Calls Try.prog 24 #[.int .i64 n] w fun e w' => e = .returned (.agg #[.string a, .string b]) ∧ Below w.heap.size w w')
    (h2 : ∀ w, Calls Try.prog 20 #[.agg #[.string a, .string b]] w fun e w' => e = .returned (.int .i64 K) ∧ Below w.heap.size w w')
    (h3 : ∀ w, Calls Try.prog 48 #[.agg #[.string a, .string b]] w fun e w' => e = .returned (.int .i64 O) ∧ Below w.heap.size w w')
    (h4 : ∀ w, Calls Try.prog 49 #[.string b] w fun e w' => e = .returned (.int .i64 M) ∧ w = w') (w : World) :
    Calls Try.prog 28 #[.int .i64 n, .bool cross, .bool taken] w fun e w' => e = .returned (.int .i64 (clkP b K O M cross taken)) ∧ Below w.heap.size w w' := by
  have hi := Lib.hid op_size9
  replace h1 := Lib.hid h1
  replace h2 := Lib.hid h2
  replace h3 := Lib.hid h3
  replace h4 := Lib.hid h4
  rw [show clkP b K O M cross taken = (if K = 3 then O else M) + 0 + (if K = 2 then 2 else 0) from by unfold clkP; rw [if_neg hrel, if_neg (show ¬ (b = ⟨#[97, 98, 120]⟩ ∨ b = ⟨#[97, 98, 121]⟩ ∨ b = ⟨#[105, 110, 121]⟩) by simp only [habx, haby, hiny, or_self, not_false_eq_true])]]
  have _ := hO
  clear hO
  have nrel := ne_list [114, 101, 108] hrel
  have nabx := ne_list [97, 98, 120] habx
  have naby := ne_list [97, 98, 121] haby
  have niny := ne_list [105, 110, 121] hiny
  clear hrel habx haby hiny
  rcases hK with rfl | rfl | rfl | rfl
  all_goals
    go_enter Try.func28, Try.ntmps28
    go_wp2_with (go_at_call 24; refine (h1.out _).mono ?_; rintro e w1 ⟨rfl, hb⟩; refine Hid.out ?_)
    have B := Lib.hid (below_alloc hb (.cells #[.string a, .string b] 38))
    have Z := Lib.hid (blk_new w1 (.cells #[.string a, .string b] 38))
    clear hb
    refine Lib.hid ?_
    go_wp2_with (go_at_call 20; refine (h2.out _).mono ?_; rintro e w2 ⟨rfl, hb⟩; refine Hid.out ?_)
    have Z := Lib.hid (blk_below Z.out hb)
    have B := Lib.hid (B.out.trans (hb.mono B.out.size))
    clear hb
    refine Lib.hid ?_
    go_wp2_with (first | (refine load_row rfl 38 (.tmp 7) rfl w1.heap.size rfl 2 _ Try.underlying38 rfl hi.out Z.out rfl ?_) | (go_at_call 48; refine (h3.out _).mono ?_; rintro e w3 ⟨rfl, hb⟩; refine Hid.out ?_))
    have Z := blk_below Z.out hb
    have B := Lib.hid (B.out.trans (hb.mono B.out.size))
    have c1 := cell_of_blk (i := 1) Z rfl
    have f1 := free_of_blk (i := 1) Z
    clear hb Z
    refine Lib.hid ?_
    go_wp2_with (go_at_call 49; refine (h4.out _).mono ?_; rintro e w4 ⟨rfl, rfl⟩)
    go_ret
    exact ⟨by simp; try omega, B.out⟩
theorem impl_clocks (n : Int) (cross taken : Bool) (w : World) : Calls Try.prog 28 #[.int .i64 n, .bool cross, .bool taken] w fun e w' => e = .returned (.int .i64 (clkP (opOf n).2 (kindI (opOf n).1 (opOf n).2) (ownCI (opOf n).1 (opOf n).2) (modeCI (opOf n).2) cross taken)) ∧ Below w.heap.size w w' := by
  have h1 := impl_opOf n
  have hs := (opOf_size9 n)
  generalize (opOf n).1 = a at *
  generalize (opOf n).2 = b at *
  have h2 := impl_kindOf a b hs
  have h3 := fun w => own_clocks b a w
  have h4 := mode_clocks b
  have hK : kindI a b = 0 ∨ kindI a b = 1 ∨ kindI a b = 2 ∨ kindI a b = 3 := by have := kind_bd a b; omega
  have hO := own_bd a b
  have hM := mode_bd b
  unfold opV at h2 h3
  generalize kindI a b = K at *
  generalize ownCI a b = O at *
  generalize modeCI b = M at *
  by_cases hrel : b = ⟨#[114, 101, 108]⟩
  · subst hrel; exact impl_clk_rel n K O M a cross taken hO hM hK h1 h2 h3 h4 w
  by_cases habx : b = ⟨#[97, 98, 120]⟩
  · subst habx; exact impl_clk_abx n K O M a cross taken hO hM hK h1 h2 h3 h4 w
  by_cases haby : b = ⟨#[97, 98, 121]⟩
  · subst haby; exact impl_clk_aby n K O M a cross taken hO hM hK h1 h2 h3 h4 w
  by_cases hiny : b = ⟨#[105, 110, 121]⟩
  · subst hiny; exact impl_clk_iny n K O M a cross taken hO hM hK h1 h2 h3 h4 w
  exact impl_clk_other n K O M a b cross taken hO hM hK hrel habx haby hiny h1 h2 h3 h4 w
end Go.Proofs.Ytfkllcbjakhbdaa
