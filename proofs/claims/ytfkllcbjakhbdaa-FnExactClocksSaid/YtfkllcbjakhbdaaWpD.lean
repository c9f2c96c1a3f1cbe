/-
  The clocks of an instruction (chapter 9, the model).
  Conditions: as each says; each walk leaves old memory as it was.
-/
import Derived.Test.YtfkllcbjakhbdaaWpC
namespace Go.Proofs.Ytfkllcbjakhbdaa
open Go.RowKit
/-- How many clocks, as the model reckons them. -/
def clkS (b : ByteArray) (K S : Int) (cross : Bool) : Int :=
  if K = 3 then S else modeCI b + (if K = 2 then 2 else 0) + (if inB b wsXX = true then (if cross = true ∨ ¬ K = 0 then 1 else 0) else 0)
set_option maxRecDepth 100000 in
set_option maxHeartbeats 4000000 in
theorem spec_clk_own (n S : Int) (a b : ByteArray) (cross taken : Bool) 
    (h1 : ∀ w, Calls Try.prog 46 #[.int .i64 n] w fun e w' => e = .returned (.agg #[.string a, .string b]) ∧ Below w.heap.size w w')
    (h2 : ∀ w, Calls Try.prog 23 #[.agg #[.string a, .string b]] w fun e w' => e = .returned (.int .i64 3) ∧ Below w.heap.size w w')
    (h3 : ∀ w, Calls Try.prog 47 #[.agg #[.string a, .string b], .bool cross, .bool taken] w fun e w' => e = .returned (.int .i64 S) ∧ Below w.heap.size w w')
    (w : World) :
    Calls Try.prog 27 #[.int .i64 n, .bool cross, .bool taken] w fun e w' => e = .returned (.int .i64 (clkS b 3 S cross)) ∧ Below w.heap.size w w' := by
  have hi := Lib.hid op_size9
  replace h1 := Lib.hid h1
  replace h2 := Lib.hid h2
  replace h3 := Lib.hid h3
  all_goals
    go_enter Try.func27, Try.ntmps27
    go_wp2_with (go_at_call 46; refine (h1.out _).mono ?_; rintro e w1 ⟨rfl, hb⟩; refine Hid.out ?_)
    have B := Lib.hid (below_alloc hb (.cells #[.string a, .string b] 38))
    have Z := Lib.hid (blk_new w1 (.cells #[.string a, .string b] 38))
    clear hb
    refine Lib.hid ?_
    go_wp2_with (go_at_call 23; refine (h2.out _).mono ?_; rintro e w2 ⟨rfl, hb⟩; refine Hid.out ?_)
    have Z := blk_below Z.out hb
    have B := Lib.hid (B.out.trans (hb.mono B.out.size))
    have c1 := cell_of_blk (i := 1) Z rfl
    have f1 := free_of_blk (i := 1) Z
    have Z := Lib.hid Z
    clear hb
    refine Lib.hid ?_
    go_wp2_with (first | (refine load_row rfl 38 (.tmp 7) rfl w1.heap.size rfl 2 _ Try.underlying38 rfl hi.out Z.out rfl ?_) | (go_at_call 47; refine (h3.out _).mono ?_; rintro e w3 ⟨rfl, hb⟩))
    go_ret
    exact ⟨rfl, B.out.trans (hb.mono B.out.size)⟩
set_option maxRecDepth 100000 in
set_option maxHeartbeats 4000000 in
theorem spec_clk_imm (n K S : Int) (a : ByteArray) (cross taken : Bool) (hK : K = 0 ∨ K = 1 ∨ K = 2)
    (h1 : ∀ w, Calls Try.prog 46 #[.int .i64 n] w fun e w' => e = .returned (.agg #[.string a, .string ⟨#[105, 109, 109]⟩]) ∧ Below w.heap.size w w')
    (h2 : ∀ w, Calls Try.prog 23 #[.agg #[.string a, .string ⟨#[105, 109, 109]⟩]] w fun e w' => e = .returned (.int .i64 K) ∧ Below w.heap.size w w')
    (h3 : ∀ w, Calls Try.prog 47 #[.agg #[.string a, .string ⟨#[105, 109, 109]⟩], .bool cross, .bool taken] w fun e w' => e = .returned (.int .i64 S) ∧ Below w.heap.size w w')
    (h4 : ∀ w, Calls Try.prog 42 #[.string ⟨#[105, 109, 109]⟩, .string ⟨#[97, 98, 120, 32, 97, 98, 121, 32, 105, 110, 121]⟩] w fun e w' => e = .returned (.bool false) ∧ Below w.heap.size w w') (w : World) :
    Calls Try.prog 27 #[.int .i64 n, .bool cross, .bool taken] w fun e w' => e = .returned (.int .i64 (clkS ⟨#[105, 109, 109]⟩ K S cross)) ∧ Below w.heap.size w w' := by
  have hi := Lib.hid op_size9
  replace h1 := Lib.hid h1
  replace h2 := Lib.hid h2
  replace h3 := Lib.hid h3
  replace h4 := Lib.hid h4
  have hv : clkS ⟨#[105, 109, 109]⟩ K S cross = if K = 3 then S else 2 + (if K = 2 then 2 else 0) + (if false = true then (if cross = true ∨ ¬ K = 0 then 1 else 0) else 0) := by
    unfold clkS; rw [show modeCI ⟨#[105, 109, 109]⟩ = 2 from rfl, show inB ⟨#[105, 109, 109]⟩ wsXX = false by decide]
  rw [hv]
  clear hv
  rcases hK with rfl | rfl | rfl
  all_goals
    go_enter Try.func27, Try.ntmps27
    go_wp2_with (go_at_call 46; refine (h1.out _).mono ?_; rintro e w1 ⟨rfl, hb⟩; refine Hid.out ?_)
    have B := Lib.hid (below_alloc hb (.cells #[.string a, .string ⟨#[105, 109, 109]⟩] 38))
    have Z := Lib.hid (blk_new w1 (.cells #[.string a, .string ⟨#[105, 109, 109]⟩] 38))
    clear hb
    refine Lib.hid ?_
    go_wp2_with (go_at_call 23; refine (h2.out _).mono ?_; rintro e w2 ⟨rfl, hb⟩; refine Hid.out ?_)
    have Z := blk_below Z.out hb
    have B := Lib.hid (B.out.trans (hb.mono B.out.size))
    have c1 := cell_of_blk (i := 1) Z rfl
    have f1 := free_of_blk (i := 1) Z
    have Z := Lib.hid Z
    clear hb
    refine Lib.hid ?_
    go_wp2_with (first | (refine load_row rfl 38 (.tmp 7) rfl w1.heap.size rfl 2 _ Try.underlying38 rfl hi.out Z.out rfl ?_) | (go_at_call 47; refine (h3.out _).mono ?_; rintro e w3 ⟨rfl, hb⟩) | (go_at_call 42; refine (h4.out _).mono ?_; rintro e w3 ⟨rfl, hb⟩))
    go_ret
    exact ⟨by simp, B.out.trans (hb.mono B.out.size)⟩
set_option maxRecDepth 100000 in
set_option maxHeartbeats 4000000 in
theorem spec_clk_zpg (n K S : Int) (a : ByteArray) (cross taken : Bool) (hK : K = 0 ∨ K = 1 ∨ K = 2)
    (h1 : ∀ w, Calls Try.prog 46 #[.int .i64 n] w fun e w' => e = .returned (.agg #[.string a, .string ⟨#[122, 112, 103]⟩]) ∧ Below w.heap.size w w')
    (h2 : ∀ w, Calls Try.prog 23 #[.agg #[.string a, .string ⟨#[122, 112, 103]⟩]] w fun e w' => e = .returned (.int .i64 K) ∧ Below w.heap.size w w')
    (h3 : ∀ w, Calls Try.prog 47 #[.agg #[.string a, .string ⟨#[122, 112, 103]⟩], .bool cross, .bool taken] w fun e w' => e = .returned (.int .i64 S) ∧ Below w.heap.size w w')
    (h4 : ∀ w, Calls Try.prog 42 #[.string ⟨#[122, 112, 103]⟩, .string ⟨#[97, 98, 120, 32, 97, 98, 121, 32, 105, 110, 121]⟩] w fun e w' => e = .returned (.bool false) ∧ Below w.heap.size w w') (w : World) :
    Calls Try.prog 27 #[.int .i64 n, .bool cross, .bool taken] w fun e w' => e = .returned (.int .i64 (clkS ⟨#[122, 112, 103]⟩ K S cross)) ∧ Below w.heap.size w w' := by
  have hi := Lib.hid op_size9
  replace h1 := Lib.hid h1
  replace h2 := Lib.hid h2
  replace h3 := Lib.hid h3
  replace h4 := Lib.hid h4
  have hv : clkS ⟨#[122, 112, 103]⟩ K S cross = if K = 3 then S else 3 + (if K = 2 then 2 else 0) + (if false = true then (if cross = true ∨ ¬ K = 0 then 1 else 0) else 0) := by
    unfold clkS; rw [show modeCI ⟨#[122, 112, 103]⟩ = 3 from rfl, show inB ⟨#[122, 112, 103]⟩ wsXX = false by decide]
  rw [hv]
  clear hv
  rcases hK with rfl | rfl | rfl
  all_goals
    go_enter Try.func27, Try.ntmps27
    go_wp2_with (go_at_call 46; refine (h1.out _).mono ?_; rintro e w1 ⟨rfl, hb⟩; refine Hid.out ?_)
    have B := Lib.hid (below_alloc hb (.cells #[.string a, .string ⟨#[122, 112, 103]⟩] 38))
    have Z := Lib.hid (blk_new w1 (.cells #[.string a, .string ⟨#[122, 112, 103]⟩] 38))
    clear hb
    refine Lib.hid ?_
    go_wp2_with (go_at_call 23; refine (h2.out _).mono ?_; rintro e w2 ⟨rfl, hb⟩; refine Hid.out ?_)
    have Z := blk_below Z.out hb
    have B := Lib.hid (B.out.trans (hb.mono B.out.size))
    have c1 := cell_of_blk (i := 1) Z rfl
    have f1 := free_of_blk (i := 1) Z
    have Z := Lib.hid Z
    clear hb
    refine Lib.hid ?_
    go_wp2_with (first | (refine load_row rfl 38 (.tmp 7) rfl w1.heap.size rfl 2 _ Try.underlying38 rfl hi.out Z.out rfl ?_) | (go_at_call 47; refine (h3.out _).mono ?_; rintro e w3 ⟨rfl, hb⟩) | (go_at_call 42; refine (h4.out _).mono ?_; rintro e w3 ⟨rfl, hb⟩))
    go_ret
    exact ⟨by simp, B.out.trans (hb.mono B.out.size)⟩
set_option maxRecDepth 100000 in
set_option maxHeartbeats 4000000 in
theorem spec_clk_inx (n K S : Int) (a : ByteArray) (cross taken : Bool) (hK : K = 0 ∨ K = 1 ∨ K = 2)
    (h1 : ∀ w, Calls Try.prog 46 #[.int .i64 n] w fun e w' => e = .returned (.agg #[.string a, .string ⟨#[105, 110, 120]⟩]) ∧ Below w.heap.size w w')
    (h2 : ∀ w, Calls Try.prog 23 #[.agg #[.string a, .string ⟨#[105, 110, 120]⟩]] w fun e w' => e = .returned (.int .i64 K) ∧ Below w.heap.size w w')
    (h3 : ∀ w, Calls Try.prog 47 #[.agg #[.string a, .string ⟨#[105, 110, 120]⟩], .bool cross, .bool taken] w fun e w' => e = .returned (.int .i64 S) ∧ Below w.heap.size w w')
    (h4 : ∀ w, Calls Try.prog 42 #[.string ⟨#[105, 110, 120]⟩, .string ⟨#[97, 98, 120, 32, 97, 98, 121, 32, 105, 110, 121]⟩] w fun e w' => e = .returned (.bool false) ∧ Below w.heap.size w w') (w : World) :
    Calls Try.prog 27 #[.int .i64 n, .bool cross, .bool taken] w fun e w' => e = .returned (.int .i64 (clkS ⟨#[105, 110, 120]⟩ K S cross)) ∧ Below w.heap.size w w' := by
  have hi := Lib.hid op_size9
  replace h1 := Lib.hid h1
  replace h2 := Lib.hid h2
  replace h3 := Lib.hid h3
  replace h4 := Lib.hid h4
  have hv : clkS ⟨#[105, 110, 120]⟩ K S cross = if K = 3 then S else 6 + (if K = 2 then 2 else 0) + (if false = true then (if cross = true ∨ ¬ K = 0 then 1 else 0) else 0) := by
    unfold clkS; rw [show modeCI ⟨#[105, 110, 120]⟩ = 6 from rfl, show inB ⟨#[105, 110, 120]⟩ wsXX = false by decide]
  rw [hv]
  clear hv
  rcases hK with rfl | rfl | rfl
  all_goals
    go_enter Try.func27, Try.ntmps27
    go_wp2_with (go_at_call 46; refine (h1.out _).mono ?_; rintro e w1 ⟨rfl, hb⟩; refine Hid.out ?_)
    have B := Lib.hid (below_alloc hb (.cells #[.string a, .string ⟨#[105, 110, 120]⟩] 38))
    have Z := Lib.hid (blk_new w1 (.cells #[.string a, .string ⟨#[105, 110, 120]⟩] 38))
    clear hb
    refine Lib.hid ?_
    go_wp2_with (go_at_call 23; refine (h2.out _).mono ?_; rintro e w2 ⟨rfl, hb⟩; refine Hid.out ?_)
    have Z := blk_below Z.out hb
    have B := Lib.hid (B.out.trans (hb.mono B.out.size))
    have c1 := cell_of_blk (i := 1) Z rfl
    have f1 := free_of_blk (i := 1) Z
    have Z := Lib.hid Z
    clear hb
    refine Lib.hid ?_
    go_wp2_with (first | (refine load_row rfl 38 (.tmp 7) rfl w1.heap.size rfl 2 _ Try.underlying38 rfl hi.out Z.out rfl ?_) | (go_at_call 47; refine (h3.out _).mono ?_; rintro e w3 ⟨rfl, hb⟩) | (go_at_call 42; refine (h4.out _).mono ?_; rintro e w3 ⟨rfl, hb⟩))
    go_ret
    exact ⟨by simp, B.out.trans (hb.mono B.out.size)⟩
set_option maxRecDepth 100000 in
set_option maxHeartbeats 4000000 in
theorem spec_clk_iny (n K S : Int) (a : ByteArray) (cross taken : Bool) (hK : K = 0 ∨ K = 1 ∨ K = 2)
    (h1 : ∀ w, Calls Try.prog 46 #[.int .i64 n] w fun e w' => e = .returned (.agg #[.string a, .string ⟨#[105, 110, 121]⟩]) ∧ Below w.heap.size w w')
    (h2 : ∀ w, Calls Try.prog 23 #[.agg #[.string a, .string ⟨#[105, 110, 121]⟩]] w fun e w' => e = .returned (.int .i64 K) ∧ Below w.heap.size w w')
    (h3 : ∀ w, Calls Try.prog 47 #[.agg #[.string a, .string ⟨#[105, 110, 121]⟩], .bool cross, .bool taken] w fun e w' => e = .returned (.int .i64 S) ∧ Below w.heap.size w w')
    (h4 : ∀ w, Calls Try.prog 42 #[.string ⟨#[105, 110, 121]⟩, .string ⟨#[97, 98, 120, 32, 97, 98, 121, 32, 105, 110, 121]⟩] w fun e w' => e = .returned (.bool true) ∧ Below w.heap.size w w') (w : World) :
    Calls Try.prog 27 #[.int .i64 n, .bool cross, .bool taken] w fun e w' => e = .returned (.int .i64 (clkS ⟨#[105, 110, 121]⟩ K S cross)) ∧ Below w.heap.size w w' := by
  have hi := Lib.hid op_size9
  replace h1 := Lib.hid h1
  replace h2 := Lib.hid h2
  replace h3 := Lib.hid h3
  replace h4 := Lib.hid h4
  have hv : clkS ⟨#[105, 110, 121]⟩ K S cross = if K = 3 then S else 5 + (if K = 2 then 2 else 0) + (if true = true then (if cross = true ∨ ¬ K = 0 then 1 else 0) else 0) := by
    unfold clkS; rw [show modeCI ⟨#[105, 110, 121]⟩ = 5 from rfl, show inB ⟨#[105, 110, 121]⟩ wsXX = true by decide]
  rw [hv]
  clear hv
  rcases hK with rfl | rfl | rfl
  all_goals cases cross
  all_goals
    go_enter Try.func27, Try.ntmps27
    go_wp2_with (go_at_call 46; refine (h1.out _).mono ?_; rintro e w1 ⟨rfl, hb⟩; refine Hid.out ?_)
    have B := Lib.hid (below_alloc hb (.cells #[.string a, .string ⟨#[105, 110, 121]⟩] 38))
    have Z := Lib.hid (blk_new w1 (.cells #[.string a, .string ⟨#[105, 110, 121]⟩] 38))
    clear hb
    refine Lib.hid ?_
    go_wp2_with (go_at_call 23; refine (h2.out _).mono ?_; rintro e w2 ⟨rfl, hb⟩; refine Hid.out ?_)
    have Z := blk_below Z.out hb
    have B := Lib.hid (B.out.trans (hb.mono B.out.size))
    have c1 := cell_of_blk (i := 1) Z rfl
    have f1 := free_of_blk (i := 1) Z
    have Z := Lib.hid Z
    clear hb
    refine Lib.hid ?_
    go_wp2_with (first | (refine load_row rfl 38 (.tmp 7) rfl w1.heap.size rfl 2 _ Try.underlying38 rfl hi.out Z.out rfl ?_) | (go_at_call 47; refine (h3.out _).mono ?_; rintro e w3 ⟨rfl, hb⟩) | (go_at_call 42; refine (h4.out _).mono ?_; rintro e w3 ⟨rfl, hb⟩))
    go_ret
    exact ⟨by simp, B.out.trans (hb.mono B.out.size)⟩
set_option maxRecDepth 100000 in
set_option maxHeartbeats 4000000 in
theorem spec_clk_other (n K S : Int) (a b : ByteArray) (cross taken : Bool) (hK : K = 0 ∨ K = 1 ∨ K = 2) (X : Bool) (hX : inB b wsXX = X) (himm : ¬ b = ⟨#[105, 109, 109]⟩) (hzpg : ¬ b = ⟨#[122, 112, 103]⟩) (hinx : ¬ b = ⟨#[105, 110, 120]⟩) (hiny : ¬ b = ⟨#[105, 110, 121]⟩)
    (h1 : ∀ w, Calls Try.prog 46 #[.int .i64 n] w fun e w' => e = .returned (.agg #[.string a, .string b]) ∧ Below w.heap.size w w')
    (h2 : ∀ w, Calls Try.prog 23 #[.agg #[.string a, .string b]] w fun e w' => e = .returned (.int .i64 K) ∧ Below w.heap.size w w')
    (h3 : ∀ w, Calls Try.prog 47 #[.agg #[.string a, .string b], .bool cross, .bool taken] w fun e w' => e = .returned (.int .i64 S) ∧ Below w.heap.size w w')
    (h4 : ∀ w, Calls Try.prog 42 #[.string b, .string ⟨#[97, 98, 120, 32, 97, 98, 121, 32, 105, 110, 121]⟩] w fun e w' => e = .returned (.bool X) ∧ Below w.heap.size w w') (w : World) :
    Calls Try.prog 27 #[.int .i64 n, .bool cross, .bool taken] w fun e w' => e = .returned (.int .i64 (clkS b K S cross)) ∧ Below w.heap.size w w' := by
  have hi := Lib.hid op_size9
  replace h1 := Lib.hid h1
  replace h2 := Lib.hid h2
  replace h3 := Lib.hid h3
  replace h4 := Lib.hid h4
  have hv : clkS b K S cross = if K = 3 then S else 4 + (if K = 2 then 2 else 0) + (if X = true then (if cross = true ∨ ¬ K = 0 then 1 else 0) else 0) := by
    unfold clkS; rw [show modeCI b = 4 by unfold modeCI; rw [if_neg himm, if_neg hzpg, if_neg hinx, if_neg hiny], hX]
  rw [hv]
  clear hv hX
  have nimm := ne_list [105, 109, 109] himm
  have nzpg := ne_list [122, 112, 103] hzpg
  have ninx := ne_list [105, 110, 120] hinx
  have niny := ne_list [105, 110, 121] hiny
  clear himm hzpg hinx hiny
  rcases hK with rfl | rfl | rfl
  all_goals cases cross
  all_goals cases X
  all_goals
    go_enter Try.func27, Try.ntmps27
    go_wp2_with (go_at_call 46; refine (h1.out _).mono ?_; rintro e w1 ⟨rfl, hb⟩; refine Hid.out ?_)
    have B := Lib.hid (below_alloc hb (.cells #[.string a, .string b] 38))
    have Z := Lib.hid (blk_new w1 (.cells #[.string a, .string b] 38))
    clear hb
    refine Lib.hid ?_
    go_wp2_with (go_at_call 23; refine (h2.out _).mono ?_; rintro e w2 ⟨rfl, hb⟩; refine Hid.out ?_)
    have Z := blk_below Z.out hb
    have B := Lib.hid (B.out.trans (hb.mono B.out.size))
    have c1 := cell_of_blk (i := 1) Z rfl
    have f1 := free_of_blk (i := 1) Z
    have Z := Lib.hid Z
    clear hb
    refine Lib.hid ?_
    go_wp2_with (first | (refine load_row rfl 38 (.tmp 7) rfl w1.heap.size rfl 2 _ Try.underlying38 rfl hi.out Z.out rfl ?_) | (go_at_call 47; refine (h3.out _).mono ?_; rintro e w3 ⟨rfl, hb⟩) | (go_at_call 42; refine (h4.out _).mono ?_; rintro e w3 ⟨rfl, hb⟩))
    go_ret
    exact ⟨by simp, B.out.trans (hb.mono B.out.size)⟩
theorem spec_clocks (n : Int) (cross taken : Bool) (w : World) : Calls Try.prog 27 #[.int .i64 n, .bool cross, .bool taken] w fun e w' => e = .returned (.int .i64 (clkS (opOf n).2 (kindI (opOf n).1 (opOf n).2) (ownS (opOf n).1 (opOf n).2 cross taken) cross)) ∧ Below w.heap.size w w' := by
  have h1 := spec_opOf n
  generalize (opOf n).1 = a at *
  generalize (opOf n).2 = b at *
  have h2 := spec_kindOf a b
  have h3 := fun w => own_s a b cross taken w
  have h4 := is_XX b
  have hK := kind_bd a b
  unfold opV at h2
  generalize kindI a b = K at *
  generalize ownS a b cross taken = S at *
  by_cases h5 : K = 3
  · subst h5; exact spec_clk_own n S a b cross taken h1 h2 h3 w
  replace hK : K = 0 ∨ K = 1 ∨ K = 2 := by omega
  by_cases himm : b = ⟨#[105, 109, 109]⟩
  · subst himm
    rw [show inB ⟨#[105, 109, 109]⟩ wsXX = false by decide] at h4
    exact spec_clk_imm n K S a cross taken hK h1 h2 h3 h4 w
  by_cases hzpg : b = ⟨#[122, 112, 103]⟩
  · subst hzpg
    rw [show inB ⟨#[122, 112, 103]⟩ wsXX = false by decide] at h4
    exact spec_clk_zpg n K S a cross taken hK h1 h2 h3 h4 w
  by_cases hinx : b = ⟨#[105, 110, 120]⟩
  · subst hinx
    rw [show inB ⟨#[105, 110, 120]⟩ wsXX = false by decide] at h4
    exact spec_clk_inx n K S a cross taken hK h1 h2 h3 h4 w
  by_cases hiny : b = ⟨#[105, 110, 121]⟩
  · subst hiny
    rw [show inB ⟨#[105, 110, 121]⟩ wsXX = true by decide] at h4
    exact spec_clk_iny n K S a cross taken hK h1 h2 h3 h4 w
  exact spec_clk_other n K S a b cross taken hK _ rfl himm hzpg hinx hiny h1 h2 h3 h4 w
end Go.Proofs.Ytfkllcbjakhbdaa
