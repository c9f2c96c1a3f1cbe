/-
  The clocks of what has ways of its own (chapter 9, the model).
  Conditions: as each says; each walk leaves old memory as it was.
-/
import Derived.Test.YtfkllcbjakhbdaaWpB
namespace Go.Proofs.Ytfkllcbjakhbdaa
open Go.RowKit
def wsPP : List (List UInt8) := [[80, 72, 65], [80, 72, 80]]
def wsRR : List (List UInt8) := [[82, 84, 73], [82, 84, 83], [74, 83, 82]]
def wsLL : List (List UInt8) := [[80, 76, 65], [80, 76, 80]]
def wsXX : List (List UInt8) := [[97, 98, 120], [97, 98, 121], [105, 110, 121]]
theorem is_PP (x : ByteArray) (w : World) : Calls Try.prog 42 #[.string x, .string ⟨#[80, 72, 65, 32, 80, 72, 80]⟩] w fun e w' => e = .returned (.bool (inB x wsPP)) ∧ Below w.heap.size w w' :=
  spec_is x wsPP (by decide) (ok_words _ (by decide)) (by decide) (by decide) w
theorem is_RR (x : ByteArray) (w : World) : Calls Try.prog 42 #[.string x, .string ⟨#[82, 84, 73, 32, 82, 84, 83, 32, 74, 83, 82]⟩] w fun e w' => e = .returned (.bool (inB x wsRR)) ∧ Below w.heap.size w w' :=
  spec_is x wsRR (by decide) (ok_words _ (by decide)) (by decide) (by decide) w
theorem is_LL (x : ByteArray) (w : World) : Calls Try.prog 42 #[.string x, .string ⟨#[80, 76, 65, 32, 80, 76, 80]⟩] w fun e w' => e = .returned (.bool (inB x wsLL)) ∧ Below w.heap.size w w' :=
  spec_is x wsLL (by decide) (ok_words _ (by decide)) (by decide) (by decide) w
theorem is_XX (x : ByteArray) (w : World) : Calls Try.prog 42 #[.string x, .string ⟨#[97, 98, 120, 32, 97, 98, 121, 32, 105, 110, 121]⟩] w fun e w' => e = .returned (.bool (inB x wsXX)) ∧ Below w.heap.size w w' :=
  spec_is x wsXX (by decide) (ok_words _ (by decide)) (by decide) (by decide) w
/-- The clocks of what has ways of its own, as the model reckons them. -/
def ownS (a b : ByteArray) (cross taken : Bool) : Int :=
  if (b = ⟨#[114, 101, 108]⟩ ∧ taken = true) ∧ cross = true then 4 else if (b = ⟨#[114, 101, 108]⟩ ∧ taken = true ∨ inB a wsPP = true) ∨ (a = ⟨#[74, 77, 80]⟩ ∧ b = ⟨#[97, 98, 115]⟩) then 3 else if a = ⟨#[66, 82, 75]⟩ then 7 else if inB a wsRR = true then 6 else if a = ⟨#[74, 77, 80]⟩ then 5 else if inB a wsLL = true then 4 else 2
set_option maxRecDepth 100000 in
set_option maxHeartbeats 4000000 in
theorem own_s_tt (a : ByteArray) (w : World) : Calls Try.prog 47 #[.agg #[.string a, .string ⟨#[114, 101, 108]⟩], .bool true, .bool true] w fun e w' => e = .returned (.int .i64 4) ∧ Below w.heap.size w w' := by
  go_enter Try.func47, Try.ntmps47
  go_wp2
  go_ret
  exact ⟨rfl, below_alloc (Below.refl _ _) _⟩
set_option maxRecDepth 100000 in
set_option maxHeartbeats 4000000 in
theorem own_s_tf (a : ByteArray) (w : World) : Calls Try.prog 47 #[.agg #[.string a, .string ⟨#[114, 101, 108]⟩], .bool false, .bool true] w fun e w' => e = .returned (.int .i64 3) ∧ Below w.heap.size w w' := by
  go_enter Try.func47, Try.ntmps47
  go_wp2
  go_ret
  exact ⟨rfl, below_alloc (Below.refl _ _) _⟩
set_option maxRecDepth 100000 in
set_option maxHeartbeats 4000000 in
theorem own_s_pr (a : ByteArray) (cross : Bool) (i1 : Hid (∀ w, Calls Try.prog 42 #[.string a, .string ⟨#[80, 72, 65, 32, 80, 72, 80]⟩] w fun e w' => e = .returned (.bool true) ∧ Below w.heap.size w w')) (w : World) : Calls Try.prog 47 #[.agg #[.string a, .string ⟨#[114, 101, 108]⟩], .bool cross, .bool false] w fun e w' => e = .returned (.int .i64 3) ∧ Below w.heap.size w w' := by
  go_enter Try.func47, Try.ntmps47
  go_wp2_with (go_at_call 42; refine (i1.out _).mono ?_; rintro e w1 ⟨rfl, hb⟩; refine Hid.out ?_)
  have Z := blk_below (blk_new w (.cells #[.string a, .string ⟨#[114, 101, 108]⟩] 38)) hb
  have B := Lib.hid (below_then (below_alloc (Below.refl w.heap.size w) _) hb)
  have c0 := cell_of_blk (i := 0) Z rfl
  have c1 := cell_of_blk (i := 1) Z rfl
  have f0 := fun i => free_of_blk (i := i) Z
  have Z := Lib.hid Z
  clear hb
  refine Lib.hid ?_
  go_wp2
  go_ret
  exact ⟨rfl, B.out⟩
set_option maxRecDepth 100000 in
set_option maxHeartbeats 4000000 in
theorem own_s_br (cross : Bool) (i1 : Hid (∀ w, Calls Try.prog 42 #[.string ⟨#[66, 82, 75]⟩, .string ⟨#[80, 72, 65, 32, 80, 72, 80]⟩] w fun e w' => e = .returned (.bool false) ∧ Below w.heap.size w w')) (w : World) : Calls Try.prog 47 #[.agg #[.string ⟨#[66, 82, 75]⟩, .string ⟨#[114, 101, 108]⟩], .bool cross, .bool false] w fun e w' => e = .returned (.int .i64 7) ∧ Below w.heap.size w w' := by
  go_enter Try.func47, Try.ntmps47
  go_wp2_with (go_at_call 42; refine (i1.out _).mono ?_; rintro e w1 ⟨rfl, hb⟩; refine Hid.out ?_)
  have Z := blk_below (blk_new w (.cells #[.string ⟨#[66, 82, 75]⟩, .string ⟨#[114, 101, 108]⟩] 38)) hb
  have B := Lib.hid (below_then (below_alloc (Below.refl w.heap.size w) _) hb)
  have c0 := cell_of_blk (i := 0) Z rfl
  have c1 := cell_of_blk (i := 1) Z rfl
  have f0 := fun i => free_of_blk (i := i) Z
  have Z := Lib.hid Z
  clear hb
  refine Lib.hid ?_
  go_wp2
  go_ret
  exact ⟨rfl, B.out⟩
set_option maxRecDepth 100000 in
set_option maxHeartbeats 4000000 in
theorem own_s_qr (a : ByteArray) (cross : Bool) (hJ : ¬ a = ⟨#[74, 77, 80]⟩) (hB : ¬ a = ⟨#[66, 82, 75]⟩) (i1 : Hid (∀ w, Calls Try.prog 42 #[.string a, .string ⟨#[80, 72, 65, 32, 80, 72, 80]⟩] w fun e w' => e = .returned (.bool false) ∧ Below w.heap.size w w')) (i2 : Hid (∀ w, Calls Try.prog 42 #[.string a, .string ⟨#[82, 84, 73, 32, 82, 84, 83, 32, 74, 83, 82]⟩] w fun e w' => e = .returned (.bool true) ∧ Below w.heap.size w w')) (w : World) : Calls Try.prog 47 #[.agg #[.string a, .string ⟨#[114, 101, 108]⟩], .bool cross, .bool false] w fun e w' => e = .returned (.int .i64 6) ∧ Below w.heap.size w w' := by
  have nJ := ne_list [74, 77, 80] hJ
  have nB := ne_list [66, 82, 75] hB
  clear hJ hB
  go_enter Try.func47, Try.ntmps47
  go_wp2_with (go_at_call 42; refine (i1.out _).mono ?_; rintro e w1 ⟨rfl, hb⟩; refine Hid.out ?_)
  have Z := blk_below (blk_new w (.cells #[.string a, .string ⟨#[114, 101, 108]⟩] 38)) hb
  have B := Lib.hid (below_then (below_alloc (Below.refl w.heap.size w) _) hb)
  have c0 := cell_of_blk (i := 0) Z rfl
  have c1 := cell_of_blk (i := 1) Z rfl
  have f0 := fun i => free_of_blk (i := i) Z
  have Z := Lib.hid Z
  clear hb
  refine Lib.hid ?_
  go_wp2_with (go_at_call 42; refine (i2.out _).mono ?_; rintro e w2 ⟨rfl, hb⟩; refine Hid.out ?_)
  have Z := blk_below Z.out hb
  have B := Lib.hid (below_then B.out hb)
  clear c0 c1 f0
  have c0 := cell_of_blk (i := 0) Z rfl
  have c1 := cell_of_blk (i := 1) Z rfl
  have f0 := fun i => free_of_blk (i := i) Z
  have Z := Lib.hid Z
  clear hb
  refine Lib.hid ?_
  go_wp2
  go_ret
  exact ⟨rfl, B.out⟩
set_option maxRecDepth 100000 in
set_option maxHeartbeats 4000000 in
theorem own_s_lr (a : ByteArray) (cross : Bool) (hJ : ¬ a = ⟨#[74, 77, 80]⟩) (hB : ¬ a = ⟨#[66, 82, 75]⟩) (i1 : Hid (∀ w, Calls Try.prog 42 #[.string a, .string ⟨#[80, 72, 65, 32, 80, 72, 80]⟩] w fun e w' => e = .returned (.bool false) ∧ Below w.heap.size w w')) (i2 : Hid (∀ w, Calls Try.prog 42 #[.string a, .string ⟨#[82, 84, 73, 32, 82, 84, 83, 32, 74, 83, 82]⟩] w fun e w' => e = .returned (.bool false) ∧ Below w.heap.size w w')) (i3 : Hid (∀ w, Calls Try.prog 42 #[.string a, .string ⟨#[80, 76, 65, 32, 80, 76, 80]⟩] w fun e w' => e = .returned (.bool true) ∧ Below w.heap.size w w')) (w : World) : Calls Try.prog 47 #[.agg #[.string a, .string ⟨#[114, 101, 108]⟩], .bool cross, .bool false] w fun e w' => e = .returned (.int .i64 4) ∧ Below w.heap.size w w' := by
  have nJ := ne_list [74, 77, 80] hJ
  have nB := ne_list [66, 82, 75] hB
  clear hJ hB
  go_enter Try.func47, Try.ntmps47
  go_wp2_with (go_at_call 42; refine (i1.out _).mono ?_; rintro e w1 ⟨rfl, hb⟩; refine Hid.out ?_)
  have Z := blk_below (blk_new w (.cells #[.string a, .string ⟨#[114, 101, 108]⟩] 38)) hb
  have B := Lib.hid (below_then (below_alloc (Below.refl w.heap.size w) _) hb)
  have c0 := cell_of_blk (i := 0) Z rfl
  have c1 := cell_of_blk (i := 1) Z rfl
  have f0 := fun i => free_of_blk (i := i) Z
  have Z := Lib.hid Z
  clear hb
  refine Lib.hid ?_
  go_wp2_with (go_at_call 42; refine (i2.out _).mono ?_; rintro e w2 ⟨rfl, hb⟩; refine Hid.out ?_)
  have Z := blk_below Z.out hb
  have B := Lib.hid (below_then B.out hb)
  clear c0 c1 f0
  have c0 := cell_of_blk (i := 0) Z rfl
  have c1 := cell_of_blk (i := 1) Z rfl
  have f0 := fun i => free_of_blk (i := i) Z
  have Z := Lib.hid Z
  clear hb
  refine Lib.hid ?_
  go_wp2_with (go_at_call 42; refine (i3.out _).mono ?_; rintro e w3 ⟨rfl, hb⟩; refine Hid.out ?_)
  have Z := blk_below Z.out hb
  have B := Lib.hid (below_then B.out hb)
  clear c0 c1 f0
  have c0 := cell_of_blk (i := 0) Z rfl
  have c1 := cell_of_blk (i := 1) Z rfl
  have f0 := fun i => free_of_blk (i := i) Z
  have Z := Lib.hid Z
  clear hb
  refine Lib.hid ?_
  go_wp2
  go_ret
  exact ⟨rfl, B.out⟩
set_option maxRecDepth 100000 in
set_option maxHeartbeats 4000000 in
theorem own_s_nr (a : ByteArray) (cross : Bool) (hJ : ¬ a = ⟨#[74, 77, 80]⟩) (hB : ¬ a = ⟨#[66, 82, 75]⟩) (i1 : Hid (∀ w, Calls Try.prog 42 #[.string a, .string ⟨#[80, 72, 65, 32, 80, 72, 80]⟩] w fun e w' => e = .returned (.bool false) ∧ Below w.heap.size w w')) (i2 : Hid (∀ w, Calls Try.prog 42 #[.string a, .string ⟨#[82, 84, 73, 32, 82, 84, 83, 32, 74, 83, 82]⟩] w fun e w' => e = .returned (.bool false) ∧ Below w.heap.size w w')) (i3 : Hid (∀ w, Calls Try.prog 42 #[.string a, .string ⟨#[80, 76, 65, 32, 80, 76, 80]⟩] w fun e w' => e = .returned (.bool false) ∧ Below w.heap.size w w')) (w : World) : Calls Try.prog 47 #[.agg #[.string a, .string ⟨#[114, 101, 108]⟩], .bool cross, .bool false] w fun e w' => e = .returned (.int .i64 2) ∧ Below w.heap.size w w' := by
  have nJ := ne_list [74, 77, 80] hJ
  have nB := ne_list [66, 82, 75] hB
  clear hJ hB
  go_enter Try.func47, Try.ntmps47
  go_wp2_with (go_at_call 42; refine (i1.out _).mono ?_; rintro e w1 ⟨rfl, hb⟩; refine Hid.out ?_)
  have Z := blk_below (blk_new w (.cells #[.string a, .string ⟨#[114, 101, 108]⟩] 38)) hb
  have B := Lib.hid (below_then (below_alloc (Below.refl w.heap.size w) _) hb)
  have c0 := cell_of_blk (i := 0) Z rfl
  have c1 := cell_of_blk (i := 1) Z rfl
  have f0 := fun i => free_of_blk (i := i) Z
  have Z := Lib.hid Z
  clear hb
  refine Lib.hid ?_
  go_wp2_with (go_at_call 42; refine (i2.out _).mono ?_; rintro e w2 ⟨rfl, hb⟩; refine Hid.out ?_)
  have Z := blk_below Z.out hb
  have B := Lib.hid (below_then B.out hb)
  clear c0 c1 f0
  have c0 := cell_of_blk (i := 0) Z rfl
  have c1 := cell_of_blk (i := 1) Z rfl
  have f0 := fun i => free_of_blk (i := i) Z
  have Z := Lib.hid Z
  clear hb
  refine Lib.hid ?_
  go_wp2_with (go_at_call 42; refine (i3.out _).mono ?_; rintro e w3 ⟨rfl, hb⟩; refine Hid.out ?_)
  have Z := blk_below Z.out hb
  have B := Lib.hid (below_then B.out hb)
  clear c0 c1 f0
  have c0 := cell_of_blk (i := 0) Z rfl
  have c1 := cell_of_blk (i := 1) Z rfl
  have f0 := fun i => free_of_blk (i := i) Z
  have Z := Lib.hid Z
  clear hb
  refine Lib.hid ?_
  go_wp2
  go_ret
  exact ⟨rfl, B.out⟩
set_option maxRecDepth 100000 in
set_option maxHeartbeats 4000000 in
theorem own_s_jr (cross : Bool) (i1 : Hid (∀ w, Calls Try.prog 42 #[.string ⟨#[74, 77, 80]⟩, .string ⟨#[80, 72, 65, 32, 80, 72, 80]⟩] w fun e w' => e = .returned (.bool false) ∧ Below w.heap.size w w')) (i2 : Hid (∀ w, Calls Try.prog 42 #[.string ⟨#[74, 77, 80]⟩, .string ⟨#[82, 84, 73, 32, 82, 84, 83, 32, 74, 83, 82]⟩] w fun e w' => e = .returned (.bool false) ∧ Below w.heap.size w w')) (w : World) : Calls Try.prog 47 #[.agg #[.string ⟨#[74, 77, 80]⟩, .string ⟨#[114, 101, 108]⟩], .bool cross, .bool false] w fun e w' => e = .returned (.int .i64 5) ∧ Below w.heap.size w w' := by
  go_enter Try.func47, Try.ntmps47
  go_wp2_with (go_at_call 42; refine (i1.out _).mono ?_; rintro e w1 ⟨rfl, hb⟩; refine Hid.out ?_)
  have Z := blk_below (blk_new w (.cells #[.string ⟨#[74, 77, 80]⟩, .string ⟨#[114, 101, 108]⟩] 38)) hb
  have B := Lib.hid (below_then (below_alloc (Below.refl w.heap.size w) _) hb)
  have c0 := cell_of_blk (i := 0) Z rfl
  have c1 := cell_of_blk (i := 1) Z rfl
  have f0 := fun i => free_of_blk (i := i) Z
  have Z := Lib.hid Z
  clear hb
  refine Lib.hid ?_
  go_wp2_with (go_at_call 42; refine (i2.out _).mono ?_; rintro e w2 ⟨rfl, hb⟩; refine Hid.out ?_)
  have Z := blk_below Z.out hb
  have B := Lib.hid (below_then B.out hb)
  clear c0 c1 f0
  have c0 := cell_of_blk (i := 0) Z rfl
  have c1 := cell_of_blk (i := 1) Z rfl
  have f0 := fun i => free_of_blk (i := i) Z
  have Z := Lib.hid Z
  clear hb
  refine Lib.hid ?_
  go_wp2
  go_ret
  exact ⟨rfl, B.out⟩
set_option maxRecDepth 100000 in
set_option maxHeartbeats 4000000 in
theorem own_s_po (a b : ByteArray) (cross taken : Bool) (hR : ¬ b = ⟨#[114, 101, 108]⟩) (i1 : Hid (∀ w, Calls Try.prog 42 #[.string a, .string ⟨#[80, 72, 65, 32, 80, 72, 80]⟩] w fun e w' => e = .returned (.bool true) ∧ Below w.heap.size w w')) (w : World) : Calls Try.prog 47 #[.agg #[.string a, .string b], .bool cross, .bool taken] w fun e w' => e = .returned (.int .i64 3) ∧ Below w.heap.size w w' := by
  have nR := ne_list [114, 101, 108] hR
  clear hR
  go_enter Try.func47, Try.ntmps47
  go_wp2_with (go_at_call 42; refine (i1.out _).mono ?_; rintro e w1 ⟨rfl, hb⟩; refine Hid.out ?_)
  have Z := blk_below (blk_new w (.cells #[.string a, .string b] 38)) hb
  have B := Lib.hid (below_then (below_alloc (Below.refl w.heap.size w) _) hb)
  have c0 := cell_of_blk (i := 0) Z rfl
  have c1 := cell_of_blk (i := 1) Z rfl
  have f0 := fun i => free_of_blk (i := i) Z
  have Z := Lib.hid Z
  clear hb
  refine Lib.hid ?_
  go_wp2
  go_ret
  exact ⟨rfl, B.out⟩
set_option maxRecDepth 100000 in
set_option maxHeartbeats 4000000 in
theorem own_s_bo (b : ByteArray) (cross taken : Bool) (hR : ¬ b = ⟨#[114, 101, 108]⟩) (i1 : Hid (∀ w, Calls Try.prog 42 #[.string ⟨#[66, 82, 75]⟩, .string ⟨#[80, 72, 65, 32, 80, 72, 80]⟩] w fun e w' => e = .returned (.bool false) ∧ Below w.heap.size w w')) (w : World) : Calls Try.prog 47 #[.agg #[.string ⟨#[66, 82, 75]⟩, .string b], .bool cross, .bool taken] w fun e w' => e = .returned (.int .i64 7) ∧ Below w.heap.size w w' := by
  have nR := ne_list [114, 101, 108] hR
  clear hR
  go_enter Try.func47, Try.ntmps47
  go_wp2_with (go_at_call 42; refine (i1.out _).mono ?_; rintro e w1 ⟨rfl, hb⟩; refine Hid.out ?_)
  have Z := blk_below (blk_new w (.cells #[.string ⟨#[66, 82, 75]⟩, .string b] 38)) hb
  have B := Lib.hid (below_then (below_alloc (Below.refl w.heap.size w) _) hb)
  have c0 := cell_of_blk (i := 0) Z rfl
  have c1 := cell_of_blk (i := 1) Z rfl
  have f0 := fun i => free_of_blk (i := i) Z
  have Z := Lib.hid Z
  clear hb
  refine Lib.hid ?_
  go_wp2
  go_ret
  exact ⟨rfl, B.out⟩
set_option maxRecDepth 100000 in
set_option maxHeartbeats 4000000 in
theorem own_s_qo (a b : ByteArray) (cross taken : Bool) (hR : ¬ b = ⟨#[114, 101, 108]⟩) (hJ : ¬ a = ⟨#[74, 77, 80]⟩) (hB : ¬ a = ⟨#[66, 82, 75]⟩) (i1 : Hid (∀ w, Calls Try.prog 42 #[.string a, .string ⟨#[80, 72, 65, 32, 80, 72, 80]⟩] w fun e w' => e = .returned (.bool false) ∧ Below w.heap.size w w')) (i2 : Hid (∀ w, Calls Try.prog 42 #[.string a, .string ⟨#[82, 84, 73, 32, 82, 84, 83, 32, 74, 83, 82]⟩] w fun e w' => e = .returned (.bool true) ∧ Below w.heap.size w w')) (w : World) : Calls Try.prog 47 #[.agg #[.string a, .string b], .bool cross, .bool taken] w fun e w' => e = .returned (.int .i64 6) ∧ Below w.heap.size w w' := by
  have nR := ne_list [114, 101, 108] hR
  clear hR
  have nJ := ne_list [74, 77, 80] hJ
  have nB := ne_list [66, 82, 75] hB
  clear hJ hB
  go_enter Try.func47, Try.ntmps47
  go_wp2_with (go_at_call 42; refine (i1.out _).mono ?_; rintro e w1 ⟨rfl, hb⟩; refine Hid.out ?_)
  have Z := blk_below (blk_new w (.cells #[.string a, .string b] 38)) hb
  have B := Lib.hid (below_then (below_alloc (Below.refl w.heap.size w) _) hb)
  have c0 := cell_of_blk (i := 0) Z rfl
  have c1 := cell_of_blk (i := 1) Z rfl
  have f0 := fun i => free_of_blk (i := i) Z
  have Z := Lib.hid Z
  clear hb
  refine Lib.hid ?_
  go_wp2_with (go_at_call 42; refine (i2.out _).mono ?_; rintro e w2 ⟨rfl, hb⟩; refine Hid.out ?_)
  have Z := blk_below Z.out hb
  have B := Lib.hid (below_then B.out hb)
  clear c0 c1 f0
  have c0 := cell_of_blk (i := 0) Z rfl
  have c1 := cell_of_blk (i := 1) Z rfl
  have f0 := fun i => free_of_blk (i := i) Z
  have Z := Lib.hid Z
  clear hb
  refine Lib.hid ?_
  go_wp2
  go_ret
  exact ⟨rfl, B.out⟩
set_option maxRecDepth 100000 in
set_option maxHeartbeats 4000000 in
theorem own_s_lo (a b : ByteArray) (cross taken : Bool) (hR : ¬ b = ⟨#[114, 101, 108]⟩) (hJ : ¬ a = ⟨#[74, 77, 80]⟩) (hB : ¬ a = ⟨#[66, 82, 75]⟩) (i1 : Hid (∀ w, Calls Try.prog 42 #[.string a, .string ⟨#[80, 72, 65, 32, 80, 72, 80]⟩] w fun e w' => e = .returned (.bool false) ∧ Below w.heap.size w w')) (i2 : Hid (∀ w, Calls Try.prog 42 #[.string a, .string ⟨#[82, 84, 73, 32, 82, 84, 83, 32, 74, 83, 82]⟩] w fun e w' => e = .returned (.bool false) ∧ Below w.heap.size w w')) (i3 : Hid (∀ w, Calls Try.prog 42 #[.string a, .string ⟨#[80, 76, 65, 32, 80, 76, 80]⟩] w fun e w' => e = .returned (.bool true) ∧ Below w.heap.size w w')) (w : World) : Calls Try.prog 47 #[.agg #[.string a, .string b], .bool cross, .bool taken] w fun e w' => e = .returned (.int .i64 4) ∧ Below w.heap.size w w' := by
  have nR := ne_list [114, 101, 108] hR
  clear hR
  have nJ := ne_list [74, 77, 80] hJ
  have nB := ne_list [66, 82, 75] hB
  clear hJ hB
  go_enter Try.func47, Try.ntmps47
  go_wp2_with (go_at_call 42; refine (i1.out _).mono ?_; rintro e w1 ⟨rfl, hb⟩; refine Hid.out ?_)
  have Z := blk_below (blk_new w (.cells #[.string a, .string b] 38)) hb
  have B := Lib.hid (below_then (below_alloc (Below.refl w.heap.size w) _) hb)
  have c0 := cell_of_blk (i := 0) Z rfl
  have c1 := cell_of_blk (i := 1) Z rfl
  have f0 := fun i => free_of_blk (i := i) Z
  have Z := Lib.hid Z
  clear hb
  refine Lib.hid ?_
  go_wp2_with (go_at_call 42; refine (i2.out _).mono ?_; rintro e w2 ⟨rfl, hb⟩; refine Hid.out ?_)
  have Z := blk_below Z.out hb
  have B := Lib.hid (below_then B.out hb)
  clear c0 c1 f0
  have c0 := cell_of_blk (i := 0) Z rfl
  have c1 := cell_of_blk (i := 1) Z rfl
  have f0 := fun i => free_of_blk (i := i) Z
  have Z := Lib.hid Z
  clear hb
  refine Lib.hid ?_
  go_wp2_with (go_at_call 42; refine (i3.out _).mono ?_; rintro e w3 ⟨rfl, hb⟩; refine Hid.out ?_)
  have Z := blk_below Z.out hb
  have B := Lib.hid (below_then B.out hb)
  clear c0 c1 f0
  have c0 := cell_of_blk (i := 0) Z rfl
  have c1 := cell_of_blk (i := 1) Z rfl
  have f0 := fun i => free_of_blk (i := i) Z
  have Z := Lib.hid Z
  clear hb
  refine Lib.hid ?_
  go_wp2
  go_ret
  exact ⟨rfl, B.out⟩
set_option maxRecDepth 100000 in
set_option maxHeartbeats 4000000 in
theorem own_s_no (a b : ByteArray) (cross taken : Bool) (hR : ¬ b = ⟨#[114, 101, 108]⟩) (hJ : ¬ a = ⟨#[74, 77, 80]⟩) (hB : ¬ a = ⟨#[66, 82, 75]⟩) (i1 : Hid (∀ w, Calls Try.prog 42 #[.string a, .string ⟨#[80, 72, 65, 32, 80, 72, 80]⟩] w fun e w' => e = .returned (.bool false) ∧ Below w.heap.size w w')) (i2 : Hid (∀ w, Calls Try.prog 42 #[.string a, .string ⟨#[82, 84, 73, 32, 82, 84, 83, 32, 74, 83, 82]⟩] w fun e w' => e = .returned (.bool false) ∧ Below w.heap.size w w')) (i3 : Hid (∀ w, Calls Try.prog 42 #[.string a, .string ⟨#[80, 76, 65, 32, 80, 76, 80]⟩] w fun e w' => e = .returned (.bool false) ∧ Below w.heap.size w w')) (w : World) : Calls Try.prog 47 #[.agg #[.string a, .string b], .bool cross, .bool taken] w fun e w' => e = .returned (.int .i64 2) ∧ Below w.heap.size w w' := by
  have nR := ne_list [114, 101, 108] hR
  clear hR
  have nJ := ne_list [74, 77, 80] hJ
  have nB := ne_list [66, 82, 75] hB
  clear hJ hB
  go_enter Try.func47, Try.ntmps47
  go_wp2_with (go_at_call 42; refine (i1.out _).mono ?_; rintro e w1 ⟨rfl, hb⟩; refine Hid.out ?_)
  have Z := blk_below (blk_new w (.cells #[.string a, .string b] 38)) hb
  have B := Lib.hid (below_then (below_alloc (Below.refl w.heap.size w) _) hb)
  have c0 := cell_of_blk (i := 0) Z rfl
  have c1 := cell_of_blk (i := 1) Z rfl
  have f0 := fun i => free_of_blk (i := i) Z
  have Z := Lib.hid Z
  clear hb
  refine Lib.hid ?_
  go_wp2_with (go_at_call 42; refine (i2.out _).mono ?_; rintro e w2 ⟨rfl, hb⟩; refine Hid.out ?_)
  have Z := blk_below Z.out hb
  have B := Lib.hid (below_then B.out hb)
  clear c0 c1 f0
  have c0 := cell_of_blk (i := 0) Z rfl
  have c1 := cell_of_blk (i := 1) Z rfl
  have f0 := fun i => free_of_blk (i := i) Z
  have Z := Lib.hid Z
  clear hb
  refine Lib.hid ?_
  go_wp2_with (go_at_call 42; refine (i3.out _).mono ?_; rintro e w3 ⟨rfl, hb⟩; refine Hid.out ?_)
  have Z := blk_below Z.out hb
  have B := Lib.hid (below_then B.out hb)
  clear c0 c1 f0
  have c0 := cell_of_blk (i := 0) Z rfl
  have c1 := cell_of_blk (i := 1) Z rfl
  have f0 := fun i => free_of_blk (i := i) Z
  have Z := Lib.hid Z
  clear hb
  refine Lib.hid ?_
  go_wp2
  go_ret
  exact ⟨rfl, B.out⟩
set_option maxRecDepth 100000 in
set_option maxHeartbeats 4000000 in
theorem own_s_jo (b : ByteArray) (cross taken : Bool) (hR : ¬ b = ⟨#[114, 101, 108]⟩) (hA : ¬ b = ⟨#[97, 98, 115]⟩) (i1 : Hid (∀ w, Calls Try.prog 42 #[.string ⟨#[74, 77, 80]⟩, .string ⟨#[80, 72, 65, 32, 80, 72, 80]⟩] w fun e w' => e = .returned (.bool false) ∧ Below w.heap.size w w')) (i2 : Hid (∀ w, Calls Try.prog 42 #[.string ⟨#[74, 77, 80]⟩, .string ⟨#[82, 84, 73, 32, 82, 84, 83, 32, 74, 83, 82]⟩] w fun e w' => e = .returned (.bool false) ∧ Below w.heap.size w w')) (w : World) : Calls Try.prog 47 #[.agg #[.string ⟨#[74, 77, 80]⟩, .string b], .bool cross, .bool taken] w fun e w' => e = .returned (.int .i64 5) ∧ Below w.heap.size w w' := by
  have nR := ne_list [114, 101, 108] hR
  clear hR
  have nA := ne_list [97, 98, 115] hA
  clear hA
  go_enter Try.func47, Try.ntmps47
  go_wp2_with (go_at_call 42; refine (i1.out _).mono ?_; rintro e w1 ⟨rfl, hb⟩; refine Hid.out ?_)
  have Z := blk_below (blk_new w (.cells #[.string ⟨#[74, 77, 80]⟩, .string b] 38)) hb
  have B := Lib.hid (below_then (below_alloc (Below.refl w.heap.size w) _) hb)
  have c0 := cell_of_blk (i := 0) Z rfl
  have c1 := cell_of_blk (i := 1) Z rfl
  have f0 := fun i => free_of_blk (i := i) Z
  have Z := Lib.hid Z
  clear hb
  refine Lib.hid ?_
  go_wp2_with (go_at_call 42; refine (i2.out _).mono ?_; rintro e w2 ⟨rfl, hb⟩; refine Hid.out ?_)
  have Z := blk_below Z.out hb
  have B := Lib.hid (below_then B.out hb)
  clear c0 c1 f0
  have c0 := cell_of_blk (i := 0) Z rfl
  have c1 := cell_of_blk (i := 1) Z rfl
  have f0 := fun i => free_of_blk (i := i) Z
  have Z := Lib.hid Z
  clear hb
  refine Lib.hid ?_
  go_wp2
  go_ret
  exact ⟨rfl, B.out⟩
set_option maxRecDepth 100000 in
set_option maxHeartbeats 4000000 in
theorem own_s_ja (cross taken : Bool) (i1 : Hid (∀ w, Calls Try.prog 42 #[.string ⟨#[74, 77, 80]⟩, .string ⟨#[80, 72, 65, 32, 80, 72, 80]⟩] w fun e w' => e = .returned (.bool false) ∧ Below w.heap.size w w')) (w : World) : Calls Try.prog 47 #[.agg #[.string ⟨#[74, 77, 80]⟩, .string ⟨#[97, 98, 115]⟩], .bool cross, .bool taken] w fun e w' => e = .returned (.int .i64 3) ∧ Below w.heap.size w w' := by
  go_enter Try.func47, Try.ntmps47
  go_wp2_with (go_at_call 42; refine (i1.out _).mono ?_; rintro e w1 ⟨rfl, hb⟩; refine Hid.out ?_)
  have Z := blk_below (blk_new w (.cells #[.string ⟨#[74, 77, 80]⟩, .string ⟨#[97, 98, 115]⟩] 38)) hb
  have B := Lib.hid (below_then (below_alloc (Below.refl w.heap.size w) _) hb)
  have c0 := cell_of_blk (i := 0) Z rfl
  have c1 := cell_of_blk (i := 1) Z rfl
  have f0 := fun i => free_of_blk (i := i) Z
  have Z := Lib.hid Z
  clear hb
  refine Lib.hid ?_
  go_wp2
  go_ret
  exact ⟨rfl, B.out⟩
set_option maxRecDepth 100000 in
set_option maxHeartbeats 4000000 in
theorem own_s (a b : ByteArray) (cross taken : Bool) (w : World) : Calls Try.prog 47 #[.agg #[.string a, .string b], .bool cross, .bool taken] w fun e w' => e = .returned (.int .i64 (ownS a b cross taken)) ∧ Below w.heap.size w w' := by
  have i1 := is_PP a
  have i2 := is_RR a
  have i3 := is_LL a
  have hv : ownS a b cross taken = if (b = ⟨#[114, 101, 108]⟩ ∧ taken = true) ∧ cross = true then 4 else if (b = ⟨#[114, 101, 108]⟩ ∧ taken = true ∨ inB a wsPP = true) ∨ (a = ⟨#[74, 77, 80]⟩ ∧ b = ⟨#[97, 98, 115]⟩) then 3 else if a = ⟨#[66, 82, 75]⟩ then 7 else if inB a wsRR = true then 6 else if a = ⟨#[74, 77, 80]⟩ then 5 else if inB a wsLL = true then 4 else 2 := rfl
  by_cases hJ : a = ⟨#[74, 77, 80]⟩
  · subst hJ
    have hp : inB ⟨#[74, 77, 80]⟩ wsPP = false := by decide
    have hq : inB ⟨#[74, 77, 80]⟩ wsRR = false := by decide
    rw [hp] at hv i1
    rw [hq] at hv i2
    by_cases hR : b = ⟨#[114, 101, 108]⟩
    · subst hR
      cases taken
      · rw [hv, if_neg (by simp), if_neg (by simp), if_neg (by decide), if_neg (by simp), if_pos rfl]
        exact own_s_jr cross (Lib.hid i1) (Lib.hid i2) w
      · cases cross
        · rw [hv, if_neg (by simp), if_pos (by simp)]
          exact own_s_tf _ w
        · rw [hv, if_pos (by simp)]
          exact own_s_tt _ w
    · by_cases hA : b = ⟨#[97, 98, 115]⟩
      · subst hA
        rw [hv, if_neg (by simp), if_pos (by simp)]
        exact own_s_ja cross taken (Lib.hid i1) w
      · rw [hv, if_neg (by simp [hR]), if_neg (by simp [hR, hA]), if_neg (by decide), if_neg (by simp), if_pos rfl]
        exact own_s_jo b cross taken hR hA (Lib.hid i1) (Lib.hid i2) w
  by_cases hB : a = ⟨#[66, 82, 75]⟩
  · subst hB
    have hp : inB ⟨#[66, 82, 75]⟩ wsPP = false := by decide
    rw [hp] at hv i1
    by_cases hR : b = ⟨#[114, 101, 108]⟩
    · subst hR
      cases taken
      · rw [hv, if_neg (by simp), if_neg (by simp), if_pos rfl]
        exact own_s_br cross (Lib.hid i1) w
      · cases cross
        · rw [hv, if_neg (by simp), if_pos (by simp)]
          exact own_s_tf _ w
        · rw [hv, if_pos (by simp)]
          exact own_s_tt _ w
    · rw [hv, if_neg (by simp [hR]), if_neg (by simp [hR]), if_pos rfl]
      exact own_s_bo b cross taken hR (Lib.hid i1) w
  generalize inB a wsPP = P at *
  generalize inB a wsRR = Q at *
  generalize inB a wsLL = L at *
  by_cases hR : b = ⟨#[114, 101, 108]⟩
  · subst hR
    cases taken
    · cases P
      · cases Q
        · cases L
          · rw [hv, if_neg (by simp), if_neg (by simp [hJ]), if_neg hB, if_neg (by simp), if_neg hJ, if_neg (by simp)]
            exact own_s_nr a cross hJ hB (Lib.hid i1) (Lib.hid i2) (Lib.hid i3) w
          · rw [hv, if_neg (by simp), if_neg (by simp [hJ]), if_neg hB, if_neg (by simp), if_neg hJ, if_pos rfl]
            exact own_s_lr a cross hJ hB (Lib.hid i1) (Lib.hid i2) (Lib.hid i3) w
        · rw [hv, if_neg (by simp), if_neg (by simp [hJ]), if_neg hB, if_pos rfl]
          exact own_s_qr a cross hJ hB (Lib.hid i1) (Lib.hid i2) w
      · rw [hv, if_neg (by simp), if_pos (by simp)]
        exact own_s_pr a cross (Lib.hid i1) w
    · cases cross
      · rw [hv, if_neg (by simp), if_pos (by simp)]
        exact own_s_tf _ w
      · rw [hv, if_pos (by simp)]
        exact own_s_tt _ w
  · cases P
    · cases Q
      · cases L
        · rw [hv, if_neg (by simp [hR]), if_neg (by simp [hR, hJ]), if_neg hB, if_neg (by simp), if_neg hJ, if_neg (by simp)]
          exact own_s_no a b cross taken hR hJ hB (Lib.hid i1) (Lib.hid i2) (Lib.hid i3) w
        · rw [hv, if_neg (by simp [hR]), if_neg (by simp [hR, hJ]), if_neg hB, if_neg (by simp), if_neg hJ, if_pos rfl]
          exact own_s_lo a b cross taken hR hJ hB (Lib.hid i1) (Lib.hid i2) (Lib.hid i3) w
      · rw [hv, if_neg (by simp [hR]), if_neg (by simp [hR, hJ]), if_neg hB, if_pos rfl]
        exact own_s_qo a b cross taken hR hJ hB (Lib.hid i1) (Lib.hid i2) w
    · rw [hv, if_neg (by simp [hR]), if_pos (by simp)]
      exact own_s_po a b cross taken hR (Lib.hid i1) w
end Go.Proofs.Ytfkllcbjakhbdaa
