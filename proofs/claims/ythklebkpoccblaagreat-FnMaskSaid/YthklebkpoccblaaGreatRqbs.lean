/-
  Texts put together by program: CkH.
  Conditions: as each theorem says.
-/
import Derived.Test.YthklebkpoccblaaGreatRqbr
namespace Go.Proofs.YthklebkpoccblaaGreat
open Go.RowKit
def st_atOnce (b : Nat) : Array Value := #[.nilFunc, stepV 166 b, .nilFunc, .nilFunc, .nilFunc, .nilFunc, .nilFunc, .nilFunc, .nilFunc, .nilFunc, .nilFunc, .nilFunc, .nilFunc, .nilFunc, .nilFunc, .nilFunc, .nilFunc, .nilFunc, .nilFunc, .nilFunc, .nilFunc, .nilFunc, .nilFunc]
def st_immediate (b : Nat) : Array Value := #[.nilFunc, stepV 167 b, .nilFunc, .nilFunc, .nilFunc, .nilFunc, .nilFunc, .nilFunc, .nilFunc, .nilFunc, .nilFunc, .nilFunc, .nilFunc, .nilFunc, .nilFunc, .nilFunc, .nilFunc, .nilFunc, .nilFunc, .nilFunc, .nilFunc, .nilFunc, .nilFunc]
def st_zeroPage (b : Nat) : Array Value := #[.nilFunc, stepV 168 b, .nilFunc, .nilFunc, .nilFunc, .nilFunc, .nilFunc, .nilFunc, .nilFunc, .nilFunc, .nilFunc, .nilFunc, .nilFunc, .nilFunc, .nilFunc, .nilFunc, .nilFunc, .nilFunc, .nilFunc, .nilFunc, .nilFunc, .nilFunc, .nilFunc]
def st_low_zeroPageIndexed (b : Nat) : Array Value := #[.nilFunc, stepV 144 b, stepV 169 b, .nilFunc, .nilFunc, .nilFunc, .nilFunc, .nilFunc, .nilFunc, .nilFunc, .nilFunc, .nilFunc, .nilFunc, .nilFunc, .nilFunc, .nilFunc, .nilFunc, .nilFunc, .nilFunc, .nilFunc, .nilFunc, .nilFunc, .nilFunc]
def st_low_absolute (b : Nat) : Array Value := #[.nilFunc, stepV 144 b, stepV 170 b, .nilFunc, .nilFunc, .nilFunc, .nilFunc, .nilFunc, .nilFunc, .nilFunc, .nilFunc, .nilFunc, .nilFunc, .nilFunc, .nilFunc, .nilFunc, .nilFunc, .nilFunc, .nilFunc, .nilFunc, .nilFunc, .nilFunc, .nilFunc]
def st_low_absoluteIndexed (b : Nat) : Array Value := #[.nilFunc, stepV 144 b, stepV 171 b, .nilFunc, .nilFunc, .nilFunc, .nilFunc, .nilFunc, .nilFunc, .nilFunc, .nilFunc, .nilFunc, .nilFunc, .nilFunc, .nilFunc, .nilFunc, .nilFunc, .nilFunc, .nilFunc, .nilFunc, .nilFunc, .nilFunc, .nilFunc]
def st_pointer_pointerIndexed_pointedLow_pointedHigh (b : Nat) : Array Value := #[.nilFunc, stepV 172 b, stepV 173 b, stepV 174 b, stepV 175 b, .nilFunc, .nilFunc, .nilFunc, .nilFunc, .nilFunc, .nilFunc, .nilFunc, .nilFunc, .nilFunc, .nilFunc, .nilFunc, .nilFunc, .nilFunc, .nilFunc, .nilFunc, .nilFunc, .nilFunc, .nilFunc]
def st_pointer_pointedLow_pointedHighIndexed (b : Nat) : Array Value := #[.nilFunc, stepV 172 b, stepV 174 b, stepV 176 b, .nilFunc, .nilFunc, .nilFunc, .nilFunc, .nilFunc, .nilFunc, .nilFunc, .nilFunc, .nilFunc, .nilFunc, .nilFunc, .nilFunc, .nilFunc, .nilFunc, .nilFunc, .nilFunc, .nilFunc, .nilFunc, .nilFunc]
def st_low_high_jumpLow_jumpHigh (b : Nat) : Array Value := #[.nilFunc, stepV 144 b, stepV 177 b, stepV 178 b, stepV 179 b, .nilFunc, .nilFunc, .nilFunc, .nilFunc, .nilFunc, .nilFunc, .nilFunc, .nilFunc, .nilFunc, .nilFunc, .nilFunc, .nilFunc, .nilFunc, .nilFunc, .nilFunc, .nilFunc, .nilFunc, .nilFunc]
def st_offset_branch_turnPage (b : Nat) : Array Value := #[.nilFunc, stepV 180 b, stepV 181 b, stepV 182 b, .nilFunc, .nilFunc, .nilFunc, .nilFunc, .nilFunc, .nilFunc, .nilFunc, .nilFunc, .nilFunc, .nilFunc, .nilFunc, .nilFunc, .nilFunc, .nilFunc, .nilFunc, .nilFunc, .nilFunc, .nilFunc, .nilFunc]
def st_idle_pushRegister (b : Nat) : Array Value := #[.nilFunc, stepV 135 b, stepV 136 b, .nilFunc, .nilFunc, .nilFunc, .nilFunc, .nilFunc, .nilFunc, .nilFunc, .nilFunc, .nilFunc, .nilFunc, .nilFunc, .nilFunc, .nilFunc, .nilFunc, .nilFunc, .nilFunc, .nilFunc, .nilFunc, .nilFunc, .nilFunc]
def st_idle_skip_pullRegister (b : Nat) : Array Value := #[.nilFunc, stepV 135 b, stepV 137 b, stepV 138 b, .nilFunc, .nilFunc, .nilFunc, .nilFunc, .nilFunc, .nilFunc, .nilFunc, .nilFunc, .nilFunc, .nilFunc, .nilFunc, .nilFunc, .nilFunc, .nilFunc, .nilFunc, .nilFunc, .nilFunc, .nilFunc, .nilFunc]
def st_idle_skip_pullNotes_pullLow_resume (b : Nat) : Array Value := #[.nilFunc, stepV 135 b, stepV 137 b, stepV 139 b, stepV 140 b, stepV 141 b, .nilFunc, .nilFunc, .nilFunc, .nilFunc, .nilFunc, .nilFunc, .nilFunc, .nilFunc, .nilFunc, .nilFunc, .nilFunc, .nilFunc, .nilFunc, .nilFunc, .nilFunc, .nilFunc, .nilFunc]
def st_idle_skip_pullLow_pullPlace_stepOver (b : Nat) : Array Value := #[.nilFunc, stepV 135 b, stepV 137 b, stepV 140 b, stepV 142 b, stepV 143 b, .nilFunc, .nilFunc, .nilFunc, .nilFunc, .nilFunc, .nilFunc, .nilFunc, .nilFunc, .nilFunc, .nilFunc, .nilFunc, .nilFunc, .nilFunc, .nilFunc, .nilFunc, .nilFunc, .nilFunc]
def st_low_lookAtStack_pushHigh_pushLow_jump (b : Nat) : Array Value := #[.nilFunc, stepV 144 b, stepV 145 b, stepV 130 b, stepV 131 b, stepV 146 b, .nilFunc, .nilFunc, .nilFunc, .nilFunc, .nilFunc, .nilFunc, .nilFunc, .nilFunc, .nilFunc, .nilFunc, .nilFunc, .nilFunc, .nilFunc, .nilFunc, .nilFunc, .nilFunc, .nilFunc]
def st_low_jump (b : Nat) : Array Value := #[.nilFunc, stepV 144 b, stepV 146 b, .nilFunc, .nilFunc, .nilFunc, .nilFunc, .nilFunc, .nilFunc, .nilFunc, .nilFunc, .nilFunc, .nilFunc, .nilFunc, .nilFunc, .nilFunc, .nilFunc, .nilFunc, .nilFunc, .nilFunc, .nilFunc, .nilFunc, .nilFunc]
def modeSteps (m : ByteArray) (b : Nat) : Array Value := if m = ⟨#[105, 109, 112]⟩ then st_atOnce b else if m = ⟨#[97, 99, 99]⟩ then st_atOnce b else if m = ⟨#[105, 109, 109]⟩ then st_immediate b else if m = ⟨#[122, 112, 103]⟩ then st_zeroPage b else if m = ⟨#[122, 112, 120]⟩ then st_low_zeroPageIndexed b else if m = ⟨#[122, 112, 121]⟩ then st_low_zeroPageIndexed b else if m = ⟨#[97, 98, 115]⟩ then st_low_absolute b else if m = ⟨#[97, 98, 120]⟩ then st_low_absoluteIndexed b else if m = ⟨#[97, 98, 121]⟩ then st_low_absoluteIndexed b else if m = ⟨#[105, 110, 120]⟩ then st_pointer_pointerIndexed_pointedLow_pointedHigh b else if m = ⟨#[105, 110, 121]⟩ then st_pointer_pointedLow_pointedHighIndexed b else if m = ⟨#[105, 110, 100]⟩ then st_low_high_jumpLow_jumpHigh b else st_offset_branch_turnPage b
def nameSteps (n m : ByteArray) (b : Nat) : Array Value := if n = ⟨#[66, 82, 75]⟩ then brkSteps b else if n = ⟨#[80, 72, 65]⟩ then st_idle_pushRegister b else if n = ⟨#[80, 72, 80]⟩ then st_idle_pushRegister b else if n = ⟨#[80, 76, 65]⟩ then st_idle_skip_pullRegister b else if n = ⟨#[80, 76, 80]⟩ then st_idle_skip_pullRegister b else if n = ⟨#[82, 84, 73]⟩ then st_idle_skip_pullNotes_pullLow_resume b else if n = ⟨#[82, 84, 83]⟩ then st_idle_skip_pullLow_pullPlace_stepOver b else if n = ⟨#[74, 83, 82]⟩ then st_low_lookAtStack_pushHigh_pushLow_jump b else if n = ⟨#[74, 77, 80]⟩ then (if m = ⟨#[97, 98, 115]⟩ then st_low_jump b else modeSteps m b) else modeSteps m b
set_option maxRecDepth 100000 in
set_option maxHeartbeats 2000000 in
theorem m_som_imp {b : Nat} (k : ClkI) (w : World) (h : ClkAt b k w) (hm : k.om = ⟨#[105, 109, 112]⟩) : Calls Tryz.prog 147 #[.pointer (some ⟨b, 0, none⟩)] w fun e w' => e = .returned (.agg (st_atOnce b)) ∧ Below w.heap.size w w' := by
 have hsz := Lib.hid steps_size
 have hmf : ∀ (fn : Fn) (first cap : Array Value) (w : World), (Instr.makeFunc fn first cap).run Tryz.prog w = .ok (.func fn first cap) w := fun _ _ _ _ => rfl
 have c_om := h.c_om
 rw [hm] at c_om
 unfold st_atOnce stepV
 have hlt := h.lt
 go_enter Tryz.func147, Tryz.ntmps147
 go_wp2_with (refine store_row rfl 108 (.tmp 2) (.tmp 13) rfl w.heap.size _ rfl rfl 23 hsz.out (blk_new w (.cells #[.nilFunc, .nilFunc, .nilFunc, .nilFunc, .nilFunc, .nilFunc, .nilFunc, .nilFunc, .nilFunc, .nilFunc, .nilFunc, .nilFunc, .nilFunc, .nilFunc, .nilFunc, .nilFunc, .nilFunc, .nilFunc, .nilFunc, .nilFunc, .nilFunc, .nilFunc, .nilFunc] 108)) rfl rfl (by rfl) ?_)
 exact row_post rfl rfl Tryz.underlying108 rfl steps_size rfl rfl (blk_new w (.cells #[.nilFunc, .nilFunc, .nilFunc, .nilFunc, .nilFunc, .nilFunc, .nilFunc, .nilFunc, .nilFunc, .nilFunc, .nilFunc, .nilFunc, .nilFunc, .nilFunc, .nilFunc, .nilFunc, .nilFunc, .nilFunc, .nilFunc, .nilFunc, .nilFunc, .nilFunc, .nilFunc] 108)) ⟨rfl, below_row (below_alloc (Below.refl _ _) _) (Nat.le_refl _)⟩
set_option maxRecDepth 100000 in
set_option maxHeartbeats 2000000 in
theorem m_som_acc {b : Nat} (k : ClkI) (w : World) (h : ClkAt b k w) (hm : k.om = ⟨#[97, 99, 99]⟩) : Calls Tryz.prog 147 #[.pointer (some ⟨b, 0, none⟩)] w fun e w' => e = .returned (.agg (st_atOnce b)) ∧ Below w.heap.size w w' := by
 have hsz := Lib.hid steps_size
 have hmf : ∀ (fn : Fn) (first cap : Array Value) (w : World), (Instr.makeFunc fn first cap).run Tryz.prog w = .ok (.func fn first cap) w := fun _ _ _ _ => rfl
 have c_om := h.c_om
 rw [hm] at c_om
 unfold st_atOnce stepV
 have hlt := h.lt
 go_enter Tryz.func147, Tryz.ntmps147
 go_wp2_with (refine store_row rfl 108 (.tmp 2) (.tmp 13) rfl w.heap.size _ rfl rfl 23 hsz.out (blk_new w (.cells #[.nilFunc, .nilFunc, .nilFunc, .nilFunc, .nilFunc, .nilFunc, .nilFunc, .nilFunc, .nilFunc, .nilFunc, .nilFunc, .nilFunc, .nilFunc, .nilFunc, .nilFunc, .nilFunc, .nilFunc, .nilFunc, .nilFunc, .nilFunc, .nilFunc, .nilFunc, .nilFunc] 108)) rfl rfl (by rfl) ?_)
 exact row_post rfl rfl Tryz.underlying108 rfl steps_size rfl rfl (blk_new w (.cells #[.nilFunc, .nilFunc, .nilFunc, .nilFunc, .nilFunc, .nilFunc, .nilFunc, .nilFunc, .nilFunc, .nilFunc, .nilFunc, .nilFunc, .nilFunc, .nilFunc, .nilFunc, .nilFunc, .nilFunc, .nilFunc, .nilFunc, .nilFunc, .nilFunc, .nilFunc, .nilFunc] 108)) ⟨rfl, below_row (below_alloc (Below.refl _ _) _) (Nat.le_refl _)⟩
set_option maxRecDepth 100000 in
set_option maxHeartbeats 2000000 in
theorem m_som_imm {b : Nat} (k : ClkI) (w : World) (h : ClkAt b k w) (hm : k.om = ⟨#[105, 109, 109]⟩) : Calls Tryz.prog 147 #[.pointer (some ⟨b, 0, none⟩)] w fun e w' => e = .returned (.agg (st_immediate b)) ∧ Below w.heap.size w w' := by
 have hsz := Lib.hid steps_size
 have hmf : ∀ (fn : Fn) (first cap : Array Value) (w : World), (Instr.makeFunc fn first cap).run Tryz.prog w = .ok (.func fn first cap) w := fun _ _ _ _ => rfl
 have c_om := h.c_om
 rw [hm] at c_om
 unfold st_immediate stepV
 have hlt := h.lt
 go_enter Tryz.func147, Tryz.ntmps147
 go_wp2_with (refine store_row rfl 108 (.tmp 2) (.tmp 18) rfl w.heap.size _ rfl rfl 23 hsz.out (blk_new w (.cells #[.nilFunc, .nilFunc, .nilFunc, .nilFunc, .nilFunc, .nilFunc, .nilFunc, .nilFunc, .nilFunc, .nilFunc, .nilFunc, .nilFunc, .nilFunc, .nilFunc, .nilFunc, .nilFunc, .nilFunc, .nilFunc, .nilFunc, .nilFunc, .nilFunc, .nilFunc, .nilFunc] 108)) rfl rfl (by rfl) ?_)
 exact row_post rfl rfl Tryz.underlying108 rfl steps_size rfl rfl (blk_new w (.cells #[.nilFunc, .nilFunc, .nilFunc, .nilFunc, .nilFunc, .nilFunc, .nilFunc, .nilFunc, .nilFunc, .nilFunc, .nilFunc, .nilFunc, .nilFunc, .nilFunc, .nilFunc, .nilFunc, .nilFunc, .nilFunc, .nilFunc, .nilFunc, .nilFunc, .nilFunc, .nilFunc] 108)) ⟨rfl, below_row (below_alloc (Below.refl _ _) _) (Nat.le_refl _)⟩
set_option maxRecDepth 100000 in
set_option maxHeartbeats 2000000 in
theorem m_som_zpg {b : Nat} (k : ClkI) (w : World) (h : ClkAt b k w) (hm : k.om = ⟨#[122, 112, 103]⟩) : Calls Tryz.prog 147 #[.pointer (some ⟨b, 0, none⟩)] w fun e w' => e = .returned (.agg (st_zeroPage b)) ∧ Below w.heap.size w w' := by
 have hsz := Lib.hid steps_size
 have hmf : ∀ (fn : Fn) (first cap : Array Value) (w : World), (Instr.makeFunc fn first cap).run Tryz.prog w = .ok (.func fn first cap) w := fun _ _ _ _ => rfl
 have c_om := h.c_om
 rw [hm] at c_om
 unfold st_zeroPage stepV
 have hlt := h.lt
 go_enter Tryz.func147, Tryz.ntmps147
 go_wp2_with (refine store_row rfl 108 (.tmp 2) (.tmp 23) rfl w.heap.size _ rfl rfl 23 hsz.out (blk_new w (.cells #[.nilFunc, .nilFunc, .nilFunc, .nilFunc, .nilFunc, .nilFunc, .nilFunc, .nilFunc, .nilFunc, .nilFunc, .nilFunc, .nilFunc, .nilFunc, .nilFunc, .nilFunc, .nilFunc, .nilFunc, .nilFunc, .nilFunc, .nilFunc, .nilFunc, .nilFunc, .nilFunc] 108)) rfl rfl (by rfl) ?_)
 exact row_post rfl rfl Tryz.underlying108 rfl steps_size rfl rfl (blk_new w (.cells #[.nilFunc, .nilFunc, .nilFunc, .nilFunc, .nilFunc, .nilFunc, .nilFunc, .nilFunc, .nilFunc, .nilFunc, .nilFunc, .nilFunc, .nilFunc, .nilFunc, .nilFunc, .nilFunc, .nilFunc, .nilFunc, .nilFunc, .nilFunc, .nilFunc, .nilFunc, .nilFunc] 108)) ⟨rfl, below_row (below_alloc (Below.refl _ _) _) (Nat.le_refl _)⟩
set_option maxRecDepth 100000 in
set_option maxHeartbeats 2000000 in
theorem m_som_zpx {b : Nat} (k : ClkI) (w : World) (h : ClkAt b k w) (hm : k.om = ⟨#[122, 112, 120]⟩) : Calls Tryz.prog 147 #[.pointer (some ⟨b, 0, none⟩)] w fun e w' => e = .returned (.agg (st_low_zeroPageIndexed b)) ∧ Below w.heap.size w w' := by
 have hsz := Lib.hid steps_size
 have hmf : ∀ (fn : Fn) (first cap : Array Value) (w : World), (Instr.makeFunc fn first cap).run Tryz.prog w = .ok (.func fn first cap) w := fun _ _ _ _ => rfl
 have c_om := h.c_om
 rw [hm] at c_om
 unfold st_low_zeroPageIndexed stepV
 have hlt := h.lt
 go_enter Tryz.func147, Tryz.ntmps147
 go_wp2_with (refine store_row rfl 108 (.tmp 2) (.tmp 31) rfl w.heap.size _ rfl rfl 23 hsz.out (blk_new w (.cells #[.nilFunc, .nilFunc, .nilFunc, .nilFunc, .nilFunc, .nilFunc, .nilFunc, .nilFunc, .nilFunc, .nilFunc, .nilFunc, .nilFunc, .nilFunc, .nilFunc, .nilFunc, .nilFunc, .nilFunc, .nilFunc, .nilFunc, .nilFunc, .nilFunc, .nilFunc, .nilFunc] 108)) rfl rfl (by rfl) ?_)
 exact row_post rfl rfl Tryz.underlying108 rfl steps_size rfl rfl (blk_new w (.cells #[.nilFunc, .nilFunc, .nilFunc, .nilFunc, .nilFunc, .nilFunc, .nilFunc, .nilFunc, .nilFunc, .nilFunc, .nilFunc, .nilFunc, .nilFunc, .nilFunc, .nilFunc, .nilFunc, .nilFunc, .nilFunc, .nilFunc, .nilFunc, .nilFunc, .nilFunc, .nilFunc] 108)) ⟨rfl, below_row (below_alloc (Below.refl _ _) _) (Nat.le_refl _)⟩
set_option maxRecDepth 100000 in
set_option maxHeartbeats 2000000 in
theorem m_som_zpy {b : Nat} (k : ClkI) (w : World) (h : ClkAt b k w) (hm : k.om = ⟨#[122, 112, 121]⟩) : Calls Tryz.prog 147 #[.pointer (some ⟨b, 0, none⟩)] w fun e w' => e = .returned (.agg (st_low_zeroPageIndexed b)) ∧ Below w.heap.size w w' := by
 have hsz := Lib.hid steps_size
 have hmf : ∀ (fn : Fn) (first cap : Array Value) (w : World), (Instr.makeFunc fn first cap).run Tryz.prog w = .ok (.func fn first cap) w := fun _ _ _ _ => rfl
 have c_om := h.c_om
 rw [hm] at c_om
 unfold st_low_zeroPageIndexed stepV
 have hlt := h.lt
 go_enter Tryz.func147, Tryz.ntmps147
 go_wp2_with (refine store_row rfl 108 (.tmp 2) (.tmp 31) rfl w.heap.size _ rfl rfl 23 hsz.out (blk_new w (.cells #[.nilFunc, .nilFunc, .nilFunc, .nilFunc, .nilFunc, .nilFunc, .nilFunc, .nilFunc, .nilFunc, .nilFunc, .nilFunc, .nilFunc, .nilFunc, .nilFunc, .nilFunc, .nilFunc, .nilFunc, .nilFunc, .nilFunc, .nilFunc, .nilFunc, .nilFunc, .nilFunc] 108)) rfl rfl (by rfl) ?_)
 exact row_post rfl rfl Tryz.underlying108 rfl steps_size rfl rfl (blk_new w (.cells #[.nilFunc, .nilFunc, .nilFunc, .nilFunc, .nilFunc, .nilFunc, .nilFunc, .nilFunc, .nilFunc, .nilFunc, .nilFunc, .nilFunc, .nilFunc, .nilFunc, .nilFunc, .nilFunc, .nilFunc, .nilFunc, .nilFunc, .nilFunc, .nilFunc, .nilFunc, .nilFunc] 108)) ⟨rfl, below_row (below_alloc (Below.refl _ _) _) (Nat.le_refl _)⟩
set_option maxRecDepth 100000 in
set_option maxHeartbeats 2000000 in
theorem m_som_abs {b : Nat} (k : ClkI) (w : World) (h : ClkAt b k w) (hm : k.om = ⟨#[97, 98, 115]⟩) : Calls Tryz.prog 147 #[.pointer (some ⟨b, 0, none⟩)] w fun e w' => e = .returned (.agg (st_low_absolute b)) ∧ Below w.heap.size w w' := by
 have hsz := Lib.hid steps_size
 have hmf : ∀ (fn : Fn) (first cap : Array Value) (w : World), (Instr.makeFunc fn first cap).run Tryz.prog w = .ok (.func fn first cap) w := fun _ _ _ _ => rfl
 have c_om := h.c_om
 rw [hm] at c_om
 unfold st_low_absolute stepV
 have hlt := h.lt
 go_enter Tryz.func147, Tryz.ntmps147
 go_wp2_with (refine store_row rfl 108 (.tmp 2) (.tmp 38) rfl w.heap.size _ rfl rfl 23 hsz.out (blk_new w (.cells #[.nilFunc, .nilFunc, .nilFunc, .nilFunc, .nilFunc, .nilFunc, .nilFunc, .nilFunc, .nilFunc, .nilFunc, .nilFunc, .nilFunc, .nilFunc, .nilFunc, .nilFunc, .nilFunc, .nilFunc, .nilFunc, .nilFunc, .nilFunc, .nilFunc, .nilFunc, .nilFunc] 108)) rfl rfl (by rfl) ?_)
 exact row_post rfl rfl Tryz.underlying108 rfl steps_size rfl rfl (blk_new w (.cells #[.nilFunc, .nilFunc, .nilFunc, .nilFunc, .nilFunc, .nilFunc, .nilFunc, .nilFunc, .nilFunc, .nilFunc, .nilFunc, .nilFunc, .nilFunc, .nilFunc, .nilFunc, .nilFunc, .nilFunc, .nilFunc, .nilFunc, .nilFunc, .nilFunc, .nilFunc, .nilFunc] 108)) ⟨rfl, below_row (below_alloc (Below.refl _ _) _) (Nat.le_refl _)⟩
set_option maxRecDepth 100000 in
set_option maxHeartbeats 2000000 in
theorem m_som_abx {b : Nat} (k : ClkI) (w : World) (h : ClkAt b k w) (hm : k.om = ⟨#[97, 98, 120]⟩) : Calls Tryz.prog 147 #[.pointer (some ⟨b, 0, none⟩)] w fun e w' => e = .returned (.agg (st_low_absoluteIndexed b)) ∧ Below w.heap.size w w' := by
 have hsz := Lib.hid steps_size
 have hmf : ∀ (fn : Fn) (first cap : Array Value) (w : World), (Instr.makeFunc fn first cap).run Tryz.prog w = .ok (.func fn first cap) w := fun _ _ _ _ => rfl
 have c_om := h.c_om
 rw [hm] at c_om
 unfold st_low_absoluteIndexed stepV
 have hlt := h.lt
 go_enter Tryz.func147, Tryz.ntmps147
 go_wp2_with (refine store_row rfl 108 (.tmp 2) (.tmp 46) rfl w.heap.size _ rfl rfl 23 hsz.out (blk_new w (.cells #[.nilFunc, .nilFunc, .nilFunc, .nilFunc, .nilFunc, .nilFunc, .nilFunc, .nilFunc, .nilFunc, .nilFunc, .nilFunc, .nilFunc, .nilFunc, .nilFunc, .nilFunc, .nilFunc, .nilFunc, .nilFunc, .nilFunc, .nilFunc, .nilFunc, .nilFunc, .nilFunc] 108)) rfl rfl (by rfl) ?_)
 exact row_post rfl rfl Tryz.underlying108 rfl steps_size rfl rfl (blk_new w (.cells #[.nilFunc, .nilFunc, .nilFunc, .nilFunc, .nilFunc, .nilFunc, .nilFunc, .nilFunc, .nilFunc, .nilFunc, .nilFunc, .nilFunc, .nilFunc, .nilFunc, .nilFunc, .nilFunc, .nilFunc, .nilFunc, .nilFunc, .nilFunc, .nilFunc, .nilFunc, .nilFunc] 108)) ⟨rfl, below_row (below_alloc (Below.refl _ _) _) (Nat.le_refl _)⟩
set_option maxRecDepth 100000 in
set_option maxHeartbeats 2000000 in
theorem m_som_aby {b : Nat} (k : ClkI) (w : World) (h : ClkAt b k w) (hm : k.om = ⟨#[97, 98, 121]⟩) : Calls Tryz.prog 147 #[.pointer (some ⟨b, 0, none⟩)] w fun e w' => e = .returned (.agg (st_low_absoluteIndexed b)) ∧ Below w.heap.size w w' := by
 have hsz := Lib.hid steps_size
 have hmf : ∀ (fn : Fn) (first cap : Array Value) (w : World), (Instr.makeFunc fn first cap).run Tryz.prog w = .ok (.func fn first cap) w := fun _ _ _ _ => rfl
 have c_om := h.c_om
 rw [hm] at c_om
 unfold st_low_absoluteIndexed stepV
 have hlt := h.lt
 go_enter Tryz.func147, Tryz.ntmps147
 go_wp2_with (refine store_row rfl 108 (.tmp 2) (.tmp 46) rfl w.heap.size _ rfl rfl 23 hsz.out (blk_new w (.cells #[.nilFunc, .nilFunc, .nilFunc, .nilFunc, .nilFunc, .nilFunc, .nilFunc, .nilFunc, .nilFunc, .nilFunc, .nilFunc, .nilFunc, .nilFunc, .nilFunc, .nilFunc, .nilFunc, .nilFunc, .nilFunc, .nilFunc, .nilFunc, .nilFunc, .nilFunc, .nilFunc] 108)) rfl rfl (by rfl) ?_)
 exact row_post rfl rfl Tryz.underlying108 rfl steps_size rfl rfl (blk_new w (.cells #[.nilFunc, .nilFunc, .nilFunc, .nilFunc, .nilFunc, .nilFunc, .nilFunc, .nilFunc, .nilFunc, .nilFunc, .nilFunc, .nilFunc, .nilFunc, .nilFunc, .nilFunc, .nilFunc, .nilFunc, .nilFunc, .nilFunc, .nilFunc, .nilFunc, .nilFunc, .nilFunc] 108)) ⟨rfl, below_row (below_alloc (Below.refl _ _) _) (Nat.le_refl _)⟩
set_option maxRecDepth 100000 in
set_option maxHeartbeats 2000000 in
theorem m_som_inx {b : Nat} (k : ClkI) (w : World) (h : ClkAt b k w) (hm : k.om = ⟨#[105, 110, 120]⟩) : Calls Tryz.prog 147 #[.pointer (some ⟨b, 0, none⟩)] w fun e w' => e = .returned (.agg (st_pointer_pointerIndexed_pointedLow_pointedHigh b)) ∧ Below w.heap.size w w' := by
 have hsz := Lib.hid steps_size
 have hmf : ∀ (fn : Fn) (first cap : Array Value) (w : World), (Instr.makeFunc fn first cap).run Tryz.prog w = .ok (.func fn first cap) w := fun _ _ _ _ => rfl
 have c_om := h.c_om
 rw [hm] at c_om
 unfold st_pointer_pointerIndexed_pointedLow_pointedHigh stepV
 have hlt := h.lt
 go_enter Tryz.func147, Tryz.ntmps147
 go_wp2_with (refine store_row rfl 108 (.tmp 2) (.tmp 57) rfl w.heap.size _ rfl rfl 23 hsz.out (blk_new w (.cells #[.nilFunc, .nilFunc, .nilFunc, .nilFunc, .nilFunc, .nilFunc, .nilFunc, .nilFunc, .nilFunc, .nilFunc, .nilFunc, .nilFunc, .nilFunc, .nilFunc, .nilFunc, .nilFunc, .nilFunc, .nilFunc, .nilFunc, .nilFunc, .nilFunc, .nilFunc, .nilFunc] 108)) rfl rfl (by rfl) ?_)
 exact row_post rfl rfl Tryz.underlying108 rfl steps_size rfl rfl (blk_new w (.cells #[.nilFunc, .nilFunc, .nilFunc, .nilFunc, .nilFunc, .nilFunc, .nilFunc, .nilFunc, .nilFunc, .nilFunc, .nilFunc, .nilFunc, .nilFunc, .nilFunc, .nilFunc, .nilFunc, .nilFunc, .nilFunc, .nilFunc, .nilFunc, .nilFunc, .nilFunc, .nilFunc] 108)) ⟨rfl, below_row (below_alloc (Below.refl _ _) _) (Nat.le_refl _)⟩
set_option maxRecDepth 100000 in
set_option maxHeartbeats 2000000 in
theorem m_som_iny {b : Nat} (k : ClkI) (w : World) (h : ClkAt b k w) (hm : k.om = ⟨#[105, 110, 121]⟩) : Calls Tryz.prog 147 #[.pointer (some ⟨b, 0, none⟩)] w fun e w' => e = .returned (.agg (st_pointer_pointedLow_pointedHighIndexed b)) ∧ Below w.heap.size w w' := by
 have hsz := Lib.hid steps_size
 have hmf : ∀ (fn : Fn) (first cap : Array Value) (w : World), (Instr.makeFunc fn first cap).run Tryz.prog w = .ok (.func fn first cap) w := fun _ _ _ _ => rfl
 have c_om := h.c_om
 rw [hm] at c_om
 unfold st_pointer_pointedLow_pointedHighIndexed stepV
 have hlt := h.lt
 go_enter Tryz.func147, Tryz.ntmps147
 go_wp2_with (refine store_row rfl 108 (.tmp 2) (.tmp 66) rfl w.heap.size _ rfl rfl 23 hsz.out (blk_new w (.cells #[.nilFunc, .nilFunc, .nilFunc, .nilFunc, .nilFunc, .nilFunc, .nilFunc, .nilFunc, .nilFunc, .nilFunc, .nilFunc, .nilFunc, .nilFunc, .nilFunc, .nilFunc, .nilFunc, .nilFunc, .nilFunc, .nilFunc, .nilFunc, .nilFunc, .nilFunc, .nilFunc] 108)) rfl rfl (by rfl) ?_)
 exact row_post rfl rfl Tryz.underlying108 rfl steps_size rfl rfl (blk_new w (.cells #[.nilFunc, .nilFunc, .nilFunc, .nilFunc, .nilFunc, .nilFunc, .nilFunc, .nilFunc, .nilFunc, .nilFunc, .nilFunc, .nilFunc, .nilFunc, .nilFunc, .nilFunc, .nilFunc, .nilFunc, .nilFunc, .nilFunc, .nilFunc, .nilFunc, .nilFunc, .nilFunc] 108)) ⟨rfl, below_row (below_alloc (Below.refl _ _) _) (Nat.le_refl _)⟩
set_option maxRecDepth 100000 in
set_option maxHeartbeats 2000000 in
theorem m_som_ind {b : Nat} (k : ClkI) (w : World) (h : ClkAt b k w) (hm : k.om = ⟨#[105, 110, 100]⟩) : Calls Tryz.prog 147 #[.pointer (some ⟨b, 0, none⟩)] w fun e w' => e = .returned (.agg (st_low_high_jumpLow_jumpHigh b)) ∧ Below w.heap.size w w' := by
 have hsz := Lib.hid steps_size
 have hmf : ∀ (fn : Fn) (first cap : Array Value) (w : World), (Instr.makeFunc fn first cap).run Tryz.prog w = .ok (.func fn first cap) w := fun _ _ _ _ => rfl
 have c_om := h.c_om
 rw [hm] at c_om
 unfold st_low_high_jumpLow_jumpHigh stepV
 have hlt := h.lt
 go_enter Tryz.func147, Tryz.ntmps147
 go_wp2_with (refine store_row rfl 108 (.tmp 2) (.tmp 77) rfl w.heap.size _ rfl rfl 23 hsz.out (blk_new w (.cells #[.nilFunc, .nilFunc, .nilFunc, .nilFunc, .nilFunc, .nilFunc, .nilFunc, .nilFunc, .nilFunc, .nilFunc, .nilFunc, .nilFunc, .nilFunc, .nilFunc, .nilFunc, .nilFunc, .nilFunc, .nilFunc, .nilFunc, .nilFunc, .nilFunc, .nilFunc, .nilFunc] 108)) rfl rfl (by rfl) ?_)
 exact row_post rfl rfl Tryz.underlying108 rfl steps_size rfl rfl (blk_new w (.cells #[.nilFunc, .nilFunc, .nilFunc, .nilFunc, .nilFunc, .nilFunc, .nilFunc, .nilFunc, .nilFunc, .nilFunc, .nilFunc, .nilFunc, .nilFunc, .nilFunc, .nilFunc, .nilFunc, .nilFunc, .nilFunc, .nilFunc, .nilFunc, .nilFunc, .nilFunc, .nilFunc] 108)) ⟨rfl, below_row (below_alloc (Below.refl _ _) _) (Nat.le_refl _)⟩
set_option maxRecDepth 100000 in
set_option maxHeartbeats 2000000 in
theorem m_som_rel {b : Nat} (k : ClkI) (w : World) (h : ClkAt b k w) (himp : ¬ k.om = ⟨#[105, 109, 112]⟩) (hacc : ¬ k.om = ⟨#[97, 99, 99]⟩) (himm : ¬ k.om = ⟨#[105, 109, 109]⟩) (hzpg : ¬ k.om = ⟨#[122, 112, 103]⟩) (hzpx : ¬ k.om = ⟨#[122, 112, 120]⟩) (hzpy : ¬ k.om = ⟨#[122, 112, 121]⟩) (habs : ¬ k.om = ⟨#[97, 98, 115]⟩) (habx : ¬ k.om = ⟨#[97, 98, 120]⟩) (haby : ¬ k.om = ⟨#[97, 98, 121]⟩) (hinx : ¬ k.om = ⟨#[105, 110, 120]⟩) (hiny : ¬ k.om = ⟨#[105, 110, 121]⟩) (hind : ¬ k.om = ⟨#[105, 110, 100]⟩) : Calls Tryz.prog 147 #[.pointer (some ⟨b, 0, none⟩)] w fun e w' => e = .returned (.agg (st_offset_branch_turnPage b)) ∧ Below w.heap.size w w' := by
 have hsz := Lib.hid steps_size
 have hmf : ∀ (fn : Fn) (first cap : Array Value) (w : World), (Instr.makeFunc fn first cap).run Tryz.prog w = .ok (.func fn first cap) w := fun _ _ _ _ => rfl
 have c_om := h.c_om
 have nimp := ne_list [105, 109, 112] himp
 have nacc := ne_list [97, 99, 99] hacc
 have nimm := ne_list [105, 109, 109] himm
 have nzpg := ne_list [122, 112, 103] hzpg
 have nzpx := ne_list [122, 112, 120] hzpx
 have nzpy := ne_list [122, 112, 121] hzpy
 have nabs := ne_list [97, 98, 115] habs
 have nabx := ne_list [97, 98, 120] habx
 have naby := ne_list [97, 98, 121] haby
 have ninx := ne_list [105, 110, 120] hinx
 have niny := ne_list [105, 110, 121] hiny
 have nind := ne_list [105, 110, 100] hind
 clear himp hacc himm hzpg hzpx hzpy habs habx haby hinx hiny hind
 unfold st_offset_branch_turnPage stepV
 have hlt := h.lt
 go_enter Tryz.func147, Tryz.ntmps147
 go_wp2_with (refine store_row rfl 108 (.tmp 2) (.tmp 84) rfl w.heap.size _ rfl rfl 23 hsz.out (blk_new w (.cells #[.nilFunc, .nilFunc, .nilFunc, .nilFunc, .nilFunc, .nilFunc, .nilFunc, .nilFunc, .nilFunc, .nilFunc, .nilFunc, .nilFunc, .nilFunc, .nilFunc, .nilFunc, .nilFunc, .nilFunc, .nilFunc, .nilFunc, .nilFunc, .nilFunc, .nilFunc, .nilFunc] 108)) rfl rfl (by rfl) ?_)
 exact row_post rfl rfl Tryz.underlying108 rfl steps_size rfl rfl (blk_new w (.cells #[.nilFunc, .nilFunc, .nilFunc, .nilFunc, .nilFunc, .nilFunc, .nilFunc, .nilFunc, .nilFunc, .nilFunc, .nilFunc, .nilFunc, .nilFunc, .nilFunc, .nilFunc, .nilFunc, .nilFunc, .nilFunc, .nilFunc, .nilFunc, .nilFunc, .nilFunc, .nilFunc] 108)) ⟨rfl, below_row (below_alloc (Below.refl _ _) _) (Nat.le_refl _)⟩
theorem m_stepsOfMode {b : Nat} (k : ClkI) (w : World) (h : ClkAt b k w) : Calls Tryz.prog 147 #[.pointer (some ⟨b, 0, none⟩)] w fun e w' => e = .returned (.agg (modeSteps k.om b)) ∧ Below w.heap.size w w' := by
 unfold modeSteps
 by_cases himp : k.om = ⟨#[105, 109, 112]⟩
 ·rw [if_pos himp]; exact m_som_imp k w h himp
 rw [if_neg himp]
 by_cases hacc : k.om = ⟨#[97, 99, 99]⟩
 ·rw [if_pos hacc]; exact m_som_acc k w h hacc
 rw [if_neg hacc]
 by_cases himm : k.om = ⟨#[105, 109, 109]⟩
 ·rw [if_pos himm]; exact m_som_imm k w h himm
 rw [if_neg himm]
 by_cases hzpg : k.om = ⟨#[122, 112, 103]⟩
 ·rw [if_pos hzpg]; exact m_som_zpg k w h hzpg
 rw [if_neg hzpg]
 by_cases hzpx : k.om = ⟨#[122, 112, 120]⟩
 ·rw [if_pos hzpx]; exact m_som_zpx k w h hzpx
 rw [if_neg hzpx]
 by_cases hzpy : k.om = ⟨#[122, 112, 121]⟩
 ·rw [if_pos hzpy]; exact m_som_zpy k w h hzpy
 rw [if_neg hzpy]
 by_cases habs : k.om = ⟨#[97, 98, 115]⟩
 ·rw [if_pos habs]; exact m_som_abs k w h habs
 rw [if_neg habs]
 by_cases habx : k.om = ⟨#[97, 98, 120]⟩
 ·rw [if_pos habx]; exact m_som_abx k w h habx
 rw [if_neg habx]
 by_cases haby : k.om = ⟨#[97, 98, 121]⟩
 ·rw [if_pos haby]; exact m_som_aby k w h haby
 rw [if_neg haby]
 by_cases hinx : k.om = ⟨#[105, 110, 120]⟩
 ·rw [if_pos hinx]; exact m_som_inx k w h hinx
 rw [if_neg hinx]
 by_cases hiny : k.om = ⟨#[105, 110, 121]⟩
 ·rw [if_pos hiny]; exact m_som_iny k w h hiny
 rw [if_neg hiny]
 by_cases hind : k.om = ⟨#[105, 110, 100]⟩
 ·rw [if_pos hind]; exact m_som_ind k w h hind
 rw [if_neg hind]
 exact m_som_rel k w h himp hacc himm hzpg hzpx hzpy habs habx haby hinx hiny hind
set_option maxRecDepth 100000 in
set_option maxHeartbeats 2000000 in
theorem m_son_PHA {b : Nat} (k : ClkI) (w : World) (h : ClkAt b k w) (hn : k.on = ⟨#[80, 72, 65]⟩) : Calls Tryz.prog 117 #[.pointer (some ⟨b, 0, none⟩)] w fun e w' => e = .returned (.agg (st_idle_pushRegister b)) ∧ Below w.heap.size w w' := by
 have hsz := Lib.hid steps_size
 have hmf : ∀ (fn : Fn) (first cap : Array Value) (w : World), (Instr.makeFunc fn first cap).run Tryz.prog w = .ok (.func fn first cap) w := fun _ _ _ _ => rfl
 have c_on := h.c_on
 rw [hn] at c_on
 unfold st_idle_pushRegister stepV
 have hlt := h.lt
 go_enter Tryz.func117, Tryz.ntmps117
 go_wp2_with (refine store_row rfl 108 (.tmp 2) (.tmp 30) rfl w.heap.size _ rfl rfl 23 hsz.out (blk_new w (.cells #[.nilFunc, .nilFunc, .nilFunc, .nilFunc, .nilFunc, .nilFunc, .nilFunc, .nilFunc, .nilFunc, .nilFunc, .nilFunc, .nilFunc, .nilFunc, .nilFunc, .nilFunc, .nilFunc, .nilFunc, .nilFunc, .nilFunc, .nilFunc, .nilFunc, .nilFunc, .nilFunc] 108)) rfl rfl (by rfl) ?_)
 exact row_post rfl rfl Tryz.underlying108 rfl steps_size rfl rfl (blk_new w (.cells #[.nilFunc, .nilFunc, .nilFunc, .nilFunc, .nilFunc, .nilFunc, .nilFunc, .nilFunc, .nilFunc, .nilFunc, .nilFunc, .nilFunc, .nilFunc, .nilFunc, .nilFunc, .nilFunc, .nilFunc, .nilFunc, .nilFunc, .nilFunc, .nilFunc, .nilFunc, .nilFunc] 108)) ⟨rfl, below_row (below_alloc (Below.refl _ _) _) (Nat.le_refl _)⟩
set_option maxRecDepth 100000 in
set_option maxHeartbeats 2000000 in
theorem m_son_PHP {b : Nat} (k : ClkI) (w : World) (h : ClkAt b k w) (hn : k.on = ⟨#[80, 72, 80]⟩) : Calls Tryz.prog 117 #[.pointer (some ⟨b, 0, none⟩)] w fun e w' => e = .returned (.agg (st_idle_pushRegister b)) ∧ Below w.heap.size w w' := by
 have hsz := Lib.hid steps_size
 have hmf : ∀ (fn : Fn) (first cap : Array Value) (w : World), (Instr.makeFunc fn first cap).run Tryz.prog w = .ok (.func fn first cap) w := fun _ _ _ _ => rfl
 have c_on := h.c_on
 rw [hn] at c_on
 unfold st_idle_pushRegister stepV
 have hlt := h.lt
 go_enter Tryz.func117, Tryz.ntmps117
 go_wp2_with (refine store_row rfl 108 (.tmp 2) (.tmp 30) rfl w.heap.size _ rfl rfl 23 hsz.out (blk_new w (.cells #[.nilFunc, .nilFunc, .nilFunc, .nilFunc, .nilFunc, .nilFunc, .nilFunc, .nilFunc, .nilFunc, .nilFunc, .nilFunc, .nilFunc, .nilFunc, .nilFunc, .nilFunc, .nilFunc, .nilFunc, .nilFunc, .nilFunc, .nilFunc, .nilFunc, .nilFunc, .nilFunc] 108)) rfl rfl (by rfl) ?_)
 exact row_post rfl rfl Tryz.underlying108 rfl steps_size rfl rfl (blk_new w (.cells #[.nilFunc, .nilFunc, .nilFunc, .nilFunc, .nilFunc, .nilFunc, .nilFunc, .nilFunc, .nilFunc, .nilFunc, .nilFunc, .nilFunc, .nilFunc, .nilFunc, .nilFunc, .nilFunc, .nilFunc, .nilFunc, .nilFunc, .nilFunc, .nilFunc, .nilFunc, .nilFunc] 108)) ⟨rfl, below_row (below_alloc (Below.refl _ _) _) (Nat.le_refl _)⟩
set_option maxRecDepth 100000 in
set_option maxHeartbeats 2000000 in
theorem m_son_PLA {b : Nat} (k : ClkI) (w : World) (h : ClkAt b k w) (hn : k.on = ⟨#[80, 76, 65]⟩) : Calls Tryz.prog 117 #[.pointer (some ⟨b, 0, none⟩)] w fun e w' => e = .returned (.agg (st_idle_skip_pullRegister b)) ∧ Below w.heap.size w w' := by
 have hsz := Lib.hid steps_size
 have hmf : ∀ (fn : Fn) (first cap : Array Value) (w : World), (Instr.makeFunc fn first cap).run Tryz.prog w = .ok (.func fn first cap) w := fun _ _ _ _ => rfl
 have c_on := h.c_on
 rw [hn] at c_on
 unfold st_idle_skip_pullRegister stepV
 have hlt := h.lt
 go_enter Tryz.func117, Tryz.ntmps117
 go_wp2_with (refine store_row rfl 108 (.tmp 2) (.tmp 40) rfl w.heap.size _ rfl rfl 23 hsz.out (blk_new w (.cells #[.nilFunc, .nilFunc, .nilFunc, .nilFunc, .nilFunc, .nilFunc, .nilFunc, .nilFunc, .nilFunc, .nilFunc, .nilFunc, .nilFunc, .nilFunc, .nilFunc, .nilFunc, .nilFunc, .nilFunc, .nilFunc, .nilFunc, .nilFunc, .nilFunc, .nilFunc, .nilFunc] 108)) rfl rfl (by rfl) ?_)
 exact row_post rfl rfl Tryz.underlying108 rfl steps_size rfl rfl (blk_new w (.cells #[.nilFunc, .nilFunc, .nilFunc, .nilFunc, .nilFunc, .nilFunc, .nilFunc, .nilFunc, .nilFunc, .nilFunc, .nilFunc, .nilFunc, .nilFunc, .nilFunc, .nilFunc, .nilFunc, .nilFunc, .nilFunc, .nilFunc, .nilFunc, .nilFunc, .nilFunc, .nilFunc] 108)) ⟨rfl, below_row (below_alloc (Below.refl _ _) _) (Nat.le_refl _)⟩
set_option maxRecDepth 100000 in
set_option maxHeartbeats 2000000 in
theorem m_son_PLP {b : Nat} (k : ClkI) (w : World) (h : ClkAt b k w) (hn : k.on = ⟨#[80, 76, 80]⟩) : Calls Tryz.prog 117 #[.pointer (some ⟨b, 0, none⟩)] w fun e w' => e = .returned (.agg (st_idle_skip_pullRegister b)) ∧ Below w.heap.size w w' := by
 have hsz := Lib.hid steps_size
 have hmf : ∀ (fn : Fn) (first cap : Array Value) (w : World), (Instr.makeFunc fn first cap).run Tryz.prog w = .ok (.func fn first cap) w := fun _ _ _ _ => rfl
 have c_on := h.c_on
 rw [hn] at c_on
 unfold st_idle_skip_pullRegister stepV
 have hlt := h.lt
 go_enter Tryz.func117, Tryz.ntmps117
 go_wp2_with (refine store_row rfl 108 (.tmp 2) (.tmp 40) rfl w.heap.size _ rfl rfl 23 hsz.out (blk_new w (.cells #[.nilFunc, .nilFunc, .nilFunc, .nilFunc, .nilFunc, .nilFunc, .nilFunc, .nilFunc, .nilFunc, .nilFunc, .nilFunc, .nilFunc, .nilFunc, .nilFunc, .nilFunc, .nilFunc, .nilFunc, .nilFunc, .nilFunc, .nilFunc, .nilFunc, .nilFunc, .nilFunc] 108)) rfl rfl (by rfl) ?_)
 exact row_post rfl rfl Tryz.underlying108 rfl steps_size rfl rfl (blk_new w (.cells #[.nilFunc, .nilFunc, .nilFunc, .nilFunc, .nilFunc, .nilFunc, .nilFunc, .nilFunc, .nilFunc, .nilFunc, .nilFunc, .nilFunc, .nilFunc, .nilFunc, .nilFunc, .nilFunc, .nilFunc, .nilFunc, .nilFunc, .nilFunc, .nilFunc, .nilFunc, .nilFunc] 108)) ⟨rfl, below_row (below_alloc (Below.refl _ _) _) (Nat.le_refl _)⟩
set_option maxRecDepth 100000 in
set_option maxHeartbeats 2000000 in
theorem m_son_RTI {b : Nat} (k : ClkI) (w : World) (h : ClkAt b k w) (hn : k.on = ⟨#[82, 84, 73]⟩) : Calls Tryz.prog 117 #[.pointer (some ⟨b, 0, none⟩)] w fun e w' => e = .returned (.agg (st_idle_skip_pullNotes_pullLow_resume b)) ∧ Below w.heap.size w w' := by
 have hsz := Lib.hid steps_size
 have hmf : ∀ (fn : Fn) (first cap : Array Value) (w : World), (Instr.makeFunc fn first cap).run Tryz.prog w = .ok (.func fn first cap) w := fun _ _ _ _ => rfl
 have c_on := h.c_on
 rw [hn] at c_on
 unfold st_idle_skip_pullNotes_pullLow_resume stepV
 have hlt := h.lt
 go_enter Tryz.func117, Tryz.ntmps117
 go_wp2_with (refine store_row rfl 108 (.tmp 2) (.tmp 53) rfl w.heap.size _ rfl rfl 23 hsz.out (blk_new w (.cells #[.nilFunc, .nilFunc, .nilFunc, .nilFunc, .nilFunc, .nilFunc, .nilFunc, .nilFunc, .nilFunc, .nilFunc, .nilFunc, .nilFunc, .nilFunc, .nilFunc, .nilFunc, .nilFunc, .nilFunc, .nilFunc, .nilFunc, .nilFunc, .nilFunc, .nilFunc, .nilFunc] 108)) rfl rfl (by rfl) ?_)
 exact row_post rfl rfl Tryz.underlying108 rfl steps_size rfl rfl (blk_new w (.cells #[.nilFunc, .nilFunc, .nilFunc, .nilFunc, .nilFunc, .nilFunc, .nilFunc, .nilFunc, .nilFunc, .nilFunc, .nilFunc, .nilFunc, .nilFunc, .nilFunc, .nilFunc, .nilFunc, .nilFunc, .nilFunc, .nilFunc, .nilFunc, .nilFunc, .nilFunc, .nilFunc] 108)) ⟨rfl, below_row (below_alloc (Below.refl _ _) _) (Nat.le_refl _)⟩
set_option maxRecDepth 100000 in
set_option maxHeartbeats 2000000 in
theorem m_son_RTS {b : Nat} (k : ClkI) (w : World) (h : ClkAt b k w) (hn : k.on = ⟨#[82, 84, 83]⟩) : Calls Tryz.prog 117 #[.pointer (some ⟨b, 0, none⟩)] w fun e w' => e = .returned (.agg (st_idle_skip_pullLow_pullPlace_stepOver b)) ∧ Below w.heap.size w w' := by
 have hsz := Lib.hid steps_size
 have hmf : ∀ (fn : Fn) (first cap : Array Value) (w : World), (Instr.makeFunc fn first cap).run Tryz.prog w = .ok (.func fn first cap) w := fun _ _ _ _ => rfl
 have c_on := h.c_on
 rw [hn] at c_on
 unfold st_idle_skip_pullLow_pullPlace_stepOver stepV
 have hlt := h.lt
 go_enter Tryz.func117, Tryz.ntmps117
 go_wp2_with (refine store_row rfl 108 (.tmp 2) (.tmp 66) rfl w.heap.size _ rfl rfl 23 hsz.out (blk_new w (.cells #[.nilFunc, .nilFunc, .nilFunc, .nilFunc, .nilFunc, .nilFunc, .nilFunc, .nilFunc, .nilFunc, .nilFunc, .nilFunc, .nilFunc, .nilFunc, .nilFunc, .nilFunc, .nilFunc, .nilFunc, .nilFunc, .nilFunc, .nilFunc, .nilFunc, .nilFunc, .nilFunc] 108)) rfl rfl (by rfl) ?_)
 exact row_post rfl rfl Tryz.underlying108 rfl steps_size rfl rfl (blk_new w (.cells #[.nilFunc, .nilFunc, .nilFunc, .nilFunc, .nilFunc, .nilFunc, .nilFunc, .nilFunc, .nilFunc, .nilFunc, .nilFunc, .nilFunc, .nilFunc, .nilFunc, .nilFunc, .nilFunc, .nilFunc, .nilFunc, .nilFunc, .nilFunc, .nilFunc, .nilFunc, .nilFunc] 108)) ⟨rfl, below_row (below_alloc (Below.refl _ _) _) (Nat.le_refl _)⟩
set_option maxRecDepth 100000 in
set_option maxHeartbeats 2000000 in
theorem m_son_JSR {b : Nat} (k : ClkI) (w : World) (h : ClkAt b k w) (hn : k.on = ⟨#[74, 83, 82]⟩) : Calls Tryz.prog 117 #[.pointer (some ⟨b, 0, none⟩)] w fun e w' => e = .returned (.agg (st_low_lookAtStack_pushHigh_pushLow_jump b)) ∧ Below w.heap.size w w' := by
 have hsz := Lib.hid steps_size
 have hmf : ∀ (fn : Fn) (first cap : Array Value) (w : World), (Instr.makeFunc fn first cap).run Tryz.prog w = .ok (.func fn first cap) w := fun _ _ _ _ => rfl
 have c_on := h.c_on
 rw [hn] at c_on
 unfold st_low_lookAtStack_pushHigh_pushLow_jump stepV
 have hlt := h.lt
 go_enter Tryz.func117, Tryz.ntmps117
 go_wp2_with (refine store_row rfl 108 (.tmp 2) (.tmp 79) rfl w.heap.size _ rfl rfl 23 hsz.out (blk_new w (.cells #[.nilFunc, .nilFunc, .nilFunc, .nilFunc, .nilFunc, .nilFunc, .nilFunc, .nilFunc, .nilFunc, .nilFunc, .nilFunc, .nilFunc, .nilFunc, .nilFunc, .nilFunc, .nilFunc, .nilFunc, .nilFunc, .nilFunc, .nilFunc, .nilFunc, .nilFunc, .nilFunc] 108)) rfl rfl (by rfl) ?_)
 exact row_post rfl rfl Tryz.underlying108 rfl steps_size rfl rfl (blk_new w (.cells #[.nilFunc, .nilFunc, .nilFunc, .nilFunc, .nilFunc, .nilFunc, .nilFunc, .nilFunc, .nilFunc, .nilFunc, .nilFunc, .nilFunc, .nilFunc, .nilFunc, .nilFunc, .nilFunc, .nilFunc, .nilFunc, .nilFunc, .nilFunc, .nilFunc, .nilFunc, .nilFunc] 108)) ⟨rfl, below_row (below_alloc (Below.refl _ _) _) (Nat.le_refl _)⟩
set_option maxRecDepth 100000 in
set_option maxHeartbeats 2000000 in
theorem m_son_JMPa {b : Nat} (k : ClkI) (w : World) (h : ClkAt b k w) (hn : k.on = ⟨#[74, 77, 80]⟩) (hm : k.om = ⟨#[97, 98, 115]⟩) : Calls Tryz.prog 117 #[.pointer (some ⟨b, 0, none⟩)] w fun e w' => e = .returned (.agg (st_low_jump b)) ∧ Below w.heap.size w w' := by
 have hsz := Lib.hid steps_size
 have hmf : ∀ (fn : Fn) (first cap : Array Value) (w : World), (Instr.makeFunc fn first cap).run Tryz.prog w = .ok (.func fn first cap) w := fun _ _ _ _ => rfl
 have c_on := h.c_on
 rw [hn] at c_on
 have c_om := h.c_om
 rw [hm] at c_om
 unfold st_low_jump stepV
 have hlt := h.lt
 go_enter Tryz.func117, Tryz.ntmps117
 go_wp2_with (refine store_row rfl 108 (.tmp 2) (.tmp 92) rfl w.heap.size _ rfl rfl 23 hsz.out (blk_new w (.cells #[.nilFunc, .nilFunc, .nilFunc, .nilFunc, .nilFunc, .nilFunc, .nilFunc, .nilFunc, .nilFunc, .nilFunc, .nilFunc, .nilFunc, .nilFunc, .nilFunc, .nilFunc, .nilFunc, .nilFunc, .nilFunc, .nilFunc, .nilFunc, .nilFunc, .nilFunc, .nilFunc] 108)) rfl rfl (by rfl) ?_)
 exact row_post rfl rfl Tryz.underlying108 rfl steps_size rfl rfl (blk_new w (.cells #[.nilFunc, .nilFunc, .nilFunc, .nilFunc, .nilFunc, .nilFunc, .nilFunc, .nilFunc, .nilFunc, .nilFunc, .nilFunc, .nilFunc, .nilFunc, .nilFunc, .nilFunc, .nilFunc, .nilFunc, .nilFunc, .nilFunc, .nilFunc, .nilFunc, .nilFunc, .nilFunc] 108)) ⟨rfl, below_row (below_alloc (Below.refl _ _) _) (Nat.le_refl _)⟩
def okS (a : Array Value) : Prop := a.size = 23 ∧ a.toList.all (·.oneCell') = true
theorem modeSteps_ok (m : ByteArray) (b : Nat) : okS (modeSteps m b) := by
 unfold modeSteps
 by_cases himp : m = ⟨#[105, 109, 112]⟩
 ·rw [if_pos himp]; exact ⟨rfl, rfl⟩
 rw [if_neg himp]
 by_cases hacc : m = ⟨#[97, 99, 99]⟩
 ·rw [if_pos hacc]; exact ⟨rfl, rfl⟩
 rw [if_neg hacc]
 by_cases himm : m = ⟨#[105, 109, 109]⟩
 ·rw [if_pos himm]; exact ⟨rfl, rfl⟩
 rw [if_neg himm]
 by_cases hzpg : m = ⟨#[122, 112, 103]⟩
 ·rw [if_pos hzpg]; exact ⟨rfl, rfl⟩
 rw [if_neg hzpg]
 by_cases hzpx : m = ⟨#[122, 112, 120]⟩
 ·rw [if_pos hzpx]; exact ⟨rfl, rfl⟩
 rw [if_neg hzpx]
 by_cases hzpy : m = ⟨#[122, 112, 121]⟩
 ·rw [if_pos hzpy]; exact ⟨rfl, rfl⟩
 rw [if_neg hzpy]
 by_cases habs : m = ⟨#[97, 98, 115]⟩
 ·rw [if_pos habs]; exact ⟨rfl, rfl⟩
 rw [if_neg habs]
 by_cases habx : m = ⟨#[97, 98, 120]⟩
 ·rw [if_pos habx]; exact ⟨rfl, rfl⟩
 rw [if_neg habx]
 by_cases haby : m = ⟨#[97, 98, 121]⟩
 ·rw [if_pos haby]; exact ⟨rfl, rfl⟩
 rw [if_neg haby]
 by_cases hinx : m = ⟨#[105, 110, 120]⟩
 ·rw [if_pos hinx]; exact ⟨rfl, rfl⟩
 rw [if_neg hinx]
 by_cases hiny : m = ⟨#[105, 110, 121]⟩
 ·rw [if_pos hiny]; exact ⟨rfl, rfl⟩
 rw [if_neg hiny]
 by_cases hind : m = ⟨#[105, 110, 100]⟩
 ·rw [if_pos hind]; exact ⟨rfl, rfl⟩
 rw [if_neg hind]
 exact ⟨rfl, rfl⟩
set_option maxRecDepth 100000 in
set_option maxHeartbeats 2000000 in
theorem m_son_JMPi {b : Nat} (k : ClkI) (w : World) (h : ClkAt b k w) (hn : k.on = ⟨#[74, 77, 80]⟩) (hm : ¬ k.om = ⟨#[97, 98, 115]⟩) : Calls Tryz.prog 117 #[.pointer (some ⟨b, 0, none⟩)] w fun e w' => e = .returned (.agg (modeSteps k.om b)) ∧ Below w.heap.size w w' := by
 have hsz := Lib.hid steps_size
 have HM := fun w h => m_stepsOfMode k w h (b := b)
 have hS := modeSteps_ok k.om b
 generalize modeSteps k.om b = fs at *
 replace HM := Lib.hid HM
 replace hS := Lib.hid hS
 have hlt := h.lt
 have c_on := h.c_on
 rw [hn] at c_on
 have c_om := h.c_om
 have nm := ne_list [97, 98, 115] hm
 clear hm
 have h := Lib.hid h
 go_enter Tryz.func117, Tryz.ntmps117
 go_wp2_with (go_at_call 147; refine (HM.out _ (h.out.new _)).mono ?_; rintro e w1 ⟨rfl, hb⟩; refine Hid.out ?_)
 have K := Lib.hid (blk_below (blk_new w (.cells #[.nilFunc, .nilFunc, .nilFunc, .nilFunc, .nilFunc, .nilFunc, .nilFunc, .nilFunc, .nilFunc, .nilFunc, .nilFunc, .nilFunc, .nilFunc, .nilFunc, .nilFunc, .nilFunc, .nilFunc, .nilFunc, .nilFunc, .nilFunc, .nilFunc, .nilFunc, .nilFunc] 108)) hb)
 have B := Lib.hid (below_then (below_alloc (Below.refl w.heap.size w) (.cells #[.nilFunc, .nilFunc, .nilFunc, .nilFunc, .nilFunc, .nilFunc, .nilFunc, .nilFunc, .nilFunc, .nilFunc, .nilFunc, .nilFunc, .nilFunc, .nilFunc, .nilFunc, .nilFunc, .nilFunc, .nilFunc, .nilFunc, .nilFunc, .nilFunc, .nilFunc, .nilFunc] 108)) hb)
 clear hb
 refine Lib.hid ?_
 go_wp2_with (refine store_row rfl 108 (.tmp 2) (.tmp 94) rfl w.heap.size _ rfl rfl 23 hsz.out K.out hS.out.1 rfl hS.out.2 ?_)
 exact row_post rfl rfl Tryz.underlying108 rfl steps_size hS.out.1 rfl K.out ⟨rfl, below_row B.out (Nat.le_refl _)⟩
set_option maxRecDepth 100000 in
set_option maxHeartbeats 2000000 in
theorem m_son_other {b : Nat} (k : ClkI) (w : World) (h : ClkAt b k w) (hBRK : ¬ k.on = ⟨#[66, 82, 75]⟩) (hPHA : ¬ k.on = ⟨#[80, 72, 65]⟩) (hPHP : ¬ k.on = ⟨#[80, 72, 80]⟩) (hPLA : ¬ k.on = ⟨#[80, 76, 65]⟩) (hPLP : ¬ k.on = ⟨#[80, 76, 80]⟩) (hRTI : ¬ k.on = ⟨#[82, 84, 73]⟩) (hRTS : ¬ k.on = ⟨#[82, 84, 83]⟩) (hJSR : ¬ k.on = ⟨#[74, 83, 82]⟩) (hJMP : ¬ k.on = ⟨#[74, 77, 80]⟩) : Calls Tryz.prog 117 #[.pointer (some ⟨b, 0, none⟩)] w fun e w' => e = .returned (.agg (modeSteps k.om b)) ∧ Below w.heap.size w w' := by
 have hsz := Lib.hid steps_size
 have HM := fun w h => m_stepsOfMode k w h (b := b)
 have hS := modeSteps_ok k.om b
 generalize modeSteps k.om b = fs at *
 replace HM := Lib.hid HM
 replace hS := Lib.hid hS
 have hlt := h.lt
 have c_on := h.c_on
 have nBRK := ne_list [66, 82, 75] hBRK
 have nPHA := ne_list [80, 72, 65] hPHA
 have nPHP := ne_list [80, 72, 80] hPHP
 have nPLA := ne_list [80, 76, 65] hPLA
 have nPLP := ne_list [80, 76, 80] hPLP
 have nRTI := ne_list [82, 84, 73] hRTI
 have nRTS := ne_list [82, 84, 83] hRTS
 have nJSR := ne_list [74, 83, 82] hJSR
 have nJMP := ne_list [74, 77, 80] hJMP
 clear hBRK hPHA hPHP hPLA hPLP hRTI hRTS hJSR hJMP
 have h := Lib.hid h
 go_enter Tryz.func117, Tryz.ntmps117
 go_wp2_with (go_at_call 147; refine (HM.out _ (h.out.new _)).mono ?_; rintro e w1 ⟨rfl, hb⟩; refine Hid.out ?_)
 have K := Lib.hid (blk_below (blk_new w (.cells #[.nilFunc, .nilFunc, .nilFunc, .nilFunc, .nilFunc, .nilFunc, .nilFunc, .nilFunc, .nilFunc, .nilFunc, .nilFunc, .nilFunc, .nilFunc, .nilFunc, .nilFunc, .nilFunc, .nilFunc, .nilFunc, .nilFunc, .nilFunc, .nilFunc, .nilFunc, .nilFunc] 108)) hb)
 have B := Lib.hid (below_then (below_alloc (Below.refl w.heap.size w) (.cells #[.nilFunc, .nilFunc, .nilFunc, .nilFunc, .nilFunc, .nilFunc, .nilFunc, .nilFunc, .nilFunc, .nilFunc, .nilFunc, .nilFunc, .nilFunc, .nilFunc, .nilFunc, .nilFunc, .nilFunc, .nilFunc, .nilFunc, .nilFunc, .nilFunc, .nilFunc, .nilFunc] 108)) hb)
 clear hb
 refine Lib.hid ?_
 go_wp2_with (refine store_row rfl 108 (.tmp 2) (.tmp 94) rfl w.heap.size _ rfl rfl 23 hsz.out K.out hS.out.1 rfl hS.out.2 ?_)
 exact row_post rfl rfl Tryz.underlying108 rfl steps_size hS.out.1 rfl K.out ⟨rfl, below_row B.out (Nat.le_refl _)⟩
theorem m_stepsOfName {b : Nat} (k : ClkI) (w : World) (h : ClkAt b k w) : Calls Tryz.prog 117 #[.pointer (some ⟨b, 0, none⟩)] w fun e w' => e = .returned (.agg (nameSteps k.on k.om b)) ∧ Below w.heap.size w w' := by
 unfold nameSteps
 by_cases hBRK : k.on = ⟨#[66, 82, 75]⟩
 ·rw [if_pos hBRK]; exact m_stepsOfName_brk k w h hBRK
 rw [if_neg hBRK]
 by_cases hPHA : k.on = ⟨#[80, 72, 65]⟩
 ·rw [if_pos hPHA]; exact m_son_PHA k w h hPHA
 rw [if_neg hPHA]
 by_cases hPHP : k.on = ⟨#[80, 72, 80]⟩
 ·rw [if_pos hPHP]; exact m_son_PHP k w h hPHP
 rw [if_neg hPHP]
 by_cases hPLA : k.on = ⟨#[80, 76, 65]⟩
 ·rw [if_pos hPLA]; exact m_son_PLA k w h hPLA
 rw [if_neg hPLA]
 by_cases hPLP : k.on = ⟨#[80, 76, 80]⟩
 ·rw [if_pos hPLP]; exact m_son_PLP k w h hPLP
 rw [if_neg hPLP]
 by_cases hRTI : k.on = ⟨#[82, 84, 73]⟩
 ·rw [if_pos hRTI]; exact m_son_RTI k w h hRTI
 rw [if_neg hRTI]
 by_cases hRTS : k.on = ⟨#[82, 84, 83]⟩
 ·rw [if_pos hRTS]; exact m_son_RTS k w h hRTS
 rw [if_neg hRTS]
 by_cases hJSR : k.on = ⟨#[74, 83, 82]⟩
 ·rw [if_pos hJSR]; exact m_son_JSR k w h hJSR
 rw [if_neg hJSR]
 by_cases hJMP : k.on = ⟨#[74, 77, 80]⟩
 ·rw [if_pos hJMP]
  by_cases hm : k.om = ⟨#[97, 98, 115]⟩
  ·rw [if_pos hm]; exact m_son_JMPa k w h hJMP hm
  ·rw [if_neg hm]; exact m_son_JMPi k w h hJMP hm
 rw [if_neg hJMP]
 exact m_son_other k w h hBRK hPHA hPHP hPLA hPLP hRTI hRTS hJSR hJMP
theorem nameSteps_ok (n m : ByteArray) (b : Nat) : okS (nameSteps n m b) := by
 have hm := modeSteps_ok m b
 unfold nameSteps
 by_cases hBRK : n = ⟨#[66, 82, 75]⟩
 ·rw [if_pos hBRK]; exact ⟨rfl, rfl⟩
 rw [if_neg hBRK]
 by_cases hPHA : n = ⟨#[80, 72, 65]⟩
 ·rw [if_pos hPHA]; exact ⟨rfl, rfl⟩
 rw [if_neg hPHA]
 by_cases hPHP : n = ⟨#[80, 72, 80]⟩
 ·rw [if_pos hPHP]; exact ⟨rfl, rfl⟩
 rw [if_neg hPHP]
 by_cases hPLA : n = ⟨#[80, 76, 65]⟩
 ·rw [if_pos hPLA]; exact ⟨rfl, rfl⟩
 rw [if_neg hPLA]
 by_cases hPLP : n = ⟨#[80, 76, 80]⟩
 ·rw [if_pos hPLP]; exact ⟨rfl, rfl⟩
 rw [if_neg hPLP]
 by_cases hRTI : n = ⟨#[82, 84, 73]⟩
 ·rw [if_pos hRTI]; exact ⟨rfl, rfl⟩
 rw [if_neg hRTI]
 by_cases hRTS : n = ⟨#[82, 84, 83]⟩
 ·rw [if_pos hRTS]; exact ⟨rfl, rfl⟩
 rw [if_neg hRTS]
 by_cases hJSR : n = ⟨#[74, 83, 82]⟩
 ·rw [if_pos hJSR]; exact ⟨rfl, rfl⟩
 rw [if_neg hJSR]
 by_cases hJMP : n = ⟨#[74, 77, 80]⟩
 ·rw [if_pos hJMP]
  by_cases ha : m = ⟨#[97, 98, 115]⟩
  ·rw [if_pos ha]; exact ⟨rfl, rfl⟩
  ·rw [if_neg ha]; exact hm
 rw [if_neg hJMP]
 exact hm
end Go.Proofs.YthklebkpoccblaaGreat
