/-
  The registers behind what goes from register to register (chapter 9, the program).
  Conditions: as each says; each walk leaves old memory as it was.
-/
import Derived.Test.YtfeifcffgachoaaWoB
import Derived.Test.YtfeifcffgachoaaRow
namespace Go.Proofs.Ytfeifcffgachoaa
open Go.RowKit
/-- The registers behind what goes from register to register. -/
def moveI (k : RegI) (n : ByteArray) : RegI := if n = ⟨#[84, 65, 88]⟩ then { k with x := k.a % 256, p := nzI k.p (k.a % 256) } else if n = ⟨#[84, 65, 89]⟩ then { k with y := k.a % 256, p := nzI k.p (k.a % 256) } else if n = ⟨#[84, 88, 65]⟩ then { k with a := k.x % 256, p := nzI k.p (k.x % 256) } else if n = ⟨#[84, 89, 65]⟩ then { k with a := k.y % 256, p := nzI k.p (k.y % 256) } else if n = ⟨#[84, 83, 88]⟩ then { k with x := k.s % 256, p := nzI k.p (k.s % 256) } else if n = ⟨#[84, 88, 83]⟩ then { k with s := k.x } else if n = ⟨#[73, 78, 88]⟩ then { k with x := (k.x + 1) % 256, p := nzI k.p ((k.x + 1) % 256) } else if n = ⟨#[73, 78, 89]⟩ then { k with y := (k.y + 1) % 256, p := nzI k.p ((k.y + 1) % 256) } else if n = ⟨#[68, 69, 88]⟩ then { k with x := (k.x - 1) % 256, p := nzI k.p ((k.x - 1) % 256) } else if n = ⟨#[68, 69, 89]⟩ then { k with y := (k.y - 1) % 256, p := nzI k.p ((k.y - 1) % 256) } else k
set_option maxRecDepth 100000 in
set_option maxHeartbeats 1000000 in
theorem with_move_TAX (k : RegI) (w : World) : Calls Try.prog 29 #[regI k, .string ⟨#[84, 65, 88]⟩] w fun e w' => e = .returned (regI (moveI k ⟨#[84, 65, 88]⟩)) ∧ Below w.heap.size w w' := by
  rw [show moveI k ⟨#[84, 65, 88]⟩ = { k with x := k.a % 256, p := nzI k.p (k.a % 256) } from rfl]
  obtain ⟨a, x, y, s, p, pc⟩ := k
  rw [regI_mk]
  have HS := Lib.hid (fun v w => set_two p v w)
  go_enter Try.func29, Try.ntmps29
  go_wp2_with (go_at_call 66; refine (HS.out _ _).mono ?_; rintro e w' ⟨rfl, rfl⟩)
  exact bodyPost_ret (results_cell_row rfl _ _ (w.heap.size + 1) _ _ _ _ rfl (blk_new2 w _ _) Try.underlying25 rfl reg_size) rfl ⟨rfl, below_alloc (below_alloc (Below.refl _ _) _) _⟩
set_option maxRecDepth 100000 in
set_option maxHeartbeats 1000000 in
theorem with_move_TAY (k : RegI) (w : World) : Calls Try.prog 29 #[regI k, .string ⟨#[84, 65, 89]⟩] w fun e w' => e = .returned (regI (moveI k ⟨#[84, 65, 89]⟩)) ∧ Below w.heap.size w w' := by
  rw [show moveI k ⟨#[84, 65, 89]⟩ = { k with y := k.a % 256, p := nzI k.p (k.a % 256) } from rfl]
  obtain ⟨a, x, y, s, p, pc⟩ := k
  rw [regI_mk]
  have HS := Lib.hid (fun v w => set_two p v w)
  go_enter Try.func29, Try.ntmps29
  go_wp2_with (go_at_call 66; refine (HS.out _ _).mono ?_; rintro e w' ⟨rfl, rfl⟩)
  exact bodyPost_ret (results_cell_row rfl _ _ (w.heap.size + 1) _ _ _ _ rfl (blk_new2 w _ _) Try.underlying25 rfl reg_size) rfl ⟨rfl, below_alloc (below_alloc (Below.refl _ _) _) _⟩
set_option maxRecDepth 100000 in
set_option maxHeartbeats 1000000 in
theorem with_move_TXA (k : RegI) (w : World) : Calls Try.prog 29 #[regI k, .string ⟨#[84, 88, 65]⟩] w fun e w' => e = .returned (regI (moveI k ⟨#[84, 88, 65]⟩)) ∧ Below w.heap.size w w' := by
  rw [show moveI k ⟨#[84, 88, 65]⟩ = { k with a := k.x % 256, p := nzI k.p (k.x % 256) } from rfl]
  obtain ⟨a, x, y, s, p, pc⟩ := k
  rw [regI_mk]
  have HS := Lib.hid (fun v w => set_two p v w)
  go_enter Try.func29, Try.ntmps29
  go_wp2_with (go_at_call 66; refine (HS.out _ _).mono ?_; rintro e w' ⟨rfl, rfl⟩)
  exact bodyPost_ret (results_cell_row rfl _ _ (w.heap.size + 1) _ _ _ _ rfl (blk_new2 w _ _) Try.underlying25 rfl reg_size) rfl ⟨rfl, below_alloc (below_alloc (Below.refl _ _) _) _⟩
set_option maxRecDepth 100000 in
set_option maxHeartbeats 1000000 in
theorem with_move_TYA (k : RegI) (w : World) : Calls Try.prog 29 #[regI k, .string ⟨#[84, 89, 65]⟩] w fun e w' => e = .returned (regI (moveI k ⟨#[84, 89, 65]⟩)) ∧ Below w.heap.size w w' := by
  rw [show moveI k ⟨#[84, 89, 65]⟩ = { k with a := k.y % 256, p := nzI k.p (k.y % 256) } from rfl]
  obtain ⟨a, x, y, s, p, pc⟩ := k
  rw [regI_mk]
  have HS := Lib.hid (fun v w => set_two p v w)
  go_enter Try.func29, Try.ntmps29
  go_wp2_with (go_at_call 66; refine (HS.out _ _).mono ?_; rintro e w' ⟨rfl, rfl⟩)
  exact bodyPost_ret (results_cell_row rfl _ _ (w.heap.size + 1) _ _ _ _ rfl (blk_new2 w _ _) Try.underlying25 rfl reg_size) rfl ⟨rfl, below_alloc (below_alloc (Below.refl _ _) _) _⟩
set_option maxRecDepth 100000 in
set_option maxHeartbeats 1000000 in
theorem with_move_TSX (k : RegI) (w : World) : Calls Try.prog 29 #[regI k, .string ⟨#[84, 83, 88]⟩] w fun e w' => e = .returned (regI (moveI k ⟨#[84, 83, 88]⟩)) ∧ Below w.heap.size w w' := by
  rw [show moveI k ⟨#[84, 83, 88]⟩ = { k with x := k.s % 256, p := nzI k.p (k.s % 256) } from rfl]
  obtain ⟨a, x, y, s, p, pc⟩ := k
  rw [regI_mk]
  have HS := Lib.hid (fun v w => set_two p v w)
  go_enter Try.func29, Try.ntmps29
  go_wp2_with (go_at_call 66; refine (HS.out _ _).mono ?_; rintro e w' ⟨rfl, rfl⟩)
  exact bodyPost_ret (results_cell_row rfl _ _ (w.heap.size + 1) _ _ _ _ rfl (blk_new2 w _ _) Try.underlying25 rfl reg_size) rfl ⟨rfl, below_alloc (below_alloc (Below.refl _ _) _) _⟩
set_option maxRecDepth 100000 in
set_option maxHeartbeats 1000000 in
theorem with_move_TXS (k : RegI) (w : World) : Calls Try.prog 29 #[regI k, .string ⟨#[84, 88, 83]⟩] w fun e w' => e = .returned (regI (moveI k ⟨#[84, 88, 83]⟩)) ∧ Below w.heap.size w w' := by
  rw [show moveI k ⟨#[84, 88, 83]⟩ = { k with s := k.x } from rfl]
  obtain ⟨a, x, y, s, p, pc⟩ := k
  rw [regI_mk]
  go_enter Try.func29, Try.ntmps29
  go_wp2
  exact bodyPost_ret (results_cell_row rfl _ _ (w.heap.size + 1) _ _ _ _ rfl (blk_new2 w _ _) Try.underlying25 rfl reg_size) rfl ⟨rfl, below_alloc (below_alloc (Below.refl _ _) _) _⟩
set_option maxRecDepth 100000 in
set_option maxHeartbeats 1000000 in
theorem with_move_INX (k : RegI) (w : World) : Calls Try.prog 29 #[regI k, .string ⟨#[73, 78, 88]⟩] w fun e w' => e = .returned (regI (moveI k ⟨#[73, 78, 88]⟩)) ∧ Below w.heap.size w w' := by
  rw [show moveI k ⟨#[73, 78, 88]⟩ = { k with x := (k.x + 1) % 256, p := nzI k.p ((k.x + 1) % 256) } from rfl]
  obtain ⟨a, x, y, s, p, pc⟩ := k
  rw [regI_mk]
  have HS := Lib.hid (fun v w => set_two p v w)
  go_enter Try.func29, Try.ntmps29
  go_wp2_with (go_at_call 66; refine (HS.out _ _).mono ?_; rintro e w' ⟨rfl, rfl⟩)
  exact bodyPost_ret (results_cell_row rfl _ _ (w.heap.size + 1) _ _ _ _ rfl (blk_new2 w _ _) Try.underlying25 rfl reg_size) rfl ⟨by simp [w64_8, regI, regC], below_alloc (below_alloc (Below.refl _ _) _) _⟩
set_option maxRecDepth 100000 in
set_option maxHeartbeats 1000000 in
theorem with_move_INY (k : RegI) (w : World) : Calls Try.prog 29 #[regI k, .string ⟨#[73, 78, 89]⟩] w fun e w' => e = .returned (regI (moveI k ⟨#[73, 78, 89]⟩)) ∧ Below w.heap.size w w' := by
  rw [show moveI k ⟨#[73, 78, 89]⟩ = { k with y := (k.y + 1) % 256, p := nzI k.p ((k.y + 1) % 256) } from rfl]
  obtain ⟨a, x, y, s, p, pc⟩ := k
  rw [regI_mk]
  have HS := Lib.hid (fun v w => set_two p v w)
  go_enter Try.func29, Try.ntmps29
  go_wp2_with (go_at_call 66; refine (HS.out _ _).mono ?_; rintro e w' ⟨rfl, rfl⟩)
  exact bodyPost_ret (results_cell_row rfl _ _ (w.heap.size + 1) _ _ _ _ rfl (blk_new2 w _ _) Try.underlying25 rfl reg_size) rfl ⟨by simp [w64_8, regI, regC], below_alloc (below_alloc (Below.refl _ _) _) _⟩
set_option maxRecDepth 100000 in
set_option maxHeartbeats 1000000 in
theorem with_move_DEX (k : RegI) (w : World) : Calls Try.prog 29 #[regI k, .string ⟨#[68, 69, 88]⟩] w fun e w' => e = .returned (regI (moveI k ⟨#[68, 69, 88]⟩)) ∧ Below w.heap.size w w' := by
  rw [show moveI k ⟨#[68, 69, 88]⟩ = { k with x := (k.x - 1) % 256, p := nzI k.p ((k.x - 1) % 256) } from rfl]
  obtain ⟨a, x, y, s, p, pc⟩ := k
  rw [regI_mk]
  have HS := Lib.hid (fun v w => set_two p v w)
  go_enter Try.func29, Try.ntmps29
  go_wp2_with (go_at_call 66; refine (HS.out _ _).mono ?_; rintro e w' ⟨rfl, rfl⟩)
  exact bodyPost_ret (results_cell_row rfl _ _ (w.heap.size + 1) _ _ _ _ rfl (blk_new2 w _ _) Try.underlying25 rfl reg_size) rfl ⟨by simp [w64_8, regI, regC], below_alloc (below_alloc (Below.refl _ _) _) _⟩
set_option maxRecDepth 100000 in
set_option maxHeartbeats 1000000 in
theorem with_move_DEY (k : RegI) (w : World) : Calls Try.prog 29 #[regI k, .string ⟨#[68, 69, 89]⟩] w fun e w' => e = .returned (regI (moveI k ⟨#[68, 69, 89]⟩)) ∧ Below w.heap.size w w' := by
  rw [show moveI k ⟨#[68, 69, 89]⟩ = { k with y := (k.y - 1) % 256, p := nzI k.p ((k.y - 1) % 256) } from rfl]
  obtain ⟨a, x, y, s, p, pc⟩ := k
  rw [regI_mk]
  have HS := Lib.hid (fun v w => set_two p v w)
  go_enter Try.func29, Try.ntmps29
  go_wp2_with (go_at_call 66; refine (HS.out _ _).mono ?_; rintro e w' ⟨rfl, rfl⟩)
  exact bodyPost_ret (results_cell_row rfl _ _ (w.heap.size + 1) _ _ _ _ rfl (blk_new2 w _ _) Try.underlying25 rfl reg_size) rfl ⟨by simp [w64_8, regI, regC], below_alloc (below_alloc (Below.refl _ _) _) _⟩
set_option maxRecDepth 100000 in
set_option maxHeartbeats 2000000 in
theorem with_move_other (k : RegI) (n : ByteArray) (hTAX : ¬ n = ⟨#[84, 65, 88]⟩) (hTAY : ¬ n = ⟨#[84, 65, 89]⟩) (hTXA : ¬ n = ⟨#[84, 88, 65]⟩) (hTYA : ¬ n = ⟨#[84, 89, 65]⟩) (hTSX : ¬ n = ⟨#[84, 83, 88]⟩) (hTXS : ¬ n = ⟨#[84, 88, 83]⟩) (hINX : ¬ n = ⟨#[73, 78, 88]⟩) (hINY : ¬ n = ⟨#[73, 78, 89]⟩) (hDEX : ¬ n = ⟨#[68, 69, 88]⟩) (hDEY : ¬ n = ⟨#[68, 69, 89]⟩) (w : World) : Calls Try.prog 29 #[regI k, .string n] w fun e w' => e = .returned (regI (moveI k n)) ∧ Below w.heap.size w w' := by
  have HV := Lib.hid (show moveI k n = k from by unfold moveI; rw [if_neg hTAX, if_neg hTAY, if_neg hTXA, if_neg hTYA, if_neg hTSX, if_neg hTXS, if_neg hINX, if_neg hINY, if_neg hDEX, if_neg hDEY])
  have nTAX := ne_list [84, 65, 88] hTAX
  have nTAY := ne_list [84, 65, 89] hTAY
  have nTXA := ne_list [84, 88, 65] hTXA
  have nTYA := ne_list [84, 89, 65] hTYA
  have nTSX := ne_list [84, 83, 88] hTSX
  have nTXS := ne_list [84, 88, 83] hTXS
  have nINX := ne_list [73, 78, 88] hINX
  have nINY := ne_list [73, 78, 89] hINY
  have nDEX := ne_list [68, 69, 88] hDEX
  have nDEY := ne_list [68, 69, 89] hDEY
  clear hTAX hTAY hTXA hTYA hTSX hTXS hINX hINY hDEX hDEY
  rw [HV.out]
  clear HV
  obtain ⟨a, x, y, s, p, pc⟩ := k
  rw [regI_mk]
  go_enter Try.func29, Try.ntmps29
  go_wp2
  exact bodyPost_ret (results_cell_row rfl _ _ (w.heap.size + 1) _ _ _ _ rfl (blk_new2 w _ _) Try.underlying25 rfl reg_size) rfl ⟨rfl, below_alloc (below_alloc (Below.refl _ _) _) _⟩
theorem with_move (k : RegI) (n : ByteArray) (w : World) : Calls Try.prog 29 #[regI k, .string n] w fun e w' => e = .returned (regI (moveI k n)) ∧ Below w.heap.size w w' := by
  by_cases hTAX : n = ⟨#[84, 65, 88]⟩
  · subst hTAX; exact with_move_TAX k w
  by_cases hTAY : n = ⟨#[84, 65, 89]⟩
  · subst hTAY; exact with_move_TAY k w
  by_cases hTXA : n = ⟨#[84, 88, 65]⟩
  · subst hTXA; exact with_move_TXA k w
  by_cases hTYA : n = ⟨#[84, 89, 65]⟩
  · subst hTYA; exact with_move_TYA k w
  by_cases hTSX : n = ⟨#[84, 83, 88]⟩
  · subst hTSX; exact with_move_TSX k w
  by_cases hTXS : n = ⟨#[84, 88, 83]⟩
  · subst hTXS; exact with_move_TXS k w
  by_cases hINX : n = ⟨#[73, 78, 88]⟩
  · subst hINX; exact with_move_INX k w
  by_cases hINY : n = ⟨#[73, 78, 89]⟩
  · subst hINY; exact with_move_INY k w
  by_cases hDEX : n = ⟨#[68, 69, 88]⟩
  · subst hDEX; exact with_move_DEX k w
  by_cases hDEY : n = ⟨#[68, 69, 89]⟩
  · subst hDEY; exact with_move_DEY k w
  exact with_move_other k n hTAX hTAY hTXA hTYA hTSX hTXS hINX hINY hDEX hDEY w
end Go.Proofs.Ytfeifcffgachoaa
