/-
  Texts put together by program: WoD.
  Conditions: as each theorem says.
-/
import Derived.Below
import Derived.BigQuiet
import Derived.Deep.QuietTactic
import Derived.Laws.BitsLemmas
import Derived.Laws.Closers25b
import Derived.Laws.EntriesVeiled
import Derived.Laws.ResultCell
import Derived.Laws.Rows
import Derived.Laws.Tables
import Derived.Lib.Hide
import Derived.ProofKit
import Derived.Test.YthklebkpoccblaaGreatProg
import Derived.WalkKit
import Derived.Test.YthklebkpoccblaaGreatRsaa
namespace Go.Proofs.YthklebkpoccblaaGreat
open Go.RowKit
set_option maxRecDepth 100000 in
set_option maxHeartbeats 1000000 in
theorem with_byte_LDA (k : RegI) (v : Int) (w : World) : Calls Tryz.prog 192 #[regI k, .string ⟨#[76, 68, 65]⟩, .int .i64 v] w fun e w' => e = .returned (regI (byteI k ⟨#[76, 68, 65]⟩ v)) ∧ Below w.heap.size w w' := by
 rw [show byteI k ⟨#[76, 68, 65]⟩ v = { k with a := v % 256, p := nzI k.p (v % 256) } from rfl]
 obtain ⟨a, x, y, s, p, pc⟩ := k
 rw [regI_mk]
 have HS := Lib.hid (fun v w => set_two p v w)
 go_enter Tryz.func192, Tryz.ntmps192
 go_wp2_with (go_at_call 165; refine (HS.out _ _).mono ?_; rintro e w' ⟨rfl, rfl⟩)
 exact bodyPost_ret (results_cell_row rfl _ _ (w.heap.size + 1) _ _ _ _ rfl (blk_new2 w _ _) Tryz.underlying25 rfl reg_size) rfl ⟨rfl, below_alloc (below_alloc (Below.refl _ _) _) _⟩
set_option maxRecDepth 100000 in
set_option maxHeartbeats 1000000 in
theorem with_byte_LDX (k : RegI) (v : Int) (w : World) : Calls Tryz.prog 192 #[regI k, .string ⟨#[76, 68, 88]⟩, .int .i64 v] w fun e w' => e = .returned (regI (byteI k ⟨#[76, 68, 88]⟩ v)) ∧ Below w.heap.size w w' := by
 rw [show byteI k ⟨#[76, 68, 88]⟩ v = { k with x := v % 256, p := nzI k.p (v % 256) } from rfl]
 obtain ⟨a, x, y, s, p, pc⟩ := k
 rw [regI_mk]
 have HS := Lib.hid (fun v w => set_two p v w)
 go_enter Tryz.func192, Tryz.ntmps192
 go_wp2_with (go_at_call 165; refine (HS.out _ _).mono ?_; rintro e w' ⟨rfl, rfl⟩)
 exact bodyPost_ret (results_cell_row rfl _ _ (w.heap.size + 1) _ _ _ _ rfl (blk_new2 w _ _) Tryz.underlying25 rfl reg_size) rfl ⟨rfl, below_alloc (below_alloc (Below.refl _ _) _) _⟩
set_option maxRecDepth 100000 in
set_option maxHeartbeats 1000000 in
theorem with_byte_LDY (k : RegI) (v : Int) (w : World) : Calls Tryz.prog 192 #[regI k, .string ⟨#[76, 68, 89]⟩, .int .i64 v] w fun e w' => e = .returned (regI (byteI k ⟨#[76, 68, 89]⟩ v)) ∧ Below w.heap.size w w' := by
 rw [show byteI k ⟨#[76, 68, 89]⟩ v = { k with y := v % 256, p := nzI k.p (v % 256) } from rfl]
 obtain ⟨a, x, y, s, p, pc⟩ := k
 rw [regI_mk]
 have HS := Lib.hid (fun v w => set_two p v w)
 go_enter Tryz.func192, Tryz.ntmps192
 go_wp2_with (go_at_call 165; refine (HS.out _ _).mono ?_; rintro e w' ⟨rfl, rfl⟩)
 exact bodyPost_ret (results_cell_row rfl _ _ (w.heap.size + 1) _ _ _ _ rfl (blk_new2 w _ _) Tryz.underlying25 rfl reg_size) rfl ⟨rfl, below_alloc (below_alloc (Below.refl _ _) _) _⟩
set_option maxRecDepth 100000 in
set_option maxHeartbeats 1000000 in
theorem with_byte_AND (k : RegI) (v : Int) (w : World) : Calls Tryz.prog 192 #[regI k, .string ⟨#[65, 78, 68]⟩, .int .i64 v] w fun e w' => e = .returned (regI (byteI k ⟨#[65, 78, 68]⟩ v)) ∧ Below w.heap.size w w' := by
 rw [show byteI k ⟨#[65, 78, 68]⟩ v = { k with a := bits .and .i64 k.a v % 256, p := nzI k.p (bits .and .i64 k.a v % 256) } from rfl]
 obtain ⟨a, x, y, s, p, pc⟩ := k
 rw [regI_mk]
 have HS := Lib.hid (fun v w => set_two p v w)
 go_enter Tryz.func192, Tryz.ntmps192
 go_wp2_with (go_at_call 165; refine (HS.out _ _).mono ?_; rintro e w' ⟨rfl, rfl⟩)
 exact bodyPost_ret (results_cell_row rfl _ _ (w.heap.size + 1) _ _ _ _ rfl (blk_new2 w _ _) Tryz.underlying25 rfl reg_size) rfl ⟨rfl, below_alloc (below_alloc (Below.refl _ _) _) _⟩
set_option maxRecDepth 100000 in
set_option maxHeartbeats 1000000 in
theorem with_byte_ORA (k : RegI) (v : Int) (w : World) : Calls Tryz.prog 192 #[regI k, .string ⟨#[79, 82, 65]⟩, .int .i64 v] w fun e w' => e = .returned (regI (byteI k ⟨#[79, 82, 65]⟩ v)) ∧ Below w.heap.size w w' := by
 rw [show byteI k ⟨#[79, 82, 65]⟩ v = { k with a := bits .or .i64 k.a v % 256, p := nzI k.p (bits .or .i64 k.a v % 256) } from rfl]
 obtain ⟨a, x, y, s, p, pc⟩ := k
 rw [regI_mk]
 have HS := Lib.hid (fun v w => set_two p v w)
 go_enter Tryz.func192, Tryz.ntmps192
 go_wp2_with (go_at_call 165; refine (HS.out _ _).mono ?_; rintro e w' ⟨rfl, rfl⟩)
 exact bodyPost_ret (results_cell_row rfl _ _ (w.heap.size + 1) _ _ _ _ rfl (blk_new2 w _ _) Tryz.underlying25 rfl reg_size) rfl ⟨rfl, below_alloc (below_alloc (Below.refl _ _) _) _⟩
set_option maxRecDepth 100000 in
set_option maxHeartbeats 1000000 in
theorem with_byte_EOR (k : RegI) (v : Int) (w : World) : Calls Tryz.prog 192 #[regI k, .string ⟨#[69, 79, 82]⟩, .int .i64 v] w fun e w' => e = .returned (regI (byteI k ⟨#[69, 79, 82]⟩ v)) ∧ Below w.heap.size w w' := by
 rw [show byteI k ⟨#[69, 79, 82]⟩ v = { k with a := bits .xor .i64 k.a v % 256, p := nzI k.p (bits .xor .i64 k.a v % 256) } from rfl]
 obtain ⟨a, x, y, s, p, pc⟩ := k
 rw [regI_mk]
 have HS := Lib.hid (fun v w => set_two p v w)
 go_enter Tryz.func192, Tryz.ntmps192
 go_wp2_with (go_at_call 165; refine (HS.out _ _).mono ?_; rintro e w' ⟨rfl, rfl⟩)
 exact bodyPost_ret (results_cell_row rfl _ _ (w.heap.size + 1) _ _ _ _ rfl (blk_new2 w _ _) Tryz.underlying25 rfl reg_size) rfl ⟨rfl, below_alloc (below_alloc (Below.refl _ _) _) _⟩
set_option maxRecDepth 100000 in
set_option maxHeartbeats 1000000 in
theorem with_byte_ADC (k : RegI) (v : Int) (w : World) : Calls Tryz.prog 192 #[regI k, .string ⟨#[65, 68, 67]⟩, .int .i64 v] w fun e w' => e = .returned (regI (byteI k ⟨#[65, 68, 67]⟩ v)) ∧ Below w.heap.size w w' := by
 rw [show byteI k ⟨#[65, 68, 67]⟩ v = { k with p := addN k.p k.a v, a := addR k.p k.a v } from rfl]
 obtain ⟨a, x, y, s, p, pc⟩ := k
 rw [regI_mk]
 have HS := Lib.hid (fun u v w => impl_add p u v w)
 unfold AddPost at HS
 go_enter Tryz.func192, Tryz.ntmps192
 go_wp2_with (go_at_call 199; refine (HS.out _ _ _).mono ?_; rintro e w' ⟨rfl, rfl⟩)
 exact bodyPost_ret (results_cell_row rfl _ _ (w.heap.size + 1) _ _ _ _ rfl (blk_new2 w _ _) Tryz.underlying25 rfl reg_size) rfl ⟨rfl, below_alloc (below_alloc (Below.refl _ _) _) _⟩
set_option maxRecDepth 100000 in
set_option maxHeartbeats 1000000 in
theorem with_byte_SBC (k : RegI) (v : Int) (w : World) : Calls Tryz.prog 192 #[regI k, .string ⟨#[83, 66, 67]⟩, .int .i64 v] w fun e w' => e = .returned (regI (byteI k ⟨#[83, 66, 67]⟩ v)) ∧ Below w.heap.size w w' := by
 rw [show byteI k ⟨#[83, 66, 67]⟩ v = { k with p := subN k.p k.a v, a := subR k.p k.a v } from rfl]
 obtain ⟨a, x, y, s, p, pc⟩ := k
 rw [regI_mk]
 have HS := Lib.hid (fun u v w => impl_sub p u v w)
 unfold AddPost at HS
 go_enter Tryz.func192, Tryz.ntmps192
 go_wp2_with (go_at_call 200; refine (HS.out _ _ _).mono ?_; rintro e w' ⟨rfl, rfl⟩)
 exact bodyPost_ret (results_cell_row rfl _ _ (w.heap.size + 1) _ _ _ _ rfl (blk_new2 w _ _) Tryz.underlying25 rfl reg_size) rfl ⟨rfl, below_alloc (below_alloc (Below.refl _ _) _) _⟩
set_option maxRecDepth 100000 in
set_option maxHeartbeats 1000000 in
theorem with_byte_CMP (k : RegI) (v : Int) (w : World) : Calls Tryz.prog 192 #[regI k, .string ⟨#[67, 77, 80]⟩, .int .i64 v] w fun e w' => e = .returned (regI (byteI k ⟨#[67, 77, 80]⟩ v)) ∧ Below w.heap.size w w' := by
 rw [show byteI k ⟨#[67, 77, 80]⟩ v = { k with p := cmpN k.p k.a v } from rfl]
 obtain ⟨a, x, y, s, p, pc⟩ := k
 rw [regI_mk]
 have HS := Lib.hid (fun u v w => impl_compare p u v w)
 go_enter Tryz.func192, Tryz.ntmps192
 go_wp2_with (go_at_call 201; refine (HS.out _ _ _).mono ?_; rintro e w' ⟨rfl, rfl⟩)
 exact bodyPost_ret (results_cell_row rfl _ _ (w.heap.size + 1) _ _ _ _ rfl (blk_new2 w _ _) Tryz.underlying25 rfl reg_size) rfl ⟨rfl, below_alloc (below_alloc (Below.refl _ _) _) _⟩
set_option maxRecDepth 100000 in
set_option maxHeartbeats 1000000 in
theorem with_byte_CPX (k : RegI) (v : Int) (w : World) : Calls Tryz.prog 192 #[regI k, .string ⟨#[67, 80, 88]⟩, .int .i64 v] w fun e w' => e = .returned (regI (byteI k ⟨#[67, 80, 88]⟩ v)) ∧ Below w.heap.size w w' := by
 rw [show byteI k ⟨#[67, 80, 88]⟩ v = { k with p := cmpN k.p k.x v } from rfl]
 obtain ⟨a, x, y, s, p, pc⟩ := k
 rw [regI_mk]
 have HS := Lib.hid (fun u v w => impl_compare p u v w)
 go_enter Tryz.func192, Tryz.ntmps192
 go_wp2_with (go_at_call 201; refine (HS.out _ _ _).mono ?_; rintro e w' ⟨rfl, rfl⟩)
 exact bodyPost_ret (results_cell_row rfl _ _ (w.heap.size + 1) _ _ _ _ rfl (blk_new2 w _ _) Tryz.underlying25 rfl reg_size) rfl ⟨rfl, below_alloc (below_alloc (Below.refl _ _) _) _⟩
set_option maxRecDepth 100000 in
set_option maxHeartbeats 1000000 in
theorem with_byte_CPY (k : RegI) (v : Int) (w : World) : Calls Tryz.prog 192 #[regI k, .string ⟨#[67, 80, 89]⟩, .int .i64 v] w fun e w' => e = .returned (regI (byteI k ⟨#[67, 80, 89]⟩ v)) ∧ Below w.heap.size w w' := by
 rw [show byteI k ⟨#[67, 80, 89]⟩ v = { k with p := cmpN k.p k.y v } from rfl]
 obtain ⟨a, x, y, s, p, pc⟩ := k
 rw [regI_mk]
 have HS := Lib.hid (fun u v w => impl_compare p u v w)
 go_enter Tryz.func192, Tryz.ntmps192
 go_wp2_with (go_at_call 201; refine (HS.out _ _ _).mono ?_; rintro e w' ⟨rfl, rfl⟩)
 exact bodyPost_ret (results_cell_row rfl _ _ (w.heap.size + 1) _ _ _ _ rfl (blk_new2 w _ _) Tryz.underlying25 rfl reg_size) rfl ⟨rfl, below_alloc (below_alloc (Below.refl _ _) _) _⟩
set_option maxRecDepth 100000 in
set_option maxHeartbeats 1000000 in
theorem with_byte_BIT (k : RegI) (v : Int) (w : World) : Calls Tryz.prog 192 #[regI k, .string ⟨#[66, 73, 84]⟩, .int .i64 v] w fun e w' => e = .returned (regI (byteI k ⟨#[66, 73, 84]⟩ v)) ∧ Below w.heap.size w w' := by
 rw [show byteI k ⟨#[66, 73, 84]⟩ v = { k with p := bitN k.p k.a v } from rfl]
 obtain ⟨a, x, y, s, p, pc⟩ := k
 rw [regI_mk]
 have HS := Lib.hid (fun u v w => impl_bit p u v w)
 go_enter Tryz.func192, Tryz.ntmps192
 go_wp2_with (go_at_call 202; refine (HS.out _ _ _).mono ?_; rintro e w' ⟨rfl, rfl⟩)
 exact bodyPost_ret (results_cell_row rfl _ _ (w.heap.size + 1) _ _ _ _ rfl (blk_new2 w _ _) Tryz.underlying25 rfl reg_size) rfl ⟨rfl, below_alloc (below_alloc (Below.refl _ _) _) _⟩
set_option maxRecDepth 100000 in
set_option maxHeartbeats 2000000 in
theorem with_byte_other (k : RegI) (v : Int) (n : ByteArray) (hLDA : ¬ n = ⟨#[76, 68, 65]⟩) (hLDX : ¬ n = ⟨#[76, 68, 88]⟩) (hLDY : ¬ n = ⟨#[76, 68, 89]⟩) (hAND : ¬ n = ⟨#[65, 78, 68]⟩) (hORA : ¬ n = ⟨#[79, 82, 65]⟩) (hEOR : ¬ n = ⟨#[69, 79, 82]⟩) (hADC : ¬ n = ⟨#[65, 68, 67]⟩) (hSBC : ¬ n = ⟨#[83, 66, 67]⟩) (hCMP : ¬ n = ⟨#[67, 77, 80]⟩) (hCPX : ¬ n = ⟨#[67, 80, 88]⟩) (hCPY : ¬ n = ⟨#[67, 80, 89]⟩) (hBIT : ¬ n = ⟨#[66, 73, 84]⟩) (w : World) : Calls Tryz.prog 192 #[regI k, .string n, .int .i64 v] w fun e w' => e = .returned (regI (byteI k n v)) ∧ Below w.heap.size w w' := by
 have HV := Lib.hid (show byteI k n v = k from by unfold byteI; rw [if_neg hLDA, if_neg hLDX, if_neg hLDY, if_neg hAND, if_neg hORA, if_neg hEOR, if_neg hADC, if_neg hSBC, if_neg hCMP, if_neg hCPX, if_neg hCPY, if_neg hBIT])
 have nLDA := ne_list [76, 68, 65] hLDA
 have nLDX := ne_list [76, 68, 88] hLDX
 have nLDY := ne_list [76, 68, 89] hLDY
 have nAND := ne_list [65, 78, 68] hAND
 have nORA := ne_list [79, 82, 65] hORA
 have nEOR := ne_list [69, 79, 82] hEOR
 have nADC := ne_list [65, 68, 67] hADC
 have nSBC := ne_list [83, 66, 67] hSBC
 have nCMP := ne_list [67, 77, 80] hCMP
 have nCPX := ne_list [67, 80, 88] hCPX
 have nCPY := ne_list [67, 80, 89] hCPY
 have nBIT := ne_list [66, 73, 84] hBIT
 clear hLDA hLDX hLDY hAND hORA hEOR hADC hSBC hCMP hCPX hCPY hBIT
 rw [HV.out]
 clear HV
 obtain ⟨a, x, y, s, p, pc⟩ := k
 rw [regI_mk]
 go_enter Tryz.func192, Tryz.ntmps192
 go_wp2
 exact bodyPost_ret (results_cell_row rfl _ _ (w.heap.size + 1) _ _ _ _ rfl (blk_new2 w _ _) Tryz.underlying25 rfl reg_size) rfl ⟨rfl, below_alloc (below_alloc (Below.refl _ _) _) _⟩
theorem with_byte (k : RegI) (v : Int) (n : ByteArray) (w : World) : Calls Tryz.prog 192 #[regI k, .string n, .int .i64 v] w fun e w' => e = .returned (regI (byteI k n v)) ∧ Below w.heap.size w w' := by
 by_cases hLDA : n = ⟨#[76, 68, 65]⟩
 ·subst hLDA; exact with_byte_LDA k v w
 by_cases hLDX : n = ⟨#[76, 68, 88]⟩
 ·subst hLDX; exact with_byte_LDX k v w
 by_cases hLDY : n = ⟨#[76, 68, 89]⟩
 ·subst hLDY; exact with_byte_LDY k v w
 by_cases hAND : n = ⟨#[65, 78, 68]⟩
 ·subst hAND; exact with_byte_AND k v w
 by_cases hORA : n = ⟨#[79, 82, 65]⟩
 ·subst hORA; exact with_byte_ORA k v w
 by_cases hEOR : n = ⟨#[69, 79, 82]⟩
 ·subst hEOR; exact with_byte_EOR k v w
 by_cases hADC : n = ⟨#[65, 68, 67]⟩
 ·subst hADC; exact with_byte_ADC k v w
 by_cases hSBC : n = ⟨#[83, 66, 67]⟩
 ·subst hSBC; exact with_byte_SBC k v w
 by_cases hCMP : n = ⟨#[67, 77, 80]⟩
 ·subst hCMP; exact with_byte_CMP k v w
 by_cases hCPX : n = ⟨#[67, 80, 88]⟩
 ·subst hCPX; exact with_byte_CPX k v w
 by_cases hCPY : n = ⟨#[67, 80, 89]⟩
 ·subst hCPY; exact with_byte_CPY k v w
 by_cases hBIT : n = ⟨#[66, 73, 84]⟩
 ·subst hBIT; exact with_byte_BIT k v w
 exact with_byte_other k v n hLDA hLDX hLDY hAND hORA hEOR hADC hSBC hCMP hCPX hCPY hBIT w
set_option maxRecDepth 100000 in
set_option maxHeartbeats 1000000 in
theorem with_move_TAX (k : RegI) (w : World) : Calls Tryz.prog 193 #[regI k, .string ⟨#[84, 65, 88]⟩] w fun e w' => e = .returned (regI (moveI k ⟨#[84, 65, 88]⟩)) ∧ Below w.heap.size w w' := by
 rw [show moveI k ⟨#[84, 65, 88]⟩ = { k with x := k.a % 256, p := nzI k.p (k.a % 256) } from rfl]
 obtain ⟨a, x, y, s, p, pc⟩ := k
 rw [regI_mk]
 have HS := Lib.hid (fun v w => set_two p v w)
 go_enter Tryz.func193, Tryz.ntmps193
 go_wp2_with (go_at_call 165; refine (HS.out _ _).mono ?_; rintro e w' ⟨rfl, rfl⟩)
 exact bodyPost_ret (results_cell_row rfl _ _ (w.heap.size + 1) _ _ _ _ rfl (blk_new2 w _ _) Tryz.underlying25 rfl reg_size) rfl ⟨rfl, below_alloc (below_alloc (Below.refl _ _) _) _⟩
set_option maxRecDepth 100000 in
set_option maxHeartbeats 1000000 in
theorem with_move_TAY (k : RegI) (w : World) : Calls Tryz.prog 193 #[regI k, .string ⟨#[84, 65, 89]⟩] w fun e w' => e = .returned (regI (moveI k ⟨#[84, 65, 89]⟩)) ∧ Below w.heap.size w w' := by
 rw [show moveI k ⟨#[84, 65, 89]⟩ = { k with y := k.a % 256, p := nzI k.p (k.a % 256) } from rfl]
 obtain ⟨a, x, y, s, p, pc⟩ := k
 rw [regI_mk]
 have HS := Lib.hid (fun v w => set_two p v w)
 go_enter Tryz.func193, Tryz.ntmps193
 go_wp2_with (go_at_call 165; refine (HS.out _ _).mono ?_; rintro e w' ⟨rfl, rfl⟩)
 exact bodyPost_ret (results_cell_row rfl _ _ (w.heap.size + 1) _ _ _ _ rfl (blk_new2 w _ _) Tryz.underlying25 rfl reg_size) rfl ⟨rfl, below_alloc (below_alloc (Below.refl _ _) _) _⟩
set_option maxRecDepth 100000 in
set_option maxHeartbeats 1000000 in
theorem with_move_TXA (k : RegI) (w : World) : Calls Tryz.prog 193 #[regI k, .string ⟨#[84, 88, 65]⟩] w fun e w' => e = .returned (regI (moveI k ⟨#[84, 88, 65]⟩)) ∧ Below w.heap.size w w' := by
 rw [show moveI k ⟨#[84, 88, 65]⟩ = { k with a := k.x % 256, p := nzI k.p (k.x % 256) } from rfl]
 obtain ⟨a, x, y, s, p, pc⟩ := k
 rw [regI_mk]
 have HS := Lib.hid (fun v w => set_two p v w)
 go_enter Tryz.func193, Tryz.ntmps193
 go_wp2_with (go_at_call 165; refine (HS.out _ _).mono ?_; rintro e w' ⟨rfl, rfl⟩)
 exact bodyPost_ret (results_cell_row rfl _ _ (w.heap.size + 1) _ _ _ _ rfl (blk_new2 w _ _) Tryz.underlying25 rfl reg_size) rfl ⟨rfl, below_alloc (below_alloc (Below.refl _ _) _) _⟩
set_option maxRecDepth 100000 in
set_option maxHeartbeats 1000000 in
theorem with_move_TYA (k : RegI) (w : World) : Calls Tryz.prog 193 #[regI k, .string ⟨#[84, 89, 65]⟩] w fun e w' => e = .returned (regI (moveI k ⟨#[84, 89, 65]⟩)) ∧ Below w.heap.size w w' := by
 rw [show moveI k ⟨#[84, 89, 65]⟩ = { k with a := k.y % 256, p := nzI k.p (k.y % 256) } from rfl]
 obtain ⟨a, x, y, s, p, pc⟩ := k
 rw [regI_mk]
 have HS := Lib.hid (fun v w => set_two p v w)
 go_enter Tryz.func193, Tryz.ntmps193
 go_wp2_with (go_at_call 165; refine (HS.out _ _).mono ?_; rintro e w' ⟨rfl, rfl⟩)
 exact bodyPost_ret (results_cell_row rfl _ _ (w.heap.size + 1) _ _ _ _ rfl (blk_new2 w _ _) Tryz.underlying25 rfl reg_size) rfl ⟨rfl, below_alloc (below_alloc (Below.refl _ _) _) _⟩
set_option maxRecDepth 100000 in
set_option maxHeartbeats 1000000 in
theorem with_move_TSX (k : RegI) (w : World) : Calls Tryz.prog 193 #[regI k, .string ⟨#[84, 83, 88]⟩] w fun e w' => e = .returned (regI (moveI k ⟨#[84, 83, 88]⟩)) ∧ Below w.heap.size w w' := by
 rw [show moveI k ⟨#[84, 83, 88]⟩ = { k with x := k.s % 256, p := nzI k.p (k.s % 256) } from rfl]
 obtain ⟨a, x, y, s, p, pc⟩ := k
 rw [regI_mk]
 have HS := Lib.hid (fun v w => set_two p v w)
 go_enter Tryz.func193, Tryz.ntmps193
 go_wp2_with (go_at_call 165; refine (HS.out _ _).mono ?_; rintro e w' ⟨rfl, rfl⟩)
 exact bodyPost_ret (results_cell_row rfl _ _ (w.heap.size + 1) _ _ _ _ rfl (blk_new2 w _ _) Tryz.underlying25 rfl reg_size) rfl ⟨rfl, below_alloc (below_alloc (Below.refl _ _) _) _⟩
set_option maxRecDepth 100000 in
set_option maxHeartbeats 1000000 in
theorem with_move_TXS (k : RegI) (w : World) : Calls Tryz.prog 193 #[regI k, .string ⟨#[84, 88, 83]⟩] w fun e w' => e = .returned (regI (moveI k ⟨#[84, 88, 83]⟩)) ∧ Below w.heap.size w w' := by
 rw [show moveI k ⟨#[84, 88, 83]⟩ = { k with s := k.x } from rfl]
 obtain ⟨a, x, y, s, p, pc⟩ := k
 rw [regI_mk]
 go_enter Tryz.func193, Tryz.ntmps193
 go_wp2
 exact bodyPost_ret (results_cell_row rfl _ _ (w.heap.size + 1) _ _ _ _ rfl (blk_new2 w _ _) Tryz.underlying25 rfl reg_size) rfl ⟨rfl, below_alloc (below_alloc (Below.refl _ _) _) _⟩
set_option maxRecDepth 100000 in
set_option maxHeartbeats 1000000 in
theorem with_move_INX (k : RegI) (w : World) : Calls Tryz.prog 193 #[regI k, .string ⟨#[73, 78, 88]⟩] w fun e w' => e = .returned (regI (moveI k ⟨#[73, 78, 88]⟩)) ∧ Below w.heap.size w w' := by
 rw [show moveI k ⟨#[73, 78, 88]⟩ = { k with x := (k.x + 1) % 256, p := nzI k.p ((k.x + 1) % 256) } from rfl]
 obtain ⟨a, x, y, s, p, pc⟩ := k
 rw [regI_mk]
 have HS := Lib.hid (fun v w => set_two p v w)
 go_enter Tryz.func193, Tryz.ntmps193
 go_wp2_with (go_at_call 165; refine (HS.out _ _).mono ?_; rintro e w' ⟨rfl, rfl⟩)
 exact bodyPost_ret (results_cell_row rfl _ _ (w.heap.size + 1) _ _ _ _ rfl (blk_new2 w _ _) Tryz.underlying25 rfl reg_size) rfl ⟨by simp [w64_8, regI, regC], below_alloc (below_alloc (Below.refl _ _) _) _⟩
set_option maxRecDepth 100000 in
set_option maxHeartbeats 1000000 in
theorem with_move_INY (k : RegI) (w : World) : Calls Tryz.prog 193 #[regI k, .string ⟨#[73, 78, 89]⟩] w fun e w' => e = .returned (regI (moveI k ⟨#[73, 78, 89]⟩)) ∧ Below w.heap.size w w' := by
 rw [show moveI k ⟨#[73, 78, 89]⟩ = { k with y := (k.y + 1) % 256, p := nzI k.p ((k.y + 1) % 256) } from rfl]
 obtain ⟨a, x, y, s, p, pc⟩ := k
 rw [regI_mk]
 have HS := Lib.hid (fun v w => set_two p v w)
 go_enter Tryz.func193, Tryz.ntmps193
 go_wp2_with (go_at_call 165; refine (HS.out _ _).mono ?_; rintro e w' ⟨rfl, rfl⟩)
 exact bodyPost_ret (results_cell_row rfl _ _ (w.heap.size + 1) _ _ _ _ rfl (blk_new2 w _ _) Tryz.underlying25 rfl reg_size) rfl ⟨by simp [w64_8, regI, regC], below_alloc (below_alloc (Below.refl _ _) _) _⟩
set_option maxRecDepth 100000 in
set_option maxHeartbeats 1000000 in
theorem with_move_DEX (k : RegI) (w : World) : Calls Tryz.prog 193 #[regI k, .string ⟨#[68, 69, 88]⟩] w fun e w' => e = .returned (regI (moveI k ⟨#[68, 69, 88]⟩)) ∧ Below w.heap.size w w' := by
 rw [show moveI k ⟨#[68, 69, 88]⟩ = { k with x := (k.x - 1) % 256, p := nzI k.p ((k.x - 1) % 256) } from rfl]
 obtain ⟨a, x, y, s, p, pc⟩ := k
 rw [regI_mk]
 have HS := Lib.hid (fun v w => set_two p v w)
 go_enter Tryz.func193, Tryz.ntmps193
 go_wp2_with (go_at_call 165; refine (HS.out _ _).mono ?_; rintro e w' ⟨rfl, rfl⟩)
 exact bodyPost_ret (results_cell_row rfl _ _ (w.heap.size + 1) _ _ _ _ rfl (blk_new2 w _ _) Tryz.underlying25 rfl reg_size) rfl ⟨by simp [w64_8, regI, regC], below_alloc (below_alloc (Below.refl _ _) _) _⟩
set_option maxRecDepth 100000 in
set_option maxHeartbeats 1000000 in
theorem with_move_DEY (k : RegI) (w : World) : Calls Tryz.prog 193 #[regI k, .string ⟨#[68, 69, 89]⟩] w fun e w' => e = .returned (regI (moveI k ⟨#[68, 69, 89]⟩)) ∧ Below w.heap.size w w' := by
 rw [show moveI k ⟨#[68, 69, 89]⟩ = { k with y := (k.y - 1) % 256, p := nzI k.p ((k.y - 1) % 256) } from rfl]
 obtain ⟨a, x, y, s, p, pc⟩ := k
 rw [regI_mk]
 have HS := Lib.hid (fun v w => set_two p v w)
 go_enter Tryz.func193, Tryz.ntmps193
 go_wp2_with (go_at_call 165; refine (HS.out _ _).mono ?_; rintro e w' ⟨rfl, rfl⟩)
 exact bodyPost_ret (results_cell_row rfl _ _ (w.heap.size + 1) _ _ _ _ rfl (blk_new2 w _ _) Tryz.underlying25 rfl reg_size) rfl ⟨by simp [w64_8, regI, regC], below_alloc (below_alloc (Below.refl _ _) _) _⟩
set_option maxRecDepth 100000 in
set_option maxHeartbeats 2000000 in
theorem with_move_other (k : RegI) (n : ByteArray) (hTAX : ¬ n = ⟨#[84, 65, 88]⟩) (hTAY : ¬ n = ⟨#[84, 65, 89]⟩) (hTXA : ¬ n = ⟨#[84, 88, 65]⟩) (hTYA : ¬ n = ⟨#[84, 89, 65]⟩) (hTSX : ¬ n = ⟨#[84, 83, 88]⟩) (hTXS : ¬ n = ⟨#[84, 88, 83]⟩) (hINX : ¬ n = ⟨#[73, 78, 88]⟩) (hINY : ¬ n = ⟨#[73, 78, 89]⟩) (hDEX : ¬ n = ⟨#[68, 69, 88]⟩) (hDEY : ¬ n = ⟨#[68, 69, 89]⟩) (w : World) : Calls Tryz.prog 193 #[regI k, .string n] w fun e w' => e = .returned (regI (moveI k n)) ∧ Below w.heap.size w w' := by
 have HV := Lib.hid (show moveI k n = k from by unfold moveI; rw [if_neg hTAX, if_neg hTAY, if_neg hTXA, if_neg hTYA, if_neg hTSX, if_neg hTXS, if_neg hINX, if_neg hINY, if_neg hDEX, if_neg hDEY])
 have nTAX := ne_list [84, 65, 88] hTAX
 have nTAY := ne_list [84, 65, 89] hTAY
 have nTXA := ne_list [84, 88, 65] hTXA
 have nTYA := ne_list [84, 89, 65] hTYA
 have nTSX := ne_list [84, 83, 88] hTSX
 have nTXS := ne_list [84, 88, 83] hTXS
 have nINX := ne_list [73, 78, 88] hINX
 have nINY := ne_list [73, 78, 89] hINY
 have nDEX := ne_list [68, 69, 88] hDEX
 have nDEY := ne_list [68, 69, 89] hDEY
 clear hTAX hTAY hTXA hTYA hTSX hTXS hINX hINY hDEX hDEY
 rw [HV.out]
 clear HV
 obtain ⟨a, x, y, s, p, pc⟩ := k
 rw [regI_mk]
 go_enter Tryz.func193, Tryz.ntmps193
 go_wp2
 exact bodyPost_ret (results_cell_row rfl _ _ (w.heap.size + 1) _ _ _ _ rfl (blk_new2 w _ _) Tryz.underlying25 rfl reg_size) rfl ⟨rfl, below_alloc (below_alloc (Below.refl _ _) _) _⟩
theorem with_move (k : RegI) (n : ByteArray) (w : World) : Calls Tryz.prog 193 #[regI k, .string n] w fun e w' => e = .returned (regI (moveI k n)) ∧ Below w.heap.size w w' := by
 by_cases hTAX : n = ⟨#[84, 65, 88]⟩
 ·subst hTAX; exact with_move_TAX k w
 by_cases hTAY : n = ⟨#[84, 65, 89]⟩
 ·subst hTAY; exact with_move_TAY k w
 by_cases hTXA : n = ⟨#[84, 88, 65]⟩
 ·subst hTXA; exact with_move_TXA k w
 by_cases hTYA : n = ⟨#[84, 89, 65]⟩
 ·subst hTYA; exact with_move_TYA k w
 by_cases hTSX : n = ⟨#[84, 83, 88]⟩
 ·subst hTSX; exact with_move_TSX k w
 by_cases hTXS : n = ⟨#[84, 88, 83]⟩
 ·subst hTXS; exact with_move_TXS k w
 by_cases hINX : n = ⟨#[73, 78, 88]⟩
 ·subst hINX; exact with_move_INX k w
 by_cases hINY : n = ⟨#[73, 78, 89]⟩
 ·subst hINY; exact with_move_INY k w
 by_cases hDEX : n = ⟨#[68, 69, 88]⟩
 ·subst hDEX; exact with_move_DEX k w
 by_cases hDEY : n = ⟨#[68, 69, 89]⟩
 ·subst hDEY; exact with_move_DEY k w
 exact with_move_other k n hTAX hTAY hTXA hTYA hTSX hTXS hINX hINY hDEX hDEY w
end Go.Proofs.YthklebkpoccblaaGreat
