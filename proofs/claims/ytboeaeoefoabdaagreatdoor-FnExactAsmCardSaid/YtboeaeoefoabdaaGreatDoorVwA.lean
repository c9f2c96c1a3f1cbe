/-
  The walk of Go's own strings.IndexRune over the text of a blank and a byte 9, at a rune of 128 or more: it answers -1.
  Conditions: the rune fits an int32.
-/
import Derived.Test.YtboeaeoefoabdaaGreatDoorProg
import Derived.Test.YtboeaeoefoabdaaGreatDoorShl
import Derived.WalkKit
import Derived.WalkSpells
import Derived.ProofKit
import Derived.Handy
import Derived.Lib.Hide
import Derived.Laws.Runes
import Derived.Laws.RangeAny
import Derived.Laws.RangeString

import Derived.Deep.QuietTactic
import Derived.BigQuiet
namespace Go.Proofs.YtboeaeoefoabdaaGreatDoor
open Go.RowKit
def blanks : ByteArray := ⟨#[32, 9]⟩
set_option maxRecDepth 100000 in
set_option maxHeartbeats 4000000 in
theorem indexRune_bad (r : Int) (h : 128 ≤ r) (hne : r ≠ 65533) (hv : Lib.validRune r = false) (w : World) :
    Calls Tryz.prog 146 #[.string ⟨#[32, 9]⟩, .int .i32 r] w fun e w' => e = .returned (.int .i64 (-1)) ∧ Below w.heap.size w w' := by
  have hV := Tryz.utf8_ValidRune r
  rw [hv] at hV
  have h1 : ¬ r < 128 := by omega
  go_enter Tryz.func146, Tryz.ntmps146
  go_wp2_with (go_at_call 159; refine (hV _).mono ?_; rintro e w1 ⟨rfl, rfl⟩)
  go_ret
  exact ⟨rfl, Below.refl _ _⟩
set_option maxRecDepth 100000 in
set_option maxHeartbeats 4000000 in
theorem indexRune_valid (r : Int) (h : 128 ≤ r) (hne : r ≠ 65533) (hv : Lib.validRune r = true) (hv2 : Utf8.valid r = true) (w : World) :
    Calls Tryz.prog 146 #[.string ⟨#[32, 9]⟩, .int .i32 r] w fun e w' => e = .returned (.int .i64 (-1)) ∧ Below w.heap.size w w' := by
  have hV := Tryz.utf8_ValidRune r
  rw [hv] at hV
  have h1 : ¬ r < 128 := by omega
  obtain ⟨e2, e4, eL⟩ := encode_facts r hv2 h
  obtain ⟨E, hE⟩ : ∃ E, E = Utf8.encode r := ⟨_, rfl⟩
  have hcv := fun w => run_convert_int_string (P := Tryz.prog) w 21 9 .i32 r rfl Tryz.underlying9
  rw [← hE] at e2 e4 eL
  simp only [← hE] at hcv
  clear hE hv2
  go_enter Tryz.func146, Tryz.ntmps146
  go_wp2_with (go_at_call 159; refine (hV _).mono ?_; rintro e w1 ⟨rfl, rfl⟩)
  clear hV
  by_cases h2 : E.size = 2
  · obtain ⟨a, b, rfl⟩ : ∃ a b, E = ⟨#[a, b]⟩ := by
      obtain ⟨⟨l⟩⟩ := E
      match l, h2 with
      | [a, b], _ => exact ⟨a, b, rfl⟩
    have hb : 128 ≤ b.toNat := eL (by show 1 < 2; omega)
    clear h2 eL e2 e4
    have hd : ((((⟨#[32, 9]⟩ : ByteArray)[1]'(by show 1 < 2; omega)).toNat : Int) != (((⟨#[a, b]⟩ : ByteArray)[1]'(by show 1 < 2; omega)).toNat : Int)) = true := by
      show ((9 : Int) != (b.toNat : Int)) = true
      simp; omega
    have hix : ∀ c, Lib.indexByte ((⟨#[32, 9]⟩ : ByteArray).extract 2 2).data.toList c = -1 := fun c => by
      have : ((⟨#[32, 9]⟩ : ByteArray).extract 2 2).data.toList = [] := by decide
      rw [this]; rfl
    have hw2 : IntKind.i64.wrap 2 = 2 := by decide
    have hsl : ∀ W : World, (Instr.slice 9 (.string ⟨#[32, 9]⟩) (some (.int .i64 2)) none none).run Tryz.prog W = .ok (.string ((⟨#[32, 9]⟩ : ByteArray).extract 2 2)) W := fun W =>
      run_slice_string_l W 9 ⟨#[32, 9]⟩ Tryz.underlying9 .i64 2 (by omega) (by decide)
    go_step3
    go_wp2
    refine wp_loop_rounds 1 ?_
    rw [rounds_succ]
    go_wp2
    go_step3
    go_wp2
    go_quiet (fail)
    rename_i nq
    have hb2 : Below w1.heap.size w1 (w1.drewN nq) := ⟨rfl, rfl, rfl, Nat.le_refl _, fun _ _ => rfl⟩
    generalize w1.drewN nq = w2 at hb2 ⊢
    go_wp2
    go_quiet ((go_at_call 158; exact Calls.quiet_of_same (Tryz.strings_IndexByte _ _ _)))
    rename_i nq
    have hb3 : Below w1.heap.size w1 (w2.drewN nq) := hb2.trans ⟨rfl, rfl, rfl, Nat.le_refl _, fun _ _ => rfl⟩
    go_wp2
    rw [Exit.noGoto_ret]
    go_wp2
    rw [Exit.noGoto_ret]
    go_ret
    exact ⟨rfl, hb3⟩
  · go_step3
    go_wp2
    refine wp_loop_rounds 1 ?_
    rw [rounds_succ]
    go_wp2
    rw [Exit.noGoto_ret]
    go_ret
    exact ⟨rfl, Below.refl _ _⟩
set_option maxRecDepth 100000 in
set_option maxHeartbeats 4000000 in
theorem indexRune_err (w : World) :
    Calls Tryz.prog 146 #[.string ⟨#[32, 9]⟩, .int .i32 65533] w fun e w' => e = .returned (.int .i64 (-1)) ∧ Below w.heap.size w w' := by
  have h0 := fun ty => run_next_ascii (P := Tryz.prog) w ⟨#[32, 9]⟩ 0 ty (by decide) (by decide)
  have h1 := fun ty => run_next_ascii (P := Tryz.prog) w ⟨#[32, 9]⟩ 1 ty (by decide) (by decide)
  have h2 := fun ty => run_next_end (P := Tryz.prog) w ⟨#[32, 9]⟩ 2 ty (by decide)
  go_enter Tryz.func146, Tryz.ntmps146
  go_wp2
  go_rounds 3
  go_ret
  exact ⟨rfl, (Below.refl _ _).alloc (Nat.le_refl _) _⟩
end Go.Proofs.YtboeaeoefoabdaaGreatDoor
