/-
  The notes that an instruction clears or sets, and the byte that it changes (chapter 9, the program).
  Conditions: as each says; each walk leaves old memory as it was.
-/
import Derived.Test.YtfeifcffgachoaaWoA
import Derived.Test.YtfeifcffgachoaaAlH
import Derived.Test.YtfeifcffgachoaaShB2
namespace Go.Proofs.Ytfeifcffgachoaa
open Go.RowKit
theorem set_two (p v : Int) (w : World) : Calls Try.prog 66 #[.int .i64 p, .int .i64 v] w fun e w' => e = .returned (.tuple #[.int .i64 (v % 256), .int .i64 (nzI p (v % 256))]) ∧ w = w' := by
  have HN := Lib.hid (fun u w => impl_nz p u w)
  go_enter Try.func66, Try.ntmps66
  go_wp2_with (go_at_call 85; refine (HN.out _ _).mono ?_; rintro e w' ⟨rfl, rfl⟩)
  go_ret2
  exact ⟨rfl, rfl⟩
/-- The notes behind what clears or sets one of them. -/
def flagI (p : Int) (n : ByteArray) : Int := if n = ⟨#[67, 76, 67]⟩ then wI p 1 false else if n = ⟨#[83, 69, 67]⟩ then wI p 1 true else if n = ⟨#[67, 76, 73]⟩ then wI p 4 false else if n = ⟨#[83, 69, 73]⟩ then wI p 4 true else if n = ⟨#[67, 76, 86]⟩ then wI p 64 false else if n = ⟨#[67, 76, 68]⟩ then wI p 8 false else if n = ⟨#[83, 69, 68]⟩ then wI p 8 true else p
set_option maxRecDepth 100000 in
set_option maxHeartbeats 1000000 in
theorem with_flag9_CLC (p : Int) (w : World) : Calls Try.prog 30 #[.int .i64 p, .string ⟨#[67, 76, 67]⟩] w fun e w' => e = .returned (.int .i64 (flagI p ⟨#[67, 76, 67]⟩)) ∧ w = w' := by
  have HV := Lib.hid (show flagI p ⟨#[67, 76, 67]⟩ = wI p 1 false from rfl)
  have HS := Lib.hid (fun w => impl_with p 1 false w)
  go_enter Try.func30, Try.ntmps30
  go_wp2_with (go_at_call 71; refine (HS.out _).mono ?_; rintro e w' ⟨rfl, rfl⟩)
  go_ret
  exact ⟨by rw [HV.out]; rfl, rfl⟩
set_option maxRecDepth 100000 in
set_option maxHeartbeats 1000000 in
theorem with_flag9_SEC (p : Int) (w : World) : Calls Try.prog 30 #[.int .i64 p, .string ⟨#[83, 69, 67]⟩] w fun e w' => e = .returned (.int .i64 (flagI p ⟨#[83, 69, 67]⟩)) ∧ w = w' := by
  have HV := Lib.hid (show flagI p ⟨#[83, 69, 67]⟩ = wI p 1 true from rfl)
  have HS := Lib.hid (fun w => impl_with p 1 true w)
  go_enter Try.func30, Try.ntmps30
  go_wp2_with (go_at_call 71; refine (HS.out _).mono ?_; rintro e w' ⟨rfl, rfl⟩)
  go_ret
  exact ⟨by rw [HV.out]; rfl, rfl⟩
set_option maxRecDepth 100000 in
set_option maxHeartbeats 1000000 in
theorem with_flag9_CLI (p : Int) (w : World) : Calls Try.prog 30 #[.int .i64 p, .string ⟨#[67, 76, 73]⟩] w fun e w' => e = .returned (.int .i64 (flagI p ⟨#[67, 76, 73]⟩)) ∧ w = w' := by
  have HV := Lib.hid (show flagI p ⟨#[67, 76, 73]⟩ = wI p 4 false from rfl)
  have HS := Lib.hid (fun w => impl_with p 4 false w)
  go_enter Try.func30, Try.ntmps30
  go_wp2_with (go_at_call 71; refine (HS.out _).mono ?_; rintro e w' ⟨rfl, rfl⟩)
  go_ret
  exact ⟨by rw [HV.out]; rfl, rfl⟩
set_option maxRecDepth 100000 in
set_option maxHeartbeats 1000000 in
theorem with_flag9_SEI (p : Int) (w : World) : Calls Try.prog 30 #[.int .i64 p, .string ⟨#[83, 69, 73]⟩] w fun e w' => e = .returned (.int .i64 (flagI p ⟨#[83, 69, 73]⟩)) ∧ w = w' := by
  have HV := Lib.hid (show flagI p ⟨#[83, 69, 73]⟩ = wI p 4 true from rfl)
  have HS := Lib.hid (fun w => impl_with p 4 true w)
  go_enter Try.func30, Try.ntmps30
  go_wp2_with (go_at_call 71; refine (HS.out _).mono ?_; rintro e w' ⟨rfl, rfl⟩)
  go_ret
  exact ⟨by rw [HV.out]; rfl, rfl⟩
set_option maxRecDepth 100000 in
set_option maxHeartbeats 1000000 in
theorem with_flag9_CLV (p : Int) (w : World) : Calls Try.prog 30 #[.int .i64 p, .string ⟨#[67, 76, 86]⟩] w fun e w' => e = .returned (.int .i64 (flagI p ⟨#[67, 76, 86]⟩)) ∧ w = w' := by
  have HV := Lib.hid (show flagI p ⟨#[67, 76, 86]⟩ = wI p 64 false from rfl)
  have HS := Lib.hid (fun w => impl_with p 64 false w)
  go_enter Try.func30, Try.ntmps30
  go_wp2_with (go_at_call 71; refine (HS.out _).mono ?_; rintro e w' ⟨rfl, rfl⟩)
  go_ret
  exact ⟨by rw [HV.out]; rfl, rfl⟩
set_option maxRecDepth 100000 in
set_option maxHeartbeats 1000000 in
theorem with_flag9_CLD (p : Int) (w : World) : Calls Try.prog 30 #[.int .i64 p, .string ⟨#[67, 76, 68]⟩] w fun e w' => e = .returned (.int .i64 (flagI p ⟨#[67, 76, 68]⟩)) ∧ w = w' := by
  have HV := Lib.hid (show flagI p ⟨#[67, 76, 68]⟩ = wI p 8 false from rfl)
  have HS := Lib.hid (fun w => impl_with p 8 false w)
  go_enter Try.func30, Try.ntmps30
  go_wp2_with (go_at_call 71; refine (HS.out _).mono ?_; rintro e w' ⟨rfl, rfl⟩)
  go_ret
  exact ⟨by rw [HV.out]; rfl, rfl⟩
set_option maxRecDepth 100000 in
set_option maxHeartbeats 1000000 in
theorem with_flag9_SED (p : Int) (w : World) : Calls Try.prog 30 #[.int .i64 p, .string ⟨#[83, 69, 68]⟩] w fun e w' => e = .returned (.int .i64 (flagI p ⟨#[83, 69, 68]⟩)) ∧ w = w' := by
  have HV := Lib.hid (show flagI p ⟨#[83, 69, 68]⟩ = wI p 8 true from rfl)
  have HS := Lib.hid (fun w => impl_with p 8 true w)
  go_enter Try.func30, Try.ntmps30
  go_wp2_with (go_at_call 71; refine (HS.out _).mono ?_; rintro e w' ⟨rfl, rfl⟩)
  go_ret
  exact ⟨by rw [HV.out]; rfl, rfl⟩
set_option maxRecDepth 100000 in
set_option maxHeartbeats 2000000 in
theorem with_flag9_other (p : Int) (n : ByteArray) (hCLC : ¬ n = ⟨#[67, 76, 67]⟩) (hSEC : ¬ n = ⟨#[83, 69, 67]⟩) (hCLI : ¬ n = ⟨#[67, 76, 73]⟩) (hSEI : ¬ n = ⟨#[83, 69, 73]⟩) (hCLV : ¬ n = ⟨#[67, 76, 86]⟩) (hCLD : ¬ n = ⟨#[67, 76, 68]⟩) (hSED : ¬ n = ⟨#[83, 69, 68]⟩) (w : World) : Calls Try.prog 30 #[.int .i64 p, .string n] w fun e w' => e = .returned (.int .i64 (flagI p n)) ∧ w = w' := by
  have HV := Lib.hid (show flagI p n = p from by unfold flagI; rw [if_neg hCLC, if_neg hSEC, if_neg hCLI, if_neg hSEI, if_neg hCLV, if_neg hCLD, if_neg hSED])
  have nCLC := ne_list [67, 76, 67] hCLC
  have nSEC := ne_list [83, 69, 67] hSEC
  have nCLI := ne_list [67, 76, 73] hCLI
  have nSEI := ne_list [83, 69, 73] hSEI
  have nCLV := ne_list [67, 76, 86] hCLV
  have nCLD := ne_list [67, 76, 68] hCLD
  have nSED := ne_list [83, 69, 68] hSED
  clear hCLC hSEC hCLI hSEI hCLV hCLD hSED
  go_enter Try.func30, Try.ntmps30
  go_wp2
  go_ret
  exact ⟨by rw [HV.out]; rfl, rfl⟩
theorem with_flag9 (p : Int) (n : ByteArray) (w : World) : Calls Try.prog 30 #[.int .i64 p, .string n] w fun e w' => e = .returned (.int .i64 (flagI p n)) ∧ w = w' := by
  by_cases hCLC : n = ⟨#[67, 76, 67]⟩
  · subst hCLC; exact with_flag9_CLC p w
  by_cases hSEC : n = ⟨#[83, 69, 67]⟩
  · subst hSEC; exact with_flag9_SEC p w
  by_cases hCLI : n = ⟨#[67, 76, 73]⟩
  · subst hCLI; exact with_flag9_CLI p w
  by_cases hSEI : n = ⟨#[83, 69, 73]⟩
  · subst hSEI; exact with_flag9_SEI p w
  by_cases hCLV : n = ⟨#[67, 76, 86]⟩
  · subst hCLV; exact with_flag9_CLV p w
  by_cases hCLD : n = ⟨#[67, 76, 68]⟩
  · subst hCLD; exact with_flag9_CLD p w
  by_cases hSED : n = ⟨#[83, 69, 68]⟩
  · subst hSED; exact with_flag9_SED p w
  exact with_flag9_other p n hCLC hSEC hCLI hSEI hCLV hCLD hSED w
/-- The notes and the byte behind what changes a byte. -/
def changeI (p : Int) (n : ByteArray) (v : Int) : Int × Int := if n = ⟨#[65, 83, 76]⟩ then (shN 0 p v, shR 0 p v) else if n = ⟨#[76, 83, 82]⟩ then (shN 1 p v, shR 1 p v) else if n = ⟨#[82, 79, 76]⟩ then (shN 2 p v, shR 2 p v) else if n = ⟨#[82, 79, 82]⟩ then (shN 3 p v, shR 3 p v) else if n = ⟨#[73, 78, 67]⟩ then (nzI p ((v + 1) % 256), (v + 1) % 256) else if n = ⟨#[68, 69, 67]⟩ then (nzI p ((v - 1) % 256), (v - 1) % 256) else (p, v)
set_option maxRecDepth 100000 in
set_option maxHeartbeats 1000000 in
theorem with_change_ASL (p v : Int) (hv : 0 ≤ v ∧ v < 256) (w : World) : Calls Try.prog 31 #[.int .i64 p, .string ⟨#[65, 83, 76]⟩, .int .i64 v] w fun e w' => e = .returned (.tuple #[.int .i64 (changeI p ⟨#[65, 83, 76]⟩ v).1, .int .i64 (changeI p ⟨#[65, 83, 76]⟩ v).2]) ∧ Below w.heap.size w w' := by
  have _ := hv
  clear hv
  have HV := Lib.hid (show changeI p ⟨#[65, 83, 76]⟩ v = (shN 0 p v, shR 0 p v) from rfl)
  have HS := Lib.hid (fun w => impl_shift p 0 v w)
  unfold ShPostB at HS
  go_enter Try.func31, Try.ntmps31
  go_wp2_with (go_at_call 72; refine (HS.out _).mono ?_; rintro e w1 ⟨rfl, hb⟩)
  go_ret2
  exact ⟨by rw [HV.out]; rfl, hb⟩
set_option maxRecDepth 100000 in
set_option maxHeartbeats 1000000 in
theorem with_change_LSR (p v : Int) (hv : 0 ≤ v ∧ v < 256) (w : World) : Calls Try.prog 31 #[.int .i64 p, .string ⟨#[76, 83, 82]⟩, .int .i64 v] w fun e w' => e = .returned (.tuple #[.int .i64 (changeI p ⟨#[76, 83, 82]⟩ v).1, .int .i64 (changeI p ⟨#[76, 83, 82]⟩ v).2]) ∧ Below w.heap.size w w' := by
  have _ := hv
  clear hv
  have HV := Lib.hid (show changeI p ⟨#[76, 83, 82]⟩ v = (shN 1 p v, shR 1 p v) from rfl)
  have HS := Lib.hid (fun w => impl_shift p 1 v w)
  unfold ShPostB at HS
  go_enter Try.func31, Try.ntmps31
  go_wp2_with (go_at_call 72; refine (HS.out _).mono ?_; rintro e w1 ⟨rfl, hb⟩)
  go_ret2
  exact ⟨by rw [HV.out]; rfl, hb⟩
set_option maxRecDepth 100000 in
set_option maxHeartbeats 1000000 in
theorem with_change_ROL (p v : Int) (hv : 0 ≤ v ∧ v < 256) (w : World) : Calls Try.prog 31 #[.int .i64 p, .string ⟨#[82, 79, 76]⟩, .int .i64 v] w fun e w' => e = .returned (.tuple #[.int .i64 (changeI p ⟨#[82, 79, 76]⟩ v).1, .int .i64 (changeI p ⟨#[82, 79, 76]⟩ v).2]) ∧ Below w.heap.size w w' := by
  have _ := hv
  clear hv
  have HV := Lib.hid (show changeI p ⟨#[82, 79, 76]⟩ v = (shN 2 p v, shR 2 p v) from rfl)
  have HS := Lib.hid (fun w => impl_shift p 2 v w)
  unfold ShPostB at HS
  go_enter Try.func31, Try.ntmps31
  go_wp2_with (go_at_call 72; refine (HS.out _).mono ?_; rintro e w1 ⟨rfl, hb⟩)
  go_ret2
  exact ⟨by rw [HV.out]; rfl, hb⟩
set_option maxRecDepth 100000 in
set_option maxHeartbeats 1000000 in
theorem with_change_ROR (p v : Int) (hv : 0 ≤ v ∧ v < 256) (w : World) : Calls Try.prog 31 #[.int .i64 p, .string ⟨#[82, 79, 82]⟩, .int .i64 v] w fun e w' => e = .returned (.tuple #[.int .i64 (changeI p ⟨#[82, 79, 82]⟩ v).1, .int .i64 (changeI p ⟨#[82, 79, 82]⟩ v).2]) ∧ Below w.heap.size w w' := by
  have _ := hv
  clear hv
  have HV := Lib.hid (show changeI p ⟨#[82, 79, 82]⟩ v = (shN 3 p v, shR 3 p v) from rfl)
  have HS := Lib.hid (fun w => impl_shift p 3 v w)
  unfold ShPostB at HS
  go_enter Try.func31, Try.ntmps31
  go_wp2_with (go_at_call 72; refine (HS.out _).mono ?_; rintro e w1 ⟨rfl, hb⟩)
  go_ret2
  exact ⟨by rw [HV.out]; rfl, hb⟩
set_option maxRecDepth 100000 in
set_option maxHeartbeats 1000000 in
theorem with_change_INC (p v : Int) (hv : 0 ≤ v ∧ v < 256) (w : World) : Calls Try.prog 31 #[.int .i64 p, .string ⟨#[73, 78, 67]⟩, .int .i64 v] w fun e w' => e = .returned (.tuple #[.int .i64 (changeI p ⟨#[73, 78, 67]⟩ v).1, .int .i64 (changeI p ⟨#[73, 78, 67]⟩ v).2]) ∧ Below w.heap.size w w' := by
  have HV := Lib.hid (show changeI p ⟨#[73, 78, 67]⟩ v = (nzI p ((v + 1) % 256), (v + 1) % 256) from rfl)
  have HS := Lib.hid (fun u w => set_two p u w)
  go_enter Try.func31, Try.ntmps31
  go_wp2_with (go_at_call 66; refine (HS.out _ _).mono ?_; rintro e w' ⟨rfl, rfl⟩)
  go_ret2
  exact ⟨by rw [HV.out]; simp [*], Below.refl _ _⟩
set_option maxRecDepth 100000 in
set_option maxHeartbeats 1000000 in
theorem with_change_DEC (p v : Int) (hv : 0 ≤ v ∧ v < 256) (w : World) : Calls Try.prog 31 #[.int .i64 p, .string ⟨#[68, 69, 67]⟩, .int .i64 v] w fun e w' => e = .returned (.tuple #[.int .i64 (changeI p ⟨#[68, 69, 67]⟩ v).1, .int .i64 (changeI p ⟨#[68, 69, 67]⟩ v).2]) ∧ Below w.heap.size w w' := by
  have HV := Lib.hid (show changeI p ⟨#[68, 69, 67]⟩ v = (nzI p ((v - 1) % 256), (v - 1) % 256) from rfl)
  have HS := Lib.hid (fun u w => set_two p u w)
  go_enter Try.func31, Try.ntmps31
  go_wp2_with (go_at_call 66; refine (HS.out _ _).mono ?_; rintro e w' ⟨rfl, rfl⟩)
  go_ret2
  exact ⟨by rw [HV.out]; simp [*], Below.refl _ _⟩
set_option maxRecDepth 100000 in
set_option maxHeartbeats 2000000 in
theorem with_change_other (p v : Int) (hv : 0 ≤ v ∧ v < 256) (n : ByteArray) (hASL : ¬ n = ⟨#[65, 83, 76]⟩) (hLSR : ¬ n = ⟨#[76, 83, 82]⟩) (hROL : ¬ n = ⟨#[82, 79, 76]⟩) (hROR : ¬ n = ⟨#[82, 79, 82]⟩) (hINC : ¬ n = ⟨#[73, 78, 67]⟩) (hDEC : ¬ n = ⟨#[68, 69, 67]⟩) (w : World) : Calls Try.prog 31 #[.int .i64 p, .string n, .int .i64 v] w fun e w' => e = .returned (.tuple #[.int .i64 (changeI p n v).1, .int .i64 (changeI p n v).2]) ∧ Below w.heap.size w w' := by
  have _ := hv
  clear hv
  have HV := Lib.hid (show changeI p n v = (p, v) from by unfold changeI; rw [if_neg hASL, if_neg hLSR, if_neg hROL, if_neg hROR, if_neg hINC, if_neg hDEC])
  have nASL := ne_list [65, 83, 76] hASL
  have nLSR := ne_list [76, 83, 82] hLSR
  have nROL := ne_list [82, 79, 76] hROL
  have nROR := ne_list [82, 79, 82] hROR
  have nINC := ne_list [73, 78, 67] hINC
  have nDEC := ne_list [68, 69, 67] hDEC
  clear hASL hLSR hROL hROR hINC hDEC
  go_enter Try.func31, Try.ntmps31
  go_wp2
  go_ret2
  exact ⟨by rw [HV.out]; rfl, Below.refl _ _⟩
theorem with_change (p v : Int) (hv : 0 ≤ v ∧ v < 256) (n : ByteArray) (w : World) : Calls Try.prog 31 #[.int .i64 p, .string n, .int .i64 v] w fun e w' => e = .returned (.tuple #[.int .i64 (changeI p n v).1, .int .i64 (changeI p n v).2]) ∧ Below w.heap.size w w' := by
  by_cases hASL : n = ⟨#[65, 83, 76]⟩
  · subst hASL; exact with_change_ASL p v hv w
  by_cases hLSR : n = ⟨#[76, 83, 82]⟩
  · subst hLSR; exact with_change_LSR p v hv w
  by_cases hROL : n = ⟨#[82, 79, 76]⟩
  · subst hROL; exact with_change_ROL p v hv w
  by_cases hROR : n = ⟨#[82, 79, 82]⟩
  · subst hROR; exact with_change_ROR p v hv w
  by_cases hINC : n = ⟨#[73, 78, 67]⟩
  · subst hINC; exact with_change_INC p v hv w
  by_cases hDEC : n = ⟨#[68, 69, 67]⟩
  · subst hDEC; exact with_change_DEC p v hv w
  exact with_change_other p v hv n hASL hLSR hROL hROR hINC hDEC w
end Go.Proofs.Ytfeifcffgachoaa
