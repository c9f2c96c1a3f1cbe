/-
  The clocks of a mode, and of what has ways of its own (chapter 9, the program).
  Conditions: as each says; each walk leaves old memory as it was.
-/
import Derived.Test.YtfkllcbjakhbdaaTbI
import Derived.Test.YtfkllcbjakhbdaaRow
namespace Go.Proofs.Ytfkllcbjakhbdaa
open Go.RowKit
/-- The clocks of a read by a mode. -/
def modeCI (n : ByteArray) : Int := if n = ⟨#[105, 109, 109]⟩ then 2 else if n = ⟨#[122, 112, 103]⟩ then 3 else if n = ⟨#[105, 110, 120]⟩ then 6 else if n = ⟨#[105, 110, 121]⟩ then 5 else 4
set_option maxRecDepth 100000 in
set_option maxHeartbeats 1000000 in
theorem mode_clocks_imm (w : World) : Calls Try.prog 49 #[.string ⟨#[105, 109, 109]⟩] w fun e w' => e = .returned (.int .i64 (modeCI ⟨#[105, 109, 109]⟩)) ∧ w = w' := by
  have HV := Lib.hid (show modeCI ⟨#[105, 109, 109]⟩ = 2 from rfl)
  go_enter Try.func49, Try.ntmps49
  go_wp2
  go_ret
  exact ⟨by rw [HV.out]; rfl, rfl⟩
set_option maxRecDepth 100000 in
set_option maxHeartbeats 1000000 in
theorem mode_clocks_zpg (w : World) : Calls Try.prog 49 #[.string ⟨#[122, 112, 103]⟩] w fun e w' => e = .returned (.int .i64 (modeCI ⟨#[122, 112, 103]⟩)) ∧ w = w' := by
  have HV := Lib.hid (show modeCI ⟨#[122, 112, 103]⟩ = 3 from rfl)
  go_enter Try.func49, Try.ntmps49
  go_wp2
  go_ret
  exact ⟨by rw [HV.out]; rfl, rfl⟩
set_option maxRecDepth 100000 in
set_option maxHeartbeats 1000000 in
theorem mode_clocks_inx (w : World) : Calls Try.prog 49 #[.string ⟨#[105, 110, 120]⟩] w fun e w' => e = .returned (.int .i64 (modeCI ⟨#[105, 110, 120]⟩)) ∧ w = w' := by
  have HV := Lib.hid (show modeCI ⟨#[105, 110, 120]⟩ = 6 from rfl)
  go_enter Try.func49, Try.ntmps49
  go_wp2
  go_ret
  exact ⟨by rw [HV.out]; rfl, rfl⟩
set_option maxRecDepth 100000 in
set_option maxHeartbeats 1000000 in
theorem mode_clocks_iny (w : World) : Calls Try.prog 49 #[.string ⟨#[105, 110, 121]⟩] w fun e w' => e = .returned (.int .i64 (modeCI ⟨#[105, 110, 121]⟩)) ∧ w = w' := by
  have HV := Lib.hid (show modeCI ⟨#[105, 110, 121]⟩ = 5 from rfl)
  go_enter Try.func49, Try.ntmps49
  go_wp2
  go_ret
  exact ⟨by rw [HV.out]; rfl, rfl⟩
set_option maxRecDepth 100000 in
set_option maxHeartbeats 2000000 in
theorem mode_clocks_other (n : ByteArray) (himm : ¬ n = ⟨#[105, 109, 109]⟩) (hzpg : ¬ n = ⟨#[122, 112, 103]⟩) (hinx : ¬ n = ⟨#[105, 110, 120]⟩) (hiny : ¬ n = ⟨#[105, 110, 121]⟩) (w : World) : Calls Try.prog 49 #[.string n] w fun e w' => e = .returned (.int .i64 (modeCI n)) ∧ w = w' := by
  have HV := Lib.hid (show modeCI n = 4 from by unfold modeCI; rw [if_neg himm, if_neg hzpg, if_neg hinx, if_neg hiny])
  have nimm := ne_list [105, 109, 109] himm
  have nzpg := ne_list [122, 112, 103] hzpg
  have ninx := ne_list [105, 110, 120] hinx
  have niny := ne_list [105, 110, 121] hiny
  clear himm hzpg hinx hiny
  go_enter Try.func49, Try.ntmps49
  go_wp2
  go_ret
  exact ⟨by rw [HV.out]; rfl, rfl⟩
theorem mode_clocks (n : ByteArray) (w : World) : Calls Try.prog 49 #[.string n] w fun e w' => e = .returned (.int .i64 (modeCI n)) ∧ w = w' := by
  by_cases himm : n = ⟨#[105, 109, 109]⟩
  · subst himm; exact mode_clocks_imm w
  by_cases hzpg : n = ⟨#[122, 112, 103]⟩
  · subst hzpg; exact mode_clocks_zpg w
  by_cases hinx : n = ⟨#[105, 110, 120]⟩
  · subst hinx; exact mode_clocks_inx w
  by_cases hiny : n = ⟨#[105, 110, 121]⟩
  · subst hiny; exact mode_clocks_iny w
  exact mode_clocks_other n himm hzpg hinx hiny w
/-- The clocks of what has ways of its own. -/
def ownCI (n b : ByteArray) : Int := if n = ⟨#[66, 82, 75]⟩ then 7 else if n = ⟨#[82, 84, 73]⟩ then 6 else if n = ⟨#[82, 84, 83]⟩ then 6 else if n = ⟨#[74, 83, 82]⟩ then 6 else if n = ⟨#[80, 76, 65]⟩ then 4 else if n = ⟨#[80, 76, 80]⟩ then 4 else if n = ⟨#[80, 72, 65]⟩ then 3 else if n = ⟨#[80, 72, 80]⟩ then 3 else if n = ⟨#[74, 77, 80]⟩ then (if b = ⟨#[105, 110, 100]⟩ then 5 else 3) else 2
set_option maxRecDepth 100000 in
set_option maxHeartbeats 1000000 in
theorem own_clocks_BRK (m : ByteArray) (w : World) : Calls Try.prog 48 #[opV ⟨#[66, 82, 75]⟩ m] w fun e w' => e = .returned (.int .i64 (ownCI ⟨#[66, 82, 75]⟩ m)) ∧ Below w.heap.size w w' := by
  have HV := Lib.hid (show ownCI ⟨#[66, 82, 75]⟩ m = 7 from rfl)
  unfold opV
  go_enter Try.func48, Try.ntmps48
  go_wp2
  go_ret
  exact ⟨by rw [HV.out]; rfl, below_alloc (Below.refl _ _) _⟩
set_option maxRecDepth 100000 in
set_option maxHeartbeats 1000000 in
theorem own_clocks_RTI (m : ByteArray) (w : World) : Calls Try.prog 48 #[opV ⟨#[82, 84, 73]⟩ m] w fun e w' => e = .returned (.int .i64 (ownCI ⟨#[82, 84, 73]⟩ m)) ∧ Below w.heap.size w w' := by
  have HV := Lib.hid (show ownCI ⟨#[82, 84, 73]⟩ m = 6 from rfl)
  unfold opV
  go_enter Try.func48, Try.ntmps48
  go_wp2
  go_ret
  exact ⟨by rw [HV.out]; rfl, below_alloc (Below.refl _ _) _⟩
set_option maxRecDepth 100000 in
set_option maxHeartbeats 1000000 in
theorem own_clocks_RTS (m : ByteArray) (w : World) : Calls Try.prog 48 #[opV ⟨#[82, 84, 83]⟩ m] w fun e w' => e = .returned (.int .i64 (ownCI ⟨#[82, 84, 83]⟩ m)) ∧ Below w.heap.size w w' := by
  have HV := Lib.hid (show ownCI ⟨#[82, 84, 83]⟩ m = 6 from rfl)
  unfold opV
  go_enter Try.func48, Try.ntmps48
  go_wp2
  go_ret
  exact ⟨by rw [HV.out]; rfl, below_alloc (Below.refl _ _) _⟩
set_option maxRecDepth 100000 in
set_option maxHeartbeats 1000000 in
theorem own_clocks_JSR (m : ByteArray) (w : World) : Calls Try.prog 48 #[opV ⟨#[74, 83, 82]⟩ m] w fun e w' => e = .returned (.int .i64 (ownCI ⟨#[74, 83, 82]⟩ m)) ∧ Below w.heap.size w w' := by
  have HV := Lib.hid (show ownCI ⟨#[74, 83, 82]⟩ m = 6 from rfl)
  unfold opV
  go_enter Try.func48, Try.ntmps48
  go_wp2
  go_ret
  exact ⟨by rw [HV.out]; rfl, below_alloc (Below.refl _ _) _⟩
set_option maxRecDepth 100000 in
set_option maxHeartbeats 1000000 in
theorem own_clocks_PLA (m : ByteArray) (w : World) : Calls Try.prog 48 #[opV ⟨#[80, 76, 65]⟩ m] w fun e w' => e = .returned (.int .i64 (ownCI ⟨#[80, 76, 65]⟩ m)) ∧ Below w.heap.size w w' := by
  have HV := Lib.hid (show ownCI ⟨#[80, 76, 65]⟩ m = 4 from rfl)
  unfold opV
  go_enter Try.func48, Try.ntmps48
  go_wp2
  go_ret
  exact ⟨by rw [HV.out]; rfl, below_alloc (Below.refl _ _) _⟩
set_option maxRecDepth 100000 in
set_option maxHeartbeats 1000000 in
theorem own_clocks_PLP (m : ByteArray) (w : World) : Calls Try.prog 48 #[opV ⟨#[80, 76, 80]⟩ m] w fun e w' => e = .returned (.int .i64 (ownCI ⟨#[80, 76, 80]⟩ m)) ∧ Below w.heap.size w w' := by
  have HV := Lib.hid (show ownCI ⟨#[80, 76, 80]⟩ m = 4 from rfl)
  unfold opV
  go_enter Try.func48, Try.ntmps48
  go_wp2
  go_ret
  exact ⟨by rw [HV.out]; rfl, below_alloc (Below.refl _ _) _⟩
set_option maxRecDepth 100000 in
set_option maxHeartbeats 1000000 in
theorem own_clocks_PHA (m : ByteArray) (w : World) : Calls Try.prog 48 #[opV ⟨#[80, 72, 65]⟩ m] w fun e w' => e = .returned (.int .i64 (ownCI ⟨#[80, 72, 65]⟩ m)) ∧ Below w.heap.size w w' := by
  have HV := Lib.hid (show ownCI ⟨#[80, 72, 65]⟩ m = 3 from rfl)
  unfold opV
  go_enter Try.func48, Try.ntmps48
  go_wp2
  go_ret
  exact ⟨by rw [HV.out]; rfl, below_alloc (Below.refl _ _) _⟩
set_option maxRecDepth 100000 in
set_option maxHeartbeats 1000000 in
theorem own_clocks_PHP (m : ByteArray) (w : World) : Calls Try.prog 48 #[opV ⟨#[80, 72, 80]⟩ m] w fun e w' => e = .returned (.int .i64 (ownCI ⟨#[80, 72, 80]⟩ m)) ∧ Below w.heap.size w w' := by
  have HV := Lib.hid (show ownCI ⟨#[80, 72, 80]⟩ m = 3 from rfl)
  unfold opV
  go_enter Try.func48, Try.ntmps48
  go_wp2
  go_ret
  exact ⟨by rw [HV.out]; rfl, below_alloc (Below.refl _ _) _⟩
set_option maxRecDepth 100000 in
set_option maxHeartbeats 1000000 in
theorem own_clocks_JMP (m : ByteArray) (w : World) : Calls Try.prog 48 #[opV ⟨#[74, 77, 80]⟩ m] w fun e w' => e = .returned (.int .i64 (ownCI ⟨#[74, 77, 80]⟩ m)) ∧ Below w.heap.size w w' := by
  have hv : ownCI ⟨#[74, 77, 80]⟩ m = if m = ⟨#[105, 110, 100]⟩ then 5 else 3 := rfl
  unfold opV
  by_cases hm : m = ⟨#[105, 110, 100]⟩
  · have HV := Lib.hid (hv.trans (if_pos hm))
    clear hv
    subst hm
    go_enter Try.func48, Try.ntmps48
    go_wp2
    go_ret
    exact ⟨by rw [HV.out]; rfl, below_alloc (Below.refl _ _) _⟩
  · have HV := Lib.hid (hv.trans (if_neg hm))
    have n_ind := ne_list [105, 110, 100] hm
    clear hv hm
    go_enter Try.func48, Try.ntmps48
    go_wp2
    go_ret
    exact ⟨by rw [HV.out]; rfl, below_alloc (Below.refl _ _) _⟩
set_option maxRecDepth 100000 in
set_option maxHeartbeats 2000000 in
theorem own_clocks_other (m : ByteArray) (n : ByteArray) (hBRK : ¬ n = ⟨#[66, 82, 75]⟩) (hRTI : ¬ n = ⟨#[82, 84, 73]⟩) (hRTS : ¬ n = ⟨#[82, 84, 83]⟩) (hJSR : ¬ n = ⟨#[74, 83, 82]⟩) (hPLA : ¬ n = ⟨#[80, 76, 65]⟩) (hPLP : ¬ n = ⟨#[80, 76, 80]⟩) (hPHA : ¬ n = ⟨#[80, 72, 65]⟩) (hPHP : ¬ n = ⟨#[80, 72, 80]⟩) (hJMP : ¬ n = ⟨#[74, 77, 80]⟩) (w : World) : Calls Try.prog 48 #[opV n m] w fun e w' => e = .returned (.int .i64 (ownCI n m)) ∧ Below w.heap.size w w' := by
  have HV := Lib.hid (show ownCI n m = 2 from by unfold ownCI; rw [if_neg hBRK, if_neg hRTI, if_neg hRTS, if_neg hJSR, if_neg hPLA, if_neg hPLP, if_neg hPHA, if_neg hPHP, if_neg hJMP])
  have nBRK := ne_list [66, 82, 75] hBRK
  have nRTI := ne_list [82, 84, 73] hRTI
  have nRTS := ne_list [82, 84, 83] hRTS
  have nJSR := ne_list [74, 83, 82] hJSR
  have nPLA := ne_list [80, 76, 65] hPLA
  have nPLP := ne_list [80, 76, 80] hPLP
  have nPHA := ne_list [80, 72, 65] hPHA
  have nPHP := ne_list [80, 72, 80] hPHP
  have nJMP := ne_list [74, 77, 80] hJMP
  clear hBRK hRTI hRTS hJSR hPLA hPLP hPHA hPHP hJMP
  unfold opV
  go_enter Try.func48, Try.ntmps48
  go_wp2
  go_ret
  exact ⟨by rw [HV.out]; rfl, below_alloc (Below.refl _ _) _⟩
theorem own_clocks (m : ByteArray) (n : ByteArray) (w : World) : Calls Try.prog 48 #[opV n m] w fun e w' => e = .returned (.int .i64 (ownCI n m)) ∧ Below w.heap.size w w' := by
  by_cases hBRK : n = ⟨#[66, 82, 75]⟩
  · subst hBRK; exact own_clocks_BRK m w
  by_cases hRTI : n = ⟨#[82, 84, 73]⟩
  · subst hRTI; exact own_clocks_RTI m w
  by_cases hRTS : n = ⟨#[82, 84, 83]⟩
  · subst hRTS; exact own_clocks_RTS m w
  by_cases hJSR : n = ⟨#[74, 83, 82]⟩
  · subst hJSR; exact own_clocks_JSR m w
  by_cases hPLA : n = ⟨#[80, 76, 65]⟩
  · subst hPLA; exact own_clocks_PLA m w
  by_cases hPLP : n = ⟨#[80, 76, 80]⟩
  · subst hPLP; exact own_clocks_PLP m w
  by_cases hPHA : n = ⟨#[80, 72, 65]⟩
  · subst hPHA; exact own_clocks_PHA m w
  by_cases hPHP : n = ⟨#[80, 72, 80]⟩
  · subst hPHP; exact own_clocks_PHP m w
  by_cases hJMP : n = ⟨#[74, 77, 80]⟩
  · subst hJMP; exact own_clocks_JMP m w
  exact own_clocks_other m n hBRK hRTI hRTS hJSR hPLA hPLP hPHA hPHP hJMP w
theorem mode_bd (b : ByteArray) : 2 ≤ modeCI b ∧ modeCI b ≤ 6 := by unfold modeCI; repeat' split <;> omega
theorem own_bd (a b : ByteArray) : 2 ≤ ownCI a b ∧ ownCI a b ≤ 7 := by unfold ownCI; repeat' split <;> omega
/-- How many clocks, as the program reckons them: b the mode, K the kind, O those of its own, M those of the mode. -/
def clkP (b : ByteArray) (K O M : Int) (cross taken : Bool) : Int :=
  (if K = 3 then O else M) + (if b = ⟨#[114, 101, 108]⟩ then (if taken then (if cross then 2 else 1) else 0) else if b = ⟨#[97, 98, 120]⟩ ∨ b = ⟨#[97, 98, 121]⟩ ∨ b = ⟨#[105, 110, 121]⟩ then (if cross = true ∨ ¬ K = 0 then 1 else 0) else 0) + (if K = 2 then 2 else 0)
end Go.Proofs.Ytfkllcbjakhbdaa
