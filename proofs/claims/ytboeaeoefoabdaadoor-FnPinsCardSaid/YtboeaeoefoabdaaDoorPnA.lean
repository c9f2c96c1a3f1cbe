/-
  Pins as texts, plainly (chapter 12).
  Conditions: none; old memory stays as it was.
-/
import Derived.Test.YtboeaeoefoabdaaDoorHxB
import Derived.Test.YtboeaeoefoabdaaDoorBvA
import Derived.Deep.RegionHeld3
import Derived.Lib.Hide
namespace Go.Proofs.YtboeaeoefoabdaaDoor
open Go.RowKit Go.Deep Go.WideShapes Go.ChangeShapes

/-- A sign where something is so. -/
def pkl (b : Bool) (c : UInt8) : List UInt8 := if b then [c] else []
theorem pkl_length (b : Bool) (c : UInt8) : (pkl b c).length ≤ 1 := by cases b <;> simp [pkl]
/-- The letters of pins, before a hyphen stands for none. -/
def pin0 (n i t r : Bool) : List UInt8 := pkl n 110 ++ pkl i 105 ++ pkl t 119 ++ pkl r 114
def pinU (n i t r : Bool) (k : Nat) : List UInt8 := pkl (n && decide (0 < k)) 110 ++ pkl (i && decide (1 < k)) 105 ++ pkl (t && decide (2 < k)) 119 ++ pkl (r && decide (3 < k)) 114
def pinL (n i t r : Bool) : List UInt8 := if pin0 n i t r = [] then [45] else pin0 n i t r
theorem pinU_no_n_0 (i t r : Bool) : pinU false i t r 0 = pinU false i t r 1 := by cases i <;> cases t <;> cases r <;> decide
theorem pinU_n_0 {i t r : Bool} : pinU true i t r 1 = pinU true i t r 0 ++ [110] := by cases i <;> cases t <;> cases r <;> decide
theorem pinU_no_i_1 (n t r : Bool) : pinU n false t r 1 = pinU n false t r 2 := by cases n <;> cases t <;> cases r <;> decide
theorem pinU_i_1 {n t r : Bool} : pinU n true t r 2 = pinU n true t r 1 ++ [105] := by cases n <;> cases t <;> cases r <;> decide
theorem pinU_no_t_2 (n i r : Bool) : pinU n i false r 2 = pinU n i false r 3 := by cases n <;> cases i <;> cases r <;> decide
theorem pinU_t_2 {n i r : Bool} : pinU n i true r 3 = pinU n i true r 2 ++ [119] := by cases n <;> cases i <;> cases r <;> decide
theorem pinU_no_r_3 (n i t : Bool) : pinU n i t false 3 = pinU n i t false 4 := by cases n <;> cases i <;> cases t <;> decide
theorem pinU_r_3 {n i t : Bool} : pinU n i t true 4 = pinU n i t true 3 ++ [114] := by cases n <;> cases i <;> cases t <;> decide
theorem pinU_zero (n i t r : Bool) : pinU n i t r 0 = [] := by cases n <;> cases i <;> cases t <;> cases r <;> decide
theorem pinU_all (n i t r : Bool) : pinU n i t r 4 = pin0 n i t r := by cases n <;> cases i <;> cases t <;> cases r <;> decide
theorem pinU_length (n i t r : Bool) (k : Nat) : (pinU n i t r k).length ≤ 4 := by
  unfold pinU
  have h1 := pkl_length (n && decide (0 < k)) 110
  have h2 := pkl_length (i && decide (1 < k)) 105
  have h3 := pkl_length (t && decide (2 < k)) 119
  have h4 := pkl_length (r && decide (3 < k)) 114
  simp only [List.length_append]
  omega
/-- The text of pins. -/
def pinT (n i t r : Bool) (p : Int) : List UInt8 := pinL n i t r ++ (if p % 256 = 0 then [] else 32 :: hexl p 2)
theorem pin0_length (n i t r : Bool) : (pin0 n i t r).length ≤ 4 := by cases n <;> cases i <;> cases t <;> cases r <;> decide
theorem pinL_length (n i t r : Bool) : (pinL n i t r).length ≤ 4 := by cases n <;> cases i <;> cases t <;> cases r <;> decide
theorem pinT_length (n i t r : Bool) (p : Int) : (pinT n i t r p).length ≤ 7 := by
  have := pinL_length n i t r
  unfold pinT
  split <;> simp [hexl_length] <;> omega
theorem hexl_byte (p : Int) : hexl (p % 256) 2 = hexl p 2 := by
  unfold hexl
  have e : ∀ k, k < 2 → hexAt (p % 256) k = hexAt p k := by
    intro k hk
    unfold hexAt
    have h : p % 256 / 16 ^ k % 16 = p / 16 ^ k % 16 := by
      match k, hk with
      | 0, _ => show p % 256 / 1 % 16 = p / 1 % 16; omega
      | 1, _ => show p % 256 / 16 % 16 = p / 16 % 16; omega
    rw [h]
  simp [List.range_succ, e]
theorem add_run (c out : List UInt8) (h : c.length + out.length ≤ 1000) (w : World) :
    (Op.stringOp .add ⟨c.toArray⟩ ⟨out.toArray⟩).run Tryd.prog w = .ok (.string ⟨(c ++ out).toArray⟩) w := by
  rw [run_string_add_sum w _ _ (by show c.toArray.size + out.toArray.size ≤ _; simp; omega)]
  rw [ByteArray.mk_append_mk]
theorem drew_below {B : Nat} {w w' : World} (h : Below B w w') : Below B w w'.drew := ⟨h.os, h.tape, h.output, h.size, h.block⟩
def pinsV (n i t r : Bool) (p : Int) : Value := .agg #[.bool n, .bool i, .bool t, .bool r, .int .i64 p]
theorem i64_255 (p : Int) : bits .and .i64 p 255 = p % 256 := and_255 p
end Go.Proofs.YtboeaeoefoabdaaDoor
