/-
  Plain facts on notes as a text of eight signs (chapter 3): each sign is its letter or a point.
  Conditions: as each lemma says.
-/
import Derived.Test.YtpddbhnkopnibaaBvB
import Derived.Lib.Hide
namespace Go.Proofs.Ytpddbhnkopnibaa
def fLets : List UInt8 := [78, 86, 85, 66, 68, 73, 90, 67]
def fLet (i : Nat) : UInt8 := fLets.getD i 0
def fBit (i : Nat) : Int := 128 / 2 ^ i
def fSign (p : Int) (i : Nat) : UInt8 := if tst p (fBit i) then fLet i else 46
def ftl (p : Int) : List UInt8 := (List.range 8).map (fSign p)
theorem ftl_length (p : Int) : (ftl p).length = 8 := by simp [ftl]
theorem fSign_mod (p : Int) (i : Nat) : fSign (p % 256) i = fSign p i := by unfold fSign; rw [tst_mod]
theorem ftl_mod (p : Int) : ftl (p % 256) = ftl p := by
  unfold ftl
  exact List.map_congr_left fun i _ => fSign_mod p i
theorem fBit_bd (i : Nat) (h : i < 8) : 0 ≤ fBit i ∧ fBit i < 256 := by
  match i, h with
  | 0, _ => decide
  | 1, _ => decide
  | 2, _ => decide
  | 3, _ => decide
  | 4, _ => decide
  | 5, _ => decide
  | 6, _ => decide
  | 7, _ => decide
/-- The table's byte at a place. -/
theorem fLets_at (i : Nat) (h : i < 8) (h' : i < (ByteArray.mk #[78, 86, 85, 66, 68, 73, 90, 67]).size) : (ByteArray.mk #[78, 86, 85, 66, 68, 73, 90, 67])[i] = fLet i := by
  have key : ∀ i : Fin 8, (ByteArray.mk #[78, 86, 85, 66, 68, 73, 90, 67])[i.val]'(by simp [ByteArray.size]) = fLet i.val := by decide
  exact key ⟨i, h⟩
/-- The signs behind k of the eight places. -/
def fCell (p : Int) (k i : Nat) : UInt8 := if i < k then fSign p i else fLet i
def fCells (p : Int) (k : Nat) : List Value := ((ftl p).take k).map fun b => Value.int .u8 (b.toNat : Int)
theorem fCells_length (p : Int) (k : Nat) (h : k ≤ 8) : (fCells p k).length = k := by simp [fCells, ftl_length]; omega
theorem fCells_succ (p : Int) (k : Nat) (h : k < 8) : fCells p k ++ [Value.int .u8 ((fSign p k).toNat : Int)] = fCells p (k + 1) := by
  unfold fCells
  rw [List.take_succ_eq_append_getElem (by rw [ftl_length]; exact h)]
  simp [ftl]
theorem fCells_all (p : Int) : fCells p 8 = (ftl p).map fun b => Value.int .u8 (b.toNat : Int) := by
  unfold fCells; rw [List.take_of_length_le (by rw [ftl_length]; omega)]
end Go.Proofs.Ytpddbhnkopnibaa
