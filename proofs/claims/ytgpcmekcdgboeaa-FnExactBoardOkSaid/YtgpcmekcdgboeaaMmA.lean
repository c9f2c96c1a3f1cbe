/-
  Plain facts on memory: whose an address is, the byte at an address, a byte that is put, bytes that are put one behind the other.
  Conditions: as each lemma says.
-/
import Derived.Test.YtgpcmekcdgboeaaHxN
import Derived.Test.YtgpcmekcdgboeaaBtA
import Derived.Lib.Strings
namespace Go.Proofs.Ytgpcmekcdgboeaa
theorem and16 (n : Int) : bits .and .i64 n 65535 = n % 65536 := i64_mask 16 (by omega) n 65535 (by decide)
theorem and10 (n : Int) : bits .and .i64 n 1023 = n % 1024 := i64_mask 10 (by omega) n 1023 (by decide)
theorem and9 (n : Int) : bits .and .i64 n 511 = n % 512 := i64_mask 9 (by omega) n 511 (by decide)
theorem and8 (n : Int) : bits .and .i64 n 255 = n % 256 := i64_mask 8 (by omega) n 255 (by decide)
/-- Whose an address is. -/
def whereI (a : Int) : Int := if a % 65536 < 8192 then 0 else if a % 65536 < 12288 then 1 else if a % 65536 < 12544 then 2 else if a % 65536 < 61440 then 3 else 4
theorem where_bd (a : Int) : 0 ≤ whereI a ∧ whereI a ≤ 4 := by unfold whereI; repeat' split <;> omega
theorem where_mod (a : Int) : whereI (a % 65536) = whereI a := by unfold whereI; rw [show a % 65536 % 65536 = a % 65536 by omega]
theorem where_ram (a : Int) : whereI a = 0 ↔ a % 65536 < 8192 := by unfold whereI; repeat' split <;> omega
theorem where_rom (a : Int) : whereI a = 4 ↔ 61440 ≤ a % 65536 := by unfold whereI; repeat' split <;> omega
/-- Whether a memory is right. -/
abbrev OkM (r o : ByteArray) : Prop := r.size ≤ 1024 ∧ o.size ≤ 512
/-- The byte of a text at a place; 0 where there is none. -/
def atB (s : ByteArray) (i : Nat) : Int := ((s.data.toList[i]?.getD 0).toNat : Int)
theorem atB_in (s : ByteArray) (i : Nat) (h : i < s.size) : atB s i = (s[i].toNat : Int) := by
  unfold atB
  have : s.data.toList[i]? = some s[i] := by simp [h]; rfl
  rw [this]; rfl
theorem atB_out (s : ByteArray) (i : Nat) (h : s.size ≤ i) : atB s i = 0 := by
  unfold atB
  have : s.data.toList[i]? = none := by rw [List.getElem?_eq_none_iff]; simpa using h
  rw [this]; rfl
theorem atB_bd (s : ByteArray) (i : Nat) : 0 ≤ atB s i ∧ atB s i ≤ 255 := by
  unfold atB
  have := (s.data.toList[i]?.getD 0).toNat_lt
  omega
/-- The byte at an address. -/
def peekI (r o : ByteArray) (a v : Int) : Int := if OkM r o then (if whereI a = 0 then atB r (a % 1024).toNat else if whereI a = 4 then atB o (a % 512).toNat else v % 256) else 0
/-- Ram with all its bytes; those that weren't there are 0. -/
def padL (r : ByteArray) : List UInt8 := r.data.toList ++ List.replicate (1024 - r.size) 0
theorem padL_length (r : ByteArray) (h : r.size ≤ 1024) : (padL r).length = 1024 := by simp [padL]; omega
theorem padL_at (r : ByteArray) (i : Nat) : (((padL r)[i]?.getD 0).toNat : Int) = atB r i := by
  unfold padL atB
  by_cases hi : i < r.size
  · rw [List.getElem?_append_left (by simpa using hi)]
  · rw [List.getElem?_append_right (by simpa using hi)]
    have e : r.data.toList[i]? = none := by rw [List.getElem?_eq_none_iff]; simpa using hi
    rw [e, List.getElem?_replicate]
    split <;> rfl
/-- Ram behind a byte that is put. -/
def pokeB (r : ByteArray) (a v : Int) : ByteArray := ⟨((padL r).set (a % 1024).toNat (b8 v)).toArray⟩
theorem pokeB_size (r : ByteArray) (a v : Int) (h : r.size ≤ 1024) : (pokeB r a v).size = 1024 := by
  show ((padL r).set _ _).toArray.size = _
  simp [padL_length r h]
theorem pokeB_at (r : ByteArray) (a v : Int) (h : r.size ≤ 1024) (i : Nat) : atB (pokeB r a v) i = if i = (a % 1024).toNat then v % 256 else atB r i := by
  have e : (pokeB r a v).data.toList = (padL r).set (a % 1024).toNat (b8 v) := List.toList_toArray
  unfold atB
  rw [e, List.getElem?_set]
  have hl := padL_length r h
  by_cases he : (a % 1024).toNat = i
  · rw [if_pos he, if_pos (by omega), if_pos he.symm]; exact b8_val v
  · rw [if_neg he, if_neg (fun h => he h.symm)]; exact padL_at r i
def pokeR (r o : ByteArray) (a v : Int) : ByteArray := if OkM r o ∧ whereI a = 0 then pokeB r a v else r
theorem pokeR_ok (r o : ByteArray) (a v : Int) : OkM (pokeR r o a v) o ↔ OkM r o := by
  unfold pokeR
  split
  · rename_i h
    have := pokeB_size r a v h.1.1
    constructor
    · intro _; exact h.1
    · intro _; exact ⟨by omega, h.1.2⟩
  · exact Iff.rfl
/-- Ram behind the first k bytes that are put. -/
def loadN (r o : ByteArray) (a : Int) (s : ByteArray) : Nat → ByteArray
  | 0 => r
  | k + 1 => pokeR (loadN r o a s k) o (a % 65536 + k) (atB s k)
theorem loadN_ok (r o : ByteArray) (a : Int) (s : ByteArray) (k : Nat) : OkM (loadN r o a s k) o ↔ OkM r o := by
  induction k with
  | zero => exact Iff.rfl
  | succ k ih => exact (pokeR_ok _ _ _ _).trans ih
def loadR (r o : ByteArray) (a : Int) (s : ByteArray) : ByteArray := if 1024 < s.size then r else loadN r o a s s.size
end Go.Proofs.Ytgpcmekcdgboeaa
