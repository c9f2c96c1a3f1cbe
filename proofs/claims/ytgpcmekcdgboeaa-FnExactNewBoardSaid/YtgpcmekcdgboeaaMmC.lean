/-
  The walk of spec.Poke: the memory that the facts on memory say.
  Conditions: none; the walk leaves old memory as it was.
-/
import Derived.Test.YtgpcmekcdgboeaaMmB
import Derived.Lib.BufferWrite
import Derived.Deep.OwnRows
import Derived.Laws.Rows
import Derived.Laws.Tables
import Derived.Laws.CopyOwn
namespace Go.Proofs.Ytgpcmekcdgboeaa
open Go.RowKit Go.Deep Go.WideShapes Go.ChangeShapes
theorem mem_size : (Try.prog.info? 41).map (·.size) = some 2 := by kernel_rfl
theorem infoB8 : (Try.prog.info? 5).map (fun i => (i.zero, i.size, i.bytes)) = some (some (.int .u8 0), 1, 1) := by kernel_rfl
theorem made_list (z : Value) (n : Nat) : (madeCells #[z] n).toList = List.replicate n z := by
  apply List.ext_getElem
  · simp [size_madeCells]
  · intro i h1 h2
    simp [madeCells, Nat.mod_one]
theorem pad_cells (r : ByteArray) : ((madeCells #[Value.int .u8 0] 1024).toList.take 0 ++ Lib.byteCells r.data.toList ++ (madeCells #[Value.int .u8 0] 1024).toList.drop (0 + r.size)).toArray = (Lib.byteCells (padL r)).toArray := by
  rw [made_list]
  unfold padL Lib.byteCells
  rw [List.map_append, List.map_replicate]
  have key : ∀ n : Nat, (List.take 0 (List.replicate n (Value.int .u8 0)) ++ r.data.toList.map (fun b => Value.int .u8 (b.toNat : Int)) ++ List.drop (0 + r.size) (List.replicate n (Value.int .u8 0))).toArray = (r.data.toList.map (fun b => Value.int .u8 (b.toNat : Int)) ++ List.replicate (n - r.size) (Value.int .u8 ((0 : UInt8).toNat : Int))).toArray := by
    intro n
    rw [List.take_zero, List.nil_append, Nat.zero_add, List.drop_replicate]
    rfl
  exact key 1024
theorem cells_set (l : List UInt8) (i : Nat) (v : Int) : (Lib.byteCells l).toArray.setIfInBounds i (.int .u8 (v % 256)) = (Lib.byteCells (l.set i (b8 v))).toArray := by
  have e : Value.int .u8 (v % 256) = (fun b : UInt8 => Value.int .u8 (b.toNat : Int)) (b8 v) := by show _ = Value.int .u8 ((b8 v).toNat : Int); rw [b8_val]
  rw [e, List.setIfInBounds_toArray]
  unfold Lib.byteCells
  rw [List.map_set]
end Go.Proofs.Ytgpcmekcdgboeaa
