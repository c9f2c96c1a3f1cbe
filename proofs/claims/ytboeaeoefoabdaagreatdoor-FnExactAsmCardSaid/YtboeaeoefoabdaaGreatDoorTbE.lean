/-
  Plain facts on modes and names: whether a text is one of a list, how many bytes a mode has, and which kind an instruction is of.
  Conditions: as each lemma says.
-/
import Derived.Test.YtboeaeoefoabdaaGreatDoorTbA
import Derived.Test.YtboeaeoefoabdaaGreatDoorNeL
namespace Go.Proofs.YtboeaeoefoabdaaGreatDoor
def inB (x : ByteArray) (ws : List (List UInt8)) : Bool := ws.any fun w => decide ((⟨w.toArray⟩ : ByteArray) = x)
theorem inB_at (x : ByteArray) (ws : List (List UInt8)) : (∀ k (h : k < ws.length), (⟨ws[k].toArray⟩ : ByteArray) = x → inB x ws = true) ∧ ((∀ k (h : k < ws.length), (⟨ws[k].toArray⟩ : ByteArray) ≠ x) → inB x ws = false) := by
  constructor
  · intro k h e
    exact List.any_eq_true.2 ⟨ws[k], List.getElem_mem h, by simpa using e⟩
  · intro h
    unfold inB
    rw [List.any_eq_false]
    intro w hw
    obtain ⟨k, hk, rfl⟩ := List.mem_iff_getElem.1 hw
    simpa using h k hk
theorem inB_mem (x : ByteArray) (ws : List (List UInt8)) (h : inB x ws = true) : ∃ w ∈ ws, x = ⟨w.toArray⟩ := by
  obtain ⟨w, hw, e⟩ := List.any_eq_true.1 h
  exact ⟨w, hw, (of_decide_eq_true e).symm⟩
def ws1 : List (List UInt8) := [[105, 109, 112], [97, 99, 99]]
def ws3 : List (List UInt8) := [[97, 98, 115], [97, 98, 120], [97, 98, 121], [105, 110, 100]]
def ws2 : List (List UInt8) := [[105, 109, 109], [122, 112, 103], [122, 112, 120], [122, 112, 121], [105, 110, 120], [105, 110, 121], [114, 101, 108]]
def wsOwn : List (List UInt8) := [[105, 109, 112], [97, 99, 99], [114, 101, 108]]
def wsJ : List (List UInt8) := [[74, 77, 80], [74, 83, 82]]
def wsSt : List (List UInt8) := [[83, 84, 65], [83, 84, 88], [83, 84, 89]]
def wsMo : List (List UInt8) := [[65, 83, 76], [76, 83, 82], [82, 79, 76], [82, 79, 82], [73, 78, 67], [68, 69, 67]]
/-- How many bytes an instruction of a mode has; 0 where it is none. -/
def modeSz (m : ByteArray) : Int := if inB m ws1 then 1 else if inB m ws3 then 3 else if inB m ws2 then 2 else 0
/-- Which kind an instruction of a name and a mode is of. -/
def kindI (a b : ByteArray) : Int := if codeOf a b < 0 then 3 else if inB b wsOwn then 3 else if inB a wsJ then 3 else if inB a wsSt then 1 else if inB a wsMo then 2 else 0
theorem kind_bd (a b : ByteArray) : 0 ≤ kindI a b ∧ kindI a b ≤ 3 := by unfold kindI; repeat' split <;> omega
end Go.Proofs.YtboeaeoefoabdaaGreatDoor
