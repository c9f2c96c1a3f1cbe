/-
  The text of an instruction, plainly (chapter 13).
  Conditions: none.
-/
import Derived.Test.YtboeaeoefoabdaaGreatDoorTbH
namespace Go.Proofs.YtboeaeoefoabdaaGreatDoor
open Go.RowKit
/-- What stands behind an instruction's name and a blank. -/
def operG (m : ByteArray) (a b : List UInt8) : List UInt8 := if m = ⟨#[97, 99, 99]⟩ then [65] else if m = ⟨#[105, 109, 109]⟩ then [35, 36] ++ (a) else if m = ⟨#[122, 112, 103]⟩ then [36] ++ (a) else if m = ⟨#[114, 101, 108]⟩ then [36] ++ (a) else if m = ⟨#[122, 112, 120]⟩ then [36] ++ (a ++ [44, 88]) else if m = ⟨#[122, 112, 121]⟩ then [36] ++ (a ++ [44, 89]) else if m = ⟨#[97, 98, 115]⟩ then [36] ++ ((b ++ a)) else if m = ⟨#[97, 98, 120]⟩ then [36] ++ ((b ++ a) ++ [44, 88]) else if m = ⟨#[97, 98, 121]⟩ then [36] ++ ((b ++ a) ++ [44, 89]) else if m = ⟨#[105, 110, 120]⟩ then [40, 36] ++ (a ++ [44, 88, 41]) else if m = ⟨#[105, 110, 121]⟩ then [40, 36] ++ (a ++ [41, 44, 89]) else if m = ⟨#[105, 110, 100]⟩ then [40, 36] ++ ((b ++ a) ++ [41]) else []
def opG (n : List UInt8) (m : ByteArray) (a b : List UInt8) : List UInt8 := n ++ (if operG m a b = [] then [] else 32 :: operG m a b)
theorem operG_acc (a b : List UInt8) : operG ⟨#[97, 99, 99]⟩ a b = [65] := rfl
theorem opG_acc (n a b : List UInt8) : opG n ⟨#[97, 99, 99]⟩ a b = n ++ (32 :: ([65])) := by
  unfold opG; rw [operG_acc]; exact congrArg _ (if_neg (by simp))
theorem operG_imm (a b : List UInt8) : operG ⟨#[105, 109, 109]⟩ a b = [35, 36] ++ (a) := rfl
theorem opG_imm (n a b : List UInt8) : opG n ⟨#[105, 109, 109]⟩ a b = n ++ (32 :: ([35, 36] ++ (a))) := by
  unfold opG; rw [operG_imm]; exact congrArg _ (if_neg (by simp))
theorem operG_zpg (a b : List UInt8) : operG ⟨#[122, 112, 103]⟩ a b = [36] ++ (a) := rfl
theorem opG_zpg (n a b : List UInt8) : opG n ⟨#[122, 112, 103]⟩ a b = n ++ (32 :: ([36] ++ (a))) := by
  unfold opG; rw [operG_zpg]; exact congrArg _ (if_neg (by simp))
theorem operG_rel (a b : List UInt8) : operG ⟨#[114, 101, 108]⟩ a b = [36] ++ (a) := rfl
theorem opG_rel (n a b : List UInt8) : opG n ⟨#[114, 101, 108]⟩ a b = n ++ (32 :: ([36] ++ (a))) := by
  unfold opG; rw [operG_rel]; exact congrArg _ (if_neg (by simp))
theorem operG_zpx (a b : List UInt8) : operG ⟨#[122, 112, 120]⟩ a b = [36] ++ (a ++ [44, 88]) := rfl
theorem opG_zpx (n a b : List UInt8) : opG n ⟨#[122, 112, 120]⟩ a b = n ++ (32 :: ([36] ++ (a ++ [44, 88]))) := by
  unfold opG; rw [operG_zpx]; exact congrArg _ (if_neg (by simp))
theorem operG_zpy (a b : List UInt8) : operG ⟨#[122, 112, 121]⟩ a b = [36] ++ (a ++ [44, 89]) := rfl
theorem opG_zpy (n a b : List UInt8) : opG n ⟨#[122, 112, 121]⟩ a b = n ++ (32 :: ([36] ++ (a ++ [44, 89]))) := by
  unfold opG; rw [operG_zpy]; exact congrArg _ (if_neg (by simp))
theorem operG_abs (a b : List UInt8) : operG ⟨#[97, 98, 115]⟩ a b = [36] ++ ((b ++ a)) := rfl
theorem opG_abs (n a b : List UInt8) : opG n ⟨#[97, 98, 115]⟩ a b = n ++ (32 :: ([36] ++ ((b ++ a)))) := by
  unfold opG; rw [operG_abs]; exact congrArg _ (if_neg (by simp))
theorem operG_abx (a b : List UInt8) : operG ⟨#[97, 98, 120]⟩ a b = [36] ++ ((b ++ a) ++ [44, 88]) := rfl
theorem opG_abx (n a b : List UInt8) : opG n ⟨#[97, 98, 120]⟩ a b = n ++ (32 :: ([36] ++ ((b ++ a) ++ [44, 88]))) := by
  unfold opG; rw [operG_abx]; exact congrArg _ (if_neg (by simp))
theorem operG_aby (a b : List UInt8) : operG ⟨#[97, 98, 121]⟩ a b = [36] ++ ((b ++ a) ++ [44, 89]) := rfl
theorem opG_aby (n a b : List UInt8) : opG n ⟨#[97, 98, 121]⟩ a b = n ++ (32 :: ([36] ++ ((b ++ a) ++ [44, 89]))) := by
  unfold opG; rw [operG_aby]; exact congrArg _ (if_neg (by simp))
theorem operG_inx (a b : List UInt8) : operG ⟨#[105, 110, 120]⟩ a b = [40, 36] ++ (a ++ [44, 88, 41]) := rfl
theorem opG_inx (n a b : List UInt8) : opG n ⟨#[105, 110, 120]⟩ a b = n ++ (32 :: ([40, 36] ++ (a ++ [44, 88, 41]))) := by
  unfold opG; rw [operG_inx]; exact congrArg _ (if_neg (by simp))
theorem operG_iny (a b : List UInt8) : operG ⟨#[105, 110, 121]⟩ a b = [40, 36] ++ (a ++ [41, 44, 89]) := rfl
theorem opG_iny (n a b : List UInt8) : opG n ⟨#[105, 110, 121]⟩ a b = n ++ (32 :: ([40, 36] ++ (a ++ [41, 44, 89]))) := by
  unfold opG; rw [operG_iny]; exact congrArg _ (if_neg (by simp))
theorem operG_ind (a b : List UInt8) : operG ⟨#[105, 110, 100]⟩ a b = [40, 36] ++ ((b ++ a) ++ [41]) := rfl
theorem opG_ind (n a b : List UInt8) : opG n ⟨#[105, 110, 100]⟩ a b = n ++ (32 :: ([40, 36] ++ ((b ++ a) ++ [41]))) := by
  unfold opG; rw [operG_ind]; exact congrArg _ (if_neg (by simp))
theorem operG_none (m : ByteArray) (a b : List UInt8) (hacc : ¬ m = ⟨#[97, 99, 99]⟩) (himm : ¬ m = ⟨#[105, 109, 109]⟩) (hzpg : ¬ m = ⟨#[122, 112, 103]⟩) (hrel : ¬ m = ⟨#[114, 101, 108]⟩) (hzpx : ¬ m = ⟨#[122, 112, 120]⟩) (hzpy : ¬ m = ⟨#[122, 112, 121]⟩) (habs : ¬ m = ⟨#[97, 98, 115]⟩) (habx : ¬ m = ⟨#[97, 98, 120]⟩) (haby : ¬ m = ⟨#[97, 98, 121]⟩) (hinx : ¬ m = ⟨#[105, 110, 120]⟩) (hiny : ¬ m = ⟨#[105, 110, 121]⟩) (hind : ¬ m = ⟨#[105, 110, 100]⟩) : operG m a b = [] := by
  unfold operG; rw [if_neg hacc, if_neg himm, if_neg hzpg, if_neg hrel, if_neg hzpx, if_neg hzpy, if_neg habs, if_neg habx, if_neg haby, if_neg hinx, if_neg hiny, if_neg hind]
theorem opG_none (n : List UInt8) (m : ByteArray) (a b : List UInt8) (h : operG m a b = []) : opG n m a b = n := by unfold opG; rw [if_pos h, List.append_nil]
theorem ite_len {p : Prop} [Decidable p] {x y : List UInt8} {k : Nat} (hx : x.length ≤ k) (hy : y.length ≤ k) : (if p then x else y).length ≤ k := by split <;> assumption
theorem operG_length (m : ByteArray) (a b : List UInt8) (ha : a.length = 2) (hb : b.length = 2) : (operG m a b).length ≤ 8 := by
  unfold operG
  repeat' refine ite_len ?_ ?_
  all_goals simp only [List.length_append, List.length_cons, List.length_nil]
  all_goals omega
/-- An instruction's text. -/
def opT (N : ByteArray) (m : ByteArray) (lo hi : Int) : List UInt8 := opG N.data.toList m (hexl lo 2) (hexl hi 2)
theorem opT_length (N m : ByteArray) (lo hi : Int) (hN : N.size ≤ 3) : (opT N m lo hi).length ≤ 12 := by
  have h := operG_length m (hexl lo 2) (hexl hi 2) (hexl_length _ _) (hexl_length _ _)
  have hN' : N.data.toList.length ≤ 3 := by simpa using hN
  unfold opT opG
  split <;> simp <;> (try simp at hN') <;> omega
end Go.Proofs.YtboeaeoefoabdaaGreatDoor
