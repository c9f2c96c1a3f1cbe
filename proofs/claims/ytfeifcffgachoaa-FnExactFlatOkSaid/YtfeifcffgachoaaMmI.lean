/-
  The walks of the program's own functions that put bytes into memory: what the facts on memory say.
  Conditions: as each says; each walk leaves old memory as it was.
-/
import Derived.Test.YtfeifcffgachoaaMmK
namespace Go.Proofs.Ytfeifcffgachoaa
open Go.RowKit Go.Deep Go.WideShapes Go.ChangeShapes
theorem pokeB_cong (r : ByteArray) (a b v x : Int) (h : a % 65536 = b % 65536) (hv : v % 256 = x % 256) : pokeB r a v = pokeB r b x := by
  unfold pokeB b8
  rw [show a % 1024 = b % 1024 by omega, hv]
theorem pokeR_cong (r o : ByteArray) (a b v x : Int) (h : a % 65536 = b % 65536) (hv : v % 256 = x % 256) : pokeR r o a v = pokeR r o b x := by
  unfold pokeR
  rw [pokeB_cong r a b v x h hv, ← where_mod a, h, where_mod b]
theorem loadN_bad (r o : ByteArray) (a : Int) (s : ByteArray) (h : ¬ OkM r o) (k : Nat) : loadN r o a s k = r := by
  induction k with
  | zero => rfl
  | succ k ih =>
    show pokeR (loadN r o a s k) o _ _ = r
    rw [ih]
    unfold pokeR
    rw [if_neg (fun hh => h hh.1)]
theorem loadR_bad (r o : ByteArray) (a : Int) (s : ByteArray) (h : ¬ OkM r o) : loadR r o a s = r := by
  unfold loadR
  split
  · rfl
  · exact loadN_bad r o a s h _
theorem loadR_one (r o : ByteArray) (a v : Int) : loadR r o a ⟨#[b8 v]⟩ = pokeR r o a v := by
  show (if 1024 < 1 then r else pokeR r o (a % 65536 + (0 : Nat)) (atB ⟨#[b8 v]⟩ 0)) = _
  rw [if_neg (by omega)]
  have e : atB ⟨#[b8 v]⟩ 0 = v % 256 := b8_val v
  rw [e]
  exact pokeR_cong _ _ _ _ _ _ (by omega) (by omega)
theorem padL_poke (r : ByteArray) (a v : Int) (h : r.size ≤ 1024) : padL (pokeB r a v) = (padL r).set (a % 1024).toNat (b8 v) := by
  have e : (pokeB r a v).data.toList = (padL r).set (a % 1024).toNat (b8 v) := List.toList_toArray
  unfold padL
  rw [pokeB_size r a v h, e]
  simp [padL]
theorem padL_text (r : ByteArray) : (⟨((padL r).take r.size).toArray⟩ : ByteArray) = r := by
  have : (padL r).take r.size = r.data.toList := by
    unfold padL
    have hl : r.data.toList.length = r.size := Array.length_toList
    rw [List.take_append_of_le_length (Nat.le_of_eq hl.symm), List.take_of_length_le (Nat.le_of_eq hl)]
  rw [this]
theorem loadN_step (r o : ByteArray) (a : Int) (s : ByteArray) (k : Nat) (h : k < s.size) (b : Int) (hb : b % 65536 = (a + k) % 65536) : loadN r o a s (k + 1) = pokeR (loadN r o a s k) o b (s[k].toNat : Int) := by
  show pokeR (loadN r o a s k) o (a % 65536 + k) (atB s k) = _
  rw [atB_in s k h]
  exact pokeR_cong _ _ _ _ _ _ (by omega) rfl
end Go.Proofs.Ytfeifcffgachoaa
