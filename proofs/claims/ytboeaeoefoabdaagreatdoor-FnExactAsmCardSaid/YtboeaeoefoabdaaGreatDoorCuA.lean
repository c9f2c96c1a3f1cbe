/-
  A text cut at its first blank, plainly.
  Conditions: none.
-/
import Derived.WalkKit
import Derived.ProofKit
namespace Go.Proofs.YtboeaeoefoabdaaGreatDoor
open Go.RowKit
def nameL (S : List UInt8) : List UInt8 := S.takeWhile (fun c => c != 32)
def restB (S : List UInt8) : List UInt8 := (S.dropWhile (fun c => c != 32)).drop 1
def NoS (N : List UInt8) : Prop := ∀ c ∈ N, c ≠ 32
theorem cut_at (N r : List UInt8) (h : NoS N) : nameL (N ++ 32 :: r) = N ∧ restB (N ++ 32 :: r) = r := by
  unfold nameL restB
  induction N with
  | nil => simp
  | cons c N ih =>
    have hc := h c (by simp)
    have ih := ih fun x hx => h x (by simp [hx])
    rw [List.cons_append, List.dropWhile_cons, List.takeWhile_cons, if_pos (by simp [hc]), if_pos (by simp [hc])]
    exact ⟨by rw [ih.1], ih.2⟩
theorem cut_nil (N : List UInt8) (h : NoS N) : nameL N = N ∧ restB N = [] := by
  unfold nameL restB
  induction N with
  | nil => simp
  | cons c N ih =>
    have hc := h c (by simp)
    have ih := ih fun x hx => h x (by simp [hx])
    rw [List.dropWhile_cons, List.takeWhile_cons, if_pos (by simp [hc]), if_pos (by simp [hc])]
    exact ⟨by rw [ih.1], ih.2⟩
end Go.Proofs.YtboeaeoefoabdaaGreatDoor
