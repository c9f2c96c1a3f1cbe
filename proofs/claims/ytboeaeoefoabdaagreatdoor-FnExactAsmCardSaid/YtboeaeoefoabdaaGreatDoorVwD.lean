/-
  The iterator of impl.wordsOf: it tells word behind word, and the empty text again and again behind the last, as long as the loop's body lets it.
  Conditions: the body lets only texts that are not empty go on; the text is shorter than 4294967281 bytes.
-/
import Derived.Test.YtboeaeoefoabdaaGreatDoorVwC
import Derived.Test.YtboeaeoefoabdaaGreatDoorRuL
import Derived.OwnWalkIn
import Derived.TacticsInMore
import Derived.LoopNIn
import Derived.LoopIn
import Derived.RangeFuncBound
import Derived.RangeFuncCalls
namespace Go.Proofs.YtboeaeoefoabdaaGreatDoor
open Go Go.RowKit Go.Shelf
attribute [local go_sem] Oper.semAt_some
def Sp (l : List UInt8) (pre : List ByteArray) : Prop := ∃ k, pre = told l (k + 1)
def strSz : Value → Nat
  | .string s => s.size
  | _ => 0
set_option maxRecDepth 100000 in
set_option maxHeartbeats 2000000 in
theorem words_tells (n n₀ Bn : Nat) (s : ByteArray) (hs : s.size < 4294967281) (w : World) (hBn : Bn < w.heap.size) (hc0 : w.cell? ⟨Bn, 0, none⟩ = some (.string s)) :
    Tells Fence.wide n Tryz.prog 115 n₀ #[.pointer (some ⟨Bn, 0, none⟩)] Good (Sp s.data.toList) (s.data.toList.length + 1) w := by
  intro l J Jx W hW hY hGood hJb hJxb h0
  have hc : W.cell? ⟨Bn, 0, none⟩ = some (.string s) := (hW.cell (p := ⟨Bn, 0, none⟩) hBn).trans hc0
  have hsl : s.data.toList.length = s.size := by simp
  have hF := first_word s hs
  unfold WordPost at hF
  obtain ⟨L, hL⟩ : ∃ L, L = s.data.toList := ⟨_, rfl⟩
  rw [← hL] at hsl hF ⊢
  clear hL hc0 hW
  show CallsIn Fence.wide n Tryz.prog 115 #[.func (.yield l) #[] #[], .pointer (some ⟨Bn, 0, none⟩)] W _
  refine callsIn_of_wp Tryz.func115 rfl trivial ?_ rfl
  simp only [Tryz.ntmps115, List.size_toArray, List.length_cons, List.length_nil, Nat.reduceAdd, Nat.reduceSub, Array.replicate_succ, Array.replicate_zero, List.push_toArray, List.append_toArray, List.nil_append, List.cons_append]
  gi_wp2_with (refine ⟨trivial, fun h => (by cases h), ?_⟩; refine (callsIn_wide.2 (hF _)).mono ?_; rintro e w1 ⟨rfl, hb1⟩)
  have h1 := hJb _ _ _ h0 hb1
  clear hc h0 hF
  gi_loopw [3, 4] (fun v3 v4 wr => ∃ k : Nat, v3 = .string (wordB L k) ∧ v4 = .string ⟨(restL (behind L k)).toArray⟩ ∧ k + (behind L k).length ≤ L.length ∧ J (told L k) wr) (fun v3 v4 _ => strSz v3 + strSz v4)
  case atStart => exact ⟨0, rfl, rfl, by simp [behind], h1⟩
  case round =>
    obtain ⟨k, rfl, rfl, hkl, hJ⟩ := hrel
    obtain ⟨fn, tmps, assign, body, hy, hR⟩ := hY (told L k) (wordB L k) wr hJ (by simp [told]; omega)
    have hle := behind_le L k
    have hF := first_word ⟨(restL (behind L k)).toArray⟩ (by rw [bsize]; have := restL_le (behind L k); omega)
    unfold WordPost at hF
    gi_wp2
    refine ⟨fun h => (by cases h), hR.mono ?_⟩
    rintro e W3 (⟨rfl, hJ3, hk3⟩ | ⟨rfl, hJx3⟩)
    · gi_wp2_with (refine ⟨trivial, fun h => (by cases h), ?_⟩; refine (callsIn_wide.2 (hF _)).mono ?_; rintro e w4 ⟨rfl, hb4⟩)
      have hJ4 := hJb _ _ _ hJ3 hb4
      have hne := hGood _ _ hJ3 (wordB L k) (by simp)
      have hk5 : (k + 1) + (behind L (k + 1)).length ≤ L.length := by
        have e1 := word_rest (behind L k)
        have e4 := trimL_le (behind L k)
        unfold wordB at hne
        rw [bsize] at hne
        show (k + 1) + (restL (behind L k)).length ≤ L.length
        omega
      go_roundw
      case rel => exact ⟨k + 1, rfl, rfl, hk5, by rw [told_succ]; exact hJ4⟩
      case measure =>
        have e1 := word_rest (behind L k)
        have e2 := word_rest (restL (behind L k))
        have e3 := trimL_le (restL (behind L k))
        have e4 := trimL_le (behind L k)
        unfold wordB at hne
        rw [bsize] at hne
        simp only [strSz, wordB, bsize]
        omega
    · gi_wp2
      go_end0
      exact ⟨⟨_, rfl⟩, told L k ++ [wordB L k], ⟨k, (told_succ L k).symm⟩, hJx3⟩
/-- wordsOf: the text is boxed; the function value captures the box. -/
theorem wordsOf_any (n : Nat) (s : ByteArray) (w : World) :
    CallsIn Fence.wide n Tryz.prog 90 #[.string s] w fun e w' => e = .returned (.func (.func 115) #[] #[.pointer (some ⟨w.heap.size, 0, none⟩)]) ∧ w' = w.alloc (.cells #[.string s] 9) := by
  refine callsIn_of_wp Tryz.func90 rfl trivial ?_ rfl
  simp only [Tryz.ntmps90, List.size_toArray, List.length_cons, List.length_nil, Nat.reduceAdd, Nat.reduceSub, Array.replicate_succ, Array.replicate_zero, List.push_toArray, List.append_toArray, List.nil_append, List.cons_append]
  gi_wp2
  go_ret
  exact ⟨rfl, rfl⟩
end Go.Proofs.YtboeaeoefoabdaaGreatDoor
