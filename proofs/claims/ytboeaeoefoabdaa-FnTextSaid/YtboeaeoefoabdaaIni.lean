/-
  The head word of the translation as a list of words, and what a row asks of it: that the program may be entered, how it was made, and that nothing is lifted.
  Conditions: none.
-/
import Derived.Test.YtboeaeoefoabdaaProg
import Derived.KernelRfl
import Derived.JoinedOf
namespace Go.Proofs.Ytboeaeoefoabdaa
def joinW : List (List Char) → List Char
  | [] => []
  | [w] => w
  | w :: v :: ws => w ++ Char.ofNat 32 :: joinW (v :: ws)
theorem words_cons (c : Char) (r : List Char) (h : c ≠ Char.ofNat 32) (w : List Char) (ws : List (List Char)) (e : wordsSigns r = w :: ws) : wordsSigns (c :: r) = (c :: w) :: ws := by
  rw [wordsSigns, e]
  exact h
theorem words_blank (r : List Char) : wordsSigns (Char.ofNat 32 :: r) = [] :: wordsSigns r := rfl
theorem words_word (w : List Char) (h : ∀ c ∈ w, c ≠ Char.ofNat 32) (r : List Char) (v : List Char) (ws : List (List Char)) (e : wordsSigns r = v :: ws) : wordsSigns (w ++ r) = (w ++ v) :: ws := by
  induction w with
  | nil => exact e
  | cons c w ih => exact words_cons c _ (h c (by simp)) _ _ (ih fun d hd => h d (by simp [hd]))
theorem words_join : ∀ ws : List (List Char), ws ≠ [] → (∀ w ∈ ws, ∀ c ∈ w, c ≠ Char.ofNat 32) → wordsSigns (joinW ws) = ws
  | [], h, _ => absurd rfl h
  | [w], _, h => by
    have := words_word w (h w (by simp)) [] [] [] rfl
    simpa [joinW] using this
  | w :: v :: ws, _, h => by
    have ih := words_join (v :: ws) (by simp) fun x hx => h x (by simp [List.mem_cons.1 hx])
    have := words_word w (h w (by simp)) (Char.ofNat 32 :: joinW (v :: ws)) [] (v :: ws) (by rw [words_blank, ih])
    simpa [joinW] using this
def headNums : List (List Nat) := [[104, 97, 114, 110, 101, 115, 115],
  [52, 102, 48, 100, 49, 100, 99, 97, 98, 50, 50, 51, 54, 51, 98, 48, 102, 102, 97, 52, 49, 54, 55, 51, 100, 100, 55, 54, 102, 102, 56, 99, 52, 48, 102, 48, 49, 98, 57, 48, 100, 52, 50, 53, 56, 52, 56, 100, 49, 48, 99, 53, 97, 55, 54, 49, 98, 54, 56, 52, 48, 57, 55, 100],
  [99, 117, 116],
  [97, 116],
  [108, 111, 111, 112, 46, 101, 120, 97, 109, 112, 108, 101, 47, 103, 48, 48, 55, 54, 48, 47, 108, 97, 119, 115, 46, 70, 110, 84, 101, 120, 116],
  [108, 111, 111, 112, 46, 101, 120, 97, 109, 112, 108, 101, 47, 103, 48, 48, 55, 54, 48, 47, 108, 97, 119, 115, 46, 70, 110, 69, 120, 97, 99, 116, 79, 112, 84, 101, 120, 116]]
def headWords : List (List Char) := headNums.map (List.map Char.ofNat)
theorem head_is : Try.prog.initOrder = String.ofList (joinW headWords) := by
  conv => lhs; whnf
  kernel_rfl
theorem no_blank : ∀ w ∈ headWords, ∀ c ∈ w, c ≠ Char.ofNat 32 := by
  have h : (headWords.all fun w => w.all fun c => c.toNat != 32) = true := by kernel_rfl
  intro w hw c hc e
  have h1 := List.all_eq_true.1 (List.all_eq_true.1 h w hw) c hc
  rw [e] at h1
  exact absurd h1 (by decide)
theorem head_words : wordsSigns Try.prog.initOrder.toList = headWords := by
  rw [head_is, String.toList_ofList, words_join _ (by simp [headWords, headNums]) no_blank]
theorem strip_cut (rest : List (List Char)) : stripLifts liftWords ("cut".toList :: rest) = ([], "cut".toList :: rest) := by
  have hk : ∀ os : List String, (os.all fun o => o.toList != "cut".toList) = true → stripLifts os ("cut".toList :: rest) = ([], "cut".toList :: rest) := by
    intro os
    induction os with
    | nil => intro _; rfl
    | cons o os ih =>
      intro h
      rw [List.all_cons, Bool.and_eq_true] at h
      have h1 : ("cut".toList == o.toList) = false := by
        have h2 := h.1
        rw [bne_iff_ne] at h2
        exact beq_eq_false_iff_ne.2 fun e => h2 e.symm
      rw [stripLifts, h1]
      exact ih h.2
  exact hk _ (by decide +kernel)
theorem make_of (P : Program) (rest : List (List Char)) (h : behindMainWord (wordsSigns P.initOrder.toList) = "cut".toList :: rest) : P.make = some .cut := by
  unfold Program.make
  rw [h]
  have h1 : ("cut".toList == "gc".toList || "cut".toList == "spec".toList) = false := by decide +kernel
  have h2 : ("cut".toList == "cut".toList) = true := by decide +kernel
  simp only [h1, h2, Bool.true_or, if_true, Bool.false_eq_true, if_false]
theorem lifts_of (P : Program) (rest : List (List Char)) (h : behindMainWord (wordsSigns P.initOrder.toList) = "cut".toList :: rest) : P.liftsFinal = false := by
  unfold Program.liftsFinal Program.headLifts
  rw [h, strip_cut]
  simp
theorem enter_of (P : Program) (rest : List (List Char)) (h : behindMainWord (wordsSigns P.initOrder.toList) = "cut".toList :: rest) (h1 : P.laysLater = false) (h2 : P.bearsReflect = false) (h3 : P.doorFits [] = true) : P.mayEnter = true := by
  unfold Program.mayEnter
  rw [h]
  simp only [strip_cut, h1, h2, h3]
  simp
def restWords : List (List Char) := (headNums.drop 3).map (List.map Char.ofNat)
theorem behind_is : behindMainWord (wordsSigns Try.prog.initOrder.toList) = "cut".toList :: restWords := by
  rw [head_words]
  kernel_rfl
theorem lays_later : Try.prog.laysLater = false := by kernel_rfl
theorem bears_reflect : Try.prog.bearsReflect = false := by kernel_rfl
theorem door_fits : Try.prog.doorFits [] = true := by kernel_rfl
theorem may_enter : Try.prog.mayEnter = true := enter_of _ restWords behind_is lays_later bears_reflect door_fits
theorem lifts_final : Try.prog.liftsFinal = false := lifts_of _ restWords behind_is
theorem make_is : Try.prog.make = some .cut := make_of _ restWords behind_is
end Go.Proofs.Ytboeaeoefoabdaa
