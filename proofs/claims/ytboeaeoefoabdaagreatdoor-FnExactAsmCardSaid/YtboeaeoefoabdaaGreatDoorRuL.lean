/-
  A range over an iterator that tells texts and has no end of its own: the loop's body lets only some texts go on (Good) and leaves by one jump at any other; the iterator may count on that.
  Conditions: as told.
-/
import Derived.RangeFuncNested
import Derived.RangeFuncLeaves
import Derived.RangeFuncFrom
import Derived.RangeFuncBox
import Derived.Shelf.Abstract
import Derived.Shelf.RegionOpen
import Derived.WalkKit
namespace Go.Proofs.YtboeaeoefoabdaaGreatDoor
open Go Go.RowKit Go.Shelf
variable {F : Fence} {n : Nat} {P : Program}
/-- What the body of a round may do with the text x behind the texts pre: go on, or leave by the jump 'exit id'. -/
def RoundPost (n₀ id : Nat) (I : List ByteArray → World → Prop) (Ix : List ByteArray → World → Prop) (xs : List ByteArray) (W : World) : Exit → Act → World → Prop
  | .normal, _, W' => KeepsOthers W W' ∧ Below n₀ W W' ∧ I xs W'
  | .exit i, _, W' => i = id ∧ KeepsOthers W W' ∧ Ix xs W'
  | _, _, _ => False
/-- The iterator's promise to a caller whose invariant is J as long as it goes on, and Jx when it has left. -/
def Tells (F : Fence) (n : Nat) (P : Program) (gf n₀ : Nat) (lb : Array Value) (Good Sp : List ByteArray → Prop) (N : Nat) (w : World) : Prop :=
  ∀ (l : Nat) (J Jx : List ByteArray → World → Prop) (W : World), Below w.heap.size w W →
    (∀ pre x W1, J pre W1 → pre.length < N → YieldAt F (n - 1) P l #[.string x] W1 fun e W' => (e = .returned (.bool true) ∧ J (pre ++ [x]) W' ∧ Below n₀ W1 W') ∨ (e = .returned (.bool false) ∧ Jx (pre ++ [x]) W')) →
    (∀ pre W1, J pre W1 → Good pre) → (∀ pre W1 W2, J pre W1 → Below W1.heap.size W1 W2 → J pre W2) → (∀ pre W1 W2, Jx pre W1 → Below W1.heap.size W1 W2 → Jx pre W2) → J [] W →
    CallsIn F n P gf (#[.func (.yield l) #[] #[]] ++ lb) W fun e W' => (∃ v, e = .returned v) ∧ ∃ pre, Sp pre ∧ Jx pre W'
theorem range_tells {g : Operand} {ps : Array Tmp} {assign body : Code} {Q : Exit → Act → World → Prop} {a : Act} {w w0 : World} {gf n₀ id N : Nat} {lb : Array Value} {Good Sp : List ByteArray → Prop}
    (hro : F.round = none) (h1 : 1 ≤ n) (hg : a.eval g = .func (.func gf) #[] lb) (hF : F.fn gf) (eg : ∀ args w, (callFunc gf args).run P w = .ok (.enter gf args) w) (hps : ps.size = 1)
    (iter : Tells F (n - 1) P gf n₀ lb Good Sp N w0) (hn₀ : n₀ ≤ w.heap.size) (hw0 : Below w0.heap.size w0 w)
    (I Ix : List ByteArray → World → Prop) (hI : OwnFrom w.heap.size I) (hIx : OwnFrom w.heap.size Ix) (hgood : ∀ pre W, I pre W → Good pre) (h0 : I [] w) (a₁ : ByteArray → Act)
    (keep : ∀ pre W1 W2, I pre W1 → Below W1.heap.size W1 W2 → I pre W2) (keepx : ∀ pre W1 W2, Ix pre W1 → Below W1.heap.size W1 W2 → Ix pre W2)
    (hassign : ∀ (l : Nat) (x : ByteArray) (W : World) (K : Act → World → Prop), K (a₁ x) W →
      assign.wpIn (F.inRound l) (n - 1 - 1) P (Exit.then K (fun _ _ _ => False)) { tmps := (ps.zip #[.string x]).foldl (fun t (p, v) => t.setIfInBounds p v) a.tmps, defers := [] } W)
    (hbody : ∀ (l : Nat) (pre : List ByteArray) (x : ByteArray) (W : World), I pre W → pre.length < N → body.wpIn (F.inRound l) (n - 1 - 1) P (RoundPost n₀ id I Ix (pre ++ [x]) W) (a₁ x) W)
    (hstop : ∀ (D : Nat) (pre : List ByteArray) (W : World), w.heap.size ≤ D → Sp pre → Ix pre W → W.heap[D]? = some (.deferred (some [])) → (Code.exit id).wpIn F n P Q { a with defers := { target := .collected D, args := #[] } :: a.defers } W) :
    (Code.rangeFunc g ps assign body).wpIn F n P Q a w := by
  refine wpIn_rangeFunc ?_
  intro fn hfn
  rw [hro]
  -- the loop's record, in its states; the block of the rounds' deferred calls is D, the record's block is D + 1
  let R : LoopState → Option Code → Obj := fun st pe => .loop { state := st, pending := pe, fn, tmps := a.tmps, params := ps, assign, body, defers := w.heap.size }
  let L := w.heap.size + 1
  let W0 := (w.alloc (.deferred (some []))).alloc (R .ready none)
  have sL : W0.heap[L]? = some (R .ready none) := by
    have := World.alloc_heap_new (w.alloc (.deferred (some []))) (R .ready none)
    rwa [World.size_alloc] at this
  have sD : W0.heap[w.heap.size]? = some (.deferred (some [])) := (Below.heap_alloc _ _ _ (by simp)).trans (World.alloc_heap_new w _)
  have sI : I [] W0 := hI.alloc _ (hI.alloc _ h0)
  have sB : Below w0.heap.size w0 W0 := hw0.trans ((((Below.refl _ w).alloc (Nat.le_refl _) _).alloc (by simp) _).mono hw0.size)
  refine ⟨L, [{ target := .collected w.heap.size, args := #[] }], W0, { target := .fn (.func gf) lb, args := #[.func (.yield L) #[] #[]] }, W0, gf, #[.func (.yield L) #[] #[]] ++ lb, W0, run_enterLoop_outer _ _ _ _ _, ?_, ?_, ?_, fun _ => h1, ?_⟩
  · simp only [resolve, hg]; simp [go_sem, L]
  · intro f' hf'; simp [Target.leads] at hf'; subst hf'; exact hF
  · simp [invoke, go_sem, eg]
  have ltD : ∀ {W : World}, W.heap[L]? = some (R .ready none) → L < W.heap.size := fun h => (Array.getElem?_eq_some_iff.1 h).1
  refine (iter L (fun pre W => I pre W ∧ W.heap[L]? = some (R .ready none) ∧ W.heap[w.heap.size]? = some (.deferred (some [])))
    (fun pre W => Ix pre W ∧ W.heap[L]? = some (R .done (some (.exit id))) ∧ W.heap[w.heap.size]? = some (.deferred (some []))) W0 sB ?round (fun pre W h => hgood pre W h.1)
    (fun pre A B h hb => ⟨keep pre A B h.1 hb, (hb.block L (Array.getElem?_eq_some_iff.1 h.2.1).1).trans h.2.1, (hb.block _ (Array.getElem?_eq_some_iff.1 h.2.2).1).trans h.2.2⟩)
    (fun pre A B h hb => ⟨keepx pre A B h.1 hb, (hb.block L (Array.getElem?_eq_some_iff.1 h.2.1).1).trans h.2.1, (hb.block _ (Array.getElem?_eq_some_iff.1 h.2.2).1).trans h.2.2⟩) ⟨sI, sL, sD⟩).mono ?behind
  case round =>
    rintro pre x W ⟨hi, hl, hd⟩ hlen
    have hne : w.heap.size ≠ L := by simp [L]
    have hlt := ltD hl
    refine ⟨fn, _, assign, body, run_yield (args := #[.string x]) hl hps.symm, roundIn_of_wpIn hfn (hassign _ x W _ ⟨_, run_beginRound hl rfl, ?_⟩)⟩
    -- the round has begun: the record is busy
    have bl : (W.putObj L (R .busy none)).heap[L]? = some (R .busy none) := World.putObj_heap_same hlt
    have bd : (W.putObj L (R .busy none)).heap[w.heap.size]? = some (.deferred (some [])) := (World.putObj_heap_other hne).trans hd
    have turn : ∀ {A : World} {o : Obj} (o' : Obj), A.heap[L]? = some o → Below n₀ A (A.putObj L o') := fun {A o} o' _ => ⟨rfl, rfl, rfl, by simp, fun k hk => World.putObj_heap_other (by simp only [L]; omega)⟩
    refine wpIn_mono (hbody _ pre x _ (hI.putObj _ hi (by simp [L]) hl rfl) hlen) ?_
    rintro e a3 W3 hp
    match e, hp with
    | .normal, ⟨hk, hb, hi3⟩ =>
      have l3 := hk.same _ _ bl rfl
      have d3 := hk.same _ _ bd rfl
      refine ⟨_, _, run_endRound none l3, .inl ⟨rfl, ⟨hI.putObj _ hi3 (by simp [L]) l3 rfl, World.putObj_heap_same (Array.getElem?_eq_some_iff.1 l3).1, (World.putObj_heap_other hne).trans d3⟩, ((turn _ hl).trans hb).trans (turn _ l3)⟩⟩
    | .exit i, ⟨hid, hk, hx⟩ =>
      subst hid
      have l3 := hk.same _ _ bl rfl
      have d3 := hk.same _ _ bd rfl
      exact ⟨_, _, run_endRound (some (.exit i)) l3, .inr ⟨rfl, hIx.putObj _ hx (by simp [L]) l3 rfl, World.putObj_heap_same (Array.getElem?_eq_some_iff.1 l3).1, (World.putObj_heap_other hne).trans d3⟩⟩
  case behind =>
    rintro e W ⟨⟨v, rfl⟩, pre, hSp, hx, hl, hd⟩
    have hne : w.heap.size ≠ L := by simp [L]
    exact ⟨some (.exit id), _, run_endLoop hl (by simp), hstop _ pre _ (Nat.le_refl _) hSp (hIx.putObj _ hx (by simp [L]) hl rfl) ((World.putObj_heap_other hne).trans hd)⟩
end Go.Proofs.YtboeaeoefoabdaaGreatDoor
