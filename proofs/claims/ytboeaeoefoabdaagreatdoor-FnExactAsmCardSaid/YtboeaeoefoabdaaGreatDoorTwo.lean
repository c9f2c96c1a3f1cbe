/-
  Plain facts on a block of two texts (an instruction, a memory): as it is new, as it is kept behind what leaves old memory alone.
  Conditions: as each lemma says.
-/
import Derived.Test.YtboeaeoefoabdaaGreatDoorBel
namespace Go.Proofs.YtboeaeoefoabdaaGreatDoor
open Go.RowKit
/-- A new block of two empty texts, as it stands behind what leaves it alone. -/
theorem two_new {w w' : World} {t : TypeId} (hb : Below (w.alloc (.cells #[.string ⟨#[]⟩, .string ⟨#[]⟩] t)).heap.size (w.alloc (.cells #[.string ⟨#[]⟩, .string ⟨#[]⟩] t)) w') :
    w'.cell? ⟨w.heap.size, 0, none⟩ = some (.string ⟨#[]⟩) ∧ w'.cell? ⟨w.heap.size, 1, none⟩ = some (.string ⟨#[]⟩) ∧ w'.frozen? ⟨w.heap.size, 0, none⟩ = false ∧ w'.frozen? ⟨w.heap.size, 1, none⟩ = false ∧ Below w.heap.size w w' := by
  have hk : (w.alloc (.cells #[.string ⟨#[]⟩, .string ⟨#[]⟩] t)).heap[w.heap.size]? = some (.cells #[.string ⟨#[]⟩, .string ⟨#[]⟩] t) := by
    show (w.heap.push _)[w.heap.size]? = _
    simp
  have hl : w.heap.size < (w.alloc (.cells #[.string ⟨#[]⟩, .string ⟨#[]⟩] t)).heap.size := by simp
  have hk' := (hb.block w.heap.size hl).trans hk
  refine ⟨?_, ?_, ?_, ?_, ((Below.refl _ _).alloc (Nat.le_refl _) _).trans (hb.mono (by omega))⟩
  · unfold World.cell?; rw [hk']; rfl
  · unfold World.cell?; rw [hk']; rfl
  · unfold World.frozen?; rw [hk']; rfl
  · unfold World.frozen?; rw [hk']; rfl
/-- Two texts that stand in a block. -/
def TwoAt (W : World) (B : Nat) (a b : ByteArray) : Prop := W.cell? ⟨B, 0, none⟩ = some (.string a) ∧ W.cell? ⟨B, 1, none⟩ = some (.string b)
theorem TwoAt.below {w w' : World} {B : Nat} {a b : ByteArray} (h : TwoAt w B a b) (hB : B < w.heap.size) (hb : Below w.heap.size w w') : TwoAt w' B a b :=
  ⟨(hb.cell (p := ⟨B, 0, none⟩) hB).trans h.1, (hb.cell (p := ⟨B, 1, none⟩) hB).trans h.2⟩
theorem twoAt_new (w : World) (a b : ByteArray) (t : TypeId) : TwoAt (w.alloc (.cells #[.string a, .string b] t)) w.heap.size a b := by
  have hb : ∀ o, (w.alloc o).heap[w.heap.size]? = some o := fun o => by show (w.heap.push o)[w.heap.size]? = _; simp
  constructor <;> (unfold World.cell?; rw [hb]; rfl)
/-- Two texts that stand in a block, and old memory, as it is kept. -/
def OpHeld (W : World) (B : Nat) (a b : ByteArray) (w : World) : Prop := w.cell? ⟨B, 0, none⟩ = some (.string a) ∧ w.cell? ⟨B, 1, none⟩ = some (.string b) ∧ B < w.heap.size ∧ Below W.heap.size W w
theorem op_held {W w : World} {B : Nat} {a b : ByteArray} (h : TwoAt w B a b) (hB : B < w.heap.size) (hb : Below W.heap.size W w) : OpHeld W B a b w.drew := ⟨h.1, h.2, hB, hb.drew⟩
theorem op_keep {W w w' : World} {B : Nat} {a b : ByteArray} (h : OpHeld W B a b w) (hb : Below w.heap.size w w') : OpHeld W B a b w' := by
  obtain ⟨h0, h1, h2, h3⟩ := h
  exact ⟨(hb.cell (p := ⟨B, 0, none⟩) h2).trans h0, (hb.cell (p := ⟨B, 1, none⟩) h2).trans h1, Nat.lt_of_lt_of_le h2 hb.size, below_then h3 hb⟩
/-- A block of two texts behind what leaves old memory alone: its cells and that they may be written. -/
theorem two_keep {w w' : World} {B : Nat} {a b : ByteArray} {t : TypeId} (h : w.heap[B]? = some (.cells #[.string a, .string b] t (0, 0))) (hb : Below w.heap.size w w') :
    w'.cell? ⟨B, 0, none⟩ = some (.string a) ∧ w'.cell? ⟨B, 1, none⟩ = some (.string b) ∧ w'.frozen? ⟨B, 0, none⟩ = false ∧ w'.frozen? ⟨B, 1, none⟩ = false := by
  have h' := blk_below h hb
  exact ⟨cell_of_blk h' rfl, cell_of_blk h' rfl, free_of_blk h', free_of_blk h'⟩
theorem two_drew {X w' : World} {k : Nat} {a b : ByteArray} {t : TypeId} (hk : X.heap.size = k) (hb : Below (X.alloc (.cells #[.string a, .string b] t)).drew.heap.size (X.alloc (.cells #[.string a, .string b] t)).drew w') :
    w'.cell? ⟨k, 0, none⟩ = some (.string a) ∧ w'.cell? ⟨k, 1, none⟩ = some (.string b) ∧ w'.frozen? ⟨k, 0, none⟩ = false ∧ w'.frozen? ⟨k, 1, none⟩ = false := by
  subst hk
  exact two_keep (w := (X.alloc (.cells #[.string a, .string b] t)).drew) (blk_new X _) hb
/-- Both texts of a block put anew. -/
theorem two_put {w : World} {B : Nat} {a b : ByteArray} {t : TypeId} (h : w.heap[B]? = some (.cells #[.string a, .string b] t (0, 0))) (c d : ByteArray) :
    ((w.setCell ⟨B, 0, none⟩ (.string c)).setCell ⟨B, 1, none⟩ (.string d)).heap[B]? = some (.cells #[.string c, .string d] t (0, 0)) := by
  simp [World.setCell, Array.getElem?_modify, h]
theorem put_other {w : World} {B k : Nat} (h : k ≠ B) (c d : Value) : ((w.setCell ⟨B, 0, none⟩ c).setCell ⟨B, 1, none⟩ d).heap[k]? = w.heap[k]? := by
  rw [Below.heap_setCell _ _ _ _ h, Below.heap_setCell _ _ _ _ h]
/-- Two blocks of two texts, and old memory. -/
def TwoMem (W : World) (p q : Nat) (a b c d : ByteArray) (w : World) : Prop := q < w.heap.size ∧ p < w.heap.size ∧ TwoAt w p a b ∧ TwoAt w q c d ∧ Below W.heap.size W w
theorem twoAt_blk {w : World} {B : Nat} {a b : ByteArray} {t : TypeId} (h : w.heap[B]? = some (.cells #[.string a, .string b] t (0, 0))) : TwoAt w B a b := ⟨cell_of_blk h rfl, cell_of_blk h rfl⟩
theorem blk_lt {w : World} {B : Nat} {o : Obj} (h : w.heap[B]? = some o) : B < w.heap.size := (Array.getElem?_eq_some_iff.1 h).1
/-- The second block made last. -/
theorem mem_last {W w1 w6 : World} {a b c d : ByteArray} {t u : TypeId} (B : Below W.heap.size W (w1.alloc (.cells #[.string a, .string b] t))) (hb : Below (w1.alloc (.cells #[.string a, .string b] t)).drew.heap.size (w1.alloc (.cells #[.string a, .string b] t)).drew w6) :
    TwoMem W w1.heap.size w6.heap.size a b c d (w6.alloc (.cells #[.string c, .string d] u)) := by
  have h1 : w6.heap[w1.heap.size]? = some (.cells #[.string a, .string b] t (0, 0)) := blk_below (w := (w1.alloc (.cells #[.string a, .string b] t)).drew) (blk_new w1 _) hb
  have h1' := blk_old (o := .cells #[.string c, .string d] u) h1
  have h2 := blk_new w6 (.cells #[.string c, .string d] u)
  exact ⟨blk_lt h2, blk_lt h1', twoAt_blk h1', twoAt_blk h2, below_alloc (below_then B.drew hb) _⟩
/-- The second block made first. -/
theorem mem_first {W w1 w6 : World} {a b c d e f : ByteArray} {t u : TypeId} (B : Below W.heap.size W (w1.alloc (.cells #[.string a, .string b] t)))
    (hb : Below ((w1.alloc (.cells #[.string a, .string b] t)).alloc (.cells #[.string e, .string f] u)).drew.heap.size ((w1.alloc (.cells #[.string a, .string b] t)).alloc (.cells #[.string e, .string f] u)).drew w6) :
    TwoMem W w1.heap.size (w1.heap.size + 1) a b c d ((w6.setCell ⟨w1.heap.size + 1, 0, none⟩ (.string c)).setCell ⟨w1.heap.size + 1, 1, none⟩ (.string d)) := by
  have h1 : w6.heap[w1.heap.size]? = some (.cells #[.string a, .string b] t (0, 0)) := blk_below (w := ((w1.alloc (.cells #[.string a, .string b] t)).alloc (.cells #[.string e, .string f] u)).drew) (blk_old (blk_new w1 _)) hb
  have h2 := blk_new (w1.alloc (.cells #[.string a, .string b] t)) (.cells #[.string e, .string f] u)
  rw [alloc_size] at h2
  have h2 : w6.heap[w1.heap.size + 1]? = some (.cells #[.string e, .string f] u (0, 0)) := blk_below (w := ((w1.alloc (.cells #[.string a, .string b] t)).alloc (.cells #[.string e, .string f] u)).drew) h2 hb
  have h3 := two_put h2 c d
  have h4 := (put_other (w := w6) (B := w1.heap.size + 1) (k := w1.heap.size) (by omega) (.string c) (.string d)).trans h1
  have hB : Below W.heap.size W w6 := below_then (below_alloc B _).drew hb
  have hW := B.size
  rw [alloc_size] at hW
  exact ⟨blk_lt h3, blk_lt h4, twoAt_blk h4, twoAt_blk h3, (hB.setCell (p := ⟨w1.heap.size + 1, 0, none⟩) hW _).setCell (p := ⟨w1.heap.size + 1, 1, none⟩) hW _⟩
end Go.Proofs.YtboeaeoefoabdaaGreatDoor
