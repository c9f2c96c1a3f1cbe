/-
  Plain facts on two memories that stand in blocks, as they are kept.
  Conditions: as each lemma says.
-/
import Derived.Test.YtcnajmmpijhniaaTwo
namespace Go.Proofs.Ytcnajmmpijhniaa
open Go.RowKit
/-- Two memories that stand in blocks, and old memory, as they are kept. -/
def MemHeld (W : World) (M b : Nat) (r o p q : ByteArray) (w : World) : Prop := w.cell? ⟨M, 0, none⟩ = some (.string r) ∧ w.cell? ⟨M, 1, none⟩ = some (.string o) ∧ w.cell? ⟨b, 0, none⟩ = some (.string p) ∧ w.cell? ⟨b, 1, none⟩ = some (.string q) ∧ M < w.heap.size ∧ b < w.heap.size ∧ Below W.heap.size W w
theorem mem_held {W w : World} {M b : Nat} {r o p q : ByteArray} (h : TwoAt w M r o) (k : TwoAt w b p q) (hM : M < w.heap.size) (hb : b < w.heap.size) (hW : Below W.heap.size W w) : MemHeld W M b r o p q w.drew := ⟨h.1, h.2, k.1, k.2, hM, hb, hW.drew⟩
theorem mem_keep {W w w' : World} {M b : Nat} {r o p q : ByteArray} (h : MemHeld W M b r o p q w) (hb : Below w.heap.size w w') : MemHeld W M b r o p q w' := by
  obtain ⟨h0, h1, h2, h3, h4, h5, h6⟩ := h
  exact ⟨(hb.cell (p := ⟨M, 0, none⟩) h4).trans h0, (hb.cell (p := ⟨M, 1, none⟩) h4).trans h1, (hb.cell (p := ⟨b, 0, none⟩) h5).trans h2, (hb.cell (p := ⟨b, 1, none⟩) h5).trans h3, Nat.lt_of_lt_of_le h4 hb.size, Nat.lt_of_lt_of_le h5 hb.size, below_then h6 hb⟩
theorem two_drew_k {G : Prop} {X w' : World} {k : Nat} {a b : ByteArray} {t : TypeId} (hk : X.heap.size = k) (hb : Below (X.alloc (.cells #[.string a, .string b] t)).drew.heap.size (X.alloc (.cells #[.string a, .string b] t)).drew w')
    (h : w'.cell? ⟨k, 0, none⟩ = some (.string a) ∧ w'.cell? ⟨k, 1, none⟩ = some (.string b) ∧ w'.frozen? ⟨k, 0, none⟩ = false ∧ w'.frozen? ⟨k, 1, none⟩ = false → G) : G := h (two_drew hk hb)
theorem tm_held {W w : World} {M b : Nat} {r o p q : ByteArray} (h : TwoMem W M b r o p q w) : MemHeld W M b r o p q w := ⟨h.2.2.1.1, h.2.2.1.2, h.2.2.2.1.1, h.2.2.2.1.2, h.2.1, h.1, h.2.2.2.2⟩
/-- Three memories that stand in blocks, and old memory, as they are kept. -/
def Held3 (W : World) (M b d : Nat) (r o p q x y : ByteArray) (w : World) : Prop := w.cell? ⟨M, 0, none⟩ = some (.string r) ∧ w.cell? ⟨M, 1, none⟩ = some (.string o) ∧ w.cell? ⟨b, 0, none⟩ = some (.string p) ∧ w.cell? ⟨b, 1, none⟩ = some (.string q) ∧
  w.cell? ⟨d, 0, none⟩ = some (.string x) ∧ w.cell? ⟨d, 1, none⟩ = some (.string y) ∧ M < w.heap.size ∧ b < w.heap.size ∧ d < w.heap.size ∧ Below W.heap.size W w
theorem held_three {W w : World} {M b : Nat} {r o p q : ByteArray} (h : MemHeld W M b r o p q w) (x y : ByteArray) (t : TypeId) : Held3 W M b w.heap.size r o p q x y (w.alloc (.cells #[.string x, .string y] t)) := by
  obtain ⟨h0, h1, h2, h3, h4, h5, h6⟩ := h
  have hb : Below w.heap.size w (w.alloc (.cells #[.string x, .string y] t)) := (Below.refl _ _).alloc (Nat.le_refl _) _
  have hn := blk_new w (.cells #[.string x, .string y] t)
  exact ⟨(hb.cell (p := ⟨M, 0, none⟩) h4).trans h0, (hb.cell (p := ⟨M, 1, none⟩) h4).trans h1, (hb.cell (p := ⟨b, 0, none⟩) h5).trans h2, (hb.cell (p := ⟨b, 1, none⟩) h5).trans h3, cell_of_blk hn rfl, cell_of_blk hn rfl, Nat.lt_of_lt_of_le h4 hb.size, Nat.lt_of_lt_of_le h5 hb.size, blk_lt hn, below_then h6 hb⟩
theorem held3_keep {W w w' : World} {M b d : Nat} {r o p q x y : ByteArray} (h : Held3 W M b d r o p q x y w) (hb : Below w.heap.size w w') : Held3 W M b d r o p q x y w' := by
  obtain ⟨h0, h1, h2, h3, h7, h8, h4, h5, h9, h6⟩ := h
  exact ⟨(hb.cell (p := ⟨M, 0, none⟩) h4).trans h0, (hb.cell (p := ⟨M, 1, none⟩) h4).trans h1, (hb.cell (p := ⟨b, 0, none⟩) h5).trans h2, (hb.cell (p := ⟨b, 1, none⟩) h5).trans h3, (hb.cell (p := ⟨d, 0, none⟩) h9).trans h7, (hb.cell (p := ⟨d, 1, none⟩) h9).trans h8,
    Nat.lt_of_lt_of_le h4 hb.size, Nat.lt_of_lt_of_le h5 hb.size, Nat.lt_of_lt_of_le h9 hb.size, below_then h6 hb⟩
theorem held3_drew {W w : World} {M b d : Nat} {r o p q x y : ByteArray} (h : Held3 W M b d r o p q x y w) : Held3 W M b d r o p q x y w.drew := by
  obtain ⟨h0, h1, h2, h3, h7, h8, h4, h5, h9, h6⟩ := h
  exact ⟨h0, h1, h2, h3, h7, h8, h4, h5, h9, h6.drew⟩
theorem held3_two {W w : World} {M b d : Nat} {r o p q x y : ByteArray} (h : Held3 W M b d r o p q x y w) : MemHeld W M b r o p q w := by
  obtain ⟨h0, h1, h2, h3, _, _, h4, h5, _, h6⟩ := h
  exact ⟨h0, h1, h2, h3, h4, h5, h6⟩
end Go.Proofs.Ytcnajmmpijhniaa
