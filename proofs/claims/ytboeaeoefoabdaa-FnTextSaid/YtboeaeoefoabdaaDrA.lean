/-
  The walks of the draws of the model: a cursor over the bytes of a draw answers a byte, a number below another, one of a list; it turns its own block alone.
  Conditions: the draw has at most 1048576 bytes; the lists are not empty.
-/
import Derived.Test.YtboeaeoefoabdaaProg
import Derived.WalkKit
import Derived.ProofKit
import Derived.Handy
import Derived.Lib.Hide
import Derived.Deep.QuietTactic
import Derived.BigQuiet
import Derived.Laws.BitsLemmas
import Derived.Laws.AppendOwn
import Derived.Deep.OwnRows
import Derived.Laws.Rows
import Derived.OpenShut
namespace Go.Proofs.Ytboeaeoefoabdaa
open Go.RowKit
theorem i64_and255 (n : Int) : bits .and .i64 n 255 = n % 256 := by
  have h15 : (BitVec.ofInt 64 255).toNat = 2 ^ 8 - 1 := by decide
  have key : (BitVec.ofInt 64 n &&& BitVec.ofInt 64 255).toNat = (n % ((2 ^ 64 : Nat) : Int)).toNat % 2 ^ 8 := by
    rw [BitVec.toNat_and, BitVec.toNat_ofInt, h15, Nat.and_two_pow_sub_one_eq_mod]
  show IntKind.i64.wrap ((BitVec.ofInt 64 n &&& BitVec.ofInt 64 255).toNat : Nat) = n % 256
  rw [key, IntKind.wrap_i64]
  omega
theorem i64_and30 (n : Int) : bits .and .i64 n 1073741823 = n % 1073741824 := by
  have h15 : (BitVec.ofInt 64 1073741823).toNat = 2 ^ 30 - 1 := by decide
  have key : (BitVec.ofInt 64 n &&& BitVec.ofInt 64 1073741823).toNat = (n % ((2 ^ 64 : Nat) : Int)).toNat % 2 ^ 30 := by
    rw [BitVec.toNat_and, BitVec.toNat_ofInt, h15, Nat.and_two_pow_sub_one_eq_mod]
  show IntKind.i64.wrap ((BitVec.ofInt 64 n &&& BitVec.ofInt 64 1073741823).toNat : Nat) = n % 1073741824
  rw [key, IntKind.wrap_i64]
  omega
/-- The bytes of a draw, below block B. -/
def Code (w : World) (B : Nat) (A : Option Addr) (n : Nat) : Prop :=
  n ≤ 1048576 ∧ (n = 0 ∨ ∃ b off, A = some ⟨b, off, none⟩ ∧ b < B ∧ ∀ i, i < n → ∃ v : Int, 0 ≤ v ∧ v ≤ 255 ∧ w.cell? ⟨b, off + i, none⟩ = some (.int .u8 v))
theorem Code.keep {w w' : World} {B n : Nat} {A : Option Addr} (h : Code w B A n) (hk : ∀ p : Addr, p.block < B → w'.cell? p = w.cell? p) : Code w' B A n := by
  obtain ⟨h1, h2⟩ := h
  refine ⟨h1, h2.imp_right ?_⟩
  rintro ⟨b, off, rfl, hb, hc⟩
  refine ⟨b, off, rfl, hb, fun i hi => ?_⟩
  obtain ⟨v, h3, h4, h5⟩ := hc i hi
  exact ⟨v, h3, h4, (hk _ hb).trans h5⟩
theorem Code.grown {w w' : World} {B n g : Nat} {A : Option Addr} (h : Code w B A n) (hB : B ≤ w.heap.size) (hg : w.grownBy w' (some g)) (hgB : B ≤ g) : Code w' B A n :=
  h.keep fun p hp => World.cell?_of_block (hg.block p.block (by omega) (by simp; omega))
theorem Code.below {w w' : World} {B n : Nat} {A : Option Addr} (h : Code w B A n) (hB : B ≤ w.heap.size) (hb : Below w.heap.size w w') : Code w' B A n :=
  h.keep fun p hp => hb.cell (by omega)
theorem Code.at_ {w : World} {B n : Nat} {A : Option Addr} (h : Code w B A n) {i : Nat} (hi : i < n) : ∃ b off v, A = some ⟨b, off, none⟩ ∧ b < B ∧ 0 ≤ v ∧ v ≤ 255 ∧ w.cell? ⟨b, off + i, none⟩ = some (.int .u8 v) := by
  rcases h.2 with h0 | ⟨b, off, rfl, hb, hc⟩
  · omega
  · obtain ⟨v, h1, h2, h3⟩ := hc i hi
    exact ⟨b, off, v, rfl, hb, h1, h2, h3⟩
theorem grown_set {w wr : World} {b : Nat} (h : w.grownBy wr (some b)) (i : Nat) (v : Value) : w.grownBy (wr.setCell ⟨b, i, none⟩ v) (some b) := by
  refine ⟨h.os, h.tape, h.output, by simpa [World.setCell] using h.size, fun g hg hne => ?_⟩
  rw [Below.heap_setCell _ _ _ _ (fun e => hne (by rw [e]))]
  exact h.block g hg hne
theorem grown_drewN {w wr : World} {b : Nat} (h : w.grownBy wr (some b)) (q : Nat) : w.grownBy (wr.drewN q) (some b) := ⟨h.os, h.tape, h.output, h.size, h.block⟩
theorem grown_trans {a b c : World} {g : Nat} (h : a.grownBy b (some g)) (k : b.grownBy c (some g)) : a.grownBy c (some g) :=
  ⟨k.os.trans h.os, k.tape.trans h.tape, k.output.trans h.output, Nat.le_trans h.size k.size, fun x hx hn => (k.block x (Nat.lt_of_lt_of_le hx h.size) hn).trans (h.block x hx hn)⟩
theorem grown_below {a b c : World} {g : Nat} (h : a.grownBy b (some g)) (k : Below b.heap.size b c) : a.grownBy c (some g) :=
  ⟨k.os.trans h.os, k.tape.trans h.tape, k.output.trans h.output, Nat.le_trans h.size k.size, fun x hx hn => (k.block x (Nat.lt_of_lt_of_le hx h.size)).trans (h.block x hx hn)⟩
theorem below_grown' {a b : World} {B g : Nat} (h : a.grownBy b (some g)) (hB : B ≤ a.heap.size) (hg : B ≤ g) : Below B a b :=
  ⟨h.os, h.tape, h.output, h.size, fun x hx => h.block x (by omega) (by simp; omega)⟩
theorem grown_of_below {a b : World} {g : Nat} (k : Below a.heap.size a b) : a.grownBy b (some g) := ⟨k.os, k.tape, k.output, k.size, fun x hx _ => k.block x hx⟩
def I64 (x : Int) : Prop := -9223372036854775808 ≤ x ∧ x ≤ 9223372036854775807
theorem new_row (w : World) (cs : Array Value) (t : TypeId) (i : Nat) : (w.alloc (.cells cs t)).cell? ⟨w.heap.size, i, none⟩ = cs[i]? :=
  cell_of_row _ _ i cs t (0, 0) (heap_alloc_new w _)
def AllI (l : List Value) : Prop := ∀ i, i < l.length → ∃ v : Int, I64 v ∧ l[i]? = some (.int .i64 v)
theorem allI_nil : AllI [] := fun _ hi => absurd hi (Nat.not_lt_zero _)
theorem allI_cons {x : Int} {l : List Value} (h : I64 x) (hl : AllI l) : AllI (.int .i64 x :: l) := by
  intro i hi
  cases i with
  | zero => exact ⟨x, h, rfl⟩
  | succ i => simpa using hl i (by simpa using hi)
/-- Bytes that came in as an argument. -/
def RowB (W : World) (A : Option Addr) (n : Nat) : Prop :=
  n ≤ maxLen ∧ (n = 0 ∨ ∃ b off, A = some ⟨b, off, none⟩ ∧ b < W.heap.size ∧ ∀ i, i < n → ∃ v : Int, 0 ≤ v ∧ v ≤ 255 ∧ W.cell? ⟨b, off + i, none⟩ = some (.int .u8 v))
theorem RowB.code {W : World} {A : Option Addr} {n : Nat} (h : RowB W A n) (hn : n ≤ 1048576) : Code W W.heap.size A n := ⟨hn, h.2⟩
theorem rowB_mk {W : World} {a : Addr} {n : Nat} {zs : List Int} (hm : n ≤ maxLen) (hz : n ≤ zs.length) (hc : ∀ i, i < zs.length → W.cell? (a.add i) = some (.int .u8 (zs.getD i 0))) (hw : ∀ z ∈ zs, (Lit.int .u8 z).wf = true) : RowB W (some a) n := by
  refine ⟨hm, ?_⟩
  rcases Nat.eq_zero_or_pos n with h0 | h0
  · exact .inl h0
  · right
    obtain ⟨b, off, rfl, hcc⟩ := ints_at hc (by omega)
    refine ⟨b, off, rfl, World.block_lt_of_cell? _ _ (hcc 0 (by omega)), fun i hi => ⟨zs.getD i 0, ?_, ?_, hcc i (by omega)⟩⟩
    · have := (range_u8 hw i).1
      simpa [List.getD] using this
    · have := (range_u8 hw i).2
      simpa [List.getD] using this
end Go.Proofs.Ytboeaeoefoabdaa
