/-
  Plain facts on a text that is put together of drawn bytes: its row, the cursor, what else may have turned; how long it may take.
  Conditions: as each lemma says.
-/
import Derived.Test.YthelaeejgppjhaaLcA
import Derived.Test.YthelaeejgppjhaaBlk
import Derived.Test.YthelaeejgppjhaaBtA
import Derived.Lib.UnsafeStr
namespace Go.Proofs.Ythelaeejgppjhaa
open Go.RowKit Go.Deep
/-- A text of drawn bytes as it grows. -/
structure TxSt (B g n c : Nat) (A : Option Addr) (bs : Nat → Int) (W : World) (L : List UInt8) (i : Nat) (h : Int) (v : Value) (wr : World) : Prop where
  own : wr.ownsRow W.heap.size 5 1 v L.length (Lib.byteCells L)
  dr : DrawnIs B g n c A bs i h wr
  gr : W.grownBy wr (some g)
  gW : g < W.heap.size
  BW : B ≤ W.heap.size
theorem TxSt.draw {B g n c i j : Nat} {A : Option Addr} {bs : Nat → Int} {W wr w1 : World} {L : List UInt8} {h x : Int} {v : Value} (s : TxSt B g n c A bs W L i h v wr) (hj : j ≤ n) (hc : CurIs w1 g A n c j x) (hg : wr.grownBy w1 (some g)) : TxSt B g n c A bs W L j x v w1 := by
  refine ⟨s.own.kept hg ?_, s.dr.next hj hc hg, grown_trans s.gr hg, s.gW, s.BW⟩
  cases hv : v.ownBlock with
  | none => exact .inl rfl
  | some k =>
    refine .inr fun e => ?_
    have := (s.own.lt k hv).1
    have hk : k = g := by simpa using e
    have := s.gW
    omega
theorem TxSt.app {B g n c i : Nat} {A : Option Addr} {bs : Nat → Int} {W wr w1 : World} {L : List UInt8} {h : Int} {v v' : Value} {o : Obj} {b : UInt8} (s : TxSt B g n c A bs W L i h v wr)
    (hown : w1.ownsRow W.heap.size 5 1 v' (L.length + 1) (Lib.byteCells L ++ [.int .u8 (b.toNat : Int)])) (hgrow : (wr.alloc o).grownBy w1 v.ownBlock) : TxSt B g n c A bs W (L ++ [b]) i h v' w1 := by
  have hrow : ∀ k, v.ownBlock = some k → W.heap.size ≤ k := fun k hk => (s.own.lt k hk).1
  have hW : W.heap.size ≤ wr.heap.size := s.gr.size
  have hall : ∀ k, k < W.heap.size → w1.heap[k]? = wr.heap[k]? := fun k hk =>
    (hgrow.block k (by simp; omega) (by cases hv : v.ownBlock with | none => simp | some r => have := hrow r hv; simp; omega)).trans (Below.heap_alloc _ _ _ (by omega))
  refine ⟨?_, ?_, ?_, s.gW, s.BW⟩
  · simpa [Lib.byteCells] using hown
  · refine ⟨Nat.le_trans s.dr.hB (Nat.le_trans (by simp) hgrow.size), s.dr.hBg, s.dr.code.keep fun p hp => ?_, s.dr.hi, s.dr.cur.keep (hall g s.gW)⟩
    exact World.cell?_of_block (hall p.block (by have := s.BW; omega))
  · have ha := World.grownBy_alloc wr o none
    refine ⟨hgrow.os.trans (ha.os.trans s.gr.os), hgrow.tape.trans (ha.tape.trans s.gr.tape), hgrow.output.trans (ha.output.trans s.gr.output), Nat.le_trans hW (Nat.le_trans ha.size hgrow.size), fun k hk hn => ?_⟩
    exact (hall k hk).trans (s.gr.block k hk hn)
theorem TxSt.more {B g n c i : Nat} {A : Option Addr} {bs : Nat → Int} {W wr w1 : World} {L : List UInt8} {h : Int} {v v' : Value} {o : Obj} {x : Int} (s : TxSt B g n c A bs W L i h v wr) (x0 : 0 ≤ x) (x1 : x ≤ 255)
    (hown : w1.ownsRow W.heap.size 5 1 v' (L.length + 1) (Lib.byteCells L ++ [.int .u8 x])) (hgrow : (wr.alloc o).grownBy w1 v.ownBlock) : ∃ r cap, v' = .slice (some ⟨r, 0, none⟩) (L ++ [b8 x]).length cap ∧ TxSt B g n c A bs W (L ++ [b8 x]) i h v' w1 := by
  have e : x = ((b8 x).toNat : Int) := by rw [b8_val]; omega
  rw [e] at hown
  have s3 := s.app hown hgrow
  rcases s3.own.2 with ⟨_, h0⟩ | ⟨r, cap, cur, h1, _⟩
  · simp at h0
  · exact ⟨r, cap, h1, s3⟩
/-- How many bytes a slice has. -/
def lenV : Value → Nat
  | .slice _ l _ => l
  | _ => 0
def posW (g : Nat) (w : World) : Nat := match w.cell? ⟨g, 1, none⟩ with
  | some (.int _ x) => x.toNat
  | _ => 0
def stW (g : Nat) (w : World) : Int := match w.cell? ⟨g, 2, none⟩ with
  | some (.int _ x) => x
  | _ => 0
/-- How long it may take, at most. -/
noncomputable def meas (m n g : Nat) (v : Value) (w : World) : Nat := (m - lenV v) * ((n + 1) * 18446744073709551618) + ((n - posW g w) * 18446744073709551618 + wait (stW g w))
theorem TxSt.len {B g n c i : Nat} {A : Option Addr} {bs : Nat → Int} {W wr : World} {L : List UInt8} {h : Int} {v : Value} (s : TxSt B g n c A bs W L i h v wr) : lenV v = L.length := by
  rcases s.own.2 with ⟨rfl, h0⟩ | ⟨r, cap, cur, rfl, _⟩
  · rw [h0]; rfl
  · rfl
theorem TxSt.pos {B g n c i : Nat} {A : Option Addr} {bs : Nat → Int} {W wr : World} {L : List UInt8} {h : Int} {v : Value} (s : TxSt B g n c A bs W L i h v wr) : posW g wr = i ∧ stW g wr = h := by
  obtain ⟨_, c1, c2, _, _⟩ := Cur.cells s.dr.cur
  unfold posW stW
  rw [c1, c2]
  simp
theorem meas_is {B g n c i : Nat} {A : Option Addr} {bs : Nat → Int} {W wr : World} {L : List UInt8} {h : Int} {v : Value} (m : Nat) (s : TxSt B g n c A bs W L i h v wr) : meas m n g v wr = (m - L.length) * ((n + 1) * 18446744073709551618) + ((n - i) * 18446744073709551618 + wait h) := by
  unfold meas
  rw [s.len, s.pos.1, s.pos.2]
/-- A byte more: it takes less. -/
theorem less_len (m n a b i j : Nat) (x y : Int) (h : a < b) (hm : a < m) : (m - b) * ((n + 1) * 18446744073709551618) + ((n - j) * 18446744073709551618 + wait y) < (m - a) * ((n + 1) * 18446744073709551618) + ((n - i) * 18446744073709551618 + wait x) := by
  have h1 := wait_lt y
  have h2 : (n - j) * 18446744073709551618 + wait y < (n + 1) * 18446744073709551618 := by
    have : (n - j) * 18446744073709551618 ≤ n * 18446744073709551618 := Nat.mul_le_mul_right _ (by omega)
    omega
  have h3 : (m - b + 1) * ((n + 1) * 18446744073709551618) ≤ (m - a) * ((n + 1) * 18446744073709551618) := Nat.mul_le_mul_right _ (by omega)
  rw [Nat.add_mul, Nat.one_mul] at h3
  omega
/-- A byte of the draw used up: it takes less. -/
theorem less_pos (n i j : Nat) (x y : Int) (h : i < j) (hn : j ≤ n) : (n - j) * 18446744073709551618 + wait y < (n - i) * 18446744073709551618 + wait x := by
  have h1 := wait_lt y
  have h3 : (n - j + 1) * 18446744073709551618 ≤ (n - i) * 18446744073709551618 := Nat.mul_le_mul_right _ (by omega)
  rw [Nat.add_mul, Nat.one_mul] at h3
  omega
theorem nextI_ge (n i : Nat) : i ≤ nextI n i := by unfold nextI; split <;> omega
/-- A draw that brought no letter. -/
theorem less_one (bs : Nat → Int) (n i : Nat) (x : Int) (hi : i ≤ n) (hb : ¬ 3 ≤ byteAt bs n i x % 5) : (n - nextI n i) * 18446744073709551618 + wait (nextH x) < (n - i) * 18446744073709551618 + wait x := by
  by_cases h : i < n
  · exact less_pos n i _ _ _ (by unfold nextI; rw [if_pos h]; omega) (nextI_le hi)
  · obtain rfl : i = n := by omega
    have e : nextI i i = i := by unfold nextI; rw [if_neg h]
    rw [e]
    rw [gx_at] at hb
    have := wait_one x hb
    omega
/-- Three draws that brought none. -/
theorem less_three (bs : Nat → Int) (n i : Nat) (x : Int) (hi : i ≤ n) (hb : ¬ 3 ≤ byteAt bs n i x % 5) (h3 : byteAt bs n (nextI n i) (nextH x) % 9 = 0 ∨ byteAt bs n (nextI n (nextI n i)) (nextH (nextH x)) % 20 = 0) :
    (n - nextI n (nextI n (nextI n i))) * 18446744073709551618 + wait (nextH (nextH (nextH x))) < (n - i) * 18446744073709551618 + wait x := by
  by_cases h : i < n
  · exact less_pos n i _ _ _ (Nat.lt_of_lt_of_le (by unfold nextI; rw [if_pos h]; omega) (Nat.le_trans (nextI_ge n (nextI n i)) (nextI_ge n _))) (nextI_le (nextI_le (nextI_le hi)))
  · obtain rfl : i = n := by omega
    have e : nextI i i = i := by unfold nextI; rw [if_neg h]
    rw [e, e, gx_at, gx_at] at h3
    rw [e, e, e]
    rw [gx_at] at hb
    have := wait_three x hb h3
    omega
end Go.Proofs.Ythelaeejgppjhaa
