/-
  Texts put together by program: TxA, LcB, TxB, HxA, RhA, HxN.
  Conditions: as each theorem says.
-/
import Derived.Laws.Closers25b
import Derived.Lib.UnsafeStr
import Derived.Test.YthklebkpoccblaaGreatRqaa
namespace Go.Proofs.YthklebkpoccblaaGreat
open Go.RowKit Go.Deep
structure TxSt (B g n c : Nat) (A : Option Addr) (bs : Nat → Int) (W : World) (L : List UInt8) (i : Nat) (h : Int) (v : Value) (wr : World) : Prop where
 own : wr.ownsRow W.heap.size 5 1 v L.length (Lib.byteCells L)
 dr : DrawnIs B g n c A bs i h wr
 gr : W.grownBy wr (some g)
 gW : g < W.heap.size
 BW : B ≤ W.heap.size
theorem TxSt.draw {B g n c i j : Nat} {A : Option Addr} {bs : Nat → Int} {W wr w1 : World} {L : List UInt8} {h x : Int} {v : Value} (s : TxSt B g n c A bs W L i h v wr) (hj : j ≤ n) (hc : CurIs w1 g A n c j x) (hg : wr.grownBy w1 (some g)) : TxSt B g n c A bs W L j x v w1 := by
 refine ⟨s.own.kept hg ?_, s.dr.next hj hc hg, grown_trans s.gr hg, s.gW, s.BW⟩
 cases hv : v.ownBlock with
 | none => exact .inl rfl
 | some k =>
  refine .inr fun e => ?_
  have := (s.own.lt k hv).1
  have hk : k = g := by simpa using e
  have := s.gW
  omega
theorem TxSt.app {B g n c i : Nat} {A : Option Addr} {bs : Nat → Int} {W wr w1 : World} {L : List UInt8} {h : Int} {v v' : Value} {o : Obj} {b : UInt8} (s : TxSt B g n c A bs W L i h v wr)
  (hown : w1.ownsRow W.heap.size 5 1 v' (L.length + 1) (Lib.byteCells L ++ [.int .u8 (b.toNat : Int)])) (hgrow : (wr.alloc o).grownBy w1 v.ownBlock) : TxSt B g n c A bs W (L ++ [b]) i h v' w1 := by
 have hrow : ∀ k, v.ownBlock = some k → W.heap.size ≤ k := fun k hk => (s.own.lt k hk).1
 have hW : W.heap.size ≤ wr.heap.size := s.gr.size
 have hall : ∀ k, k < W.heap.size → w1.heap[k]? = wr.heap[k]? := fun k hk =>
  (hgrow.block k (by simp; omega) (by cases hv : v.ownBlock with | none => simp | some r => have := hrow r hv; simp; omega)).trans (Below.heap_alloc _ _ _ (by omega))
 refine ⟨?_, ?_, ?_, s.gW, s.BW⟩
 ·simpa [Lib.byteCells] using hown
 ·refine ⟨Nat.le_trans s.dr.hB (Nat.le_trans (by simp) hgrow.size), s.dr.hBg, s.dr.code.keep fun p hp => ?_, s.dr.hi, s.dr.cur.keep (hall g s.gW)⟩
  exact World.cell?_of_block (hall p.block (by have := s.BW; omega))
 ·have ha := World.grownBy_alloc wr o none
  refine ⟨hgrow.os.trans (ha.os.trans s.gr.os), hgrow.tape.trans (ha.tape.trans s.gr.tape), hgrow.output.trans (ha.output.trans s.gr.output), Nat.le_trans hW (Nat.le_trans ha.size hgrow.size), fun k hk hn => ?_⟩
  exact (hall k hk).trans (s.gr.block k hk hn)
theorem TxSt.more {B g n c i : Nat} {A : Option Addr} {bs : Nat → Int} {W wr w1 : World} {L : List UInt8} {h : Int} {v v' : Value} {o : Obj} {x : Int} (s : TxSt B g n c A bs W L i h v wr) (x0 : 0 ≤ x) (x1 : x ≤ 255)
  (hown : w1.ownsRow W.heap.size 5 1 v' (L.length + 1) (Lib.byteCells L ++ [.int .u8 x])) (hgrow : (wr.alloc o).grownBy w1 v.ownBlock) : ∃ r cap, v' = .slice (some ⟨r, 0, none⟩) (L ++ [b8 x]).length cap ∧ TxSt B g n c A bs W (L ++ [b8 x]) i h v' w1 := by
 have e : x = ((b8 x).toNat : Int) := by rw [b8_val]; omega
 rw [e] at hown
 have s3 := s.app hown hgrow
 rcases s3.own.2 with ⟨_, h0⟩ | ⟨r, cap, cur, h1, _⟩
 ·simp at h0
 ·exact ⟨r, cap, h1, s3⟩
def lenV : Value → Nat
 | .slice _ l _ => l
 | _ => 0
def posW (g : Nat) (w : World) : Nat := match w.cell? ⟨g, 1, none⟩ with
 | some (.int _ x) => x.toNat
 | _ => 0
def stW (g : Nat) (w : World) : Int := match w.cell? ⟨g, 2, none⟩ with
 | some (.int _ x) => x
 | _ => 0
noncomputable def meas (m n g : Nat) (v : Value) (w : World) : Nat := (m - lenV v) * ((n + 1) * 18446744073709551618) + ((n - posW g w) * 18446744073709551618 + wait (stW g w))
theorem TxSt.len {B g n c i : Nat} {A : Option Addr} {bs : Nat → Int} {W wr : World} {L : List UInt8} {h : Int} {v : Value} (s : TxSt B g n c A bs W L i h v wr) : lenV v = L.length := by
 rcases s.own.2 with ⟨rfl, h0⟩ | ⟨r, cap, cur, rfl, _⟩
 ·rw [h0]; rfl
 ·rfl
theorem TxSt.pos {B g n c i : Nat} {A : Option Addr} {bs : Nat → Int} {W wr : World} {L : List UInt8} {h : Int} {v : Value} (s : TxSt B g n c A bs W L i h v wr) : posW g wr = i ∧ stW g wr = h := by
 obtain ⟨_, c1, c2, _, _⟩ := Cur.cells s.dr.cur
 unfold posW stW
 rw [c1, c2]
 simp
theorem meas_is {B g n c i : Nat} {A : Option Addr} {bs : Nat → Int} {W wr : World} {L : List UInt8} {h : Int} {v : Value} (m : Nat) (s : TxSt B g n c A bs W L i h v wr) : meas m n g v wr = (m - L.length) * ((n + 1) * 18446744073709551618) + ((n - i) * 18446744073709551618 + wait h) := by
 unfold meas
 rw [s.len, s.pos.1, s.pos.2]
theorem less_len (m n a b i j : Nat) (x y : Int) (h : a < b) (hm : a < m) : (m - b) * ((n + 1) * 18446744073709551618) + ((n - j) * 18446744073709551618 + wait y) < (m - a) * ((n + 1) * 18446744073709551618) + ((n - i) * 18446744073709551618 + wait x) := by
 have h1 := wait_lt y
 have h2 : (n - j) * 18446744073709551618 + wait y < (n + 1) * 18446744073709551618 := by
  have : (n - j) * 18446744073709551618 ≤ n * 18446744073709551618 := Nat.mul_le_mul_right _ (by omega)
  omega
 have h3 : (m - b + 1) * ((n + 1) * 18446744073709551618) ≤ (m - a) * ((n + 1) * 18446744073709551618) := Nat.mul_le_mul_right _ (by omega)
 rw [Nat.add_mul, Nat.one_mul] at h3
 omega
theorem less_pos (n i j : Nat) (x y : Int) (h : i < j) (hn : j ≤ n) : (n - j) * 18446744073709551618 + wait y < (n - i) * 18446744073709551618 + wait x := by
 have h1 := wait_lt y
 have h3 : (n - j + 1) * 18446744073709551618 ≤ (n - i) * 18446744073709551618 := Nat.mul_le_mul_right _ (by omega)
 rw [Nat.add_mul, Nat.one_mul] at h3
 omega
theorem nextI_ge (n i : Nat) : i ≤ nextI n i := by unfold nextI; split <;> omega
theorem less_one (bs : Nat → Int) (n i : Nat) (x : Int) (hi : i ≤ n) (hb : ¬ 3 ≤ byteAt bs n i x % 5) : (n - nextI n i) * 18446744073709551618 + wait (nextH x) < (n - i) * 18446744073709551618 + wait x := by
 by_cases h : i < n
 ·exact less_pos n i _ _ _ (by unfold nextI; rw [if_pos h]; omega) (nextI_le hi)
 ·obtain rfl : i = n := by omega
  have e : nextI i i = i := by unfold nextI; rw [if_neg h]
  rw [e]
  rw [gx_at] at hb
  have := wait_one x hb
  omega
theorem less_three (bs : Nat → Int) (n i : Nat) (x : Int) (hi : i ≤ n) (hb : ¬ 3 ≤ byteAt bs n i x % 5) (h3 : byteAt bs n (nextI n i) (nextH x) % 9 = 0 ∨ byteAt bs n (nextI n (nextI n i)) (nextH (nextH x)) % 20 = 0) :
  (n - nextI n (nextI n (nextI n i))) * 18446744073709551618 + wait (nextH (nextH (nextH x))) < (n - i) * 18446744073709551618 + wait x := by
 by_cases h : i < n
 ·exact less_pos n i _ _ _ (Nat.lt_of_lt_of_le (by unfold nextI; rw [if_pos h]; omega) (Nat.le_trans (nextI_ge n (nextI n i)) (nextI_ge n _))) (nextI_le (nextI_le (nextI_le hi)))
 ·obtain rfl : i = n := by omega
  have e : nextI i i = i := by unfold nextI; rw [if_neg h]
  rw [e, e, gx_at, gx_at] at h3
  rw [e, e, e]
  rw [gx_at] at hb
  have := wait_three x hb h3
  omega
end Go.Proofs.YthklebkpoccblaaGreat
namespace Go.Proofs.YthklebkpoccblaaGreat
open Go.RowKit
theorem stepI_odd (x : Int) : stepI x % 2 = (x + 1) % 2 := by unfold stepI; omega
theorem itI_odd (n : Nat) : ∀ x, itI n x % 2 = (x + n) % 2 := by
 induction n with
 | zero => intro x; simp [itI]
 | succ n ih =>
  intro x
  have h1 := ih (stepI x)
  have h2 := stepI_odd x
  show itI n (stepI x) % 2 = _
  omega
theorem two_ex (h : Int) : ∃ n, n < 18446744073709551616 ∧ (n % 2 = 1 ∧ (Same (itH n h) 0 ∨ Same (itH n h) 1)) := by
 obtain ⟨n, q, hn, e⟩ := reach 64 h ((h + 1) % 2)
 have e2 : (2 : Int) ^ 64 = 18446744073709551616 := by decide
 rw [e2] at e
 have hp := itI_odd n h
 have hs : Same (itI n h) ((h + 1) % 2) := ⟨q, by omega⟩
 refine ⟨n, by simpa using hn, by omega, ?_⟩
 have ht := same_trans (itH_same n h) hs
 rcases Int.emod_two_eq (h + 1) with h0 | h1
 ·rw [h0] at ht; exact .inl ht
 ·rw [h1] at ht; exact .inr ht
theorem two_least (h : Int) : ∃ m, m < 18446744073709551616 ∧ (m % 2 = 1 ∧ (Same (itH m h) 0 ∨ Same (itH m h) 1)) ∧ ∀ j, j < m → ¬ (j % 2 = 1 ∧ (Same (itH j h) 0 ∨ Same (itH j h) 1)) := by
 obtain ⟨n, hn, hs⟩ := two_ex h
 obtain ⟨m, h1, h2, h3⟩ := least (P := fun j => j % 2 = 1 ∧ (Same (itH j h) 0 ∨ Same (itH j h) 1)) n hs
 exact ⟨m, by omega, h2, h3⟩
noncomputable def dist2 (h : Int) : Nat := Classical.choose (two_least h)
theorem dist2_lt (h : Int) : dist2 h < 18446744073709551616 := (Classical.choose_spec (two_least h)).1
theorem dist2_at (h : Int) : dist2 h % 2 = 1 ∧ (Same (itH (dist2 h) h) 0 ∨ Same (itH (dist2 h) h) 1) := (Classical.choose_spec (two_least h)).2.1
theorem dist2_le (h : Int) (m : Nat) (hm : m % 2 = 1 ∧ (Same (itH m h) 0 ∨ Same (itH m h) 1)) : dist2 h ≤ m := by
 rcases Nat.lt_or_ge m (dist2 h) with h1 | h1
 ·exact absurd hm ((Classical.choose_spec (two_least h)).2.2 m h1)
 ·exact h1
theorem nextH_range (h : Int) : -9223372036854775808 ≤ nextH h ∧ nextH h ≤ 9223372036854775807 := by unfold nextH wrap64; omega
theorem same_one {x : Int} (h : -9223372036854775808 ≤ x ∧ x ≤ 9223372036854775807) (y : Int) (hy : y = 0 ∨ y = 1) (s : Same x y) : x = y := by
 obtain ⟨q, rfl⟩ := s
 omega
theorem gx_none (h : Int) (hn : nextH h = 0 ∨ nextH h = 1) : gx h = 0 := by
 unfold gx
 rcases hn with e | e <;> rw [e] <;> decide +kernel
theorem dist2_two (h : Int) (hb : ¬ gx h % 12 = 0) : dist2 (nextH (nextH h)) < dist2 h := by
 obtain ⟨ho, ha⟩ := dist2_at h
 have h1 : dist2 h ≠ 1 := by
  intro he
  rw [he] at ha
  have e1 : itH 1 h = nextH h := rfl
  rw [e1] at ha
  have hr := nextH_range h
  rw [gx_none h (ha.imp (fun s => same_one hr 0 (.inl rfl) s) (fun s => same_one hr 1 (.inr rfl) s))] at hb
  omega
 have e2 : itH 2 h = nextH (nextH h) := rfl
 have h3 : dist2 (nextH (nextH h)) ≤ dist2 h - 2 := by
  apply dist2_le
  rw [← e2, ← itH_add, show 2 + (dist2 h - 2) = dist2 h by omega]
  exact ⟨by omega, ha⟩
 omega
theorem less_pos2 (n i j : Nat) (x y : Int) (h : i < j) (hn : j ≤ n) : (n - j) * 18446744073709551618 + dist2 y < (n - i) * 18446744073709551618 + dist2 x := by
 have h1 := dist2_lt y
 have h2 : (n - j + 1) * 18446744073709551618 ≤ (n - i) * 18446744073709551618 := Nat.mul_le_mul_right _ (by omega)
 omega
theorem less_two (bs : Nat → Int) (n i : Nat) (x : Int) (hi : i ≤ n) (hb : ¬ byteAt bs n i x % 12 = 0) : (n - nextI n (nextI n i)) * 18446744073709551618 + dist2 (nextH (nextH x)) < (n - i) * 18446744073709551618 + dist2 x := by
 have g1 := nextI_ge n (nextI n i)
 have l1 := nextI_le hi
 have l2 := nextI_le l1
 by_cases hlt : i < n
 ·have : nextI n i = i + 1 := if_pos hlt
  exact less_pos2 n i _ x _ (by omega) l2
 ·obtain rfl : i = n := by omega
  rw [gx_at] at hb
  have e : nextI i i = i := if_neg hlt
  rw [e, e]
  exact Nat.add_lt_add_left (dist2_two x hb) _
noncomputable def meas2 (n g : Nat) (w : World) : Nat := (n - posW g w) * 18446744073709551618 + dist2 (stW g w)
theorem meas2_is {B g n c i : Nat} {A : Option Addr} {bs : Nat → Int} {W wr : World} {L : List UInt8} {h : Int} {v : Value} (s : TxSt B g n c A bs W L i h v wr) : meas2 n g wr = (n - i) * 18446744073709551618 + dist2 h := by
 unfold meas2
 rw [s.pos.1, s.pos.2]
end Go.Proofs.YthklebkpoccblaaGreat
namespace Go.Proofs.YthklebkpoccblaaGreat
open Go.RowKit Go.Deep Go.WideShapes Go.ChangeShapes
theorem infoT8 : (Tryz.prog.info? 5).map (fun i => (i.zero, i.size, i.bytes)) = some (some (.int .u8 0), 1, 1) := by kernel_rfl
def TextPost (m g : Nat) (A : Option Addr) (n c : Nat) (w : World) (e : Ending) (w' : World) : Prop :=
 ∃ s : ByteArray, e = .returned (.string s) ∧ s.size = m ∧ Cur w' g A n c ∧ w.grownBy w' (some g)
set_option maxRecDepth 100000 in
set_option maxHeartbeats 8000000 in
theorem l01Text_is {B g n c i : Nat} {A : Option Addr} {bs : Nat → Int} {h : Int} {w : World} (hd : DrawnIs B g n c A bs i h w) (hBw : B ≤ w.heap.size) (m : Nat) (hm : m ≤ 250) :
  Calls Tryz.prog 127 #[.pointer (some ⟨g, 0, none⟩), .int .i64 (m : Int)] w (TextPost m g A n c w) := by
 obtain ⟨i0, hi, hz0, hz1, hz2⟩ := info_parts infoT8
 have hgw := hd.cur.lt
 have hS0 : TxSt B g n c A bs w [] i h (.slice (some ⟨w.heap.size, 0, none⟩) 0 0) (w.alloc (.cells #[] 5)) :=
  ⟨World.ownsRow_lit _ #[] 0 (Nat.le_refl _) (by decide) rfl, hd.below ((Below.refl _ _).alloc (Nat.le_refl _) _), World.grownBy_alloc w _ _, hgw, hBw⟩
 have HS0 := Lib.hid hS0
 clear hS0 hd
 unfold TextPost
 go_enter Tryz.func127, Tryz.ntmps127
 go_wp2_with (fail)
 go_loopw [5] (fun v5 wr => ∃ (L : List UInt8) (i : Nat) (h : Int) (r cap : Nat), L.length ≤ m + 20 ∧ v5 = .slice (some ⟨r, 0, none⟩) L.length cap ∧ Hid (TxSt B g n c A bs w L i h v5 wr)) (fun v5 wr => meas m n g v5 wr)
 case atStart => exact ⟨[], i, h, w.heap.size, 0, by simp, rfl, HS0⟩
 case round =>
  obtain ⟨L, i, h, r, cap, hlm, rfl, HS⟩ := hrel
  clear HS0
  have hme := Lib.hid (meas_is m HS.out)
  by_cases hlt : L.length < m
  ·have hy := l01Below_is HS.out.dr 5 (by omega) (by omega)
   unfold IsPost at hy
   have hin := HS.out.dr.hi
   obtain ⟨s, hs⟩ : ∃ s, s = byteAt bs n i h % 5 := ⟨_, rfl⟩
   have hs0 : 0 ≤ s ∧ s ≤ 4 := by omega
   rw [← hs] at hy
   have HSS := Lib.hid hs
   clear hs
   go_wp2_with (go_at_call 55; refine hy.mono ?_; rintro e w1 ⟨rfl, hc, hg⟩; refine Hid.out ?_)
   have S1 := HS.out.draw (nextI_le hin) hc hg
   have HS1 := Lib.hid S1
   have hin1 := nextI_le hin
   clear hy hc hg S1
   obtain ⟨hs0, hs4⟩ := hs0
   by_cases e0 : s = 0
   ·subst e0
    have hy := l01Byte_is HS1.out.dr
    unfold IsPost at hy
    obtain ⟨x, hx⟩ : ∃ x, x = byteAt bs n (nextI n i) (nextH h) := ⟨_, rfl⟩
    obtain ⟨x0, x1⟩ := byteAt_range bs n (nextI n i) (nextH h)
    rw [← hx] at hy x0 x1
    clear hx
    refine Lib.hid ?_
    go_wp2_with (go_at_call 87; refine hy.mono ?_; rintro e w2 ⟨rfl, hc, hg⟩; refine Hid.out ?_)
    have S2 := HS1.out.draw (nextI_le hin1) hc hg
    have HS2 := Lib.hid S2
    clear hy hc hg
    refine Lib.hid ?_
    go_wp2_with (at_builtin; refine wpList_append_own _ rfl _ _ 22 rfl w.heap.size 5 i0 (.int .u8 0) 1 1 Tryz.underlying22 hi hz0 hz1 hz2 rfl (by decide) _ _ _ rfl (S2.own.alloc _) ⟨w2.heap.size, 0, none⟩ 1 1 [.int .u8 x] rfl rfl ?c1 ?c2 ?c3 ?c4 ?c5 ?_)
    case c1 =>
     intro j u hj
     match j, hj with
     | 0, hj => simp at hj; subst hj; simp [Addr.add]
    case c2 => intro u hu; simp at hu; subst hu; rfl
    case c3 => unfold maxLen; omega
    case c4 => omega
    case c5 => have := S2.gr.size; simp; omega
    intro v' w3 hown hgrow _
    obtain ⟨r', cap', rfl, S3⟩ := S2.more x0 x1 hown hgrow
    have HS3 := Lib.hid S3
    clear hown hgrow S2 S3
    go_wp2
    go_roundw
    case rel => exact ⟨_, _, _, _, _, by simp; omega, rfl, HS3⟩
    case measure => rw [hme.out, meas_is m HS3.out]; exact less_len m n _ _ _ _ _ _ (by simp) hlt
   by_cases e1 : s = 1
   ·subst e1
    have hy := l01Below_is HS1.out.dr 9 (by omega) (by omega)
    unfold IsPost at hy
    obtain ⟨k, hk⟩ : ∃ k : Nat, (k : Int) = byteAt bs n (nextI n i) (nextH h) % 9 := ⟨(byteAt bs n (nextI n i) (nextH h) % 9).toNat, by omega⟩
    have hk8 : k ≤ 8 := by omega
    rw [← hk] at hy
    have HK := Lib.hid hk
    clear hk
    refine Lib.hid ?_
    go_wp2_with (go_at_call 55; refine hy.mono ?_; rintro e w2 ⟨rfl, hc, hg⟩; refine Hid.out ?_)
    have HS2 := Lib.hid (HS1.out.draw (nextI_le hin1) hc hg)
    have hin2 := nextI_le hin1
    have hy := l01Below_is HS2.out.dr 4 (by omega) (by omega)
    unfold IsPost at hy
    obtain ⟨x, hx⟩ : ∃ x, x = byteAt bs n (nextI n (nextI n i)) (nextH (nextH h)) % 4 := ⟨_, rfl⟩
    have hxb : 0 ≤ x ∧ x < 4 := by omega
    rw [← hx] at hy
    clear hx hc hg
    obtain ⟨x0, x1⟩ := hxb
    refine Lib.hid ?_
    go_wp2_with (go_at_call 55; refine hy.mono ?_; rintro e w3 ⟨rfl, hc, hg⟩; refine Hid.out ?_)
    have HS3 := Lib.hid (HS2.out.draw (nextI_le hin2) hc hg)
    clear hy hc hg HS1 HS2
    refine Lib.hid ?_
    go_wp2_with (fail)
    go_loopw [5, 8] (fun v5 v8 wq => ∃ (L' : List UInt8) (j r cap : Nat), j ≤ k ∧ L'.length = L.length + j ∧ v8 = .int .i64 (j : Int) ∧ v5 = .slice (some ⟨r, 0, none⟩) L'.length cap ∧ Hid (TxSt B g n c A bs w L' (nextI n (nextI n (nextI n i))) (nextH (nextH (nextH h))) v5 wq)) (fun _ v8 _ => k - (intOf v8).toNat)
    case atStart => exact ⟨L, 0, r, cap, by omega, by omega, rfl, rfl, HS3⟩
    case round =>
     obtain ⟨L', j, r2, cap2, hj, hLj, rfl, rfl, HQ⟩ := hrel
     clear HS3
     have HLJ := Lib.hid hLj
     have hLb : L'.length ≤ m + 20 := by omega
     clear hLj
     by_cases hjk : j < k
     ·have S2 := HQ.out
      have hw9 : IntKind.u8.wrap (97 + x) = 97 + x := IntWalk.u8_in _ ⟨by omega, by omega⟩
      go_wp2_with (at_builtin; refine wpList_append_own _ rfl _ _ 22 rfl w.heap.size 5 i0 (.int .u8 0) 1 1 Tryz.underlying22 hi hz0 hz1 hz2 rfl (by decide) _ _ _ rfl (S2.own.alloc _) ⟨wr.heap.size, 0, none⟩ 1 1 [.int .u8 (97 + x)] rfl rfl ?e1 ?e2 ?e3 ?e4 ?e5 ?_)
      case e1 =>
       intro j u hj
       match j, hj with
       | 0, hj => simp at hj; subst hj; simp [Addr.add]
      case e2 => intro u hu; simp at hu; subst hu; rfl
      case e3 => unfold maxLen; omega
      case e4 => omega
      case e5 => have := S2.gr.size; simp; omega
      intro v' w4 hown hgrow _
      obtain ⟨r', cap', rfl, S3⟩ := S2.more (by omega) (by omega) hown hgrow
      have HS3 := Lib.hid S3
      clear hown hgrow S2 S3
      go_wp2
      go_roundw
      case rel => exact ⟨_, j + 1, _, _, by omega, by have := HLJ.out; simp; omega, by go_num, rfl, HS3⟩
      case measure => simp [intOf]; omega
     ·obtain rfl : j = k := by omega
      go_wp2
      go_roundw
      case rel => exact ⟨_, _, _, _, _, hLb, rfl, HQ⟩
      case measure =>
       rw [hme.out, meas_is m HQ.out]
       by_cases hk0 : j = 0
       ·subst hk0
        rw [HLJ.out, Nat.add_zero]
        exact Nat.add_lt_add_left (less_three bs n i h hin (by have := HSS.out; omega) (.inl (by have := HK.out; omega))) _
       ·exact less_len m n _ _ _ _ _ _ (by have := HLJ.out; omega) hlt
   by_cases e2 : s = 2
   ·subst e2
    by_cases hz : L.length = 0
    ·have hz1' : ¬ (0 : Int) < (L.length : Int) := by omega
     refine Lib.hid ?_
     go_wp2
     go_roundw
     case rel => exact ⟨_, _, _, _, _, hlm, rfl, HS1⟩
     case measure =>
      rw [hme.out, meas_is m HS1.out]
      exact Nat.add_lt_add_left (less_one bs n i h hin (by have := HSS.out; omega)) _
    ·have hz1' : (0 : Int) < (L.length : Int) := by omega
     have hy := l01Below_is HS1.out.dr (L.length : Int) (by omega) (by omega)
     unfold IsPost at hy
     have b0 := Int.emod_nonneg (byteAt bs n (nextI n i) (nextH h)) (by omega : (L.length : Int) ≠ 0)
     have b1 := Int.emod_lt_of_pos (byteAt bs n (nextI n i) (nextH h)) hz1'
     obtain ⟨f, hf⟩ : ∃ f : Nat, (f : Int) = byteAt bs n (nextI n i) (nextH h) % (L.length : Int) := ⟨(byteAt bs n (nextI n i) (nextH h) % (L.length : Int)).toNat, by omega⟩
     rw [← hf] at hy b0 b1
     have hfl : f < L.length := by omega
     clear hf b0 b1
     refine Lib.hid ?_
     go_wp2_with (go_at_call 55; refine hy.mono ?_; rintro e w2 ⟨rfl, hc, hg⟩; refine Hid.out ?_)
     have HS2 := Lib.hid (HS1.out.draw (nextI_le hin1) hc hg)
     have hin2 := nextI_le hin1
     have hy := l01Below_is HS2.out.dr 20 (by omega) (by omega)
     unfold IsPost at hy
     obtain ⟨k, hk⟩ : ∃ k : Nat, (k : Int) = byteAt bs n (nextI n (nextI n i)) (nextH (nextH h)) % 20 := ⟨(byteAt bs n (nextI n (nextI n i)) (nextH (nextH h)) % 20).toNat, by omega⟩
     have hk8 : k ≤ 19 := by omega
     rw [← hk] at hy
     have HK := Lib.hid hk
     clear hk hc hg
     refine Lib.hid ?_
     go_wp2_with (go_at_call 55; refine hy.mono ?_; rintro e w3 ⟨rfl, hc, hg⟩; refine Hid.out ?_)
     have HS3 := Lib.hid (HS2.out.draw (nextI_le hin2) hc hg)
     clear hy hc hg HS1 HS2
     refine Lib.hid ?_
     go_wp2_with (fail)
     go_loopw [5, 11] (fun v5 v11 wq => ∃ (L' : List UInt8) (j r cap : Nat), j ≤ k ∧ L'.length = L.length + j ∧ v11 = .int .i64 (j : Int) ∧ v5 = .slice (some ⟨r, 0, none⟩) L'.length cap ∧ Hid (TxSt B g n c A bs w L' (nextI n (nextI n (nextI n i))) (nextH (nextH (nextH h))) v5 wq)) (fun _ v11 _ => k - (intOf v11).toNat)
     case atStart => exact ⟨L, 0, r, cap, by omega, by omega, rfl, rfl, HS3⟩
     case round =>
      obtain ⟨L', j, r2, cap2, hj, hLj, rfl, rfl, HQ⟩ := hrel
      clear HS3
      have HLJ := Lib.hid hLj
      have hLb : L'.length ≤ m + 20 := by omega
      have hfj : f + j < L'.length := by omega
      clear hLj
      by_cases hjk : j < k
      ·have S2 := HQ.out
       have hcell := S2.own.cells (g := r2) rfl (f + j) (.int .u8 ((L'[f + j]'hfj).toNat : Int)) (by simp [Lib.byteCells, List.getElem?_eq_getElem hfj])
       obtain ⟨y, hyv⟩ : ∃ y : Int, y = ((L'[f + j]'hfj).toNat : Int) := ⟨_, rfl⟩
       have hyb : 0 ≤ y ∧ y ≤ 255 := by have := (L'[f + j]'hfj).toNat_lt; omega
       rw [← hyv] at hcell
       clear hyv
       obtain ⟨y0, y1⟩ := hyb
       rw [addr_add] at hcell
       have q0 : (0 : Int) ≤ (f : Int) + (j : Int) := by omega
       have q1 : (f : Int) + (j : Int) < (L'.length : Int) := by omega
       go_wp2_with (at_builtin; refine wpList_append_own _ rfl _ _ 22 rfl w.heap.size 5 i0 (.int .u8 0) 1 1 Tryz.underlying22 hi hz0 hz1 hz2 rfl (by decide) _ _ _ rfl (S2.own.alloc _) ⟨wr.heap.size, 0, none⟩ 1 1 [.int .u8 y] rfl rfl ?f1 ?f2 ?f3 ?f4 ?f5 ?_)
       case f1 =>
        intro j u hj
        match j, hj with
        | 0, hj => simp at hj; subst hj; simp [Addr.add]
       case f2 => intro u hu; simp at hu; subst hu; rfl
       case f3 => unfold maxLen; omega
       case f4 => omega
       case f5 => have := S2.gr.size; simp; omega
       intro v' w4 hown hgrow _
       obtain ⟨r', cap', rfl, S3⟩ := S2.more y0 y1 hown hgrow
       have HS3 := Lib.hid S3
       clear hown hgrow S2 S3
       go_wp2
       go_roundw
       case rel => exact ⟨_, j + 1, _, _, by omega, by have := HLJ.out; simp; omega, by go_num, rfl, HS3⟩
       case measure => simp [intOf]; omega
      ·obtain rfl : j = k := by omega
       go_wp2
       go_roundw
       case rel => exact ⟨_, _, _, _, _, hLb, rfl, HQ⟩
       case measure =>
        rw [hme.out, meas_is m HQ.out]
        by_cases hk0 : j = 0
        ·subst hk0
         rw [HLJ.out, Nat.add_zero]
         exact Nat.add_lt_add_left (less_three bs n i h hin (by have := HSS.out; omega) (.inr (by have := HK.out; omega))) _
        ·exact less_len m n _ _ _ _ _ _ (by have := HLJ.out; omega) hlt
   ·have hs3 : 3 ≤ s := by omega
    have hy := l01Below_is HS1.out.dr 26 (by omega) (by omega)
    unfold IsPost at hy
    obtain ⟨x, hx⟩ : ∃ x, x = byteAt bs n (nextI n i) (nextH h) % 26 := ⟨_, rfl⟩
    have hxb : 0 ≤ x ∧ x < 26 := by omega
    rw [← hx] at hy
    clear hx
    obtain ⟨x0, x1⟩ := hxb
    refine Lib.hid ?_
    go_wp2_with (go_at_call 55; refine hy.mono ?_; rintro e w2 ⟨rfl, hc, hg⟩; refine Hid.out ?_)
    have S2 := HS1.out.draw (nextI_le hin1) hc hg
    have HS2 := Lib.hid S2
    clear hy hc hg
    refine Lib.hid ?_
    go_wp2_with (at_builtin; refine wpList_append_own _ rfl _ _ 22 rfl w.heap.size 5 i0 (.int .u8 0) 1 1 Tryz.underlying22 hi hz0 hz1 hz2 rfl (by decide) _ _ _ rfl (S2.own.alloc _) ⟨w2.heap.size, 0, none⟩ 1 1 [.int .u8 (97 + x)] rfl rfl ?d1 ?d2 ?d3 ?d4 ?d5 ?_)
    case d1 =>
     intro j u hj
     match j, hj with
     | 0, hj => simp at hj; subst hj; simp [Addr.add]
    case d2 => intro u hu; simp at hu; subst hu; rfl
    case d3 => unfold maxLen; omega
    case d4 => omega
    case d5 => have := S2.gr.size; simp; omega
    intro v' w3 hown hgrow _
    obtain ⟨r', cap', rfl, S3⟩ := S2.more (by omega) (by omega) hown hgrow
    have HS3 := Lib.hid S3
    clear hown hgrow S2 S3
    go_wp2
    go_roundw
    case rel => exact ⟨_, _, _, _, _, by simp; omega, rfl, HS3⟩
    case measure => rw [hme.out, meas_is m HS3.out]; exact less_len m n _ _ _ _ _ _ (by simp) hlt
  ·have hS := HS.out
   have hcv := run_convert_bytes_back (P := Tryz.prog) wr 22 9 5 ⟨r, 0, none⟩ cap (L.take m) Tryz.underlying22 Tryz.underlying5 Tryz.underlying9 (fun j hj => hS.own.cells (g := r) rfl j _ (by
    rw [List.length_take] at hj
    simp only [Lib.byteCells, List.getElem?_map, List.getElem_take]
    rw [List.getElem?_eq_getElem (by omega)]
    rfl))
   have hlen : (L.take m).length = m := by rw [List.length_take]; omega
   rw [hlen] at hcv
   have hcap : L.length ≤ cap := by
    rcases hS.own.2 with ⟨h0, _⟩ | ⟨r', cap', cur, h1, _, _, h2, _⟩
    ·cases h0
    ·cases h1; exact h2
   have HF := Lib.hid hS
   have HN := Lib.hid hlen
   clear hS hlen
   go_wp2
   go_ret
   exact ⟨_, rfl, by show (L.take m).toArray.size = m; simpa using HN.out, ⟨i, h, HF.out.dr.hi, HF.out.dr.cur⟩, HF.out.gr⟩
theorem l01Text_any {B g n c : Nat} {A : Option Addr} {w : World} (h : Drawn B g n c A w) (m : Nat) (hm : m ≤ 250) :
  Calls Tryz.prog 127 #[.pointer (some ⟨g, 0, none⟩), .int .i64 (m : Int)] w (TextPost m g A n c w) := by
 obtain ⟨bs, hbs⟩ := h.code.is
 obtain ⟨i, x, hi, hc⟩ := h.cur
 exact l01Text_is ⟨h.hB, h.hBg, hbs, hi, hc⟩ h.hB m hm
end Go.Proofs.YthklebkpoccblaaGreat
namespace Go.Proofs.YthklebkpoccblaaGreat
theorem i64_and15 (n : Int) : bits .and .i64 n 15 = n % 16 := by
 have h15 : (BitVec.ofInt 64 15).toNat = 2 ^ 4 - 1 := by decide
 have key : (BitVec.ofInt 64 n &&& BitVec.ofInt 64 15).toNat = (n % ((2 ^ 64 : Nat) : Int)).toNat % 2 ^ 4 := by
  rw [BitVec.toNat_and, BitVec.toNat_ofInt, h15, Nat.and_two_pow_sub_one_eq_mod]
 show IntKind.i64.wrap ((BitVec.ofInt 64 n &&& BitVec.ofInt 64 15).toNat : Nat) = n % 16
 rw [key, IntKind.wrap_i64]
 omega
def hexTab : List UInt8 := [48, 49, 50, 51, 52, 53, 54, 55, 56, 57, 65, 66, 67, 68, 69, 70]
def hexAt (n : Int) (k : Nat) : UInt8 := hexTab.getD ((n / 16 ^ k) % 16).toNat 0
def hexl (n : Int) (d : Nat) : List UInt8 := (List.range d).map fun j => hexAt n (d - 1 - j)
theorem hexl_length (n : Int) (d : Nat) : (hexl n d).length = d := by simp [hexl]
theorem div16 (n : Int) (k : Nat) : n / 16 ^ k / 16 = n / 16 ^ (k + 1) := by
 rw [Int.ediv_ediv_of_nonneg (Int.pow_nonneg (by omega)), Int.pow_succ]
theorem hexTab_at (m : Int) (h : 0 ≤ m ∧ m < 16) (h' : m.toNat < (ByteArray.mk #[48, 49, 50, 51, 52, 53, 54, 55, 56, 57, 65, 66, 67, 68, 69, 70]).size) :
  (ByteArray.mk #[48, 49, 50, 51, 52, 53, 54, 55, 56, 57, 65, 66, 67, 68, 69, 70])[m.toNat] = hexTab.getD m.toNat 0 := by
 obtain ⟨j, rfl⟩ : ∃ j : Nat, m = j := ⟨m.toNat, by omega⟩
 simp only [Int.toNat_natCast] at h' ⊢
 have hj : j < 16 := by omega
 have key : ∀ i : Fin 16, (ByteArray.mk #[48, 49, 50, 51, 52, 53, 54, 55, 56, 57, 65, 66, 67, 68, 69, 70])[i.val]'(by simp [ByteArray.size]) = hexTab.getD i.val 0 := by decide
 exact key ⟨j, hj⟩
def hexCells (n : Int) (d k : Nat) : List Value := ((hexl n d).take k).map fun b => Value.int .u8 (b.toNat : Int)
theorem hexCells_succ (n : Int) (d k : Nat) (h : k < d) : hexCells n d k ++ [Value.int .u8 ((hexAt n (d - 1 - k)).toNat : Int)] = hexCells n d (k + 1) := by
 unfold hexCells
 rw [List.take_succ_eq_append_getElem (by rw [hexl_length]; exact h)]
 simp [hexl]
theorem hexCells_all (n : Int) (d : Nat) : hexCells n d d = (hexl n d).map fun b => Value.int .u8 (b.toNat : Int) := by
 unfold hexCells; rw [List.take_of_length_le (by rw [hexl_length]; omega)]
theorem shift4 (n : Int) (d k : Nat) (h : k < d) : n / 2 ^ (4 * ((d : Int) - 1 - k)).toNat = n / 16 ^ (d - 1 - k) := by
 have e : (4 * ((d : Int) - 1 - k)).toNat = 4 * (d - 1 - k) := by omega
 rw [e, Int.pow_mul]; rfl
end Go.Proofs.YthklebkpoccblaaGreat
namespace Go.Proofs.YthklebkpoccblaaGreat
def hxv (c : Int) : Int := if 48 ≤ c ∧ c ≤ 57 then c - 48 else if 65 ≤ c ∧ c ≤ 70 then c - 55 else if 97 ≤ c ∧ c ≤ 102 then c - 87 else -1
theorem hxv_bd (c : Int) : -1 ≤ hxv c ∧ hxv c ≤ 15 := by unfold hxv; (repeat' split) <;> omega
def HexOk (l : List UInt8) : Prop := ∀ c ∈ l, 0 ≤ hxv c.toNat
def hexNum (l : List UInt8) : Int := l.foldl (fun a c => 16 * a + hxv c.toNat) 0
theorem hexNum_snoc (l : List UInt8) (c : UInt8) : hexNum (l ++ [c]) = 16 * hexNum l + hxv c.toNat := by simp [hexNum]
theorem hexNum_fold (l : List UInt8) : ∀ (a : Int), 0 ≤ a → HexOk l → 0 ≤ l.foldl (fun a c => 16 * a + hxv c.toNat) a ∧ l.foldl (fun a c => 16 * a + hxv c.toNat) a + 1 ≤ (a + 1) * 16 ^ l.length := by
 induction l with
 | nil => intro a ha _; simpa using ha
 | cons c r ih =>
  intro a ha h
  have h1 := h c (by simp)
  have hb := hxv_bd c.toNat
  have h2 := ih (16 * a + hxv c.toNat) (by omega) (fun x hx => h x (by simp [hx]))
  simp only [List.foldl_cons, List.length_cons]
  refine ⟨h2.1, Int.le_trans h2.2 ?_⟩
  rw [Int.pow_succ, Int.mul_comm (16 ^ r.length) 16, ← Int.mul_assoc]
  exact Int.mul_le_mul_of_nonneg_right (by omega) (Int.pow_nonneg (by omega))
theorem hexNum_bd (l : List UInt8) (h : HexOk l) (h8 : l.length ≤ 8) : 0 ≤ hexNum l ∧ hexNum l < 4294967296 := by
 have h1 := hexNum_fold l 0 (by omega) h
 unfold hexNum
 refine ⟨h1.1, ?_⟩
 have h2 : (16 : Int) ^ l.length ≤ 4294967296 := by
  have : (16 : Nat) ^ l.length ≤ 16 ^ 8 := Nat.pow_le_pow_right (by omega) h8
  have e : ((16 ^ l.length : Nat) : Int) = (16 : Int) ^ l.length := by norm_cast
  rw [← e]; omega
 omega
open Classical in
noncomputable def rh (l : List UInt8) : Int := if HexOk l ∧ 1 ≤ l.length ∧ l.length ≤ 7 then hexNum l else -1
theorem rh_yes (l : List UInt8) (h : HexOk l) (h1 : 1 ≤ l.length) (h7 : l.length ≤ 7) : rh l = hexNum l := by unfold rh; rw [if_pos ⟨h, h1, h7⟩]
theorem rh_len (l : List UInt8) (h : l.length < 1 ∨ 7 < l.length) : rh l = -1 := by unfold rh; rw [if_neg (by omega)]
theorem rh_bad (l : List UInt8) (c : UInt8) (hc : c ∈ l) (h : hxv c.toNat < 0) : rh l = -1 := by
 unfold rh
 rw [if_neg]
 rintro ⟨h1, _⟩
 have := h1 c hc
 omega
end Go.Proofs.YthklebkpoccblaaGreat
namespace Go.Proofs.YthklebkpoccblaaGreat
theorem hexl_succ (n : Int) (d : Nat) : hexl n (d + 1) = hexl (n / 16) d ++ [hexAt n 0] := by
 unfold hexl
 rw [List.range_succ, List.map_append]
 congr 1
 ·apply List.map_congr_left
  intro j hj
  have hj' : j < d := by simpa using hj
  have e : d + 1 - 1 - j = (d - 1 - j) + 1 := by omega
  rw [e]
  unfold hexAt
  rw [← div16, Int.ediv_ediv_of_nonneg (Int.pow_nonneg (by omega)), Int.mul_comm, ← Int.ediv_ediv_of_nonneg (by omega)]
 ·simp
theorem tab_val : ∀ m : Fin 16, hxv ((hexTab.getD m.val 0).toNat : Int) = m.val := by decide
theorem hxv_hexAt (n : Int) (k : Nat) : hxv (hexAt n k).toNat = (n / 16 ^ k) % 16 := by
 unfold hexAt
 have h0 := Int.emod_nonneg (n / 16 ^ k) (by omega : (16 : Int) ≠ 0)
 have h1 := Int.emod_lt_of_pos (n / 16 ^ k) (by omega : (0 : Int) < 16)
 obtain ⟨m, hm⟩ : ∃ m : Nat, n / 16 ^ k % 16 = m := ⟨(n / 16 ^ k % 16).toNat, by omega⟩
 rw [hm]
 have := tab_val ⟨m, by omega⟩
 simpa using this
theorem hexl_ok (n : Int) (d : Nat) : HexOk (hexl n d) := by
 intro c hc
 unfold hexl at hc
 obtain ⟨j, _, rfl⟩ := List.mem_map.1 hc
 rw [hxv_hexAt]
 exact Int.emod_nonneg _ (by omega)
theorem emod_step (n m : Int) (hm : 0 < m) : 16 * (n / 16 % m) + n % 16 = n % (16 * m) := by
 have h1 := Int.mul_ediv_add_emod n 16
 have h2 := Int.mul_ediv_add_emod (n / 16) m
 have h3 := Int.emod_nonneg n (by omega : (16 : Int) ≠ 0)
 have h4 := Int.emod_lt_of_pos n (by omega : (0 : Int) < 16)
 have h5 := Int.emod_nonneg (n / 16) (by omega : m ≠ 0)
 have h6 := Int.emod_lt_of_pos (n / 16) hm
 obtain ⟨q, hq⟩ : ∃ q, q = n / 16 % m := ⟨_, rfl⟩
 obtain ⟨r, hr⟩ : ∃ r, r = n % 16 := ⟨_, rfl⟩
 obtain ⟨p, hp⟩ : ∃ p, p = n / 16 / m := ⟨_, rfl⟩
 rw [← hq] at h2 h5 h6
 rw [← hr] at h1 h3 h4
 rw [← hp] at h2
 rw [← hq, ← hr]
 have e : n = (16 * q + r) + (16 * m) * p := by
  have e2 : (16 * m) * p = 16 * (m * p) := by rw [Int.mul_assoc]
  rw [e2]; omega
 rw [e, Int.add_mul_emod_self_left, Int.emod_eq_of_lt (by omega) (by omega)]
theorem hexNum_hexl (d : Nat) : ∀ n : Int, hexNum (hexl n d) = n % 16 ^ d := by
 induction d with
 | zero => intro n; simp [hexl, hexNum]
 | succ d ih =>
  intro n
  rw [hexl_succ, hexNum_snoc, ih, hxv_hexAt, Int.pow_succ, Int.mul_comm _ 16]
  have := emod_step n (16 ^ d) (Int.pow_pos (by omega))
  simpa using this
theorem rh_hexl (n : Int) (d : Nat) (h1 : 1 ≤ d) (h7 : d ≤ 7) : rh (hexl n d) = n % 16 ^ d := by
 rw [rh_yes _ (hexl_ok n d) (by rw [hexl_length]; exact h1) (by rw [hexl_length]; exact h7), hexNum_hexl]
theorem i64_mask (k : Nat) (hk : k ≤ 62) (n : Int) (M : Int) (hM : M = 2 ^ k - 1) : bits .and .i64 n M = n % 2 ^ k := by
 have hp : (2 : Nat) ^ k ≤ 2 ^ 62 := Nat.pow_le_pow_right (by omega) hk
 have hp1 : 1 ≤ (2 : Nat) ^ k := Nat.one_le_two_pow
 have ec : ((2 : Int) ^ k) = ((2 ^ k : Nat) : Int) := by norm_cast
 have hMn : M = ((2 ^ k - 1 : Nat) : Int) := by rw [hM, ec]; omega
 have h62 : (2 : Nat) ^ 62 = 4611686018427387904 := by decide
 have h64 : ((2 ^ 64 : Nat) : Int) = 18446744073709551616 := by decide
 have h15 : (BitVec.ofInt 64 M).toNat = 2 ^ k - 1 := by
  rw [hMn, BitVec.toNat_ofInt, h64, Int.emod_eq_of_lt (by omega) (by omega), Int.toNat_natCast]
 have key : (BitVec.ofInt 64 n &&& BitVec.ofInt 64 M).toNat = (n % ((2 ^ 64 : Nat) : Int)).toNat % 2 ^ k := by
  rw [BitVec.toNat_and, BitVec.toNat_ofInt, h15, Nat.and_two_pow_sub_one_eq_mod]
 show IntKind.i64.wrap ((BitVec.ofInt 64 n &&& BitVec.ofInt 64 M).toNat : Nat) = n % 2 ^ k
 rw [key]
 have hd : (2 ^ k : Nat) ∣ 2 ^ 64 := Nat.pow_dvd_pow 2 (by omega)
 have e1 : (((n % ((2 ^ 64 : Nat) : Int)).toNat % 2 ^ k : Nat) : Int) = n % 2 ^ k := by
  rw [Int.natCast_emod, Int.toNat_of_nonneg (Int.emod_nonneg _ (by decide)), ec]
  exact Int.emod_emod_of_dvd n (by exact_mod_cast hd)
 rw [e1, ec]
 have h5 := Int.emod_nonneg n (show ((2 ^ k : Nat) : Int) ≠ 0 by omega)
 have h6 := Int.emod_lt_of_pos n (show (0 : Int) < ((2 ^ k : Nat) : Int) by omega)
 exact IntWalk.i64_in _ ⟨by omega, by omega⟩
end Go.Proofs.YthklebkpoccblaaGreat
