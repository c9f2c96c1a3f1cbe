/-
  Texts put together by program: DrA, DrE, LcA, Bel, Blk, BtA.
  Conditions: as each theorem says.
-/
import Derived.Below
import Derived.BigQuiet
import Derived.Deep.OwnRows
import Derived.Deep.QuietTactic
import Derived.Handy
import Derived.Laws.AppendOwn
import Derived.Laws.BitsLemmas
import Derived.Laws.Rows
import Derived.Laws.Tables
import Derived.Lib.Hide
import Derived.OpenShut
import Derived.ProofKit
import Derived.Test.YthklebkpoccblaaGreatProg
import Derived.WalkKit
namespace Go.Proofs.YthklebkpoccblaaGreat
open Go.RowKit
theorem i64_and255 (n : Int) : bits .and .i64 n 255 = n % 256 := by
 have h15 : (BitVec.ofInt 64 255).toNat = 2 ^ 8 - 1 := by decide
 have key : (BitVec.ofInt 64 n &&& BitVec.ofInt 64 255).toNat = (n % ((2 ^ 64 : Nat) : Int)).toNat % 2 ^ 8 := by
  rw [BitVec.toNat_and, BitVec.toNat_ofInt, h15, Nat.and_two_pow_sub_one_eq_mod]
 show IntKind.i64.wrap ((BitVec.ofInt 64 n &&& BitVec.ofInt 64 255).toNat : Nat) = n % 256
 rw [key, IntKind.wrap_i64]
 omega
theorem i64_and30 (n : Int) : bits .and .i64 n 1073741823 = n % 1073741824 := by
 have h15 : (BitVec.ofInt 64 1073741823).toNat = 2 ^ 30 - 1 := by decide
 have key : (BitVec.ofInt 64 n &&& BitVec.ofInt 64 1073741823).toNat = (n % ((2 ^ 64 : Nat) : Int)).toNat % 2 ^ 30 := by
  rw [BitVec.toNat_and, BitVec.toNat_ofInt, h15, Nat.and_two_pow_sub_one_eq_mod]
 show IntKind.i64.wrap ((BitVec.ofInt 64 n &&& BitVec.ofInt 64 1073741823).toNat : Nat) = n % 1073741824
 rw [key, IntKind.wrap_i64]
 omega
def Code (w : World) (B : Nat) (A : Option Addr) (n : Nat) : Prop :=
 n ≤ 1048576 ∧ (n = 0 ∨ ∃ b off, A = some ⟨b, off, none⟩ ∧ b < B ∧ ∀ i, i < n → ∃ v : Int, 0 ≤ v ∧ v ≤ 255 ∧ w.cell? ⟨b, off + i, none⟩ = some (.int .u8 v))
theorem Code.keep {w w' : World} {B n : Nat} {A : Option Addr} (h : Code w B A n) (hk : ∀ p : Addr, p.block < B → w'.cell? p = w.cell? p) : Code w' B A n := by
 obtain ⟨h1, h2⟩ := h
 refine ⟨h1, h2.imp_right ?_⟩
 rintro ⟨b, off, rfl, hb, hc⟩
 refine ⟨b, off, rfl, hb, fun i hi => ?_⟩
 obtain ⟨v, h3, h4, h5⟩ := hc i hi
 exact ⟨v, h3, h4, (hk _ hb).trans h5⟩
theorem Code.grown {w w' : World} {B n g : Nat} {A : Option Addr} (h : Code w B A n) (hB : B ≤ w.heap.size) (hg : w.grownBy w' (some g)) (hgB : B ≤ g) : Code w' B A n :=
 h.keep fun p hp => World.cell?_of_block (hg.block p.block (by omega) (by simp; omega))
theorem Code.below {w w' : World} {B n : Nat} {A : Option Addr} (h : Code w B A n) (hB : B ≤ w.heap.size) (hb : Below w.heap.size w w') : Code w' B A n :=
 h.keep fun p hp => hb.cell (by omega)
theorem Code.at_ {w : World} {B n : Nat} {A : Option Addr} (h : Code w B A n) {i : Nat} (hi : i < n) : ∃ b off v, A = some ⟨b, off, none⟩ ∧ b < B ∧ 0 ≤ v ∧ v ≤ 255 ∧ w.cell? ⟨b, off + i, none⟩ = some (.int .u8 v) := by
 rcases h.2 with h0 | ⟨b, off, rfl, hb, hc⟩
 ·omega
 ·obtain ⟨v, h1, h2, h3⟩ := hc i hi
  exact ⟨b, off, v, rfl, hb, h1, h2, h3⟩
def Cur (w : World) (g : Nat) (A : Option Addr) (n c : Nat) : Prop := ∃ (i : Nat) (h : Int), i ≤ n ∧ w.heap[g]? = some (.cells #[.slice A n c, .int .i64 i, .int .i64 h] 78 (0, 0))
theorem Cur.lt {w : World} {g n c : Nat} {A : Option Addr} (h : Cur w g A n c) : g < w.heap.size := by
 obtain ⟨_, _, _, hb⟩ := h
 exact (Array.getElem?_eq_some_iff.1 hb).1
theorem Cur.keep {w w' : World} {g n c : Nat} {A : Option Addr} (h : Cur w g A n c) (e : w'.heap[g]? = w.heap[g]?) : Cur w' g A n c := by
 obtain ⟨i, x, hi, hb⟩ := h
 exact ⟨i, x, hi, e.trans hb⟩
theorem Cur.below {w w' : World} {g n c : Nat} {A : Option Addr} (h : Cur w g A n c) (hb : Below w.heap.size w w') : Cur w' g A n c := h.keep (hb.block g h.lt)
theorem grown_set {w wr : World} {b : Nat} (h : w.grownBy wr (some b)) (i : Nat) (v : Value) : w.grownBy (wr.setCell ⟨b, i, none⟩ v) (some b) := by
 refine ⟨h.os, h.tape, h.output, by simpa [World.setCell] using h.size, fun g hg hne => ?_⟩
 rw [Below.heap_setCell _ _ _ _ (fun e => hne (by rw [e]))]
 exact h.block g hg hne
theorem grown_drewN {w wr : World} {b : Nat} (h : w.grownBy wr (some b)) (q : Nat) : w.grownBy (wr.drewN q) (some b) := ⟨h.os, h.tape, h.output, h.size, h.block⟩
theorem grown_trans {a b c : World} {g : Nat} (h : a.grownBy b (some g)) (k : b.grownBy c (some g)) : a.grownBy c (some g) :=
 ⟨k.os.trans h.os, k.tape.trans h.tape, k.output.trans h.output, Nat.le_trans h.size k.size, fun x hx hn => (k.block x (Nat.lt_of_lt_of_le hx h.size) hn).trans (h.block x hx hn)⟩
theorem grown_below {a b c : World} {g : Nat} (h : a.grownBy b (some g)) (k : Below b.heap.size b c) : a.grownBy c (some g) :=
 ⟨k.os.trans h.os, k.tape.trans h.tape, k.output.trans h.output, Nat.le_trans h.size k.size, fun x hx hn => (k.block x (Nat.lt_of_lt_of_le hx h.size)).trans (h.block x hx hn)⟩
theorem below_grown' {a b : World} {B g : Nat} (h : a.grownBy b (some g)) (hB : B ≤ a.heap.size) (hg : B ≤ g) : Below B a b :=
 ⟨h.os, h.tape, h.output, h.size, fun x hx => h.block x (by omega) (by simp; omega)⟩
theorem grown_of_below {a b : World} {g : Nat} (k : Below a.heap.size a b) : a.grownBy b (some g) := ⟨k.os, k.tape, k.output, k.size, fun x hx _ => k.block x hx⟩
def DrawPost (lo hi : Int) (g : Nat) (A : Option Addr) (n c : Nat) (w : World) (e : Ending) (w' : World) : Prop :=
 ∃ x : Int, e = .returned (.int .i64 x) ∧ lo ≤ x ∧ x ≤ hi ∧ Cur w' g A n c ∧ w.grownBy w' (some g)
theorem Cur.cells {w : World} {g n c : Nat} {A : Option Addr} {i : Nat} {h : Int} (hb : w.heap[g]? = some (.cells #[.slice A n c, .int .i64 i, .int .i64 h] 78 (0, 0))) :
  w.cell? ⟨g, 0, none⟩ = some (.slice A n c) ∧ w.cell? ⟨g, 1, none⟩ = some (.int .i64 i) ∧ w.cell? ⟨g, 2, none⟩ = some (.int .i64 h) ∧ w.frozen? ⟨g, 1, none⟩ = false ∧ w.frozen? ⟨g, 2, none⟩ = false := by
 refine ⟨?_, ?_, ?_, ?_, ?_⟩ <;> simp [World.cell?, World.frozen?, hb]
theorem Cur.set2 {w : World} {g n c : Nat} {A : Option Addr} {i : Nat} {h : Int} (hi : i ≤ n) (hb : w.heap[g]? = some (.cells #[.slice A n c, .int .i64 i, .int .i64 h] 78 (0, 0))) (x : Int) : Cur (w.setCell ⟨g, 2, none⟩ (.int .i64 x)) g A n c :=
 ⟨i, x, hi, by simp [World.setCell, Array.getElem?_modify, hb]⟩
theorem Cur.set1 {w : World} {g n c : Nat} {A : Option Addr} (h : Cur w g A n c) (i : Nat) (hi : i ≤ n) (x : Int) (hx : x = i) : Cur (w.setCell ⟨g, 1, none⟩ (.int .i64 x)) g A n c := by
 subst hx
 obtain ⟨j, x, hj, hb⟩ := h
 exact ⟨i, x, hi, by simp [World.setCell, Array.getElem?_modify, hb]⟩
set_option maxRecDepth 100000 in
set_option maxHeartbeats 1000000 in
theorem l01Byte_any (B g n c : Nat) (A : Option Addr) (w : World) (hBg : B ≤ g) (hcode : Code w B A n) (hcur : Cur w g A n c) :
  Calls Tryz.prog 87 #[.pointer (some ⟨g, 0, none⟩)] w (DrawPost 0 255 g A n c w) := by
 obtain ⟨i, h, hi, hb⟩ := hcur
 obtain ⟨c0, c1, c2, f1, f2⟩ := Cur.cells hb
 have hS := fun x => Cur.set2 hi hb x
 have hG := fun x => grown_set (World.grownBy.refl w (some g)) 2 (.int .i64 x)
 have hn := hcode.1
 have h255 := i64_and255
 by_cases hlt : i < n
 ·obtain ⟨b, off, v, rfl, hbB, hv0, hv1, hcv⟩ := hcode.at_ hlt
  have hne : b ≠ g := by omega
  clear hcode hb
  have h0 : (0 : Int) ≤ (i : Int) := by omega
  have h1 : (i : Int) < (n : Int) := by omega
  go_enter Tryz.func87, Tryz.ntmps87
  go_wp2
  go_quiet (fail)
  go_wp2
  go_quiet (fail)
  go_wp2
  go_quiet (fail)
  go_wp2
  go_ret
  refine ⟨_, rfl, by omega, by omega, ?_, ?_⟩
  ·exact Cur.set1 (hS _) (i + 1) (by omega) _ (by omega)
  ·first | exact grown_drewN (grown_set (hG _) 1 _) _ | exact grown_set (hG _) 1 _
 ·obtain rfl : i = n := by omega
  clear hcode hb
  go_enter Tryz.func87, Tryz.ntmps87
  go_wp2
  go_quiet (fail)
  go_wp2
  go_quiet (fail)
  go_wp2
  go_ret
  refine ⟨_, rfl, by omega, by omega, ?_, ?_⟩
  ·exact hS _
  ·exact grown_drewN (grown_drewN (hG _) _) _
structure Drawn (B g n c : Nat) (A : Option Addr) (w : World) : Prop where
 hB : B ≤ w.heap.size
 hBg : B ≤ g
 code : Code w B A n
 cur : Cur w g A n c
theorem Drawn.next {B g n c : Nat} {A : Option Addr} {w w' : World} (h : Drawn B g n c A w) (hc : Cur w' g A n c) (hg : w.grownBy w' (some g)) : Drawn B g n c A w' :=
 ⟨Nat.le_trans h.hB hg.size, h.hBg, h.code.grown h.hB hg h.hBg, hc⟩
theorem Drawn.below {B g n c : Nat} {A : Option Addr} {w w' : World} (h : Drawn B g n c A w) (hb : Below w.heap.size w w') : Drawn B g n c A w' :=
 ⟨Nat.le_trans h.hB hb.size, h.hBg, h.code.below h.hB hb, h.cur.below hb⟩
theorem l01Byte_d {B g n c : Nat} {A : Option Addr} {w : World} (h : Drawn B g n c A w) : Calls Tryz.prog 87 #[.pointer (some ⟨g, 0, none⟩)] w (DrawPost 0 255 g A n c w) :=
 l01Byte_any B g n c A w h.hBg h.code h.cur
set_option maxHeartbeats 1000000 in
theorem l01Below_any {B g n c : Nat} {A : Option Addr} {w : World} (h : Drawn B g n c A w) (k : Int) (hk : 1 ≤ k) (hk2 : k ≤ 4294967296) :
  Calls Tryz.prog 55 #[.pointer (some ⟨g, 0, none⟩), .int .i64 k] w (DrawPost 0 (k - 1) g A n c w) := by
 by_cases h256 : k ≤ 256
 ·have hy := l01Byte_d h
  clear h
  go_enter Tryz.func55, Tryz.ntmps55
  go_wp2_with (go_at_call 87; refine hy.mono ?_; rintro e w' ⟨x, rfl, h0, h1, hc, hg⟩)
  go_ret
  have h2 := Int.emod_nonneg x (by omega : k ≠ 0)
  have h3 := Int.emod_lt_of_pos x (by omega : 0 < k)
  exact ⟨_, rfl, h2, by omega, hc, hg⟩
 ·have H := Lib.hid h
  clear h
  go_enter Tryz.func55, Tryz.ntmps55
  go_wp2_with (go_at_call 87; refine (l01Byte_d H.out).mono ?_; rintro e w1 ⟨x1, rfl, a1, b1, hc1, hg1⟩; refine Hid.out ?_)
  have H1 := Lib.hid (H.out.next hc1 hg1)
  clear hc1
  refine Lib.hid ?_
  go_wp2_with (go_at_call 87; refine (l01Byte_d H1.out).mono ?_; rintro e w2 ⟨x2, rfl, a2, b2, hc2, hg2⟩; refine Hid.out ?_)
  have H2 := Lib.hid (H1.out.next hc2 hg2)
  have hg2 := grown_trans hg1 hg2
  clear hc2 hg1
  refine Lib.hid ?_
  go_wp2_with (go_at_call 87; refine (l01Byte_d H2.out).mono ?_; rintro e w3 ⟨x3, rfl, a3, b3, hc3, hg3⟩; refine Hid.out ?_)
  have H3 := Lib.hid (H2.out.next hc3 hg3)
  have hg3 := grown_trans hg2 hg3
  clear hc3 hg2
  refine Lib.hid ?_
  go_wp2_with (go_at_call 87; refine (l01Byte_d H3.out).mono ?_; rintro e w4 ⟨x4, rfl, a4, b4, hc4, hg4⟩; refine Hid.out ?_)
  have hg4 := grown_trans hg3 hg4
  clear hg3
  refine Lib.hid ?_
  go_wp2
  go_ret
  have h2 := Int.emod_nonneg (x1 * 16777216 + x2 * 65536 + x3 * 256 + x4) (by omega : k ≠ 0)
  have h3 := Int.emod_lt_of_pos (x1 * 16777216 + x2 * 65536 + x3 * 256 + x4) (by omega : 0 < k)
  exact ⟨_, rfl, h2, by omega, hc4, hg4⟩
def OncePost (g : Nat) (A : Option Addr) (n c : Nat) (w : World) (e : Ending) (w' : World) : Prop :=
 ∃ x : Bool, e = .returned (.bool x) ∧ Cur w' g A n c ∧ w.grownBy w' (some g)
theorem l01Once_any {B g n c : Nat} {A : Option Addr} {w : World} (h : Drawn B g n c A w) (k : Int) (hk : 1 ≤ k) (hk2 : k ≤ 4294967296) :
  Calls Tryz.prog 58 #[.pointer (some ⟨g, 0, none⟩), .int .i64 k] w (OncePost g A n c w) := by
 have hy := l01Below_any h k hk hk2
 clear h
 go_enter Tryz.func58, Tryz.ntmps58
 go_wp2_with (go_at_call 55; refine hy.mono ?_; rintro e w' ⟨x, rfl, h0, h1, hc, hg⟩)
 go_ret
 exact ⟨_, rfl, hc, hg⟩
def I64 (x : Int) : Prop := -9223372036854775808 ≤ x ∧ x ≤ 9223372036854775807
set_option maxHeartbeats 1000000 in
theorem l01PickInt_any {B g n c r k cap : Nat} {A : Option Addr} {w : World} (h : Drawn B g n c A w) (hk : 1 ≤ k) (hk2 : k ≤ 1000) (hne : r ≠ g) (hr : r < w.heap.size)
  (hrow : ∀ i, i < k → ∃ v : Int, I64 v ∧ w.cell? ⟨r, i, none⟩ = some (.int .i64 v)) :
  Calls Tryz.prog 57 #[.pointer (some ⟨g, 0, none⟩), .slice (some ⟨r, 0, none⟩) k cap] w (DrawPost (-9223372036854775808) 9223372036854775807 g A n c w) := by
 have hy := l01Below_any h (k : Int) (by omega) (by omega)
 have HR := Lib.hid hrow
 clear h hrow
 go_enter Tryz.func57, Tryz.ntmps57
 go_wp2_with (go_at_call 55; refine hy.mono ?_; rintro e w1 ⟨x, rfl, h0, h1, hc, hg⟩; refine Hid.out ?_)
 obtain ⟨X, rfl⟩ : ∃ X : Nat, x = X := ⟨x.toNat, by omega⟩
 have hX : X < k := by omega
 obtain ⟨v, hv, hcv⟩ := HR.out X hX
 have hc1 : w1.cell? ⟨r, X, none⟩ = some (.int .i64 v) := (World.cell?_of_block (hg.block r hr (by simp [hne]))).trans hcv
 obtain ⟨hv0, hv1⟩ := hv
 clear hcv hy
 refine Lib.hid ?_
 go_wp2
 go_ret
 exact ⟨_, rfl, hv0, hv1, hc, hg⟩
theorem new_row (w : World) (cs : Array Value) (t : TypeId) (i : Nat) : (w.alloc (.cells cs t)).cell? ⟨w.heap.size, i, none⟩ = cs[i]? :=
 cell_of_row _ _ i cs t (0, 0) (heap_alloc_new w _)
def NewPost (A : Option Addr) (n c : Nat) (w : World) (e : Ending) (w' : World) : Prop :=
 e = .returned (.pointer (some ⟨w.heap.size, 0, none⟩)) ∧ Cur w' w.heap.size A n c ∧ Below w.heap.size w w'
set_option maxRecDepth 100000 in
set_option maxHeartbeats 1000000 in
theorem l01New_any (B n c : Nat) (A : Option Addr) (w : World) (hcode : Code w B A n) :
  Calls Tryz.prog 27 #[.slice A n c] w (NewPost A n c w) := by
 have hn := hcode.1
 have h30 := i64_and30
 go_enter Tryz.func27, Tryz.ntmps27
 go_wp2
 go_loop [3, 4] (fun v3 v4 => ∃ (k : Nat) (x : Int), k ≤ n ∧ 0 ≤ x ∧ x ≤ 1073741824 ∧ v4 = .int .i64 k ∧ v3 = .int .i64 x) (fun _ v4 => n - (intOf v4).toNat)
 case atStart => exact ⟨0, _, by omega, by omega, by omega, rfl, rfl⟩
 case round =>
  obtain ⟨k, x, hk, h0, h1, rfl, rfl⟩ := hrel
  by_cases hlt : k < n
  ·obtain ⟨b, off, v, rfl, hbB, hv0, hv1, hcv⟩ := hcode.at_ hlt
   by_cases h4 : k < 4000
   ·have i0 : (0 : Int) ≤ (k : Int) := by omega
    have i1 : (k : Int) < (n : Int) := by omega
    clear hcode
    go_wp2
    go_round
    case rel => exact ⟨k + 1, _, by omega, by omega, by omega, by go_num, rfl⟩
    case measure => simp [intOf]; omega
   ·clear hcode
    go_wp2
    go_ret
    exact ⟨rfl, ⟨0, x, by omega, heap_alloc_new w _⟩, (Below.refl _ _).alloc (Nat.le_refl _) _⟩
  ·clear hcode
   go_wp2
   go_ret
   exact ⟨rfl, ⟨0, x, by omega, heap_alloc_new w _⟩, (Below.refl _ _).alloc (Nat.le_refl _) _⟩
def AllI (l : List Value) : Prop := ∀ i, i < l.length → ∃ v : Int, I64 v ∧ l[i]? = some (.int .i64 v)
theorem allI_nil : AllI [] := fun _ hi => absurd hi (Nat.not_lt_zero _)
theorem allI_cons {x : Int} {l : List Value} (h : I64 x) (hl : AllI l) : AllI (.int .i64 x :: l) := by
 intro i hi
 cases i with
 | zero => exact ⟨x, h, rfl⟩
 | succ i => simpa using hl i (by simpa using hi)
theorem pickInt_new {B g n c k : Nat} {A : Option Addr} {w : World} (h : Drawn B g n c A w) (cs : List Value) (hs : cs.length = k) (hk : 1 ≤ k) (hk2 : k ≤ 1000) (hall : AllI cs) :
  Calls Tryz.prog 57 #[.pointer (some ⟨g, 0, none⟩), .slice (some ⟨w.heap.size, 0, none⟩) k k] (w.alloc (.cells cs.toArray 3)) (DrawPost (-9223372036854775808) 9223372036854775807 g A n c w) := by
 have hb : Below w.heap.size w (w.alloc (.cells cs.toArray 3)) := (Below.refl _ _).alloc (Nat.le_refl _) _
 refine (l01PickInt_any (h.below hb) hk hk2 (by have := h.cur.lt; omega) (by simp) (fun i hi => ?_)).mono ?_
 ·obtain ⟨v, hv, e⟩ := hall i (by omega)
  exact ⟨v, hv, by rw [new_row]; simpa using e⟩
 ·rintro e w' ⟨x, rfl, h0, h1, hc, hg⟩
  exact ⟨x, rfl, h0, h1, hc, grown_trans (grown_of_below hb) hg⟩
def RowB (W : World) (A : Option Addr) (n : Nat) : Prop :=
 n ≤ maxLen ∧ (n = 0 ∨ ∃ b off, A = some ⟨b, off, none⟩ ∧ b < W.heap.size ∧ ∀ i, i < n → ∃ v : Int, 0 ≤ v ∧ v ≤ 255 ∧ W.cell? ⟨b, off + i, none⟩ = some (.int .u8 v))
theorem RowB.code {W : World} {A : Option Addr} {n : Nat} (h : RowB W A n) (hn : n ≤ 1048576) : Code W W.heap.size A n := ⟨hn, h.2⟩
end Go.Proofs.YthklebkpoccblaaGreat
namespace Go.Proofs.YthklebkpoccblaaGreat
open Go.RowKit
def CodeIs (w : World) (B : Nat) (A : Option Addr) (n : Nat) (bs : Nat → Int) : Prop :=
 n ≤ 1048576 ∧ (∀ i, i < n → 0 ≤ bs i ∧ bs i ≤ 255) ∧ (n = 0 ∨ ∃ b off, A = some ⟨b, off, none⟩ ∧ b < B ∧ ∀ i, i < n → w.cell? ⟨b, off + i, none⟩ = some (.int .u8 (bs i)))
theorem Code.is {w : World} {B n : Nat} {A : Option Addr} (h : Code w B A n) : ∃ bs, CodeIs w B A n bs := by
 rcases h.2 with h0 | ⟨b, off, rfl, hb, hc⟩
 ·exact ⟨fun _ => 0, h.1, fun i hi => by omega, .inl h0⟩
 ·refine ⟨fun i => if hi : i < n then Classical.choose (hc i hi) else 0, h.1, fun i hi => ?_, .inr ⟨b, off, rfl, hb, fun i hi => ?_⟩⟩
  ·have := Classical.choose_spec (hc i hi)
   simp only [dif_pos hi]
   exact ⟨this.1, this.2.1⟩
  ·have := Classical.choose_spec (hc i hi)
   simp only [dif_pos hi]
   exact this.2.2
theorem CodeIs.keep {w w' : World} {B n : Nat} {A : Option Addr} {bs : Nat → Int} (h : CodeIs w B A n bs) (hk : ∀ p : Addr, p.block < B → w'.cell? p = w.cell? p) : CodeIs w' B A n bs := by
 obtain ⟨h1, h2, h3⟩ := h
 refine ⟨h1, h2, h3.imp_right ?_⟩
 rintro ⟨b, off, rfl, hb, hc⟩
 exact ⟨b, off, rfl, hb, fun i hi => (hk _ hb).trans (hc i hi)⟩
theorem CodeIs.grown {w w' : World} {B n g : Nat} {A : Option Addr} {bs : Nat → Int} (h : CodeIs w B A n bs) (hB : B ≤ w.heap.size) (hg : w.grownBy w' (some g)) (hgB : B ≤ g) : CodeIs w' B A n bs :=
 h.keep fun p hp => World.cell?_of_block (hg.block p.block (by omega) (by simp; omega))
theorem CodeIs.below {w w' : World} {B n : Nat} {A : Option Addr} {bs : Nat → Int} (h : CodeIs w B A n bs) (hB : B ≤ w.heap.size) (hb : Below w.heap.size w w') : CodeIs w' B A n bs :=
 h.keep fun p hp => hb.cell (by omega)
theorem CodeIs.at_ {w : World} {B n : Nat} {A : Option Addr} {bs : Nat → Int} (h : CodeIs w B A n bs) {i : Nat} (hi : i < n) : ∃ b off, A = some ⟨b, off, none⟩ ∧ b < B ∧ w.cell? ⟨b, off + i, none⟩ = some (.int .u8 (bs i)) := by
 rcases h.2.2 with h0 | ⟨b, off, rfl, hb, hc⟩
 ·omega
 ·exact ⟨b, off, rfl, hb, hc i hi⟩
def CurIs (w : World) (g : Nat) (A : Option Addr) (n c i : Nat) (h : Int) : Prop := w.heap[g]? = some (.cells #[.slice A n c, .int .i64 i, .int .i64 h] 78 (0, 0))
theorem CurIs.lt {w : World} {g n c i : Nat} {A : Option Addr} {h : Int} (hc : CurIs w g A n c i h) : g < w.heap.size := (Array.getElem?_eq_some_iff.1 hc).1
theorem CurIs.keep {w w' : World} {g n c i : Nat} {A : Option Addr} {h : Int} (hc : CurIs w g A n c i h) (e : w'.heap[g]? = w.heap[g]?) : CurIs w' g A n c i h := Eq.trans e hc
theorem CurIs.set2 {w : World} {g n c i : Nat} {A : Option Addr} {h : Int} (hb : CurIs w g A n c i h) (x : Int) : CurIs (w.setCell ⟨g, 2, none⟩ (.int .i64 x)) g A n c i x := by
 unfold CurIs at hb ⊢
 simp [World.setCell, Array.getElem?_modify, hb]
theorem CurIs.set1 {w : World} {g n c i : Nat} {A : Option Addr} {h : Int} (hb : CurIs w g A n c i h) (j : Nat) (x : Int) (hx : x = j) : CurIs (w.setCell ⟨g, 1, none⟩ (.int .i64 x)) g A n c j h := by
 subst hx
 unfold CurIs at hb ⊢
 simp [World.setCell, Array.getElem?_modify, hb]
def nextH (h : Int) : Int := wrap64 (wrap64 (h * 6364136223846793005) + 1442695040888963407)
def byteAt (bs : Nat → Int) (n i : Nat) (h : Int) : Int :=
 (bits BinOp.xor IntKind.i64 (nextH h / 8589934592) (nextH h / 35184372088832) + (if i < n then bs i else 0)) % 256
def nextI (n i : Nat) : Nat := if i < n then i + 1 else i
def IsPost (v : Value) (g : Nat) (A : Option Addr) (n c i : Nat) (h : Int) (w : World) (e : Ending) (w' : World) : Prop :=
 e = .returned v ∧ CurIs w' g A n c i h ∧ w.grownBy w' (some g)
structure DrawnIs (B g n c : Nat) (A : Option Addr) (bs : Nat → Int) (i : Nat) (h : Int) (w : World) : Prop where
 hB : B ≤ w.heap.size
 hBg : B ≤ g
 code : CodeIs w B A n bs
 hi : i ≤ n
 cur : CurIs w g A n c i h
theorem nextI_le {n i : Nat} (h : i ≤ n) : nextI n i ≤ n := by unfold nextI; split <;> omega
theorem DrawnIs.next {B g n c i : Nat} {A : Option Addr} {bs : Nat → Int} {h : Int} {w w' : World} (hd : DrawnIs B g n c A bs i h w) {j : Nat} {x : Int} (hj : j ≤ n) (hc : CurIs w' g A n c j x) (hg : w.grownBy w' (some g)) : DrawnIs B g n c A bs j x w' :=
 ⟨Nat.le_trans hd.hB hg.size, hd.hBg, hd.code.grown hd.hB hg hd.hBg, hj, hc⟩
theorem DrawnIs.below {B g n c i : Nat} {A : Option Addr} {bs : Nat → Int} {h : Int} {w w' : World} (hd : DrawnIs B g n c A bs i h w) (hb : Below w.heap.size w w') : DrawnIs B g n c A bs i h w' :=
 ⟨Nat.le_trans hd.hB hb.size, hd.hBg, hd.code.below hd.hB hb, hd.hi, hd.cur.keep (hb.block g hd.cur.lt)⟩
set_option maxRecDepth 100000 in
set_option maxHeartbeats 1000000 in
theorem l01Byte_is {B g n c i : Nat} {A : Option Addr} {bs : Nat → Int} {h : Int} {w : World} (hd : DrawnIs B g n c A bs i h w) :
  Calls Tryz.prog 87 #[.pointer (some ⟨g, 0, none⟩)] w (IsPost (.int .i64 (byteAt bs n i h)) g A n c (nextI n i) (nextH h) w) := by
 obtain ⟨hB, hBg, hcode, hi, hb⟩ := hd
 obtain ⟨c0, c1, c2, f1, f2⟩ := Cur.cells hb
 have hS := fun x => CurIs.set2 hb x
 have hG := fun x => grown_set (World.grownBy.refl w (some g)) 2 (.int .i64 x)
 have hn := hcode.1
 have h255 := i64_and255
 by_cases hlt : i < n
 ·obtain ⟨hv0, hv1⟩ := hcode.2.1 i hlt
  obtain ⟨b, off, rfl, hbB, hcv⟩ := hcode.at_ hlt
  have hne : b ≠ g := by omega
  have hN : nextI n i = i + 1 := if_pos hlt
  have hX : byteAt bs n i h = (bits BinOp.xor IntKind.i64 (nextH h / 8589934592) (nextH h / 35184372088832) + bs i) % 256 := by unfold byteAt; rw [if_pos hlt]
  rw [hN, hX]
  unfold nextH
  clear hcode hb hN hX
  have h0 : (0 : Int) ≤ (i : Int) := by omega
  have h1 : (i : Int) < (n : Int) := by omega
  go_enter Tryz.func87, Tryz.ntmps87
  go_wp2
  go_quiet (fail)
  go_wp2
  go_quiet (fail)
  go_wp2
  go_quiet (fail)
  go_wp2
  go_ret
  refine ⟨rfl, ?_, ?_⟩
  ·exact CurIs.set1 (hS _) (i + 1) _ (by omega)
  ·first | exact grown_drewN (grown_set (hG _) 1 _) _ | exact grown_set (hG _) 1 _
 ·obtain rfl : i = n := by omega
  have hN : nextI i i = i := if_neg hlt
  have hX : byteAt bs i i h = bits BinOp.xor IntKind.i64 (nextH h / 8589934592) (nextH h / 35184372088832) % 256 := by unfold byteAt; rw [if_neg hlt, Int.add_zero]
  rw [hN, hX]
  unfold nextH
  clear hcode hb hN hX
  go_enter Tryz.func87, Tryz.ntmps87
  go_wp2
  go_quiet (fail)
  go_wp2
  go_quiet (fail)
  go_wp2
  go_ret
  refine ⟨rfl, ?_, ?_⟩
  ·exact hS _
  ·exact grown_drewN (grown_drewN (hG _) _) _
theorem byteAt_range (bs : Nat → Int) (n i : Nat) (h : Int) : 0 ≤ byteAt bs n i h ∧ byteAt bs n i h ≤ 255 := by
 unfold byteAt; omega
set_option maxHeartbeats 1000000 in
theorem l01Below_is {B g n c i : Nat} {A : Option Addr} {bs : Nat → Int} {h : Int} {w : World} (hd : DrawnIs B g n c A bs i h w) (k : Int) (hk : 1 ≤ k) (hk2 : k ≤ 256) :
  Calls Tryz.prog 55 #[.pointer (some ⟨g, 0, none⟩), .int .i64 k] w (IsPost (.int .i64 (byteAt bs n i h % k)) g A n c (nextI n i) (nextH h) w) := by
 have hy := l01Byte_is hd
 obtain ⟨b0, b1⟩ := byteAt_range bs n i h
 unfold IsPost at hy
 clear hd
 go_enter Tryz.func55, Tryz.ntmps55
 go_wp2_with (go_at_call 87; refine hy.mono ?_; rintro e w' ⟨rfl, hc, hg⟩)
 go_ret
 exact ⟨rfl, hc, hg⟩
end Go.Proofs.YthklebkpoccblaaGreat
namespace Go.Proofs.YthklebkpoccblaaGreat
open Go.RowKit
def stepI (x : Int) : Int := 6364136223846793005 * x + 1442695040888963407
def itI : Nat → Int → Int
 | 0, x => x
 | n + 1, x => itI n (stepI x)
theorem itI_add (m n : Nat) : ∀ x, itI (m + n) x = itI n (itI m x) := by
 induction m with
 | zero => intro x; rw [Nat.zero_add]; rfl
 | succ m ih => intro x; rw [Nat.succ_add]; exact ih (stepI x)
theorem aff_step (A B p u v : Int) (hA : A = 1 + 4 * p * u) (hB : B = p * (1 + 2 * v)) :
  A * A = 1 + 4 * (2 * p) * (u + 2 * p * u * u) ∧ A * B + B = 2 * p * (1 + 2 * (v + p * u + 2 * p * u * v)) := by
 subst hA; subst hB
 constructor <;> grind
theorem aff (k : Nat) : ∃ A B u v : Int, (∀ x, itI (2 ^ k) x = A * x + B) ∧ A = 1 + 4 * (2 : Int) ^ k * u ∧ B = (2 : Int) ^ k * (1 + 2 * v) := by
 induction k with
 | zero => exact ⟨6364136223846793005, 1442695040888963407, 1591034055961698251, 721347520444481703, fun x => rfl, by decide, by decide⟩
 | succ k ih =>
  obtain ⟨A, B, u, v, h, hA, hB⟩ := ih
  obtain ⟨h1, h2⟩ := aff_step A B ((2 : Int) ^ k) u v hA hB
  refine ⟨A * A, A * B + B, u + 2 * (2 : Int) ^ k * u * u, v + (2 : Int) ^ k * u + 2 * (2 : Int) ^ k * u * v, fun x => ?_, ?_, ?_⟩
  ·have e : 2 ^ (k + 1) = 2 ^ k + 2 ^ k := by rw [Nat.pow_succ]; omega
   rw [e, itI_add, h, h]; grind
  ·rw [h1, Int.pow_succ, Int.mul_comm ((2 : Int) ^ k) 2]
  ·rw [h2, Int.pow_succ, Int.mul_comm ((2 : Int) ^ k) 2]
theorem reach_step (A B p u v X y q : Int) (hA : A = 1 + 4 * p * u) (hB : B = p * (1 + 2 * v)) (h : X - y = p * (2 * q + 1)) : A * X + B - y = p * 2 * (q + 2 * u * X + 1 + v) := by
 subst hA; subst hB; grind
theorem reach (k : Nat) (x y : Int) : ∃ n q, n < 2 ^ k ∧ itI n x - y = (2 : Int) ^ k * q := by
 induction k with
 | zero => exact ⟨0, x - y, by decide, by simp [itI]⟩
 | succ k ih =>
  obtain ⟨n, q, hn, h⟩ := ih
  have e : 2 ^ (k + 1) = 2 ^ k + 2 ^ k := by rw [Nat.pow_succ]; omega
  rcases Int.emod_two_eq q with h0 | h1
  ·refine ⟨n, q / 2, by omega, ?_⟩
   have : q = 2 * (q / 2) := by omega
   rw [h, Int.pow_succ, Int.mul_assoc, ← this]
  ·obtain ⟨A, B, u, v, ha, hA, hB⟩ := aff k
   have hq : q = 2 * (q / 2) + 1 := by omega
   rw [hq] at h
   refine ⟨n + 2 ^ k, q / 2 + 2 * u * itI n x + 1 + v, by omega, ?_⟩
   ·rw [itI_add, ha, Int.pow_succ]
    exact reach_step A B _ u v _ _ _ hA hB h
def itH : Nat → Int → Int
 | 0, h => h
 | n + 1, h => itH n (nextH h)
theorem itH_add (m n : Nat) : ∀ x, itH (m + n) x = itH n (itH m x) := by
 induction m with
 | zero => intro x; rw [Nat.zero_add]; rfl
 | succ m ih => intro x; rw [Nat.succ_add]; exact ih (nextH x)
def Same (x y : Int) : Prop := ∃ q : Int, x = y + 18446744073709551616 * q
theorem wrap_same (x : Int) : Same (wrap64 x) x := ⟨-((x + 9223372036854775808) / 18446744073709551616), by unfold wrap64; omega⟩
theorem same_wrap {x y : Int} (h : Same x y) : wrap64 x = wrap64 y := by
 obtain ⟨q, rfl⟩ := h
 unfold wrap64; omega
theorem nextH_step (h : Int) : nextH h = wrap64 (stepI h) := by
 unfold nextH stepI
 obtain ⟨q, hq⟩ := wrap_same (h * 6364136223846793005)
 exact same_wrap ⟨q, by omega⟩
theorem same_step {x y : Int} (h : Same x y) : Same (stepI x) (stepI y) := by
 obtain ⟨q, rfl⟩ := h
 exact ⟨6364136223846793005 * q, by unfold stepI; omega⟩
theorem nextH_same {x y : Int} (h : Same x y) : nextH x = nextH y := by
 rw [nextH_step, nextH_step]
 exact same_wrap (same_step h)
theorem same_trans {x y z : Int} (h : Same x y) (k : Same y z) : Same x z := by
 obtain ⟨q, rfl⟩ := h
 obtain ⟨p, rfl⟩ := k
 exact ⟨p + q, by omega⟩
theorem itI_same (n : Nat) : ∀ x y : Int, Same x y → Same (itI n x) (itI n y) := by
 induction n with
 | zero => intro x y h; exact h
 | succ n ih => intro x y h; exact ih _ _ (same_step h)
theorem itH_same (n : Nat) : ∀ h, Same (itH n h) (itI n h) := by
 induction n with
 | zero => intro h; exact ⟨0, by simp [itH, itI]⟩
 | succ n ih =>
  intro h
  refine same_trans (ih (nextH h)) (itI_same n _ _ ?_)
  rw [nextH_step]
  exact wrap_same _
theorem comes (h : Int) : ∃ n, n < 18446744073709551616 ∧ Same (itH n h) 0 := by
 obtain ⟨n, q, hn, e⟩ := reach 64 h 0
 refine ⟨n, by simpa using hn, same_trans (itH_same n h) ⟨q, ?_⟩⟩
 have e2 : (2 : Int) ^ 64 = 18446744073709551616 := by decide
 rw [e2] at e
 omega
theorem least {P : Nat → Prop} : ∀ n, P n → ∃ m, m ≤ n ∧ P m ∧ ∀ j, j < m → ¬ P j := by
 intro n
 induction n using Nat.strongRecOn with
 | _ n ih =>
  intro h
  by_cases hj : ∃ j, j < n ∧ P j
  ·obtain ⟨j, hj, hp⟩ := hj
   obtain ⟨m, h1, h2, h3⟩ := ih j hj hp
   exact ⟨m, by omega, h2, h3⟩
  ·exact ⟨n, Nat.le_refl _, h, fun j hjn hp => hj ⟨j, hjn, hp⟩⟩
theorem dist_ex (h : Int) : ∃ m, m < 18446744073709551616 ∧ Same (itH m h) 0 ∧ ∀ j, j < m → ¬ Same (itH j h) 0 := by
 obtain ⟨n, hn, hs⟩ := comes h
 obtain ⟨m, h1, h2, h3⟩ := least (P := fun j => Same (itH j h) 0) n hs
 exact ⟨m, by omega, h2, h3⟩
noncomputable def dist (h : Int) : Nat := Classical.choose (dist_ex h)
theorem dist_lt (h : Int) : dist h < 18446744073709551616 := (Classical.choose_spec (dist_ex h)).1
theorem dist_at (h : Int) : Same (itH (dist h) h) 0 := (Classical.choose_spec (dist_ex h)).2.1
theorem dist_le (h : Int) (m : Nat) (hm : Same (itH m h) 0) : dist h ≤ m := by
 rcases Nat.lt_or_ge m (dist h) with h1 | h1
 ·exact absurd hm ((Classical.choose_spec (dist_ex h)).2.2 m h1)
 ·exact h1
theorem dist_next (h : Int) (r : Nat) (hr : r ≤ dist h) : dist (itH r h) ≤ dist h - r := by
 apply dist_le
 rw [← itH_add, show r + (dist h - r) = dist h by omega]
 exact dist_at h
def gx (h : Int) : Int := bits BinOp.xor IntKind.i64 (nextH h / 8589934592) (nextH h / 35184372088832) % 256
theorem gx_same {x y : Int} (h : Same x y) : gx x = gx y := by unfold gx; rw [nextH_same h]
theorem gx_at (bs : Nat → Int) (n : Nat) (h : Int) : byteAt bs n n h = gx h := by unfold byteAt gx; rw [if_neg (by omega), Int.add_zero]
theorem gx_0 : gx 0 = 148 := by decide +kernel
theorem gx_1 : gx (nextH 0) = 79 := by decide +kernel
noncomputable def wait (h : Int) : Nat := if 3 ≤ gx h % 5 then 0 else dist h + 1
theorem wait_lt (h : Int) : wait h < 18446744073709551618 := by unfold wait; have := dist_lt h; split <;> omega
theorem dist_pos (h : Int) (hb : ¬ 3 ≤ gx h % 5) : 1 ≤ dist h := by
 rcases Nat.eq_zero_or_pos (dist h) with h0 | h0
 ·have := dist_at h
  rw [h0] at this
  rw [gx_same (show Same h 0 from this), gx_0] at hb
  omega
 ·exact h0
theorem wait_one (h : Int) (hb : ¬ 3 ≤ gx h % 5) : wait (nextH h) < wait h := by
 have h1 := dist_pos h hb
 have h2 := dist_next h 1 h1
 have e : itH 1 h = nextH h := rfl
 rw [e] at h2
 unfold wait
 rw [if_neg hb]
 split <;> omega
theorem wait_three (h : Int) (hb : ¬ 3 ≤ gx h % 5) (h3 : gx (nextH h) % 9 = 0 ∨ gx (nextH (nextH h)) % 20 = 0) : wait (nextH (nextH (nextH h))) < wait h := by
 have h1 := dist_pos h hb
 have e3 : itH 3 h = nextH (nextH (nextH h)) := rfl
 have e2 : itH 2 h = nextH (nextH h) := rfl
 have e1 : itH 1 h = nextH h := rfl
 have hat := dist_at h
 unfold wait
 rw [if_neg hb]
 split
 ·omega
 ·rename_i hb3
  have h12 : dist h ≠ 1 := by
   intro he
   rw [he, e1] at hat
   rw [gx_same hat, gx_0, nextH_same hat, gx_1] at h3
   omega
  have h22 : dist h ≠ 2 := by
   intro he
   rw [he, e2] at hat
   rw [nextH_same hat, gx_1] at hb3
   omega
  have h2 := dist_next h 3 (by omega)
  rw [e3] at h2
  omega
end Go.Proofs.YthklebkpoccblaaGreat
namespace Go.Proofs.YthklebkpoccblaaGreat
open Go.RowKit
theorem below_then {a b c : World} (h : Below a.heap.size a b) (k : Below b.heap.size b c) : Below a.heap.size a c := h.trans (k.mono h.size)
theorem below_alloc {a b : World} (h : Below a.heap.size a b) (o : Obj) : Below a.heap.size a (b.alloc o) := h.alloc h.size o
theorem blk_new (w : World) (o : Obj) : (w.alloc o).heap[w.heap.size]? = some o := by show (w.heap.push o)[w.heap.size]? = _; simp
theorem blk_old {w : World} {o : Obj} {b : Nat} {x : Obj} (h : w.heap[b]? = some x) : (w.alloc o).heap[b]? = some x := by
 have hb : b < w.heap.size := (Array.getElem?_eq_some_iff.1 h).1
 show (w.heap.push o)[b]? = _
 rw [Array.getElem?_push_lt hb, ← h, Array.getElem?_eq_getElem hb]
theorem blk_grown {w w' : World} {g b : Nat} {x : Obj} (h : w.heap[b]? = some x) (hg : w.grownBy w' (some g)) (hne : b ≠ g) : w'.heap[b]? = some x :=
 (hg.block b (Array.getElem?_eq_some_iff.1 h).1 (by simp [hne])).trans h
theorem blk_below {w w' : World} {b : Nat} {x : Obj} (h : w.heap[b]? = some x) (hb : Below w.heap.size w w') : w'.heap[b]? = some x :=
 (hb.block b (Array.getElem?_eq_some_iff.1 h).1).trans h
theorem cell_of_blk {w : World} {b i : Nat} {cs : Array Value} {t : TypeId} {v : Value} (h : w.heap[b]? = some (.cells cs t (0, 0))) (hv : cs[i]? = some v) : w.cell? ⟨b, i, none⟩ = some v := by
 unfold World.cell?; rw [h]; exact hv
theorem free_of_blk {w : World} {b i : Nat} {cs : Array Value} {t : TypeId} (h : w.heap[b]? = some (.cells cs t (0, 0))) : w.frozen? ⟨b, i, none⟩ = false := by
 unfold World.frozen?; rw [h]; simp
theorem addr_add (r k : Nat) : (⟨r, 0, none⟩ : Addr).add k = ⟨r, k, none⟩ := by cases k <;> simp [Addr.add]
theorem alloc_size (w : World) (o : Obj) : (w.alloc o).heap.size = w.heap.size + 1 := by simp
theorem blk_new2 (w : World) (o o2 : Obj) : ((w.alloc o).alloc o2).heap[w.heap.size + 1]? = some o2 := by
 have := blk_new (w.alloc o) o2
 rwa [alloc_size] at this
end Go.Proofs.YthklebkpoccblaaGreat
namespace Go.Proofs.YthklebkpoccblaaGreat
open Go.RowKit
theorem odd_mid {w w3 : World} {g n c V : Nat} {A : Option Addr} {cs : Array Value} {t t2 : TypeId} {old : Array Value} (hV : w3.heap[V]? = some (.cells cs t (0, 0))) (hR : w3.heap[w.heap.size]? = some (.cells old t2 (0, 0)))
  (hc : Cur w3 g A n c) (hg : w.grownBy w3 (some g)) (hVg : V ≠ g) (hRV : w.heap.size < V) (j : Nat) (v : Value) :
  (w3.setCell ⟨V, j, none⟩ v).heap[V]? = some (.cells (cs.setIfInBounds j v) t (0, 0)) ∧ (w3.setCell ⟨V, j, none⟩ v).heap[w.heap.size]? = some (.cells old t2 (0, 0)) ∧
  Cur (w3.setCell ⟨V, j, none⟩ v) g A n c ∧ w.grownBy (w3.setCell ⟨V, j, none⟩ v) (some g) := by
 rw [setCell_eq_setRow _ _ _ _ _ _ _ hV]
 exact ⟨setRow_heap _ _ _ _ _ _ hV, (setRow_other _ _ _ _ (by omega)).trans hR, hc.keep (setRow_other _ _ _ _ (Ne.symm hVg)),
  ⟨hg.os, hg.tape, hg.output, by rw [setRow_size]; exact hg.size, fun k hk hn => (setRow_other _ _ _ _ (by omega)).trans (hg.block k hk hn)⟩⟩
theorem row_end {w w1 : World} {g n c : Nat} {A : Option Addr} {old : Array Value} {t : TypeId} (hk : w1.heap[w.heap.size]? = some (.cells old t (0, 0))) (hc : Cur w1 g A n c) (hg : w.grownBy w1 (some g)) (hne : w.heap.size ≠ g) (cs : Array Value) :
  (w1.setRow w.heap.size cs).heap[w.heap.size]? = some (.cells cs t (0, 0)) ∧ Cur (w1.setRow w.heap.size cs) g A n c ∧ w.grownBy (w1.setRow w.heap.size cs) (some g) :=
 ⟨setRow_heap _ _ _ _ _ _ hk, hc.keep (setRow_other _ _ _ _ (Ne.symm hne)), ⟨hg.os, hg.tape, hg.output, by rw [setRow_size]; exact hg.size, fun j hj hn => (setRow_other _ _ _ _ (by omega)).trans (hg.block j hj hn)⟩⟩
theorem grown_drew {a b : World} {g : Nat} (h : a.drew.grownBy b (some g)) : a.grownBy b (some g) := ⟨h.os, h.tape, h.output, h.size, h.block⟩
theorem Drawn.drew {B g n c : Nat} {A : Option Addr} {w : World} (h : Drawn B g n c A w) : Drawn B g n c A w.drew := ⟨h.hB, h.hBg, h.code, h.cur⟩
end Go.Proofs.YthklebkpoccblaaGreat
namespace Go.Proofs.YthklebkpoccblaaGreat
def b8 (v : Int) : UInt8 := UInt8.ofNat (v % 256).toNat
theorem b8_val (v : Int) : ((b8 v).toNat : Int) = v % 256 := by unfold b8; simp [UInt8.toNat_ofNat']; omega
end Go.Proofs.YthklebkpoccblaaGreat
