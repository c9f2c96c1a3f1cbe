/-
  Texts put together by program: DrA.
  Conditions: as each theorem says.
-/
import Derived.BigQuiet
import Derived.Deep.OwnRows
import Derived.Deep.QuietTactic
import Derived.Handy
import Derived.Laws.AppendOwn
import Derived.Laws.BitsLemmas
import Derived.Laws.Rows
import Derived.Lib.Hide
import Derived.OpenShut
import Derived.ProofKit
import Derived.Test.YtboeaeoefoabdaaGreatDoorProg
import Derived.WalkKit
namespace Go.Proofs.YtboeaeoefoabdaaGreatDoor
open Go.RowKit
theorem i64_and255 (n : Int) : bits .and .i64 n 255 = n % 256 := by
 have h15 : (BitVec.ofInt 64 255).toNat = 2 ^ 8 - 1 := by decide
 have key : (BitVec.ofInt 64 n &&& BitVec.ofInt 64 255).toNat = (n % ((2 ^ 64 : Nat) : Int)).toNat % 2 ^ 8 := by
  rw [BitVec.toNat_and, BitVec.toNat_ofInt, h15, Nat.and_two_pow_sub_one_eq_mod]
 show IntKind.i64.wrap ((BitVec.ofInt 64 n &&& BitVec.ofInt 64 255).toNat : Nat) = n % 256
 rw [key, IntKind.wrap_i64]
 omega
theorem i64_and30 (n : Int) : bits .and .i64 n 1073741823 = n % 1073741824 := by
 have h15 : (BitVec.ofInt 64 1073741823).toNat = 2 ^ 30 - 1 := by decide
 have key : (BitVec.ofInt 64 n &&& BitVec.ofInt 64 1073741823).toNat = (n % ((2 ^ 64 : Nat) : Int)).toNat % 2 ^ 30 := by
  rw [BitVec.toNat_and, BitVec.toNat_ofInt, h15, Nat.and_two_pow_sub_one_eq_mod]
 show IntKind.i64.wrap ((BitVec.ofInt 64 n &&& BitVec.ofInt 64 1073741823).toNat : Nat) = n % 1073741824
 rw [key, IntKind.wrap_i64]
 omega
def Code (w : World) (B : Nat) (A : Option Addr) (n : Nat) : Prop :=
 n ≤ 1048576 ∧ (n = 0 ∨ ∃ b off, A = some ⟨b, off, none⟩ ∧ b < B ∧ ∀ i, i < n → ∃ v : Int, 0 ≤ v ∧ v ≤ 255 ∧ w.cell? ⟨b, off + i, none⟩ = some (.int .u8 v))
theorem Code.keep {w w' : World} {B n : Nat} {A : Option Addr} (h : Code w B A n) (hk : ∀ p : Addr, p.block < B → w'.cell? p = w.cell? p) : Code w' B A n := by
 obtain ⟨h1, h2⟩ := h
 refine ⟨h1, h2.imp_right ?_⟩
 rintro ⟨b, off, rfl, hb, hc⟩
 refine ⟨b, off, rfl, hb, fun i hi => ?_⟩
 obtain ⟨v, h3, h4, h5⟩ := hc i hi
 exact ⟨v, h3, h4, (hk _ hb).trans h5⟩
theorem Code.grown {w w' : World} {B n g : Nat} {A : Option Addr} (h : Code w B A n) (hB : B ≤ w.heap.size) (hg : w.grownBy w' (some g)) (hgB : B ≤ g) : Code w' B A n :=
 h.keep fun p hp => World.cell?_of_block (hg.block p.block (by omega) (by simp; omega))
theorem Code.below {w w' : World} {B n : Nat} {A : Option Addr} (h : Code w B A n) (hB : B ≤ w.heap.size) (hb : Below w.heap.size w w') : Code w' B A n :=
 h.keep fun p hp => hb.cell (by omega)
theorem Code.at_ {w : World} {B n : Nat} {A : Option Addr} (h : Code w B A n) {i : Nat} (hi : i < n) : ∃ b off v, A = some ⟨b, off, none⟩ ∧ b < B ∧ 0 ≤ v ∧ v ≤ 255 ∧ w.cell? ⟨b, off + i, none⟩ = some (.int .u8 v) := by
 rcases h.2 with h0 | ⟨b, off, rfl, hb, hc⟩
 ·omega
 ·obtain ⟨v, h1, h2, h3⟩ := hc i hi
  exact ⟨b, off, v, rfl, hb, h1, h2, h3⟩
def Cur (w : World) (g : Nat) (A : Option Addr) (n c : Nat) : Prop := ∃ (i : Nat) (h : Int), i ≤ n ∧ w.heap[g]? = some (.cells #[.slice A n c, .int .i64 i, .int .i64 h] 98 (0, 0))
theorem Cur.lt {w : World} {g n c : Nat} {A : Option Addr} (h : Cur w g A n c) : g < w.heap.size := by
 obtain ⟨_, _, _, hb⟩ := h
 exact (Array.getElem?_eq_some_iff.1 hb).1
theorem Cur.keep {w w' : World} {g n c : Nat} {A : Option Addr} (h : Cur w g A n c) (e : w'.heap[g]? = w.heap[g]?) : Cur w' g A n c := by
 obtain ⟨i, x, hi, hb⟩ := h
 exact ⟨i, x, hi, e.trans hb⟩
theorem Cur.below {w w' : World} {g n c : Nat} {A : Option Addr} (h : Cur w g A n c) (hb : Below w.heap.size w w') : Cur w' g A n c := h.keep (hb.block g h.lt)
theorem grown_set {w wr : World} {b : Nat} (h : w.grownBy wr (some b)) (i : Nat) (v : Value) : w.grownBy (wr.setCell ⟨b, i, none⟩ v) (some b) := by
 refine ⟨h.os, h.tape, h.output, by simpa [World.setCell] using h.size, fun g hg hne => ?_⟩
 rw [Below.heap_setCell _ _ _ _ (fun e => hne (by rw [e]))]
 exact h.block g hg hne
theorem grown_drewN {w wr : World} {b : Nat} (h : w.grownBy wr (some b)) (q : Nat) : w.grownBy (wr.drewN q) (some b) := ⟨h.os, h.tape, h.output, h.size, h.block⟩
theorem grown_trans {a b c : World} {g : Nat} (h : a.grownBy b (some g)) (k : b.grownBy c (some g)) : a.grownBy c (some g) :=
 ⟨k.os.trans h.os, k.tape.trans h.tape, k.output.trans h.output, Nat.le_trans h.size k.size, fun x hx hn => (k.block x (Nat.lt_of_lt_of_le hx h.size) hn).trans (h.block x hx hn)⟩
theorem grown_below {a b c : World} {g : Nat} (h : a.grownBy b (some g)) (k : Below b.heap.size b c) : a.grownBy c (some g) :=
 ⟨k.os.trans h.os, k.tape.trans h.tape, k.output.trans h.output, Nat.le_trans h.size k.size, fun x hx hn => (k.block x (Nat.lt_of_lt_of_le hx h.size)).trans (h.block x hx hn)⟩
theorem grown_of_below {a b : World} {g : Nat} (k : Below a.heap.size a b) : a.grownBy b (some g) := ⟨k.os, k.tape, k.output, k.size, fun x hx _ => k.block x hx⟩
def DrawPost (lo hi : Int) (g : Nat) (A : Option Addr) (n c : Nat) (w : World) (e : Ending) (w' : World) : Prop :=
 ∃ x : Int, e = .returned (.int .i64 x) ∧ lo ≤ x ∧ x ≤ hi ∧ Cur w' g A n c ∧ w.grownBy w' (some g)
theorem Cur.cells {w : World} {g n c : Nat} {A : Option Addr} {i : Nat} {h : Int} (hb : w.heap[g]? = some (.cells #[.slice A n c, .int .i64 i, .int .i64 h] 98 (0, 0))) :
  w.cell? ⟨g, 0, none⟩ = some (.slice A n c) ∧ w.cell? ⟨g, 1, none⟩ = some (.int .i64 i) ∧ w.cell? ⟨g, 2, none⟩ = some (.int .i64 h) ∧ w.frozen? ⟨g, 1, none⟩ = false ∧ w.frozen? ⟨g, 2, none⟩ = false := by
 refine ⟨?_, ?_, ?_, ?_, ?_⟩ <;> simp [World.cell?, World.frozen?, hb]
theorem Cur.set2 {w : World} {g n c : Nat} {A : Option Addr} {i : Nat} {h : Int} (hi : i ≤ n) (hb : w.heap[g]? = some (.cells #[.slice A n c, .int .i64 i, .int .i64 h] 98 (0, 0))) (x : Int) : Cur (w.setCell ⟨g, 2, none⟩ (.int .i64 x)) g A n c :=
 ⟨i, x, hi, by simp [World.setCell, Array.getElem?_modify, hb]⟩
theorem Cur.set1 {w : World} {g n c : Nat} {A : Option Addr} (h : Cur w g A n c) (i : Nat) (hi : i ≤ n) (x : Int) (hx : x = i) : Cur (w.setCell ⟨g, 1, none⟩ (.int .i64 x)) g A n c := by
 subst hx
 obtain ⟨j, x, hj, hb⟩ := h
 exact ⟨i, x, hi, by simp [World.setCell, Array.getElem?_modify, hb]⟩
set_option maxRecDepth 100000 in
set_option maxHeartbeats 1000000 in
theorem l01Byte_any (B g n c : Nat) (A : Option Addr) (w : World) (hBg : B ≤ g) (hcode : Code w B A n) (hcur : Cur w g A n c) :
  Calls Tryz.prog 83 #[.pointer (some ⟨g, 0, none⟩)] w (DrawPost 0 255 g A n c w) := by
 obtain ⟨i, h, hi, hb⟩ := hcur
 obtain ⟨c0, c1, c2, f1, f2⟩ := Cur.cells hb
 have hS := fun x => Cur.set2 hi hb x
 have hG := fun x => grown_set (World.grownBy.refl w (some g)) 2 (.int .i64 x)
 have hn := hcode.1
 have h255 := i64_and255
 by_cases hlt : i < n
 ·obtain ⟨b, off, v, rfl, hbB, hv0, hv1, hcv⟩ := hcode.at_ hlt
  have hne : b ≠ g := by omega
  clear hcode hb
  have h0 : (0 : Int) ≤ (i : Int) := by omega
  have h1 : (i : Int) < (n : Int) := by omega
  go_enter Tryz.func83, Tryz.ntmps83
  go_wp2
  go_quiet (fail)
  go_wp2
  go_quiet (fail)
  go_wp2
  go_quiet (fail)
  go_wp2
  go_ret
  refine ⟨_, rfl, by omega, by omega, ?_, ?_⟩
  ·exact Cur.set1 (hS _) (i + 1) (by omega) _ (by omega)
  ·first | exact grown_drewN (grown_set (hG _) 1 _) _ | exact grown_set (hG _) 1 _
 ·obtain rfl : i = n := by omega
  clear hcode hb
  go_enter Tryz.func83, Tryz.ntmps83
  go_wp2
  go_quiet (fail)
  go_wp2
  go_quiet (fail)
  go_wp2
  go_ret
  refine ⟨_, rfl, by omega, by omega, ?_, ?_⟩
  ·exact hS _
  ·exact grown_drewN (grown_drewN (hG _) _) _
structure Drawn (B g n c : Nat) (A : Option Addr) (w : World) : Prop where
 hB : B ≤ w.heap.size
 hBg : B ≤ g
 code : Code w B A n
 cur : Cur w g A n c
theorem Drawn.next {B g n c : Nat} {A : Option Addr} {w w' : World} (h : Drawn B g n c A w) (hc : Cur w' g A n c) (hg : w.grownBy w' (some g)) : Drawn B g n c A w' :=
 ⟨Nat.le_trans h.hB hg.size, h.hBg, h.code.grown h.hB hg h.hBg, hc⟩
theorem Drawn.below {B g n c : Nat} {A : Option Addr} {w w' : World} (h : Drawn B g n c A w) (hb : Below w.heap.size w w') : Drawn B g n c A w' :=
 ⟨Nat.le_trans h.hB hb.size, h.hBg, h.code.below h.hB hb, h.cur.below hb⟩
theorem l01Byte_d {B g n c : Nat} {A : Option Addr} {w : World} (h : Drawn B g n c A w) : Calls Tryz.prog 83 #[.pointer (some ⟨g, 0, none⟩)] w (DrawPost 0 255 g A n c w) :=
 l01Byte_any B g n c A w h.hBg h.code h.cur
set_option maxHeartbeats 1000000 in
theorem l01Below_any {B g n c : Nat} {A : Option Addr} {w : World} (h : Drawn B g n c A w) (k : Int) (hk : 1 ≤ k) (hk2 : k ≤ 4294967296) :
  Calls Tryz.prog 46 #[.pointer (some ⟨g, 0, none⟩), .int .i64 k] w (DrawPost 0 (k - 1) g A n c w) := by
 by_cases h256 : k ≤ 256
 ·have hy := l01Byte_d h
  clear h
  go_enter Tryz.func46, Tryz.ntmps46
  go_wp2_with (go_at_call 83; refine hy.mono ?_; rintro e w' ⟨x, rfl, h0, h1, hc, hg⟩)
  go_ret
  have h2 := Int.emod_nonneg x (by omega : k ≠ 0)
  have h3 := Int.emod_lt_of_pos x (by omega : 0 < k)
  exact ⟨_, rfl, h2, by omega, hc, hg⟩
 ·have H := Lib.hid h
  clear h
  go_enter Tryz.func46, Tryz.ntmps46
  go_wp2_with (go_at_call 83; refine (l01Byte_d H.out).mono ?_; rintro e w1 ⟨x1, rfl, a1, b1, hc1, hg1⟩; refine Hid.out ?_)
  have H1 := Lib.hid (H.out.next hc1 hg1)
  clear hc1
  refine Lib.hid ?_
  go_wp2_with (go_at_call 83; refine (l01Byte_d H1.out).mono ?_; rintro e w2 ⟨x2, rfl, a2, b2, hc2, hg2⟩; refine Hid.out ?_)
  have H2 := Lib.hid (H1.out.next hc2 hg2)
  have hg2 := grown_trans hg1 hg2
  clear hc2 hg1
  refine Lib.hid ?_
  go_wp2_with (go_at_call 83; refine (l01Byte_d H2.out).mono ?_; rintro e w3 ⟨x3, rfl, a3, b3, hc3, hg3⟩; refine Hid.out ?_)
  have H3 := Lib.hid (H2.out.next hc3 hg3)
  have hg3 := grown_trans hg2 hg3
  clear hc3 hg2
  refine Lib.hid ?_
  go_wp2_with (go_at_call 83; refine (l01Byte_d H3.out).mono ?_; rintro e w4 ⟨x4, rfl, a4, b4, hc4, hg4⟩; refine Hid.out ?_)
  have hg4 := grown_trans hg3 hg4
  clear hg3
  refine Lib.hid ?_
  go_wp2
  go_ret
  have h2 := Int.emod_nonneg (x1 * 16777216 + x2 * 65536 + x3 * 256 + x4) (by omega : k ≠ 0)
  have h3 := Int.emod_lt_of_pos (x1 * 16777216 + x2 * 65536 + x3 * 256 + x4) (by omega : 0 < k)
  exact ⟨_, rfl, h2, by omega, hc4, hg4⟩
def OncePost (g : Nat) (A : Option Addr) (n c : Nat) (w : World) (e : Ending) (w' : World) : Prop :=
 ∃ x : Bool, e = .returned (.bool x) ∧ Cur w' g A n c ∧ w.grownBy w' (some g)
theorem l01Once_any {B g n c : Nat} {A : Option Addr} {w : World} (h : Drawn B g n c A w) (k : Int) (hk : 1 ≤ k) (hk2 : k ≤ 4294967296) :
  Calls Tryz.prog 34 #[.pointer (some ⟨g, 0, none⟩), .int .i64 k] w (OncePost g A n c w) := by
 have hy := l01Below_any h k hk hk2
 clear h
 go_enter Tryz.func34, Tryz.ntmps34
 go_wp2_with (go_at_call 46; refine hy.mono ?_; rintro e w' ⟨x, rfl, h0, h1, hc, hg⟩)
 go_ret
 exact ⟨_, rfl, hc, hg⟩
def I64 (x : Int) : Prop := -9223372036854775808 ≤ x ∧ x ≤ 9223372036854775807
set_option maxHeartbeats 1000000 in
theorem l01PickInt_any {B g n c r k cap : Nat} {A : Option Addr} {w : World} (h : Drawn B g n c A w) (hk : 1 ≤ k) (hk2 : k ≤ 1000) (hne : r ≠ g) (hr : r < w.heap.size)
  (hrow : ∀ i, i < k → ∃ v : Int, I64 v ∧ w.cell? ⟨r, i, none⟩ = some (.int .i64 v)) :
  Calls Tryz.prog 44 #[.pointer (some ⟨g, 0, none⟩), .slice (some ⟨r, 0, none⟩) k cap] w (DrawPost (-9223372036854775808) 9223372036854775807 g A n c w) := by
 have hy := l01Below_any h (k : Int) (by omega) (by omega)
 have HR := Lib.hid hrow
 clear h hrow
 go_enter Tryz.func44, Tryz.ntmps44
 go_wp2_with (go_at_call 46; refine hy.mono ?_; rintro e w1 ⟨x, rfl, h0, h1, hc, hg⟩; refine Hid.out ?_)
 obtain ⟨X, rfl⟩ : ∃ X : Nat, x = X := ⟨x.toNat, by omega⟩
 have hX : X < k := by omega
 obtain ⟨v, hv, hcv⟩ := HR.out X hX
 have hc1 : w1.cell? ⟨r, X, none⟩ = some (.int .i64 v) := (World.cell?_of_block (hg.block r hr (by simp [hne]))).trans hcv
 obtain ⟨hv0, hv1⟩ := hv
 clear hcv hy
 refine Lib.hid ?_
 go_wp2
 go_ret
 exact ⟨_, rfl, hv0, hv1, hc, hg⟩
def PickPost (g : Nat) (A : Option Addr) (n c : Nat) (w : World) (e : Ending) (w' : World) : Prop :=
 ∃ s : ByteArray, e = .returned (.string s) ∧ s.size ≤ 100 ∧ Cur w' g A n c ∧ w.grownBy w' (some g)
theorem new_row (w : World) (cs : Array Value) (t : TypeId) (i : Nat) : (w.alloc (.cells cs t)).cell? ⟨w.heap.size, i, none⟩ = cs[i]? :=
 cell_of_row _ _ i cs t (0, 0) (heap_alloc_new w _)
def NewPost (A : Option Addr) (n c : Nat) (w : World) (e : Ending) (w' : World) : Prop :=
 e = .returned (.pointer (some ⟨w.heap.size, 0, none⟩)) ∧ Cur w' w.heap.size A n c ∧ Below w.heap.size w w'
set_option maxRecDepth 100000 in
set_option maxHeartbeats 1000000 in
theorem l01New_any (B n c : Nat) (A : Option Addr) (w : World) (hcode : Code w B A n) :
  Calls Tryz.prog 33 #[.slice A n c] w (NewPost A n c w) := by
 have hn := hcode.1
 have h30 := i64_and30
 go_enter Tryz.func33, Tryz.ntmps33
 go_wp2
 go_loop [3, 4] (fun v3 v4 => ∃ (k : Nat) (x : Int), k ≤ n ∧ 0 ≤ x ∧ x ≤ 1073741824 ∧ v4 = .int .i64 k ∧ v3 = .int .i64 x) (fun _ v4 => n - (intOf v4).toNat)
 case atStart => exact ⟨0, _, by omega, by omega, by omega, rfl, rfl⟩
 case round =>
  obtain ⟨k, x, hk, h0, h1, rfl, rfl⟩ := hrel
  by_cases hlt : k < n
  ·obtain ⟨b, off, v, rfl, hbB, hv0, hv1, hcv⟩ := hcode.at_ hlt
   by_cases h4 : k < 4000
   ·have i0 : (0 : Int) ≤ (k : Int) := by omega
    have i1 : (k : Int) < (n : Int) := by omega
    clear hcode
    go_wp2
    go_round
    case rel => exact ⟨k + 1, _, by omega, by omega, by omega, by go_num, rfl⟩
    case measure => simp [intOf]; omega
   ·clear hcode
    go_wp2
    go_ret
    exact ⟨rfl, ⟨0, x, by omega, heap_alloc_new w _⟩, (Below.refl _ _).alloc (Nat.le_refl _) _⟩
  ·clear hcode
   go_wp2
   go_ret
   exact ⟨rfl, ⟨0, x, by omega, heap_alloc_new w _⟩, (Below.refl _ _).alloc (Nat.le_refl _) _⟩
def AllI (l : List Value) : Prop := ∀ i, i < l.length → ∃ v : Int, I64 v ∧ l[i]? = some (.int .i64 v)
theorem allI_nil : AllI [] := fun _ hi => absurd hi (Nat.not_lt_zero _)
theorem allI_cons {x : Int} {l : List Value} (h : I64 x) (hl : AllI l) : AllI (.int .i64 x :: l) := by
 intro i hi
 cases i with
 | zero => exact ⟨x, h, rfl⟩
 | succ i => simpa using hl i (by simpa using hi)
theorem pickInt_new {B g n c k : Nat} {A : Option Addr} {w : World} (h : Drawn B g n c A w) (cs : List Value) (hs : cs.length = k) (hk : 1 ≤ k) (hk2 : k ≤ 1000) (hall : AllI cs) :
  Calls Tryz.prog 44 #[.pointer (some ⟨g, 0, none⟩), .slice (some ⟨w.heap.size, 0, none⟩) k k] (w.alloc (.cells cs.toArray 3)) (DrawPost (-9223372036854775808) 9223372036854775807 g A n c w) := by
 have hb : Below w.heap.size w (w.alloc (.cells cs.toArray 3)) := (Below.refl _ _).alloc (Nat.le_refl _) _
 refine (l01PickInt_any (h.below hb) hk hk2 (by have := h.cur.lt; omega) (by simp) (fun i hi => ?_)).mono ?_
 ·obtain ⟨v, hv, e⟩ := hall i (by omega)
  exact ⟨v, hv, by rw [new_row]; simpa using e⟩
 ·rintro e w' ⟨x, rfl, h0, h1, hc, hg⟩
  exact ⟨x, rfl, h0, h1, hc, grown_trans (grown_of_below hb) hg⟩
def RowB (W : World) (A : Option Addr) (n : Nat) : Prop :=
 n ≤ maxLen ∧ (n = 0 ∨ ∃ b off, A = some ⟨b, off, none⟩ ∧ b < W.heap.size ∧ ∀ i, i < n → ∃ v : Int, 0 ≤ v ∧ v ≤ 255 ∧ W.cell? ⟨b, off + i, none⟩ = some (.int .u8 v))
theorem RowB.code {W : World} {A : Option Addr} {n : Nat} (h : RowB W A n) (hn : n ≤ 1048576) : Code W W.heap.size A n := ⟨hn, h.2⟩
theorem rowB_mk {W : World} {a : Addr} {n : Nat} {zs : List Int} (hm : n ≤ maxLen) (hz : n ≤ zs.length) (hc : ∀ i, i < zs.length → W.cell? (a.add i) = some (.int .u8 (zs.getD i 0))) (hw : ∀ z ∈ zs, (Lit.int .u8 z).wf = true) : RowB W (some a) n := by
 refine ⟨hm, ?_⟩
 rcases Nat.eq_zero_or_pos n with h0 | h0
 ·exact .inl h0
 ·right
  obtain ⟨b, off, rfl, hcc⟩ := ints_at hc (by omega)
  refine ⟨b, off, rfl, World.block_lt_of_cell? _ _ (hcc 0 (by omega)), fun i hi => ⟨zs.getD i 0, ?_, ?_, hcc i (by omega)⟩⟩
  ·have := (range_u8 hw i).1
   simpa [List.getD] using this
  ·have := (range_u8 hw i).2
   simpa [List.getD] using this
end Go.Proofs.YtboeaeoefoabdaaGreatDoor
