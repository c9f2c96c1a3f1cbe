/-
  Texts put together by program: AsG, RuL, VwD.
  Conditions: as each theorem says.
-/
import Derived.LoopIn
import Derived.LoopNIn
import Derived.OwnWalkIn
import Derived.RangeFuncBound
import Derived.RangeFuncBox
import Derived.RangeFuncCalls
import Derived.RangeFuncFrom
import Derived.RangeFuncLeaves
import Derived.RangeFuncNested
import Derived.Shelf.Abstract
import Derived.Shelf.RegionOpen
import Derived.TacticsInMore
import Derived.Test.YtboeaeoefoabdaaGreatDoorPmaq
namespace Go.Proofs.YtboeaeoefoabdaaGreatDoor
open Go.RowKit
theorem low_b (n : Int) (w : World) : Calls Tryz.prog 57 #[.int .i64 n] w fun e w' => e = .returned (.int .i64 (n % 256)) ∧ w = w' := by
 have e : bits .and .i64 n 255 = n % 256 := and_255 n
 go_enter Tryz.func57, Tryz.ntmps57
 go_wp2
 go_ret
 exact ⟨rfl, rfl⟩
theorem high_b (n : Int) (w : World) : Calls Tryz.prog 58 #[.int .i64 n] w fun e w' => e = .returned (.int .i64 (n / 256 % 256)) ∧ w = w' := by
 have e : bits .and .i64 (n / 256) 255 = n / 256 % 256 := and_255 (n / 256)
 go_enter Tryz.func58, Tryz.ntmps58
 go_wp2
 go_ret
 exact ⟨rfl, rfl⟩
def Caught (gt bl bh bt : Nat) (lo hi : Int) (S : List UInt8) (w : World) : Prop := TabAt gt w ∧ gt < w.heap.size ∧ w.cell? ⟨bl, 0, none⟩ = some (.int .i64 lo) ∧ w.cell? ⟨bh, 0, none⟩ = some (.int .i64 hi) ∧ w.cell? ⟨bt, 0, none⟩ = some (.string ⟨S.toArray⟩)
theorem Caught.below {gt bl bh bt : Nat} {lo hi : Int} {S : List UInt8} {w w' : World} (h : Caught gt bl bh bt lo hi S w) (hb : Below w.heap.size w w') : Caught gt bl bh bt lo hi S w' :=
 ⟨h.1.below h.2.1 hb, Nat.lt_of_lt_of_le h.2.1 hb.size, (hb.cell (p := ⟨bl, 0, none⟩) (World.block_lt_of_cell? _ _ h.2.2.1)).trans h.2.2.1, (hb.cell (p := ⟨bh, 0, none⟩) (World.block_lt_of_cell? _ _ h.2.2.2.1)).trans h.2.2.2.1, (hb.cell (p := ⟨bt, 0, none⟩) (World.block_lt_of_cell? _ _ h.2.2.2.2)).trans h.2.2.2.2⟩
theorem keep5 {w0 w1 : World} {a b c d e : Addr} (hb : Below w0.heap.size w0 w1) {x0 x1 x2 x3 x4 : Value} (h : w0.cell? a = some x0 ∧ w0.cell? b = some x1 ∧ w0.cell? c = some x2 ∧ w0.cell? d = some x3 ∧ w0.cell? e = some x4) : w1.cell? a = some x0 ∧ w1.cell? b = some x1 ∧ w1.cell? c = some x2 ∧ w1.cell? d = some x3 ∧ w1.cell? e = some x4 :=
 ⟨(hb.cell (World.block_lt_of_cell? _ _ h.1)).trans h.1, (hb.cell (World.block_lt_of_cell? _ _ h.2.1)).trans h.2.1, (hb.cell (World.block_lt_of_cell? _ _ h.2.2.1)).trans h.2.2.1, (hb.cell (World.block_lt_of_cell? _ _ h.2.2.2.1)).trans h.2.2.2.1, (hb.cell (World.block_lt_of_cell? _ _ h.2.2.2.2)).trans h.2.2.2.2⟩
theorem keep6 {w w0 w1 : World} {a b c d e : Addr} {x0 x1 x2 x3 x4 : Value} (h : w0.cell? a = some x0 ∧ w0.cell? b = some x1 ∧ w0.cell? c = some x2 ∧ w0.cell? d = some x3 ∧ w0.cell? e = some x4 ∧ Hid (Below w.heap.size w w0)) (hb : Below w0.heap.size w0 w1) : w1.cell? a = some x0 ∧ w1.cell? b = some x1 ∧ w1.cell? c = some x2 ∧ w1.cell? d = some x3 ∧ w1.cell? e = some x4 ∧ Hid (Below w.heap.size w w1) := by
 obtain ⟨h1, h2, h3, h4, h5⟩ := keep5 hb ⟨h.1, h.2.1, h.2.2.1, h.2.2.2.1, h.2.2.2.2.1⟩
 exact ⟨h1, h2, h3, h4, h5, Lib.hid (below_then h.2.2.2.2.2.out hb)⟩
set_option maxRecDepth 100000 in
set_option maxHeartbeats 4000000 in
theorem asm_closure (gt bl bh bt : Nat) (lo hi : Int) (S : List UInt8) (z : Nat) (hz : z < 256) (w : World) (hc : Caught gt bl bh bt lo hi S w) :
  Calls Tryz.prog 62 #[.int .u8 (z : Int), .pointer (some ⟨gt, 0, none⟩), .pointer (some ⟨bl, 0, none⟩), .pointer (some ⟨bh, 0, none⟩), .pointer (some ⟨bt, 0, none⟩)] w fun e w' => ∃ b : Bool, e = .returned (.bool b) ∧ (b = true ↔ IsL S lo hi (z : Int)) ∧ Below w.heap.size w w' := by
 obtain ⟨ht, hgt, cl, ch, ct⟩ := hc
 obtain ⟨t0, t1⟩ := ht z hz
 have hs := (row_small ⟨z, hz⟩).1
 have HT := fun w => impl_opText (rowAt z).1 (rowAt z).2 hs lo hi w
 obtain ⟨X, hX⟩ : ∃ X : ByteArray, X = ⟨(opT (rowAt z).1 (rowAt z).2 lo hi).toArray⟩ := ⟨_, rfl⟩
 rw [← hX] at HT
 have HE : Hid (X = ⟨S.toArray⟩ ↔ IsL S lo hi (z : Int)) := Lib.hid (by
  unfold IsL
  rw [hX, Int.toNat_natCast]
  constructor
  ·intro h
   simpa using congrArg (fun b : ByteArray => b.data.toList) h
  ·intro h; rw [h])
 generalize (rowAt z).1 = a at *
 generalize (rowAt z).2 = m at *
 replace HT := Lib.hid HT
 have z0 : (0 : Int) ≤ (z : Int) := by omega
 have z1 : (z : Int) < 256 := by omega
 clear ht hs hX hgt
 go_enter Tryz.func62, Tryz.ntmps62
 by_cases h : X = ⟨S.toArray⟩
 ·have hy := HE.out.1 h
  subst h
  clear HE
  go_wp2
  go_region_held3 (fun w' => w'.cell? ⟨gt, z * 2, none⟩ = some (.string a) ∧ w'.cell? ⟨gt, z * 2 + 1, none⟩ = some (.string m) ∧ w'.cell? ⟨bl, 0, none⟩ = some (.int .i64 lo) ∧ w'.cell? ⟨bh, 0, none⟩ = some (.int .i64 hi) ∧ w'.cell? ⟨bt, 0, none⟩ = some (.string ⟨S.toArray⟩) ∧ Hid (Below w.heap.size w w'))
   (first | exact ⟨t0, t1, cl, ch, ct, Lib.hid (⟨rfl, rfl, rfl, Nat.le_refl _, fun _ _ => rfl⟩ : Below w.heap.size w w.drew)⟩ | exact keep6 (by assumption) hb1 | go_keep)
   (first | (go_at_call 48; (with_reducible refine (HT.out _).mono ?_); rintro e w1 ⟨rfl, hb1⟩))
  rename_i hH
  have hB := hH.2.2.2.2.2
  clear t0 t1 cl ch ct hH hb1
  go_wp2
  go_ret
  exact ⟨true, rfl, ⟨fun _ => hy, fun _ => rfl⟩, hB.out⟩
 ·have hn : ¬ IsL S lo hi (z : Int) := fun q => h (HE.out.2 q)
  have hne := ne_list S h
  clear HE
  go_wp2
  go_region_held3 (fun w' => w'.cell? ⟨gt, z * 2, none⟩ = some (.string a) ∧ w'.cell? ⟨gt, z * 2 + 1, none⟩ = some (.string m) ∧ w'.cell? ⟨bl, 0, none⟩ = some (.int .i64 lo) ∧ w'.cell? ⟨bh, 0, none⟩ = some (.int .i64 hi) ∧ w'.cell? ⟨bt, 0, none⟩ = some (.string ⟨S.toArray⟩) ∧ Hid (Below w.heap.size w w'))
   (first | exact ⟨t0, t1, cl, ch, ct, Lib.hid (⟨rfl, rfl, rfl, Nat.le_refl _, fun _ _ => rfl⟩ : Below w.heap.size w w.drew)⟩ | exact keep6 (by assumption) hb1 | go_keep)
   (first | (go_at_call 48; (with_reducible refine (HT.out _).mono ?_); rintro e w1 ⟨rfl, hb1⟩))
  rename_i hH
  have hB := hH.2.2.2.2.2
  clear t0 t1 cl ch ct hH hb1
  go_wp2
  go_ret
  exact ⟨false, rfl, ⟨(fun q => by cases q), fun q => absurd q hn⟩, hB.out⟩
def FirstPost (zs : List Int) (lo hi : Int) (S : List UInt8) (w : World) (e : Ending) (w' : World) : Prop :=
 ((∃ (i : Nat) (h : i < zs.length), e = .returned (.tuple #[.int .u8 zs[i], .bool true]) ∧ IsL S lo hi zs[i] ∧ ∀ j (hj : j < i), ¬ IsL S lo hi (zs[j]'(by omega))) ∨ (e = .returned (.tuple #[.int .u8 0, .bool false]) ∧ ∀ j (hj : j < zs.length), ¬ IsL S lo hi zs[j])) ∧ Below w.heap.size w w'
def capF (gt bl bh bt : Nat) : Value := .func (.func 62) #[] #[.pointer (some ⟨gt, 0, none⟩), .pointer (some ⟨bl, 0, none⟩), .pointer (some ⟨bh, 0, none⟩), .pointer (some ⟨bt, 0, none⟩)]
theorem capF_mk (gt bl bh bt : Nat) : capF gt bl bh bt = .func (.func 62) #[] #[.pointer (some ⟨gt, 0, none⟩), .pointer (some ⟨bl, 0, none⟩), .pointer (some ⟨bh, 0, none⟩), .pointer (some ⟨bt, 0, none⟩)] := rfl
set_option maxRecDepth 100000 in
set_option maxHeartbeats 4000000 in
theorem first_of (zs : List Int) (hz : ∀ i (h : i < zs.length), ∃ c : Nat, c < 256 ∧ zs[i] = (c : Int)) (hzl : zs.length ≤ 256) (A : Option Addr) (cap : Nat) (gt bl bh bt : Nat) (lo hi : Int) (S : List UInt8) (w : World) (hA : zs = [] ∨ ∃ g, A = some ⟨g, 0, none⟩ ∧ ∀ i (h : i < zs.length), w.cell? ⟨g, i, none⟩ = some (.int .u8 zs[i])) (hc : Caught gt bl bh bt lo hi S w) :
  Calls Tryz.prog 60 #[.slice A zs.length cap, capF gt bl bh bt] w (FirstPost zs lo hi S w) := by
 have HC := Lib.hid hc
 have HA := Lib.hid hA
 have HZ := Lib.hid hz
 clear hc hA hz
 rw [capF_mk]
 go_enter Tryz.func60, Tryz.ntmps60
 go_wp2
 go_loopw [11] (fun v11 wr => ∃ i : Nat, i ≤ zs.length ∧ v11 = .int .i64 i ∧ Hid (∀ j (hj : j < i) (hl : j < zs.length), ¬ IsL S lo hi zs[j]) ∧ Hid (Below w.heap.size w wr)) (fun v11 _ => zs.length - (intOf v11).toNat)
 case atStart => exact ⟨0, by omega, rfl, Lib.hid (fun j hj => absurd hj (Nat.not_lt_zero _)), Lib.hid (Below.refl _ _)⟩
 case round =>
  obtain ⟨i, hi0, rfl, hno, hb⟩ := hrel
  by_cases hlt : i < zs.length
  ·rcases HA.out with rfl | ⟨g, rfl, hcell⟩
   ·exact absurd hlt (Nat.not_lt_zero _)
   have ci := (hb.out.cell (p := ⟨g, i, none⟩) (World.block_lt_of_cell? _ _ (hcell i hlt))).trans (hcell i hlt)
   obtain ⟨c, hc, ec⟩ := HZ.out i hlt
   have HK := Lib.hid (fun (w1 : World) (h : Below w.heap.size w w1) => asm_closure gt bl bh bt lo hi S c hc w1 (HC.out.below h))
   have fin := Lib.hid (fun (w1 : World) (hy : IsL S lo hi zs[i]) (h : Below w.heap.size w w1) => (⟨.inl ⟨i, hlt, rfl, hy, fun j hj => hno.out j hj (by omega)⟩, h⟩ : FirstPost zs lo hi S w (.returned (.tuple #[.int .u8 zs[i], .bool true])) w1))
   have nxt := Lib.hid (fun (hn : ¬ IsL S lo hi zs[i]) (j : Nat) (hj : j < i + 1) (hl : j < zs.length) => (by
    by_cases e : j = i
    ·subst e; exact hn
    ·exact hno.out j (by omega) hl : ¬ IsL S lo hi zs[j]))
   rw [ec] at ci fin nxt
   have c0 : 0 ≤ (c : Int) := by omega
   have c1 : (c : Int) < 256 := by omega
   clear hcell ec hc hno
   go_wp2_with (go_at_call 62; refine (HK.out _ hb.out).mono ?_; rintro e w1 ⟨b, rfl, hbi, hb1⟩; refine Hid.out ?_)
   have hB := Lib.hid (hb.out.trans (hb1.mono hb.out.size))
   cases b
   ·have hx := Lib.hid (nxt.out (fun q => by have := hbi.2 q; cases this))
    clear hbi hb1 fin nxt ci HK
    refine Lib.hid ?_
    go_wp2
    go_roundw
    case rel => exact ⟨i + 1, by omega, by go_num, hx, hB⟩
    case measure => simp [intOf]; omega
   ·have hy := fin.out w1 (hbi.1 rfl) hB.out
    have HY := Lib.hid hy
    clear hbi hb1 fin nxt ci HK hy
    refine Lib.hid ?_
    go_wp2
    go_ret2
    exact HY.out
  ·obtain rfl : i = zs.length := by omega
   have HY : Hid (FirstPost zs lo hi S w (.returned (.tuple #[.int .u8 0, .bool false])) wr) := Lib.hid ⟨.inr ⟨rfl, fun j hj => hno.out j hj hj⟩, hb.out⟩
   clear hno
   go_wp2
   go_ret2
   exact HY.out
end Go.Proofs.YtboeaeoefoabdaaGreatDoor
namespace Go.Proofs.YtboeaeoefoabdaaGreatDoor
open Go Go.RowKit Go.Shelf
variable {F : Fence} {n : Nat} {P : Program}
def RoundPost (n₀ id : Nat) (I : List ByteArray → World → Prop) (Ix : List ByteArray → World → Prop) (xs : List ByteArray) (W : World) : Exit → Act → World → Prop
 | .normal, _, W' => KeepsOthers W W' ∧ Below n₀ W W' ∧ I xs W'
 | .exit i, _, W' => i = id ∧ KeepsOthers W W' ∧ Ix xs W'
 | _, _, _ => False
def Tells (F : Fence) (n : Nat) (P : Program) (gf n₀ : Nat) (lb : Array Value) (Good Sp : List ByteArray → Prop) (N : Nat) (w : World) : Prop :=
 ∀ (l : Nat) (J Jx : List ByteArray → World → Prop) (W : World), Below w.heap.size w W →
  (∀ pre x W1, J pre W1 → pre.length < N → YieldAt F (n - 1) P l #[.string x] W1 fun e W' => (e = .returned (.bool true) ∧ J (pre ++ [x]) W' ∧ Below n₀ W1 W') ∨ (e = .returned (.bool false) ∧ Jx (pre ++ [x]) W')) →
  (∀ pre W1, J pre W1 → Good pre) → (∀ pre W1 W2, J pre W1 → Below W1.heap.size W1 W2 → J pre W2) → (∀ pre W1 W2, Jx pre W1 → Below W1.heap.size W1 W2 → Jx pre W2) → J [] W →
  CallsIn F n P gf (#[.func (.yield l) #[] #[]] ++ lb) W fun e W' => (∃ v, e = .returned v) ∧ ∃ pre, Sp pre ∧ Jx pre W'
theorem range_tells {g : Operand} {ps : Array Tmp} {assign body : Code} {Q : Exit → Act → World → Prop} {a : Act} {w w0 : World} {gf n₀ id N : Nat} {lb : Array Value} {Good Sp : List ByteArray → Prop}
  (hro : F.round = none) (h1 : 1 ≤ n) (hg : a.eval g = .func (.func gf) #[] lb) (hF : F.fn gf) (eg : ∀ args w, (callFunc gf args).run P w = .ok (.enter gf args) w) (hps : ps.size = 1)
  (iter : Tells F (n - 1) P gf n₀ lb Good Sp N w0) (hn₀ : n₀ ≤ w.heap.size) (hw0 : Below w0.heap.size w0 w)
  (I Ix : List ByteArray → World → Prop) (hI : OwnFrom w.heap.size I) (hIx : OwnFrom w.heap.size Ix) (hgood : ∀ pre W, I pre W → Good pre) (h0 : I [] w) (a₁ : ByteArray → Act)
  (keep : ∀ pre W1 W2, I pre W1 → Below W1.heap.size W1 W2 → I pre W2) (keepx : ∀ pre W1 W2, Ix pre W1 → Below W1.heap.size W1 W2 → Ix pre W2)
  (hassign : ∀ (l : Nat) (x : ByteArray) (W : World) (K : Act → World → Prop), K (a₁ x) W →
   assign.wpIn (F.inRound l) (n - 1 - 1) P (Exit.then K (fun _ _ _ => False)) { tmps := (ps.zip #[.string x]).foldl (fun t (p, v) => t.setIfInBounds p v) a.tmps, defers := [] } W)
  (hbody : ∀ (l : Nat) (pre : List ByteArray) (x : ByteArray) (W : World), I pre W → pre.length < N → body.wpIn (F.inRound l) (n - 1 - 1) P (RoundPost n₀ id I Ix (pre ++ [x]) W) (a₁ x) W)
  (hstop : ∀ (D : Nat) (pre : List ByteArray) (W : World), w.heap.size ≤ D → Sp pre → Ix pre W → W.heap[D]? = some (.deferred (some [])) → (Code.exit id).wpIn F n P Q { a with defers := { target := .collected D, args := #[] } :: a.defers } W) :
  (Code.rangeFunc g ps assign body).wpIn F n P Q a w := by
 refine wpIn_rangeFunc ?_
 intro fn hfn
 rw [hro]
 -- the loop's record, in its states; the block of the rounds' deferred calls is D, the record's block is D + 1
 let R : LoopState → Option Code → Obj := fun st pe => .loop { state := st, pending := pe, fn, tmps := a.tmps, params := ps, assign, body, defers := w.heap.size }
 let L := w.heap.size + 1
 let W0 := (w.alloc (.deferred (some []))).alloc (R .ready none)
 have sL : W0.heap[L]? = some (R .ready none) := by
  have := World.alloc_heap_new (w.alloc (.deferred (some []))) (R .ready none)
  rwa [World.size_alloc] at this
 have sD : W0.heap[w.heap.size]? = some (.deferred (some [])) := (Below.heap_alloc _ _ _ (by simp)).trans (World.alloc_heap_new w _)
 have sI : I [] W0 := hI.alloc _ (hI.alloc _ h0)
 have sB : Below w0.heap.size w0 W0 := hw0.trans ((((Below.refl _ w).alloc (Nat.le_refl _) _).alloc (by simp) _).mono hw0.size)
 refine ⟨L, [{ target := .collected w.heap.size, args := #[] }], W0, { target := .fn (.func gf) lb, args := #[.func (.yield L) #[] #[]] }, W0, gf, #[.func (.yield L) #[] #[]] ++ lb, W0, run_enterLoop_outer _ _ _ _ _, ?_, ?_, ?_, fun _ => h1, ?_⟩
 ·simp only [resolve, hg]; simp [go_sem, L]
 ·intro f' hf'; simp [Target.leads] at hf'; subst hf'; exact hF
 ·simp [invoke, go_sem, eg]
 have ltD : ∀ {W : World}, W.heap[L]? = some (R .ready none) → L < W.heap.size := fun h => (Array.getElem?_eq_some_iff.1 h).1
 refine (iter L (fun pre W => I pre W ∧ W.heap[L]? = some (R .ready none) ∧ W.heap[w.heap.size]? = some (.deferred (some [])))
  (fun pre W => Ix pre W ∧ W.heap[L]? = some (R .done (some (.exit id))) ∧ W.heap[w.heap.size]? = some (.deferred (some []))) W0 sB ?round (fun pre W h => hgood pre W h.1)
  (fun pre A B h hb => ⟨keep pre A B h.1 hb, (hb.block L (Array.getElem?_eq_some_iff.1 h.2.1).1).trans h.2.1, (hb.block _ (Array.getElem?_eq_some_iff.1 h.2.2).1).trans h.2.2⟩)
  (fun pre A B h hb => ⟨keepx pre A B h.1 hb, (hb.block L (Array.getElem?_eq_some_iff.1 h.2.1).1).trans h.2.1, (hb.block _ (Array.getElem?_eq_some_iff.1 h.2.2).1).trans h.2.2⟩) ⟨sI, sL, sD⟩).mono ?behind
 case round =>
  rintro pre x W ⟨hi, hl, hd⟩ hlen
  have hne : w.heap.size ≠ L := by simp [L]
  have hlt := ltD hl
  refine ⟨fn, _, assign, body, run_yield (args := #[.string x]) hl hps.symm, roundIn_of_wpIn hfn (hassign _ x W _ ⟨_, run_beginRound hl rfl, ?_⟩)⟩
  -- the round has begun: the record is busy
  have bl : (W.putObj L (R .busy none)).heap[L]? = some (R .busy none) := World.putObj_heap_same hlt
  have bd : (W.putObj L (R .busy none)).heap[w.heap.size]? = some (.deferred (some [])) := (World.putObj_heap_other hne).trans hd
  have turn : ∀ {A : World} {o : Obj} (o' : Obj), A.heap[L]? = some o → Below n₀ A (A.putObj L o') := fun {A o} o' _ => ⟨rfl, rfl, rfl, by simp, fun k hk => World.putObj_heap_other (by simp only [L]; omega)⟩
  refine wpIn_mono (hbody _ pre x _ (hI.putObj _ hi (by simp [L]) hl rfl) hlen) ?_
  rintro e a3 W3 hp
  match e, hp with
  | .normal, ⟨hk, hb, hi3⟩ =>
   have l3 := hk.same _ _ bl rfl
   have d3 := hk.same _ _ bd rfl
   refine ⟨_, _, run_endRound none l3, .inl ⟨rfl, ⟨hI.putObj _ hi3 (by simp [L]) l3 rfl, World.putObj_heap_same (Array.getElem?_eq_some_iff.1 l3).1, (World.putObj_heap_other hne).trans d3⟩, ((turn _ hl).trans hb).trans (turn _ l3)⟩⟩
  | .exit i, ⟨hid, hk, hx⟩ =>
   subst hid
   have l3 := hk.same _ _ bl rfl
   have d3 := hk.same _ _ bd rfl
   exact ⟨_, _, run_endRound (some (.exit i)) l3, .inr ⟨rfl, hIx.putObj _ hx (by simp [L]) l3 rfl, World.putObj_heap_same (Array.getElem?_eq_some_iff.1 l3).1, (World.putObj_heap_other hne).trans d3⟩⟩
 case behind =>
  rintro e W ⟨⟨v, rfl⟩, pre, hSp, hx, hl, hd⟩
  have hne : w.heap.size ≠ L := by simp [L]
  exact ⟨some (.exit id), _, run_endLoop hl (by simp), hstop _ pre _ (Nat.le_refl _) hSp (hIx.putObj _ hx (by simp [L]) hl rfl) ((World.putObj_heap_other hne).trans hd)⟩
end Go.Proofs.YtboeaeoefoabdaaGreatDoor
namespace Go.Proofs.YtboeaeoefoabdaaGreatDoor
open Go Go.RowKit Go.Shelf
attribute [local go_sem] Oper.semAt_some
def Sp (l : List UInt8) (pre : List ByteArray) : Prop := ∃ k, pre = told l (k + 1)
def strSz : Value → Nat
 | .string s => s.size
 | _ => 0
set_option maxRecDepth 100000 in
set_option maxHeartbeats 2000000 in
theorem words_tells (n n₀ Bn : Nat) (s : ByteArray) (hs : s.size < 4294967281) (w : World) (hBn : Bn < w.heap.size) (hc0 : w.cell? ⟨Bn, 0, none⟩ = some (.string s)) :
  Tells Fence.wide n Tryz.prog 115 n₀ #[.pointer (some ⟨Bn, 0, none⟩)] Good (Sp s.data.toList) (s.data.toList.length + 1) w := by
 intro l J Jx W hW hY hGood hJb hJxb h0
 have hc : W.cell? ⟨Bn, 0, none⟩ = some (.string s) := (hW.cell (p := ⟨Bn, 0, none⟩) hBn).trans hc0
 have hsl : s.data.toList.length = s.size := by simp
 have hF := first_word s hs
 unfold WordPost at hF
 obtain ⟨L, hL⟩ : ∃ L, L = s.data.toList := ⟨_, rfl⟩
 rw [← hL] at hsl hF ⊢
 clear hL hc0 hW
 show CallsIn Fence.wide n Tryz.prog 115 #[.func (.yield l) #[] #[], .pointer (some ⟨Bn, 0, none⟩)] W _
 refine callsIn_of_wp Tryz.func115 rfl trivial ?_ rfl
 simp only [Tryz.ntmps115, List.size_toArray, List.length_cons, List.length_nil, Nat.reduceAdd, Nat.reduceSub, Array.replicate_succ, Array.replicate_zero, List.push_toArray, List.append_toArray, List.nil_append, List.cons_append]
 gi_wp2_with (refine ⟨trivial, fun h => (by cases h), ?_⟩; refine (callsIn_wide.2 (hF _)).mono ?_; rintro e w1 ⟨rfl, hb1⟩)
 have h1 := hJb _ _ _ h0 hb1
 clear hc h0 hF
 gi_loopw [3, 4] (fun v3 v4 wr => ∃ k : Nat, v3 = .string (wordB L k) ∧ v4 = .string ⟨(restL (behind L k)).toArray⟩ ∧ k + (behind L k).length ≤ L.length ∧ J (told L k) wr) (fun v3 v4 _ => strSz v3 + strSz v4)
 case atStart => exact ⟨0, rfl, rfl, by simp [behind], h1⟩
 case round =>
  obtain ⟨k, rfl, rfl, hkl, hJ⟩ := hrel
  obtain ⟨fn, tmps, assign, body, hy, hR⟩ := hY (told L k) (wordB L k) wr hJ (by simp [told]; omega)
  have hle := behind_le L k
  have hF := first_word ⟨(restL (behind L k)).toArray⟩ (by rw [bsize]; have := restL_le (behind L k); omega)
  unfold WordPost at hF
  gi_wp2
  refine ⟨fun h => (by cases h), hR.mono ?_⟩
  rintro e W3 (⟨rfl, hJ3, hk3⟩ | ⟨rfl, hJx3⟩)
  ·gi_wp2_with (refine ⟨trivial, fun h => (by cases h), ?_⟩; refine (callsIn_wide.2 (hF _)).mono ?_; rintro e w4 ⟨rfl, hb4⟩)
   have hJ4 := hJb _ _ _ hJ3 hb4
   have hne := hGood _ _ hJ3 (wordB L k) (by simp)
   have hk5 : (k + 1) + (behind L (k + 1)).length ≤ L.length := by
    have e1 := word_rest (behind L k)
    have e4 := trimL_le (behind L k)
    unfold wordB at hne
    rw [bsize] at hne
    show (k + 1) + (restL (behind L k)).length ≤ L.length
    omega
   go_roundw
   case rel => exact ⟨k + 1, rfl, rfl, hk5, by rw [told_succ]; exact hJ4⟩
   case measure =>
    have e1 := word_rest (behind L k)
    have e2 := word_rest (restL (behind L k))
    have e3 := trimL_le (restL (behind L k))
    have e4 := trimL_le (behind L k)
    unfold wordB at hne
    rw [bsize] at hne
    simp only [strSz, wordB, bsize]
    omega
  ·gi_wp2
   go_end0
   exact ⟨⟨_, rfl⟩, told L k ++ [wordB L k], ⟨k, (told_succ L k).symm⟩, hJx3⟩
theorem wordsOf_any (n : Nat) (s : ByteArray) (w : World) :
  CallsIn Fence.wide n Tryz.prog 90 #[.string s] w fun e w' => e = .returned (.func (.func 115) #[] #[.pointer (some ⟨w.heap.size, 0, none⟩)]) ∧ w' = w.alloc (.cells #[.string s] 9) := by
 refine callsIn_of_wp Tryz.func90 rfl trivial ?_ rfl
 simp only [Tryz.ntmps90, List.size_toArray, List.length_cons, List.length_nil, Nat.reduceAdd, Nat.reduceSub, Array.replicate_succ, Array.replicate_zero, List.push_toArray, List.append_toArray, List.nil_append, List.cons_append]
 gi_wp2
 go_ret
 exact ⟨rfl, rfl⟩
end Go.Proofs.YtboeaeoefoabdaaGreatDoor
