/-
  Texts put together by program: AsG.
  Conditions: as each theorem says.
-/
import Derived.Test.YtboeaeoefoabdaaGreatDoorAmal
namespace Go.Proofs.YtboeaeoefoabdaaGreatDoor
open Go.RowKit
theorem low_b (n : Int) (w : World) : Calls Tryz.prog 57 #[.int .i64 n] w fun e w' => e = .returned (.int .i64 (n % 256)) ∧ w = w' := by
 have e : bits .and .i64 n 255 = n % 256 := and_255 n
 go_enter Tryz.func57, Tryz.ntmps57
 go_wp2
 go_ret
 exact ⟨rfl, rfl⟩
theorem high_b (n : Int) (w : World) : Calls Tryz.prog 58 #[.int .i64 n] w fun e w' => e = .returned (.int .i64 (n / 256 % 256)) ∧ w = w' := by
 have e : bits .and .i64 (n / 256) 255 = n / 256 % 256 := and_255 (n / 256)
 go_enter Tryz.func58, Tryz.ntmps58
 go_wp2
 go_ret
 exact ⟨rfl, rfl⟩
def Caught (gt bl bh bt : Nat) (lo hi : Int) (S : List UInt8) (w : World) : Prop := TabAt gt w ∧ gt < w.heap.size ∧ w.cell? ⟨bl, 0, none⟩ = some (.int .i64 lo) ∧ w.cell? ⟨bh, 0, none⟩ = some (.int .i64 hi) ∧ w.cell? ⟨bt, 0, none⟩ = some (.string ⟨S.toArray⟩)
theorem Caught.below {gt bl bh bt : Nat} {lo hi : Int} {S : List UInt8} {w w' : World} (h : Caught gt bl bh bt lo hi S w) (hb : Below w.heap.size w w') : Caught gt bl bh bt lo hi S w' :=
 ⟨h.1.below h.2.1 hb, Nat.lt_of_lt_of_le h.2.1 hb.size, (hb.cell (p := ⟨bl, 0, none⟩) (World.block_lt_of_cell? _ _ h.2.2.1)).trans h.2.2.1, (hb.cell (p := ⟨bh, 0, none⟩) (World.block_lt_of_cell? _ _ h.2.2.2.1)).trans h.2.2.2.1, (hb.cell (p := ⟨bt, 0, none⟩) (World.block_lt_of_cell? _ _ h.2.2.2.2)).trans h.2.2.2.2⟩
theorem keep5 {w0 w1 : World} {a b c d e : Addr} (hb : Below w0.heap.size w0 w1) {x0 x1 x2 x3 x4 : Value} (h : w0.cell? a = some x0 ∧ w0.cell? b = some x1 ∧ w0.cell? c = some x2 ∧ w0.cell? d = some x3 ∧ w0.cell? e = some x4) : w1.cell? a = some x0 ∧ w1.cell? b = some x1 ∧ w1.cell? c = some x2 ∧ w1.cell? d = some x3 ∧ w1.cell? e = some x4 :=
 ⟨(hb.cell (World.block_lt_of_cell? _ _ h.1)).trans h.1, (hb.cell (World.block_lt_of_cell? _ _ h.2.1)).trans h.2.1, (hb.cell (World.block_lt_of_cell? _ _ h.2.2.1)).trans h.2.2.1, (hb.cell (World.block_lt_of_cell? _ _ h.2.2.2.1)).trans h.2.2.2.1, (hb.cell (World.block_lt_of_cell? _ _ h.2.2.2.2)).trans h.2.2.2.2⟩
theorem keep6 {w w0 w1 : World} {a b c d e : Addr} {x0 x1 x2 x3 x4 : Value} (h : w0.cell? a = some x0 ∧ w0.cell? b = some x1 ∧ w0.cell? c = some x2 ∧ w0.cell? d = some x3 ∧ w0.cell? e = some x4 ∧ Hid (Below w.heap.size w w0)) (hb : Below w0.heap.size w0 w1) : w1.cell? a = some x0 ∧ w1.cell? b = some x1 ∧ w1.cell? c = some x2 ∧ w1.cell? d = some x3 ∧ w1.cell? e = some x4 ∧ Hid (Below w.heap.size w w1) := by
 obtain ⟨h1, h2, h3, h4, h5⟩ := keep5 hb ⟨h.1, h.2.1, h.2.2.1, h.2.2.2.1, h.2.2.2.2.1⟩
 exact ⟨h1, h2, h3, h4, h5, Lib.hid (below_then h.2.2.2.2.2.out hb)⟩
set_option maxRecDepth 100000 in
set_option maxHeartbeats 4000000 in
theorem asm_closure (gt bl bh bt : Nat) (lo hi : Int) (S : List UInt8) (z : Nat) (hz : z < 256) (w : World) (hc : Caught gt bl bh bt lo hi S w) :
  Calls Tryz.prog 62 #[.int .u8 (z : Int), .pointer (some ⟨gt, 0, none⟩), .pointer (some ⟨bl, 0, none⟩), .pointer (some ⟨bh, 0, none⟩), .pointer (some ⟨bt, 0, none⟩)] w fun e w' => ∃ b : Bool, e = .returned (.bool b) ∧ (b = true ↔ IsL S lo hi (z : Int)) ∧ Below w.heap.size w w' := by
 obtain ⟨ht, hgt, cl, ch, ct⟩ := hc
 obtain ⟨t0, t1⟩ := ht z hz
 have hs := (row_small ⟨z, hz⟩).1
 have HT := fun w => impl_opText (rowAt z).1 (rowAt z).2 hs lo hi w
 obtain ⟨X, hX⟩ : ∃ X : ByteArray, X = ⟨(opT (rowAt z).1 (rowAt z).2 lo hi).toArray⟩ := ⟨_, rfl⟩
 rw [← hX] at HT
 have HE : Hid (X = ⟨S.toArray⟩ ↔ IsL S lo hi (z : Int)) := Lib.hid (by
  unfold IsL
  rw [hX, Int.toNat_natCast]
  constructor
  ·intro h
   simpa using congrArg (fun b : ByteArray => b.data.toList) h
  ·intro h; rw [h])
 generalize (rowAt z).1 = a at *
 generalize (rowAt z).2 = m at *
 replace HT := Lib.hid HT
 have z0 : (0 : Int) ≤ (z : Int) := by omega
 have z1 : (z : Int) < 256 := by omega
 clear ht hs hX hgt
 go_enter Tryz.func62, Tryz.ntmps62
 by_cases h : X = ⟨S.toArray⟩
 ·have hy := HE.out.1 h
  subst h
  clear HE
  go_wp2
  go_region_held3 (fun w' => w'.cell? ⟨gt, z * 2, none⟩ = some (.string a) ∧ w'.cell? ⟨gt, z * 2 + 1, none⟩ = some (.string m) ∧ w'.cell? ⟨bl, 0, none⟩ = some (.int .i64 lo) ∧ w'.cell? ⟨bh, 0, none⟩ = some (.int .i64 hi) ∧ w'.cell? ⟨bt, 0, none⟩ = some (.string ⟨S.toArray⟩) ∧ Hid (Below w.heap.size w w'))
   (first | exact ⟨t0, t1, cl, ch, ct, Lib.hid (⟨rfl, rfl, rfl, Nat.le_refl _, fun _ _ => rfl⟩ : Below w.heap.size w w.drew)⟩ | exact keep6 (by assumption) hb1 | go_keep)
   (first | (go_at_call 48; (with_reducible refine (HT.out _).mono ?_); rintro e w1 ⟨rfl, hb1⟩))
  rename_i hH
  have hB := hH.2.2.2.2.2
  clear t0 t1 cl ch ct hH hb1
  go_wp2
  go_ret
  exact ⟨true, rfl, ⟨fun _ => hy, fun _ => rfl⟩, hB.out⟩
 ·have hn : ¬ IsL S lo hi (z : Int) := fun q => h (HE.out.2 q)
  have hne := ne_list S h
  clear HE
  go_wp2
  go_region_held3 (fun w' => w'.cell? ⟨gt, z * 2, none⟩ = some (.string a) ∧ w'.cell? ⟨gt, z * 2 + 1, none⟩ = some (.string m) ∧ w'.cell? ⟨bl, 0, none⟩ = some (.int .i64 lo) ∧ w'.cell? ⟨bh, 0, none⟩ = some (.int .i64 hi) ∧ w'.cell? ⟨bt, 0, none⟩ = some (.string ⟨S.toArray⟩) ∧ Hid (Below w.heap.size w w'))
   (first | exact ⟨t0, t1, cl, ch, ct, Lib.hid (⟨rfl, rfl, rfl, Nat.le_refl _, fun _ _ => rfl⟩ : Below w.heap.size w w.drew)⟩ | exact keep6 (by assumption) hb1 | go_keep)
   (first | (go_at_call 48; (with_reducible refine (HT.out _).mono ?_); rintro e w1 ⟨rfl, hb1⟩))
  rename_i hH
  have hB := hH.2.2.2.2.2
  clear t0 t1 cl ch ct hH hb1
  go_wp2
  go_ret
  exact ⟨false, rfl, ⟨(fun q => by cases q), fun q => absurd q hn⟩, hB.out⟩
def FirstPost (zs : List Int) (lo hi : Int) (S : List UInt8) (w : World) (e : Ending) (w' : World) : Prop :=
 ((∃ (i : Nat) (h : i < zs.length), e = .returned (.tuple #[.int .u8 zs[i], .bool true]) ∧ IsL S lo hi zs[i] ∧ ∀ j (hj : j < i), ¬ IsL S lo hi (zs[j]'(by omega))) ∨ (e = .returned (.tuple #[.int .u8 0, .bool false]) ∧ ∀ j (hj : j < zs.length), ¬ IsL S lo hi zs[j])) ∧ Below w.heap.size w w'
def capF (gt bl bh bt : Nat) : Value := .func (.func 62) #[] #[.pointer (some ⟨gt, 0, none⟩), .pointer (some ⟨bl, 0, none⟩), .pointer (some ⟨bh, 0, none⟩), .pointer (some ⟨bt, 0, none⟩)]
theorem capF_mk (gt bl bh bt : Nat) : capF gt bl bh bt = .func (.func 62) #[] #[.pointer (some ⟨gt, 0, none⟩), .pointer (some ⟨bl, 0, none⟩), .pointer (some ⟨bh, 0, none⟩), .pointer (some ⟨bt, 0, none⟩)] := rfl
set_option maxRecDepth 100000 in
set_option maxHeartbeats 4000000 in
theorem first_of (zs : List Int) (hz : ∀ i (h : i < zs.length), ∃ c : Nat, c < 256 ∧ zs[i] = (c : Int)) (hzl : zs.length ≤ 256) (A : Option Addr) (cap : Nat) (gt bl bh bt : Nat) (lo hi : Int) (S : List UInt8) (w : World) (hA : zs = [] ∨ ∃ g, A = some ⟨g, 0, none⟩ ∧ ∀ i (h : i < zs.length), w.cell? ⟨g, i, none⟩ = some (.int .u8 zs[i])) (hc : Caught gt bl bh bt lo hi S w) :
  Calls Tryz.prog 60 #[.slice A zs.length cap, capF gt bl bh bt] w (FirstPost zs lo hi S w) := by
 have HC := Lib.hid hc
 have HA := Lib.hid hA
 have HZ := Lib.hid hz
 clear hc hA hz
 rw [capF_mk]
 go_enter Tryz.func60, Tryz.ntmps60
 go_wp2
 go_loopw [11] (fun v11 wr => ∃ i : Nat, i ≤ zs.length ∧ v11 = .int .i64 i ∧ Hid (∀ j (hj : j < i) (hl : j < zs.length), ¬ IsL S lo hi zs[j]) ∧ Hid (Below w.heap.size w wr)) (fun v11 _ => zs.length - (intOf v11).toNat)
 case atStart => exact ⟨0, by omega, rfl, Lib.hid (fun j hj => absurd hj (Nat.not_lt_zero _)), Lib.hid (Below.refl _ _)⟩
 case round =>
  obtain ⟨i, hi0, rfl, hno, hb⟩ := hrel
  by_cases hlt : i < zs.length
  ·rcases HA.out with rfl | ⟨g, rfl, hcell⟩
   ·exact absurd hlt (Nat.not_lt_zero _)
   have ci := (hb.out.cell (p := ⟨g, i, none⟩) (World.block_lt_of_cell? _ _ (hcell i hlt))).trans (hcell i hlt)
   obtain ⟨c, hc, ec⟩ := HZ.out i hlt
   have HK := Lib.hid (fun (w1 : World) (h : Below w.heap.size w w1) => asm_closure gt bl bh bt lo hi S c hc w1 (HC.out.below h))
   have fin := Lib.hid (fun (w1 : World) (hy : IsL S lo hi zs[i]) (h : Below w.heap.size w w1) => (⟨.inl ⟨i, hlt, rfl, hy, fun j hj => hno.out j hj (by omega)⟩, h⟩ : FirstPost zs lo hi S w (.returned (.tuple #[.int .u8 zs[i], .bool true])) w1))
   have nxt := Lib.hid (fun (hn : ¬ IsL S lo hi zs[i]) (j : Nat) (hj : j < i + 1) (hl : j < zs.length) => (by
    by_cases e : j = i
    ·subst e; exact hn
    ·exact hno.out j (by omega) hl : ¬ IsL S lo hi zs[j]))
   rw [ec] at ci fin nxt
   have c0 : 0 ≤ (c : Int) := by omega
   have c1 : (c : Int) < 256 := by omega
   clear hcell ec hc hno
   go_wp2_with (go_at_call 62; refine (HK.out _ hb.out).mono ?_; rintro e w1 ⟨b, rfl, hbi, hb1⟩; refine Hid.out ?_)
   have hB := Lib.hid (hb.out.trans (hb1.mono hb.out.size))
   cases b
   ·have hx := Lib.hid (nxt.out (fun q => by have := hbi.2 q; cases this))
    clear hbi hb1 fin nxt ci HK
    refine Lib.hid ?_
    go_wp2
    go_roundw
    case rel => exact ⟨i + 1, by omega, by go_num, hx, hB⟩
    case measure => simp [intOf]; omega
   ·have hy := fin.out w1 (hbi.1 rfl) hB.out
    have HY := Lib.hid hy
    clear hbi hb1 fin nxt ci HK hy
    refine Lib.hid ?_
    go_wp2
    go_ret2
    exact HY.out
  ·obtain rfl : i = zs.length := by omega
   have HY : Hid (FirstPost zs lo hi S w (.returned (.tuple #[.int .u8 0, .bool false])) wr) := Lib.hid ⟨.inr ⟨rfl, fun j hj => hno.out j hj hj⟩, hb.out⟩
   clear hno
   go_wp2
   go_ret2
   exact HY.out
end Go.Proofs.YtboeaeoefoabdaaGreatDoor
