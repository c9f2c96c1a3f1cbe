/-
  Texts put together by program: DrA, ChA, KpA.
  Conditions: as each theorem says.
-/
import Derived.Test.YthklebkpoccblaaGreatRqbx
namespace Go.Proofs.YthklebkpoccblaaGreat
open Go.RowKit
theorem rowB_mk {W : World} {a : Addr} {n : Nat} {zs : List Int} (hm : n ≤ maxLen) (hz : n ≤ zs.length) (hc : ∀ i, i < zs.length → W.cell? (a.add i) = some (.int .u8 (zs.getD i 0))) (hw : ∀ z ∈ zs, (Lit.int .u8 z).wf = true) : RowB W (some a) n := by
 refine ⟨hm, ?_⟩
 rcases Nat.eq_zero_or_pos n with h0 | h0
 ·exact .inl h0
 ·right
  obtain ⟨b, off, rfl, hcc⟩ := ints_at hc (by omega)
  refine ⟨b, off, rfl, World.block_lt_of_cell? _ _ (hcc 0 (by omega)), fun i hi => ⟨zs.getD i 0, ?_, ?_, hcc i (by omega)⟩⟩
  ·have := (range_u8 hw i).1
   simpa [List.getD] using this
  ·have := (range_u8 hw i).2
   simpa [List.getD] using this
end Go.Proofs.YthklebkpoccblaaGreat
namespace Go.Proofs.YthklebkpoccblaaGreat
structure ChipI where
 c1 : Int
 l1 : Int
 v1 : Bool
 ag : Bool
 c2 : Int
 o2 : Int
 v2 : Bool
 pt : Int
 dr : Int
 fl : Int
 ms : Int
def isF (n : Int) : Bool := decide (n = 0 ∨ n = 32 ∨ n = 64 ∨ n = 96)
structure ChipI.right (c : ChipI) : Prop where
 c1 : 0 ≤ c.c1 ∧ c.c1 ≤ 65535
 l1 : 0 ≤ c.l1 ∧ c.l1 ≤ 65535
 c2 : 0 ≤ c.c2 ∧ c.c2 ≤ 65535
 o2 : 0 ≤ c.o2 ∧ c.o2 ≤ 255
 pt : 0 ≤ c.pt ∧ c.pt ≤ 255
 dr : 0 ≤ c.dr ∧ c.dr ≤ 255
 fl : isF c.fl = true
 ms : isF c.ms = true
end Go.Proofs.YthklebkpoccblaaGreat
namespace Go.Proofs.YthklebkpoccblaaGreat
structure KeepI where
 ws : Int
 bu : Int
 wl : Int
 bl : Int
 ad : Int
 lf : Int
 sm : Int
structure KeepI.right (k : KeepI) : Prop where
 ws : 0 ≤ k.ws ∧ k.ws ≤ 8
 bu : 0 ≤ k.bu ∧ k.bu ≤ 8
 wl : 0 ≤ k.wl ∧ k.wl ≤ k.ws
 bl : 0 ≤ k.bl ∧ k.bl ≤ k.bu
 ad : 0 ≤ k.ad ∧ k.ad ≤ 65535
 lf : 0 ≤ k.lf ∧ k.lf ≤ 255
 sm : 0 ≤ k.sm ∧ k.sm ≤ 255
end Go.Proofs.YthklebkpoccblaaGreat
