/-
  A core as it lies in memory; small functions of the model (chapter 10).
  Conditions: as each says; each walk leaves old memory as it was.
-/
import Derived.Test.YtgpcmekcdgboeaaRow
import Derived.Test.YtgpcmekcdgboeaaCrA
import Derived.Test.YtgpcmekcdgboeaaMmA
namespace Go.Proofs.Ytgpcmekcdgboeaa
open Go.RowKit
/-- A core (chapter 10): its cells. -/
structure CorI where
  a : Int
  x : Int
  y : Int
  s : Int
  p : Int
  pc : Int
  sq : Int
  cd : Int
  t : Int
  lo : Int
  hi : Int
  vl : Int
  cr : Bool
  nx : Int
  jm : Bool
def corC (k : CorI) : Array Value := #[.int .i64 k.a, .int .i64 k.x, .int .i64 k.y, .int .i64 k.s, .int .i64 k.p, .int .i64 k.pc, .int .i64 k.sq, .int .i64 k.cd, .int .i64 k.t, .int .i64 k.lo, .int .i64 k.hi, .int .i64 k.vl, .bool k.cr, .int .i64 k.nx, .bool k.jm]
theorem corC_mk (k : CorI) : (.agg (corC k) : Value) = coreV k.a k.x k.y k.s k.p k.pc k.sq k.cd k.t k.lo k.hi k.vl k.cr k.nx k.jm := rfl
def CorAt (b : Nat) (k : CorI) (w : World) : Prop := w.heap[b]? = some (.cells (corC k) 40 (0, 0))
theorem CorAt.below {b : Nat} {k : CorI} {w w' : World} (h : CorAt b k w) (hb : Below w.heap.size w w') : CorAt b k w' := blk_below h hb
theorem CorAt.lt {b : Nat} {k : CorI} {w : World} (h : CorAt b k w) : b < w.heap.size := (Array.getElem?_eq_some_iff.1 h).1
theorem CorAt.free {b : Nat} {k : CorI} {w : World} (h : CorAt b k w) (i : Nat) : w.frozen? ⟨b, i, none⟩ = false := free_of_blk h
theorem CorAt.far {b c i : Nat} {k : CorI} {w : World} {v : Value} (h : CorAt b k w) (hne : b ≠ c) : CorAt b k (w.setCell ⟨c, i, none⟩ v) := row_far h hne
theorem CorAt.new {b : Nat} {k : CorI} {w : World} (h : CorAt b k w) (o : Obj) : CorAt b k (w.alloc o) := blk_old h
theorem CorAt.row {b : Nat} {k : CorI} {w : World} (h : CorAt b k w) (k2 : CorI) : CorAt b k2 (w.setRow b (corC k2)) := setRow_heap _ _ _ _ _ _ h
theorem CorAt.c_a {b : Nat} {k : CorI} {w : World} (h : CorAt b k w) : w.cell? ⟨b, 0, none⟩ = some (.int .i64 k.a) := cell_of_blk h rfl
theorem CorAt.s_a {b : Nat} {k : CorI} {w : World} (h : CorAt b k w) (v : Int) : CorAt b { k with a := v } (w.setCell ⟨b, 0, none⟩ (.int .i64 v)) := row_set h
theorem CorAt.c_x {b : Nat} {k : CorI} {w : World} (h : CorAt b k w) : w.cell? ⟨b, 1, none⟩ = some (.int .i64 k.x) := cell_of_blk h rfl
theorem CorAt.s_x {b : Nat} {k : CorI} {w : World} (h : CorAt b k w) (v : Int) : CorAt b { k with x := v } (w.setCell ⟨b, 1, none⟩ (.int .i64 v)) := row_set h
theorem CorAt.c_y {b : Nat} {k : CorI} {w : World} (h : CorAt b k w) : w.cell? ⟨b, 2, none⟩ = some (.int .i64 k.y) := cell_of_blk h rfl
theorem CorAt.s_y {b : Nat} {k : CorI} {w : World} (h : CorAt b k w) (v : Int) : CorAt b { k with y := v } (w.setCell ⟨b, 2, none⟩ (.int .i64 v)) := row_set h
theorem CorAt.c_s {b : Nat} {k : CorI} {w : World} (h : CorAt b k w) : w.cell? ⟨b, 3, none⟩ = some (.int .i64 k.s) := cell_of_blk h rfl
theorem CorAt.s_s {b : Nat} {k : CorI} {w : World} (h : CorAt b k w) (v : Int) : CorAt b { k with s := v } (w.setCell ⟨b, 3, none⟩ (.int .i64 v)) := row_set h
theorem CorAt.c_p {b : Nat} {k : CorI} {w : World} (h : CorAt b k w) : w.cell? ⟨b, 4, none⟩ = some (.int .i64 k.p) := cell_of_blk h rfl
theorem CorAt.s_p {b : Nat} {k : CorI} {w : World} (h : CorAt b k w) (v : Int) : CorAt b { k with p := v } (w.setCell ⟨b, 4, none⟩ (.int .i64 v)) := row_set h
theorem CorAt.c_pc {b : Nat} {k : CorI} {w : World} (h : CorAt b k w) : w.cell? ⟨b, 5, none⟩ = some (.int .i64 k.pc) := cell_of_blk h rfl
theorem CorAt.s_pc {b : Nat} {k : CorI} {w : World} (h : CorAt b k w) (v : Int) : CorAt b { k with pc := v } (w.setCell ⟨b, 5, none⟩ (.int .i64 v)) := row_set h
theorem CorAt.c_sq {b : Nat} {k : CorI} {w : World} (h : CorAt b k w) : w.cell? ⟨b, 6, none⟩ = some (.int .i64 k.sq) := cell_of_blk h rfl
theorem CorAt.s_sq {b : Nat} {k : CorI} {w : World} (h : CorAt b k w) (v : Int) : CorAt b { k with sq := v } (w.setCell ⟨b, 6, none⟩ (.int .i64 v)) := row_set h
theorem CorAt.c_cd {b : Nat} {k : CorI} {w : World} (h : CorAt b k w) : w.cell? ⟨b, 7, none⟩ = some (.int .i64 k.cd) := cell_of_blk h rfl
theorem CorAt.s_cd {b : Nat} {k : CorI} {w : World} (h : CorAt b k w) (v : Int) : CorAt b { k with cd := v } (w.setCell ⟨b, 7, none⟩ (.int .i64 v)) := row_set h
theorem CorAt.c_t {b : Nat} {k : CorI} {w : World} (h : CorAt b k w) : w.cell? ⟨b, 8, none⟩ = some (.int .i64 k.t) := cell_of_blk h rfl
theorem CorAt.s_t {b : Nat} {k : CorI} {w : World} (h : CorAt b k w) (v : Int) : CorAt b { k with t := v } (w.setCell ⟨b, 8, none⟩ (.int .i64 v)) := row_set h
theorem CorAt.c_lo {b : Nat} {k : CorI} {w : World} (h : CorAt b k w) : w.cell? ⟨b, 9, none⟩ = some (.int .i64 k.lo) := cell_of_blk h rfl
theorem CorAt.s_lo {b : Nat} {k : CorI} {w : World} (h : CorAt b k w) (v : Int) : CorAt b { k with lo := v } (w.setCell ⟨b, 9, none⟩ (.int .i64 v)) := row_set h
theorem CorAt.c_hi {b : Nat} {k : CorI} {w : World} (h : CorAt b k w) : w.cell? ⟨b, 10, none⟩ = some (.int .i64 k.hi) := cell_of_blk h rfl
theorem CorAt.s_hi {b : Nat} {k : CorI} {w : World} (h : CorAt b k w) (v : Int) : CorAt b { k with hi := v } (w.setCell ⟨b, 10, none⟩ (.int .i64 v)) := row_set h
theorem CorAt.c_vl {b : Nat} {k : CorI} {w : World} (h : CorAt b k w) : w.cell? ⟨b, 11, none⟩ = some (.int .i64 k.vl) := cell_of_blk h rfl
theorem CorAt.s_vl {b : Nat} {k : CorI} {w : World} (h : CorAt b k w) (v : Int) : CorAt b { k with vl := v } (w.setCell ⟨b, 11, none⟩ (.int .i64 v)) := row_set h
theorem CorAt.c_cr {b : Nat} {k : CorI} {w : World} (h : CorAt b k w) : w.cell? ⟨b, 12, none⟩ = some (.bool k.cr) := cell_of_blk h rfl
theorem CorAt.s_cr {b : Nat} {k : CorI} {w : World} (h : CorAt b k w) (v : Bool) : CorAt b { k with cr := v } (w.setCell ⟨b, 12, none⟩ (.bool v)) := row_set h
theorem CorAt.c_nx {b : Nat} {k : CorI} {w : World} (h : CorAt b k w) : w.cell? ⟨b, 13, none⟩ = some (.int .i64 k.nx) := cell_of_blk h rfl
theorem CorAt.s_nx {b : Nat} {k : CorI} {w : World} (h : CorAt b k w) (v : Int) : CorAt b { k with nx := v } (w.setCell ⟨b, 13, none⟩ (.int .i64 v)) := row_set h
theorem CorAt.c_jm {b : Nat} {k : CorI} {w : World} (h : CorAt b k w) : w.cell? ⟨b, 14, none⟩ = some (.bool k.jm) := cell_of_blk h rfl
theorem CorAt.s_jm {b : Nat} {k : CorI} {w : World} (h : CorAt b k w) (v : Bool) : CorAt b { k with jm := v } (w.setCell ⟨b, 14, none⟩ (.bool v)) := row_set h
def BusPost (w : World) (e : Ending) (w' : World) : Prop := ∃ (x y : Int) (z : Bool), e = .returned (.agg #[.int .i64 x, .int .i64 y, .bool z]) ∧ Below w.heap.size w w'
def CorPost (w : World) (e : Ending) (w' : World) : Prop := ∃ k : CorI, e = .returned (.agg (corC k)) ∧ Below w.heap.size w w'
def CorDone (w : World) (e : Ending) (w' : World) : Prop := ∃ (k : CorI) (d : Bool), e = .returned (.tuple #[.agg (corC k), .bool d]) ∧ Below w.heap.size w w'
theorem cor_size : (Try.prog.info? 40).map (·.size) = some 15 := by kernel_rfl
theorem up16 (n : Int) : bits .and .i64 (wrap64 (n + 1)) 65535 = (n + 1) % 65536 := by rw [and16]; unfold wrap64; omega
theorem up8 (n : Int) : bits .and .i64 (wrap64 (n + 1)) 255 = (n + 1) % 256 := by rw [and_255]; unfold wrap64; omega
theorem dn8 (n : Int) : bits .and .i64 (wrap64 (n - 1)) 255 = (n - 1) % 256 := by rw [and_255]; unfold wrap64; omega
end Go.Proofs.Ytgpcmekcdgboeaa
