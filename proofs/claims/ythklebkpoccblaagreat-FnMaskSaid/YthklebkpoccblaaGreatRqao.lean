/-
  Texts put together by program: ScA, Wkc, FdA, WiA.
  Conditions: as each theorem says.
-/
import Derived.Test.YthklebkpoccblaaGreatRqai
import Derived.Test.YthklebkpoccblaaGreatRqan
namespace Go.Proofs.YthklebkpoccblaaGreat
open Go.RowKit
structure CorI where
 a : Int
 x : Int
 y : Int
 s : Int
 p : Int
 pc : Int
 sq : Int
 cd : Int
 t : Int
 lo : Int
 hi : Int
 vl : Int
 cr : Bool
 nx : Int
 jm : Bool
def corC (k : CorI) : Array Value := #[.int .i64 k.a, .int .i64 k.x, .int .i64 k.y, .int .i64 k.s, .int .i64 k.p, .int .i64 k.pc, .int .i64 k.sq, .int .i64 k.cd, .int .i64 k.t, .int .i64 k.lo, .int .i64 k.hi, .int .i64 k.vl, .bool k.cr, .int .i64 k.nx, .bool k.jm]
theorem corC_mk (k : CorI) : (.agg (corC k) : Value) = coreV k.a k.x k.y k.s k.p k.pc k.sq k.cd k.t k.lo k.hi k.vl k.cr k.nx k.jm := rfl
def CorAt (b : Nat) (k : CorI) (w : World) : Prop := w.heap[b]? = some (.cells (corC k) 27 (0, 0))
theorem CorAt.below {b : Nat} {k : CorI} {w w' : World} (h : CorAt b k w) (hb : Below w.heap.size w w') : CorAt b k w' := blk_below h hb
theorem CorAt.lt {b : Nat} {k : CorI} {w : World} (h : CorAt b k w) : b < w.heap.size := (Array.getElem?_eq_some_iff.1 h).1
theorem CorAt.free {b : Nat} {k : CorI} {w : World} (h : CorAt b k w) (i : Nat) : w.frozen? ⟨b, i, none⟩ = false := free_of_blk h
theorem CorAt.far {b c i : Nat} {k : CorI} {w : World} {v : Value} (h : CorAt b k w) (hne : b ≠ c) : CorAt b k (w.setCell ⟨c, i, none⟩ v) := row_far h hne
theorem CorAt.new {b : Nat} {k : CorI} {w : World} (h : CorAt b k w) (o : Obj) : CorAt b k (w.alloc o) := blk_old h
theorem CorAt.row {b : Nat} {k : CorI} {w : World} (h : CorAt b k w) (k2 : CorI) : CorAt b k2 (w.setRow b (corC k2)) := setRow_heap _ _ _ _ _ _ h
theorem CorAt.c_a {b : Nat} {k : CorI} {w : World} (h : CorAt b k w) : w.cell? ⟨b, 0, none⟩ = some (.int .i64 k.a) := cell_of_blk h rfl
theorem CorAt.s_a {b : Nat} {k : CorI} {w : World} (h : CorAt b k w) (v : Int) : CorAt b { k with a := v } (w.setCell ⟨b, 0, none⟩ (.int .i64 v)) := row_set h
theorem CorAt.c_x {b : Nat} {k : CorI} {w : World} (h : CorAt b k w) : w.cell? ⟨b, 1, none⟩ = some (.int .i64 k.x) := cell_of_blk h rfl
theorem CorAt.s_x {b : Nat} {k : CorI} {w : World} (h : CorAt b k w) (v : Int) : CorAt b { k with x := v } (w.setCell ⟨b, 1, none⟩ (.int .i64 v)) := row_set h
theorem CorAt.c_y {b : Nat} {k : CorI} {w : World} (h : CorAt b k w) : w.cell? ⟨b, 2, none⟩ = some (.int .i64 k.y) := cell_of_blk h rfl
theorem CorAt.s_y {b : Nat} {k : CorI} {w : World} (h : CorAt b k w) (v : Int) : CorAt b { k with y := v } (w.setCell ⟨b, 2, none⟩ (.int .i64 v)) := row_set h
theorem CorAt.c_s {b : Nat} {k : CorI} {w : World} (h : CorAt b k w) : w.cell? ⟨b, 3, none⟩ = some (.int .i64 k.s) := cell_of_blk h rfl
theorem CorAt.s_s {b : Nat} {k : CorI} {w : World} (h : CorAt b k w) (v : Int) : CorAt b { k with s := v } (w.setCell ⟨b, 3, none⟩ (.int .i64 v)) := row_set h
theorem CorAt.c_p {b : Nat} {k : CorI} {w : World} (h : CorAt b k w) : w.cell? ⟨b, 4, none⟩ = some (.int .i64 k.p) := cell_of_blk h rfl
theorem CorAt.s_p {b : Nat} {k : CorI} {w : World} (h : CorAt b k w) (v : Int) : CorAt b { k with p := v } (w.setCell ⟨b, 4, none⟩ (.int .i64 v)) := row_set h
theorem CorAt.c_pc {b : Nat} {k : CorI} {w : World} (h : CorAt b k w) : w.cell? ⟨b, 5, none⟩ = some (.int .i64 k.pc) := cell_of_blk h rfl
theorem CorAt.s_pc {b : Nat} {k : CorI} {w : World} (h : CorAt b k w) (v : Int) : CorAt b { k with pc := v } (w.setCell ⟨b, 5, none⟩ (.int .i64 v)) := row_set h
theorem CorAt.c_sq {b : Nat} {k : CorI} {w : World} (h : CorAt b k w) : w.cell? ⟨b, 6, none⟩ = some (.int .i64 k.sq) := cell_of_blk h rfl
theorem CorAt.s_sq {b : Nat} {k : CorI} {w : World} (h : CorAt b k w) (v : Int) : CorAt b { k with sq := v } (w.setCell ⟨b, 6, none⟩ (.int .i64 v)) := row_set h
theorem CorAt.c_cd {b : Nat} {k : CorI} {w : World} (h : CorAt b k w) : w.cell? ⟨b, 7, none⟩ = some (.int .i64 k.cd) := cell_of_blk h rfl
theorem CorAt.s_cd {b : Nat} {k : CorI} {w : World} (h : CorAt b k w) (v : Int) : CorAt b { k with cd := v } (w.setCell ⟨b, 7, none⟩ (.int .i64 v)) := row_set h
theorem CorAt.c_t {b : Nat} {k : CorI} {w : World} (h : CorAt b k w) : w.cell? ⟨b, 8, none⟩ = some (.int .i64 k.t) := cell_of_blk h rfl
theorem CorAt.s_t {b : Nat} {k : CorI} {w : World} (h : CorAt b k w) (v : Int) : CorAt b { k with t := v } (w.setCell ⟨b, 8, none⟩ (.int .i64 v)) := row_set h
theorem CorAt.c_lo {b : Nat} {k : CorI} {w : World} (h : CorAt b k w) : w.cell? ⟨b, 9, none⟩ = some (.int .i64 k.lo) := cell_of_blk h rfl
theorem CorAt.s_lo {b : Nat} {k : CorI} {w : World} (h : CorAt b k w) (v : Int) : CorAt b { k with lo := v } (w.setCell ⟨b, 9, none⟩ (.int .i64 v)) := row_set h
theorem CorAt.c_hi {b : Nat} {k : CorI} {w : World} (h : CorAt b k w) : w.cell? ⟨b, 10, none⟩ = some (.int .i64 k.hi) := cell_of_blk h rfl
theorem CorAt.s_hi {b : Nat} {k : CorI} {w : World} (h : CorAt b k w) (v : Int) : CorAt b { k with hi := v } (w.setCell ⟨b, 10, none⟩ (.int .i64 v)) := row_set h
theorem CorAt.c_vl {b : Nat} {k : CorI} {w : World} (h : CorAt b k w) : w.cell? ⟨b, 11, none⟩ = some (.int .i64 k.vl) := cell_of_blk h rfl
theorem CorAt.s_vl {b : Nat} {k : CorI} {w : World} (h : CorAt b k w) (v : Int) : CorAt b { k with vl := v } (w.setCell ⟨b, 11, none⟩ (.int .i64 v)) := row_set h
theorem CorAt.c_cr {b : Nat} {k : CorI} {w : World} (h : CorAt b k w) : w.cell? ⟨b, 12, none⟩ = some (.bool k.cr) := cell_of_blk h rfl
theorem CorAt.s_cr {b : Nat} {k : CorI} {w : World} (h : CorAt b k w) (v : Bool) : CorAt b { k with cr := v } (w.setCell ⟨b, 12, none⟩ (.bool v)) := row_set h
theorem CorAt.c_nx {b : Nat} {k : CorI} {w : World} (h : CorAt b k w) : w.cell? ⟨b, 13, none⟩ = some (.int .i64 k.nx) := cell_of_blk h rfl
theorem CorAt.s_nx {b : Nat} {k : CorI} {w : World} (h : CorAt b k w) (v : Int) : CorAt b { k with nx := v } (w.setCell ⟨b, 13, none⟩ (.int .i64 v)) := row_set h
theorem CorAt.c_jm {b : Nat} {k : CorI} {w : World} (h : CorAt b k w) : w.cell? ⟨b, 14, none⟩ = some (.bool k.jm) := cell_of_blk h rfl
theorem CorAt.s_jm {b : Nat} {k : CorI} {w : World} (h : CorAt b k w) (v : Bool) : CorAt b { k with jm := v } (w.setCell ⟨b, 14, none⟩ (.bool v)) := row_set h
def BusPost (w : World) (e : Ending) (w' : World) : Prop := ∃ (x y : Int) (z : Bool), e = .returned (.agg #[.int .i64 x, .int .i64 y, .bool z]) ∧ Below w.heap.size w w'
def CorPost (w : World) (e : Ending) (w' : World) : Prop := ∃ k : CorI, e = .returned (.agg (corC k)) ∧ Below w.heap.size w w'
def CorDone (w : World) (e : Ending) (w' : World) : Prop := ∃ (k : CorI) (d : Bool), e = .returned (.tuple #[.agg (corC k), .bool d]) ∧ Below w.heap.size w w'
theorem cor_size : (Tryz.prog.info? 27).map (·.size) = some 15 := by kernel_rfl
theorem sbus_size : (Tryz.prog.info? 38).map (·.size) = some 3 := by kernel_rfl
set_option maxRecDepth 100000 in
set_option maxHeartbeats 2000000 in
theorem s_l10Here (k : CorI) (w : World) : Calls Tryz.prog 46 #[.agg (corC k)] w (BusPost w) := by
 unfold BusPost corC
 go_enter Tryz.func46, Tryz.ntmps46
 go_wp2
 exact bodyPost_ret (results_cell_row rfl _ _ (w.heap.size + 1) _ _ _ _ rfl (blk_new2 w _ _) Tryz.underlying38 rfl sbus_size) rfl ⟨_, _, _, rfl, below_alloc (below_alloc (Below.refl _ _) _) _⟩
set_option maxRecDepth 100000 in
set_option maxHeartbeats 2000000 in
theorem s_l10Stack (k : CorI) (w : World) : Calls Tryz.prog 81 #[.agg (corC k)] w (BusPost w) := by
 unfold BusPost corC
 go_enter Tryz.func81, Tryz.ntmps81
 go_wp2
 exact bodyPost_ret (results_cell_row rfl _ _ (w.heap.size + 1) _ _ _ _ rfl (blk_new2 w _ _) Tryz.underlying38 rfl sbus_size) rfl ⟨_, _, _, rfl, below_alloc (below_alloc (Below.refl _ _) _) _⟩
set_option maxRecDepth 100000 in
set_option maxHeartbeats 2000000 in
theorem s_l10At (k : CorI) (w : World) : Calls Tryz.prog 82 #[.agg (corC k)] w (BusPost w) := by
 unfold BusPost corC
 go_enter Tryz.func82, Tryz.ntmps82
 go_wp2
 exact bodyPost_ret (results_cell_row rfl _ _ (w.heap.size + 1) _ _ _ _ rfl (blk_new2 w _ _) Tryz.underlying38 rfl sbus_size) rfl ⟨_, _, _, rfl, below_alloc (below_alloc (Below.refl _ _) _) _⟩
theorem up16 (n : Int) : bits .and .i64 (wrap64 (n + 1)) 65535 = (n + 1) % 65536 := by rw [and16]; unfold wrap64; omega
theorem up8 (n : Int) : bits .and .i64 (wrap64 (n + 1)) 255 = (n + 1) % 256 := by rw [and_255]; unfold wrap64; omega
theorem dn8 (n : Int) : bits .and .i64 (wrap64 (n - 1)) 255 = (n - 1) % 256 := by rw [and_255]; unfold wrap64; omega
set_option maxRecDepth 100000 in
set_option maxHeartbeats 2000000 in
theorem s_l10Up (k : CorI) (w : World) : Calls Tryz.prog 63 #[.agg (corC k)] w fun e w' => e = .returned (.agg (corC { k with pc := ((k.pc + 1) % 65536) })) ∧ Below w.heap.size w w' := by
 have hfact := up16 k.pc
 unfold corC
 go_enter Tryz.func63, Tryz.ntmps63
 go_wp2
 exact bodyPost_ret (results_cell_row rfl _ _ (w.heap.size + 1) _ _ _ _ rfl (blk_new2 w _ _) Tryz.underlying27 rfl cor_size) rfl ⟨rfl, below_alloc (below_alloc (Below.refl _ _) _) _⟩
set_option maxRecDepth 100000 in
set_option maxHeartbeats 2000000 in
theorem s_l10Pop (k : CorI) (w : World) : Calls Tryz.prog 106 #[.agg (corC k)] w fun e w' => e = .returned (.agg (corC { k with s := ((k.s + 1) % 256) })) ∧ Below w.heap.size w w' := by
 have hfact := up8 k.s
 unfold corC
 go_enter Tryz.func106, Tryz.ntmps106
 go_wp2
 exact bodyPost_ret (results_cell_row rfl _ _ (w.heap.size + 1) _ _ _ _ rfl (blk_new2 w _ _) Tryz.underlying27 rfl cor_size) rfl ⟨rfl, below_alloc (below_alloc (Below.refl _ _) _) _⟩
set_option maxRecDepth 100000 in
set_option maxHeartbeats 2000000 in
theorem s_l10Drop (k : CorI) (w : World) : Calls Tryz.prog 66 #[.agg (corC k)] w fun e w' => e = .returned (.agg (corC { k with s := ((k.s - 1) % 256) })) ∧ Below w.heap.size w w' := by
 have hfact := dn8 k.s
 unfold corC
 go_enter Tryz.func66, Tryz.ntmps66
 go_wp2
 exact bodyPost_ret (results_cell_row rfl _ _ (w.heap.size + 1) _ _ _ _ rfl (blk_new2 w _ _) Tryz.underlying27 rfl cor_size) rfl ⟨rfl, below_alloc (below_alloc (Below.refl _ _) _) _⟩
set_option maxRecDepth 100000 in
set_option maxHeartbeats 2000000 in
theorem s_l10Go (k : CorI) (x y : Int) (w : World) : Calls Tryz.prog 69 #[.agg (corC k), .int .i64 x, .int .i64 y] w fun e w' => e = .returned (.agg (corC { k with pc := (bits .or .i64 (wrap64 (y * 256)) x) })) ∧ Below w.heap.size w w' := by
 have hfact := True.intro
 unfold corC
 go_enter Tryz.func69, Tryz.ntmps69
 go_wp2
 exact bodyPost_ret (results_cell_row rfl _ _ (w.heap.size + 1) _ _ _ _ rfl (blk_new2 w _ _) Tryz.underlying27 rfl cor_size) rfl ⟨rfl, below_alloc (below_alloc (Below.refl _ _) _) _⟩
end Go.Proofs.YthklebkpoccblaaGreat
namespace Go.Proofs.YthklebkpoccblaaGreat
open Go.RowKit
def CorSome (b : Nat) (w : World) : Prop := ∃ k : CorI, CorAt b k w
theorem CorSome.of {b : Nat} {k : CorI} {w : World} (h : CorAt b k w) : CorSome b w := ⟨k, h⟩
theorem CorSome.i_a {b : Nat} {w : World} {v : Int} (h : CorSome b w) : CorSome b (w.setCell ⟨b, 0, none⟩ (.int .i64 v)) := h.elim fun _ h => ⟨_, h.s_a v⟩
theorem CorSome.i_x {b : Nat} {w : World} {v : Int} (h : CorSome b w) : CorSome b (w.setCell ⟨b, 1, none⟩ (.int .i64 v)) := h.elim fun _ h => ⟨_, h.s_x v⟩
theorem CorSome.i_y {b : Nat} {w : World} {v : Int} (h : CorSome b w) : CorSome b (w.setCell ⟨b, 2, none⟩ (.int .i64 v)) := h.elim fun _ h => ⟨_, h.s_y v⟩
theorem CorSome.i_s {b : Nat} {w : World} {v : Int} (h : CorSome b w) : CorSome b (w.setCell ⟨b, 3, none⟩ (.int .i64 v)) := h.elim fun _ h => ⟨_, h.s_s v⟩
theorem CorSome.i_p {b : Nat} {w : World} {v : Int} (h : CorSome b w) : CorSome b (w.setCell ⟨b, 4, none⟩ (.int .i64 v)) := h.elim fun _ h => ⟨_, h.s_p v⟩
theorem CorSome.i_pc {b : Nat} {w : World} {v : Int} (h : CorSome b w) : CorSome b (w.setCell ⟨b, 5, none⟩ (.int .i64 v)) := h.elim fun _ h => ⟨_, h.s_pc v⟩
theorem CorSome.i_sq {b : Nat} {w : World} {v : Int} (h : CorSome b w) : CorSome b (w.setCell ⟨b, 6, none⟩ (.int .i64 v)) := h.elim fun _ h => ⟨_, h.s_sq v⟩
theorem CorSome.i_cd {b : Nat} {w : World} {v : Int} (h : CorSome b w) : CorSome b (w.setCell ⟨b, 7, none⟩ (.int .i64 v)) := h.elim fun _ h => ⟨_, h.s_cd v⟩
theorem CorSome.i_t {b : Nat} {w : World} {v : Int} (h : CorSome b w) : CorSome b (w.setCell ⟨b, 8, none⟩ (.int .i64 v)) := h.elim fun _ h => ⟨_, h.s_t v⟩
theorem CorSome.i_lo {b : Nat} {w : World} {v : Int} (h : CorSome b w) : CorSome b (w.setCell ⟨b, 9, none⟩ (.int .i64 v)) := h.elim fun _ h => ⟨_, h.s_lo v⟩
theorem CorSome.i_hi {b : Nat} {w : World} {v : Int} (h : CorSome b w) : CorSome b (w.setCell ⟨b, 10, none⟩ (.int .i64 v)) := h.elim fun _ h => ⟨_, h.s_hi v⟩
theorem CorSome.i_vl {b : Nat} {w : World} {v : Int} (h : CorSome b w) : CorSome b (w.setCell ⟨b, 11, none⟩ (.int .i64 v)) := h.elim fun _ h => ⟨_, h.s_vl v⟩
theorem CorSome.i_cr {b : Nat} {w : World} {v : Bool} (h : CorSome b w) : CorSome b (w.setCell ⟨b, 12, none⟩ (.bool v)) := h.elim fun _ h => ⟨_, h.s_cr v⟩
theorem CorSome.i_nx {b : Nat} {w : World} {v : Int} (h : CorSome b w) : CorSome b (w.setCell ⟨b, 13, none⟩ (.int .i64 v)) := h.elim fun _ h => ⟨_, h.s_nx v⟩
theorem CorSome.i_jm {b : Nat} {w : World} {v : Bool} (h : CorSome b w) : CorSome b (w.setCell ⟨b, 14, none⟩ (.bool v)) := h.elim fun _ h => ⟨_, h.s_jm v⟩
theorem CorSome.far {b c i : Nat} {w : World} {v : Value} (h : CorSome b w) (hne : b ≠ c) : CorSome b (w.setCell ⟨c, i, none⟩ v) := h.elim fun _ h => ⟨_, h.far hne⟩
theorem CorSome.row {b : Nat} {k : CorI} {w : World} (h : CorSome b w) : CorSome b (w.setRow b (corC k)) := h.elim fun _ h => ⟨_, h.row k⟩
theorem CorSome.rowFar {b c : Nat} {cs : Array Value} {w : World} (h : CorSome b w) (hne : b ≠ c) : CorSome b (w.setRow c cs) := h.elim fun _ h => ⟨_, row_row h hne⟩
theorem CorSome.new {b : Nat} {w : World} (h : CorSome b w) (o : Obj) : CorSome b (w.alloc o) := h.elim fun _ h => ⟨_, h.new o⟩
theorem CorSome.drew {b : Nat} {w : World} (h : CorSome b w) : CorSome b w.drew := h
theorem CorSome.below {b : Nat} {w w' : World} (h : CorSome b w) (hb : Below w.heap.size w w') : CorSome b w' := h.elim fun _ h => ⟨_, h.below hb⟩
section
variable {ops : Array Oper} {rest : List Oper} {o : Oper} {a : Act} {w : World} {Q : Exit → Act → World → Prop}
theorem load_some (hgd : o.guard = none) (x : Operand) (ho : o.op = .load 27 x) (b : Nat) (hx : a.eval x = .pointer (some ⟨b, 0, none⟩)) (hg : CorSome b w) (h : ∀ k2 : CorI, CorAt b k2 w → wpList Tryz.prog ops Q rest (a.put o.dst (.agg (corC k2))) w) : wpList Tryz.prog ops Q (o :: rest) a w :=
 hg.elim fun k2 hk => load_row hgd 27 x ho b hx 15 _ Tryz.underlying27 rfl cor_size hk rfl (h k2 hk)
theorem ldi_x (hgd : o.guard = none) (x : Operand) (ho : o.op = .load 3 x) (b : Nat) (hx : a.eval x = .pointer (some ⟨b, 1, none⟩)) (hg : CorSome b w) (h : ∀ v : Int, wpList Tryz.prog ops Q rest (a.put o.dst (.int .i64 v)) w) : wpList Tryz.prog ops Q (o :: rest) a w :=
 hg.elim fun k hk => load_cell_if (by simp only [Region.wanted, hgd]) 3 x ho b 1 hx _ Tryz.underlying3 rfl hk _ rfl (h k.x)
theorem ldi_y (hgd : o.guard = none) (x : Operand) (ho : o.op = .load 3 x) (b : Nat) (hx : a.eval x = .pointer (some ⟨b, 2, none⟩)) (hg : CorSome b w) (h : ∀ v : Int, wpList Tryz.prog ops Q rest (a.put o.dst (.int .i64 v)) w) : wpList Tryz.prog ops Q (o :: rest) a w :=
 hg.elim fun k hk => load_cell_if (by simp only [Region.wanted, hgd]) 3 x ho b 2 hx _ Tryz.underlying3 rfl hk _ rfl (h k.y)
theorem ldi_p (hgd : o.guard = none) (x : Operand) (ho : o.op = .load 3 x) (b : Nat) (hx : a.eval x = .pointer (some ⟨b, 4, none⟩)) (hg : CorSome b w) (h : ∀ v : Int, wpList Tryz.prog ops Q rest (a.put o.dst (.int .i64 v)) w) : wpList Tryz.prog ops Q (o :: rest) a w :=
 hg.elim fun k hk => load_cell_if (by simp only [Region.wanted, hgd]) 3 x ho b 4 hx _ Tryz.underlying3 rfl hk _ rfl (h k.p)
theorem ldi_pc (hgd : o.guard = none) (x : Operand) (ho : o.op = .load 3 x) (b : Nat) (hx : a.eval x = .pointer (some ⟨b, 5, none⟩)) (hg : CorSome b w) (h : ∀ v : Int, wpList Tryz.prog ops Q rest (a.put o.dst (.int .i64 v)) w) : wpList Tryz.prog ops Q (o :: rest) a w :=
 hg.elim fun k hk => load_cell_if (by simp only [Region.wanted, hgd]) 3 x ho b 5 hx _ Tryz.underlying3 rfl hk _ rfl (h k.pc)
theorem ldi_t (hgd : o.guard = none) (x : Operand) (ho : o.op = .load 3 x) (b : Nat) (hx : a.eval x = .pointer (some ⟨b, 8, none⟩)) (hg : CorSome b w) (h : ∀ v : Int, wpList Tryz.prog ops Q rest (a.put o.dst (.int .i64 v)) w) : wpList Tryz.prog ops Q (o :: rest) a w :=
 hg.elim fun k hk => load_cell_if (by simp only [Region.wanted, hgd]) 3 x ho b 8 hx _ Tryz.underlying3 rfl hk _ rfl (h k.t)
theorem ldi_lo (hgd : o.guard = none) (x : Operand) (ho : o.op = .load 3 x) (b : Nat) (hx : a.eval x = .pointer (some ⟨b, 9, none⟩)) (hg : CorSome b w) (h : ∀ v : Int, wpList Tryz.prog ops Q rest (a.put o.dst (.int .i64 v)) w) : wpList Tryz.prog ops Q (o :: rest) a w :=
 hg.elim fun k hk => load_cell_if (by simp only [Region.wanted, hgd]) 3 x ho b 9 hx _ Tryz.underlying3 rfl hk _ rfl (h k.lo)
theorem ldi_hi (hgd : o.guard = none) (x : Operand) (ho : o.op = .load 3 x) (b : Nat) (hx : a.eval x = .pointer (some ⟨b, 10, none⟩)) (hg : CorSome b w) (h : ∀ v : Int, wpList Tryz.prog ops Q rest (a.put o.dst (.int .i64 v)) w) : wpList Tryz.prog ops Q (o :: rest) a w :=
 hg.elim fun k hk => load_cell_if (by simp only [Region.wanted, hgd]) 3 x ho b 10 hx _ Tryz.underlying3 rfl hk _ rfl (h k.hi)
theorem ldi_vl (hgd : o.guard = none) (x : Operand) (ho : o.op = .load 3 x) (b : Nat) (hx : a.eval x = .pointer (some ⟨b, 11, none⟩)) (hg : CorSome b w) (h : ∀ v : Int, wpList Tryz.prog ops Q rest (a.put o.dst (.int .i64 v)) w) : wpList Tryz.prog ops Q (o :: rest) a w :=
 hg.elim fun k hk => load_cell_if (by simp only [Region.wanted, hgd]) 3 x ho b 11 hx _ Tryz.underlying3 rfl hk _ rfl (h k.vl)
theorem load_rsome (hgd : o.guard = none) (x : Operand) (ho : o.op = .load 25 x) (b : Nat) (hx : a.eval x = .pointer (some ⟨b, 0, none⟩)) (hg : CorSome b w) (h : ∀ r : RegI, wpList Tryz.prog ops Q rest (a.put o.dst (.agg (regC r))) w) : wpList Tryz.prog ops Q (o :: rest) a w :=
 hg.elim fun k hk => load_part hgd 25 x ho b 0 hx (regC ⟨k.a, k.x, k.y, k.s, k.p, k.pc⟩) _ Tryz.underlying25 rfl (by kernel_rfl) hk rfl (h _)
end
theorem rowS {p : Prop} (h : p := by (repeat' (first | exact Hid.out (by with_reducible assumption) | with_reducible exact blk_new _ _ | with_reducible refine blk_old ?_ | with_reducible refine row_row ?_ (by omega) | with_reducible refine row_far ?_ (by omega) | with_reducible refine row_drew ?_ | with_reducible refine blk_below ?_ (by first | with_reducible assumption | exact Hid.out (by with_reducible assumption))))) : p := h
theorem rowG {p : Prop} (h : p := by (repeat' (first | exact Hid.out (by with_reducible assumption) | with_reducible exact blk_new _ _ | with_reducible apply setRow_heap | with_reducible refine blk_old ?_ | with_reducible refine row_row ?_ (by omega) | with_reducible refine row_far ?_ (by omega) | with_reducible refine row_drew ?_ | with_reducible refine blk_below ?_ (by first | with_reducible assumption | exact Hid.out (by with_reducible assumption))))) : p := h
theorem belS {p : Prop} (h : p := by (repeat' (first | exact Hid.out (by with_reducible assumption) | with_reducible refine below_alloc ?_ _ | with_reducible refine below_row ?_ (by omega) | with_reducible refine below_put ?_ (by omega) | with_reducible refine Below.drew ?_ | with_reducible refine below_then ?_ (by first | with_reducible assumption | exact Hid.out (by with_reducible assumption))))) : p := h
theorem someS {p : Prop} (h : p := by (repeat' (first | with_reducible exact CorSome.of (Hid.out (by with_reducible assumption)) | with_reducible exact CorSome.of (by with_reducible assumption) | with_reducible apply CorSome.i_a | with_reducible apply CorSome.i_x | with_reducible apply CorSome.i_y | with_reducible apply CorSome.i_s | with_reducible apply CorSome.i_p | with_reducible apply CorSome.i_pc | with_reducible apply CorSome.i_sq | with_reducible apply CorSome.i_cd | with_reducible apply CorSome.i_t | with_reducible apply CorSome.i_lo | with_reducible apply CorSome.i_hi | with_reducible apply CorSome.i_vl | with_reducible apply CorSome.i_cr | with_reducible apply CorSome.i_nx | with_reducible apply CorSome.i_jm | with_reducible apply CorSome.row | with_reducible refine CorSome.far ?_ (by omega) | with_reducible refine CorSome.rowFar ?_ (by omega) | with_reducible apply CorSome.drew | with_reducible refine CorSome.new ?_ _ | with_reducible refine CorSome.below ?_ (by first | with_reducible assumption | exact Hid.out (by with_reducible assumption))))) : p := h
end Go.Proofs.YthklebkpoccblaaGreat
namespace Go.Proofs.YthklebkpoccblaaGreat
open Go.RowKit
theorem t_l10Up (k : CorI) (w : World) : Calls Tryz.prog 63 #[.agg (corC k)] w (CorPost w) := (s_l10Up k w).mono fun _ _ h => ⟨_, h.1, h.2⟩
theorem t_l10Pop (k : CorI) (w : World) : Calls Tryz.prog 106 #[.agg (corC k)] w (CorPost w) := (s_l10Pop k w).mono fun _ _ h => ⟨_, h.1, h.2⟩
theorem t_l10Drop (k : CorI) (w : World) : Calls Tryz.prog 66 #[.agg (corC k)] w (CorPost w) := (s_l10Drop k w).mono fun _ _ h => ⟨_, h.1, h.2⟩
theorem t_l10Go (k : CorI) (x y : Int) (w : World) : Calls Tryz.prog 69 #[.agg (corC k), .int .i64 x, .int .i64 y] w (CorPost w) := (s_l10Go k x y w).mono fun _ _ h => ⟨_, h.1, h.2⟩
set_option maxRecDepth 100000 in
set_option maxHeartbeats 20000000 in
theorem s_fetch (k : CorI) (v : Int) (w : World) : Calls Tryz.prog 32 #[.agg (corC k), .int .i64 v] w (CorPost w) := by
 unfold CorPost
 have hfn := op_name (opOf v).1 (opOf v).2
 by_cases h : k.nx = 0
 ·go_enter Tryz.func32, Tryz.ntmps32
  go_upto_region 1 with fail
  have K0 : ((w.alloc (.cells (corC k) 27)).alloc (.cells #[.int .i64 0, .int .i64 0, .int .i64 0, .int .i64 0, .int .i64 0, .int .i64 0, .int .i64 0, .int .i64 0, .int .i64 0, .int .i64 0, .int .i64 0, .int .i64 0, .bool false, .int .i64 0, .bool false] 27)).heap[w.heap.size]? = some (.cells (corC k) 27 (0, 0)) := by
   have h := blk_old (o := .cells #[.int .i64 0, .int .i64 0, .int .i64 0, .int .i64 0, .int .i64 0, .int .i64 0, .int .i64 0, .int .i64 0, .int .i64 0, .int .i64 0, .int .i64 0, .int .i64 0, .bool false, .int .i64 0, .bool false] 27) (blk_new w (.cells (corC k) 27))
   try simp only [alloc_size] at h
   exact h
  have K1 : ((w.alloc (.cells (corC k) 27)).alloc (.cells #[.int .i64 0, .int .i64 0, .int .i64 0, .int .i64 0, .int .i64 0, .int .i64 0, .int .i64 0, .int .i64 0, .int .i64 0, .int .i64 0, .int .i64 0, .int .i64 0, .bool false, .int .i64 0, .bool false] 27)).heap[w.heap.size + 1]? = some (.cells #[.int .i64 0, .int .i64 0, .int .i64 0, .int .i64 0, .int .i64 0, .int .i64 0, .int .i64 0, .int .i64 0, .int .i64 0, .int .i64 0, .int .i64 0, .int .i64 0, .bool false, .int .i64 0, .bool false] 27 (0, 0)) := by
   have h := blk_new (w.alloc (.cells (corC k) 27)) (.cells #[.int .i64 0, .int .i64 0, .int .i64 0, .int .i64 0, .int .i64 0, .int .i64 0, .int .i64 0, .int .i64 0, .int .i64 0, .int .i64 0, .int .i64 0, .int .i64 0, .bool false, .int .i64 0, .bool false] 27)
   try simp only [alloc_size] at h
   exact h
  have B0 := below_alloc (below_alloc (Below.refl w.heap.size w) (.cells (corC k) 27)) (.cells #[.int .i64 0, .int .i64 0, .int .i64 0, .int .i64 0, .int .i64 0, .int .i64 0, .int .i64 0, .int .i64 0, .int .i64 0, .int .i64 0, .int .i64 0, .int .i64 0, .bool false, .int .i64 0, .bool false] 27)
  generalize ((w.alloc (.cells (corC k) 27)).alloc (.cells #[.int .i64 0, .int .i64 0, .int .i64 0, .int .i64 0, .int .i64 0, .int .i64 0, .int .i64 0, .int .i64 0, .int .i64 0, .int .i64 0, .int .i64 0, .int .i64 0, .bool false, .int .i64 0, .bool false] 27)) = w0 at K0 K1 B0 ⊢
  replace K0 : Hid (CorAt w.heap.size k w0) := Lib.hid K0
  replace K1 := Lib.hid K1
  replace B0 := Lib.hid B0
  have fz := CorAt.free K0.out
  have c_nx := CorAt.c_nx K0.out
  have c_sq := CorAt.c_sq K0.out
  have c_t := CorAt.c_t K0.out
  have c_cd := CorAt.c_cd K0.out
  have c_jm := CorAt.c_jm K0.out
  go_wp2_with (first
   | (go_at_call 34; refine (spec_opOf _ _).mono ?_; rintro e w1 ⟨rfl, hb⟩; refine Hid.out ?_))
  obtain ⟨k, K0⟩ := CorSome.below (by exact someS) hb
  replace K0 := Lib.hid K0
  have K1 := Lib.hid (blk_below (b := w.heap.size + 1) (show _ = some (Obj.cells #[.int .i64 0, .int .i64 0, .int .i64 0, .int .i64 0, .int .i64 0, .int .i64 0, .int .i64 0, .int .i64 0, .int .i64 0, .int .i64 0, .int .i64 0, .int .i64 0, .bool false, .int .i64 0, .bool false] 27 (0, 0)) by exact rowS) hb)
  have B0 := Lib.hid (below_then (show Below w.heap.size w _ by exact belS) hb)
  clear hb fz c_nx c_sq c_t c_cd c_jm
  have fz := CorAt.free K0.out
  have hlt := (Array.getElem?_eq_some_iff.1 K1.out).1
  have c_jm := CorAt.c_jm K0.out
  refine Lib.hid ?_
  go_wp2_with (first
   | (refine load_some (by rfl) _ (by rfl) _ (by rfl) (by exact someS) ?_; intro k2 hk2)
   | (go_at_call 63; refine (t_l10Up _ _).mono ?_; rintro e w1 ⟨k9, rfl, hb⟩)
   | (refine store_row (by rfl) 27 _ _ (by rfl) _ _ (by rfl) (by rfl) 15 (by kernel_rfl) (by exact rowS; done) rfl rfl (by rfl) ?_))
  exact bodyPost_ret (results_cell_row rfl _ _ (w.heap.size + 1) _ _ _ _ rfl (setRow_heap _ _ _ _ _ _ (by exact rowS)) Tryz.underlying27 rfl (by kernel_rfl)) rfl ⟨_, rfl, below_row (by exact belS) (by omega)⟩
 ·go_enter Tryz.func32, Tryz.ntmps32
  go_upto_region 1 with fail
  have K0 : ((w.alloc (.cells (corC k) 27)).alloc (.cells #[.int .i64 0, .int .i64 0, .int .i64 0, .int .i64 0, .int .i64 0, .int .i64 0, .int .i64 0, .int .i64 0, .int .i64 0, .int .i64 0, .int .i64 0, .int .i64 0, .bool false, .int .i64 0, .bool false] 27)).heap[w.heap.size]? = some (.cells (corC k) 27 (0, 0)) := by
   have h := blk_old (o := .cells #[.int .i64 0, .int .i64 0, .int .i64 0, .int .i64 0, .int .i64 0, .int .i64 0, .int .i64 0, .int .i64 0, .int .i64 0, .int .i64 0, .int .i64 0, .int .i64 0, .bool false, .int .i64 0, .bool false] 27) (blk_new w (.cells (corC k) 27))
   try simp only [alloc_size] at h
   exact h
  have K1 : ((w.alloc (.cells (corC k) 27)).alloc (.cells #[.int .i64 0, .int .i64 0, .int .i64 0, .int .i64 0, .int .i64 0, .int .i64 0, .int .i64 0, .int .i64 0, .int .i64 0, .int .i64 0, .int .i64 0, .int .i64 0, .bool false, .int .i64 0, .bool false] 27)).heap[w.heap.size + 1]? = some (.cells #[.int .i64 0, .int .i64 0, .int .i64 0, .int .i64 0, .int .i64 0, .int .i64 0, .int .i64 0, .int .i64 0, .int .i64 0, .int .i64 0, .int .i64 0, .int .i64 0, .bool false, .int .i64 0, .bool false] 27 (0, 0)) := by
   have h := blk_new (w.alloc (.cells (corC k) 27)) (.cells #[.int .i64 0, .int .i64 0, .int .i64 0, .int .i64 0, .int .i64 0, .int .i64 0, .int .i64 0, .int .i64 0, .int .i64 0, .int .i64 0, .int .i64 0, .int .i64 0, .bool false, .int .i64 0, .bool false] 27)
   try simp only [alloc_size] at h
   exact h
  have B0 := below_alloc (below_alloc (Below.refl w.heap.size w) (.cells (corC k) 27)) (.cells #[.int .i64 0, .int .i64 0, .int .i64 0, .int .i64 0, .int .i64 0, .int .i64 0, .int .i64 0, .int .i64 0, .int .i64 0, .int .i64 0, .int .i64 0, .int .i64 0, .bool false, .int .i64 0, .bool false] 27)
  generalize ((w.alloc (.cells (corC k) 27)).alloc (.cells #[.int .i64 0, .int .i64 0, .int .i64 0, .int .i64 0, .int .i64 0, .int .i64 0, .int .i64 0, .int .i64 0, .int .i64 0, .int .i64 0, .int .i64 0, .int .i64 0, .bool false, .int .i64 0, .bool false] 27)) = w0 at K0 K1 B0 ⊢
  replace K0 : Hid (CorAt w.heap.size k w0) := Lib.hid K0
  replace K1 := Lib.hid K1
  replace B0 := Lib.hid B0
  have fz := CorAt.free K0.out
  have c_nx := CorAt.c_nx K0.out
  have c_sq := CorAt.c_sq K0.out
  have c_t := CorAt.c_t K0.out
  have c_cd := CorAt.c_cd K0.out
  have c_jm := CorAt.c_jm K0.out
  go_wp2_with (first
   | (refine load_some (by rfl) _ (by rfl) _ (by rfl) (by exact someS) ?_; intro k2 hk2)
   | (refine store_row (by rfl) 27 _ _ (by rfl) _ _ (by rfl) (by rfl) 15 (by kernel_rfl) (by exact rowS; done) rfl rfl (by rfl) ?_))
  exact bodyPost_ret (results_cell_row rfl _ _ (w.heap.size + 1) _ _ _ _ rfl (setRow_heap _ _ _ _ _ _ (by exact rowS)) Tryz.underlying27 rfl (by kernel_rfl)) rfl ⟨_, rfl, below_row (by exact belS) (by omega)⟩
end Go.Proofs.YthklebkpoccblaaGreat
namespace Go.Proofs.YthklebkpoccblaaGreat
open Go.RowKit
def wiresV (n e i : Bool) : Value := .agg #[.bool n, .bool e, .bool i]
theorem wiresV_mk (n e i : Bool) : wiresV n e i = .agg #[.bool n, .bool e, .bool i] := rfl
theorem wires_size : (Tryz.prog.info? 29).map (·.size) = some 3 := by kernel_rfl
def takeN (e i : Bool) (p : Int) : Int := if e then 2 else if i && !(tst p 4) then 1 else 0
def vecN (t : Int) : Int := if t = 2 then 65530 else if t = 3 then 65532 else 65534
theorem spec_vector (t : Int) (w : World) : Calls Tryz.prog 93 #[.int .i64 t] w fun e w' => e = .returned (.int .i64 (vecN t)) ∧ w = w' := by
 unfold vecN
 go_enter Tryz.func93, Tryz.ntmps93
 go_wp2
 all_goals go_ret
 all_goals (refine ⟨?_, rfl⟩; simp_all)
theorem impl_vector (t : Int) (w : World) : Calls Tryz.prog 158 #[.int .i64 t] w fun e w' => e = .returned (.int .i64 (vecN t)) ∧ w = w' := by
 unfold vecN
 go_enter Tryz.func158, Tryz.ntmps158
 go_wp2
 all_goals go_ret
 all_goals (refine ⟨?_, rfl⟩; simp_all)
theorem spec_taken (n e i : Bool) (w : World) : Calls Tryz.prog 68 #[wiresV n e i] w fun er w' => er = .returned (wiresV n false i) ∧ Below w.heap.size w w' := by
 rw [wiresV_mk]
 go_enter Tryz.func68, Tryz.ntmps68
 go_wp2
 exact bodyPost_ret (v := wiresV n false i) (by simp [results, Tryz.results68, go_sem, wiresV_mk]) rfl ⟨rfl, below_alloc (below_alloc (Below.refl _ _) _) _⟩
theorem spec_take (n e i : Bool) (p : Int) (w : World) : Calls Tryz.prog 33 #[wiresV n e i, .int .i64 p] w fun er w' => er = .returned (.int .i64 (takeN e i p)) ∧ Below w.heap.size w w' := by
 have H := tst_i64 p 4 (by omega)
 rw [wiresV_mk]
 cases e <;> cases i
 case false.true =>
  by_cases hb : bits .and .i64 p 4 = 0
  all_goals
   have HT : Hid (takeN false true p = if bits .and .i64 p 4 = 0 then 1 else 0) := Lib.hid (by unfold takeN; rw [← H]; simp [hb])
   clear H
   go_enter Tryz.func33, Tryz.ntmps33
   go_wp2
   go_ret
   refine ⟨?_, below_alloc (Below.refl _ _) _⟩
   rw [HT.out]
   simp [hb]
 all_goals
  clear H
  go_enter Tryz.func33, Tryz.ntmps33
  go_wp2
  go_ret
  exact ⟨rfl, below_alloc (Below.refl _ _) _⟩
end Go.Proofs.YthklebkpoccblaaGreat
